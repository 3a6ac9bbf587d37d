/- Paths of cells, plainly: what taking and giving back do to them. -/
import Derived.Test.YthkkogpegmmbdaaArHeld
import Derived.Test.YthkkogpegmmbdaaArSTake
namespace Go.Proofs.Ythkkogpegmmbdaa
open Go.RowKit
set_option linter.unusedVariables false

/-- from a on along the list, to its end -/
def Path (nx : Nat → Int) : Int → List Int → Prop
  | a, [] => a = -1
  | a, x :: xs => a = x ∧ 0 ≤ x ∧ Path nx (nx x.toNat) xs
theorem Path.uniq {nx : Nat → Int} : ∀ {L M : List Int} {a : Int}, Path nx a L → Path nx a M → L = M
  | [], [], _, _, _ => rfl
  | [], y :: ys, a, h, k => by
    obtain ⟨k1, k2, _⟩ := k
    have : a = -1 := h
    omega
  | x :: xs, [], a, h, k => by
    obtain ⟨k1, k2, _⟩ := h
    have : a = -1 := k
    omega
  | x :: xs, y :: ys, a, h, k => by
    obtain ⟨h1, h2, h3⟩ := h
    obtain ⟨k1, k2, k3⟩ := k
    subst h1
    subst k1
    rw [Path.uniq h3 k3]
theorem path_of_go {nx : Nat → Int} {n : Nat} (hr : inRange n nx) : ∀ (k : Nat) (a : Int), -1 ≤ a → a < n → goN nx k a = -1 → Path nx a (walkL nx k a)
  | 0, a, _, _, h => h
  | k + 1, a, h0, h1, h => by
    by_cases e : a = -1
    · rw [e, walkL_end]
      exact rfl
    · rw [goN_step _ _ _ e] at h
      rw [walkL_step _ _ _ e]
      obtain ⟨r0, r1⟩ := hr a.toNat (by omega)
      exact ⟨rfl, by omega, path_of_go hr k _ r0 r1 h⟩
theorem Path.walk {nx : Nat → Int} : ∀ {L : List Int} {a : Int} {k : Nat}, Path nx a L → L.length ≤ k → walkL nx k a = L ∧ goN nx k a = -1
  | [], a, k, h, _ => by
    have e : a = -1 := h
    rw [e]
    exact ⟨walkL_end _ _, goN_end _ _⟩
  | x :: xs, a, 0, h, hl => by simp at hl
  | x :: xs, a, k + 1, h, hl => by
    obtain ⟨h1, h2, h3⟩ := h
    subst h1
    obtain ⟨e1, e2⟩ := Path.walk (k := k) h3 (by simpa using hl)
    rw [walkL_step _ _ _ (by omega), goN_step _ _ _ (by omega), e1]
    exact ⟨rfl, e2⟩
theorem Path.sub {nx : Nat → Int} : ∀ {L : List Int} {a x : Int}, Path nx a L → x ∈ L → ∃ P Q, L = P ++ x :: Q ∧ Path nx x (x :: Q)
  | y :: ys, a, x, h, hx => by
    obtain ⟨h1, h2, h3⟩ := h
    rcases List.mem_cons.1 hx with rfl | hx
    · exact ⟨[], ys, rfl, rfl, h2, h3⟩
    · obtain ⟨P, Q, e, p⟩ := Path.sub h3 hx
      exact ⟨y :: P, Q, by rw [e]; rfl, p⟩
theorem Path.nonneg {nx : Nat → Int} : ∀ {L : List Int} {a : Int}, Path nx a L → ∀ x ∈ L, 0 ≤ x
  | y :: ys, a, h, x, hx => by
    obtain ⟨h1, h2, h3⟩ := h
    rcases List.mem_cons.1 hx with rfl | hx
    · exact h2
    · exact Path.nonneg h3 x hx
theorem Path.nodup {nx : Nat → Int} : ∀ {L : List Int} {a : Int}, Path nx a L → L.Nodup
  | [], _, _ => List.nodup_nil
  | y :: ys, a, h => by
    have h0 := h
    obtain ⟨h1, h2, h3⟩ := h
    rw [List.nodup_cons]
    refine ⟨fun hy => ?_, Path.nodup h3⟩
    obtain ⟨P, Q, e, p⟩ := Path.sub h3 hy
    subst h1
    have e2 := Path.uniq h0 p
    have l1 := congrArg List.length e
    have l2 := congrArg List.length e2
    simp at l1 l2
    omega
theorem Path.range {nx : Nat → Int} {n : Nat} (hr : inRange n nx) : ∀ {L : List Int} {a : Int}, a < n → Path nx a L → ∀ x ∈ L, 0 ≤ x ∧ x < n
  | y :: ys, a, ha, h, x, hx => by
    obtain ⟨h1, h2, h3⟩ := h
    subst h1
    rcases List.mem_cons.1 hx with rfl | hx
    · exact ⟨h2, ha⟩
    · exact Path.range hr (hr a.toNat (by omega)).2 h3 x hx
theorem Path.keep {nx nx' : Nat → Int} : ∀ {L : List Int} {a : Int}, Path nx a L → (∀ z ∈ L, nx' z.toNat = nx z.toNat) → Path nx' a L
  | [], _, h, _ => h
  | y :: ys, a, h, k => by
    obtain ⟨h1, h2, h3⟩ := h
    refine ⟨h1, h2, ?_⟩
    rw [k y (by simp)]
    exact Path.keep h3 (fun z hz => k z (by simp [hz]))
/-- who is in no set that is closed backward stays out of it -/
theorem Path.stay {nx : Nat → Int} {n : Nat} (hr : inRange n nx) (S : List Int) (hS : ∀ y, y < n → nx y ∈ S → (y : Int) ∈ S) : ∀ {L : List Int} {a : Int}, a < n → a ∉ S → Path nx a L → ∀ z ∈ L, z ∉ S
  | y :: ys, a, ha, hn, h, z, hz => by
    obtain ⟨h1, h2, h3⟩ := h
    subst h1
    rcases List.mem_cons.1 hz with rfl | hz
    · exact hn
    · refine Path.stay hr S hS (hr a.toNat (by omega)).2 (fun hm => hn ?_) h3 z hz
      have := hS a.toNat (by omega) hm
      rwa [Int.toNat_of_nonneg h2] at this
theorem lastL_one (x : Int) : lastL [x] = x := rfl
theorem lastL_more (x y : Int) (l : List Int) : lastL (x :: y :: l) = lastL (y :: l) := by
  unfold lastL
  simp [List.getD_eq_getElem?_getD]
/-- a path cut behind C, and another one set behind it -/
theorem Path.cut {nx nx' : Nat → Int} {B Q : List Int} {b : Int} : ∀ {C : List Int} {a : Int}, C ≠ [] → C.Nodup → Path nx a (C ++ B) → (∀ z ∈ C, z ≠ lastL C → nx' z.toNat = nx z.toNat) → nx' (lastL C).toNat = b → Path nx' b Q → Path nx' a (C ++ Q)
  | [x], a, _, _, h, _, e, q => by
    obtain ⟨h1, h2, h3⟩ := h
    refine ⟨h1, h2, ?_⟩
    rw [lastL_one] at e
    rw [e]
    exact q
  | x :: y :: l, a, _, hn, h, k, e, q => by
    obtain ⟨h1, h2, h3⟩ := h
    rw [List.nodup_cons] at hn
    rw [lastL_more] at e k
    refine ⟨h1, h2, ?_⟩
    rw [k x (by simp) (fun hx => hn.1 (by rw [hx]; exact lastL_mem (by simp)))]
    exact Path.cut (C := y :: l) (by simp) hn.2 h3 (fun z hz => k z (by simp [List.mem_cons.1 hz])) e q
theorem Path.behind {nx : Nat → Int} {B : List Int} : ∀ {C : List Int} {a : Int}, C ≠ [] → Path nx a (C ++ B) → Path nx (nx (lastL C).toNat) B
  | [x], a, _, h => h.2.2
  | x :: y :: l, a, _, h => by
    rw [lastL_more]
    exact Path.behind (C := y :: l) (by simp) h.2.2

theorem pigeon : ∀ (n : Nat) (l : List Int), l.Nodup → (∀ x ∈ l, 0 ≤ x ∧ x < (n : Int)) → l.length ≤ n
  | 0, l, _, h => by
    cases l with
    | nil => simp
    | cons x xs => have := h x (by simp); omega
  | n + 1, l, hn, h => by
    by_cases hm : (n : Int) ∈ l
    · have h1 := pigeon n (l.erase n) (hn.erase _) (fun x hx => by
        have h2 := (List.Nodup.mem_erase_iff hn).1 hx
        have := h x h2.2
        have := h2.1
        omega)
      rw [List.length_erase_of_mem hm] at h1
      omega
    · have h1 := pigeon n l hn (fun x hx => by
        have h2 := h x hx
        have : x ≠ n := fun e => hm (e ▸ hx)
        omega)
      omega

/-- free and each next are none or a cell that no other of these names -/
structure Inj (n : Nat) (nx : Nat → Int) (fr : Int) : Prop where
  rng : inRange n nx
  f0 : -1 ≤ fr
  f1 : fr < n
  ne : ∀ i, i < n → nx i = fr → fr = -1
  inj : ∀ i j, i < n → j < n → nx i = nx j → nx i ≠ -1 → i = j
theorem inj_of_links {n : Nat} {nx : Nat → Int} {fr : Int} (h : LinksP (links n nx fr) n) : Inj n nx fr := by
  obtain ⟨r, f0, f1⟩ := links_range h
  have hl := links_len n nx fr
  have key : ∀ i j, i < j → j < n → nx i = nx j → nx i = -1 := fun i j hij hj e => by
    rcases h (j + 1) (by omega) with h1 | ⟨_, _, h3⟩
    · rw [links_succ] at h1; rw [e]; exact h1
    · refine absurd ?_ h3
      rw [List.mem_take_iff_getElem]
      refine ⟨i + 1, by omega, ?_⟩
      rw [links_succ, links_succ]
      exact e
  refine ⟨r, f0, f1, fun i hi e => ?_, fun i j hi hj e hne => ?_⟩
  · rcases h (i + 1) (by omega) with h1 | ⟨_, _, h3⟩
    · rw [links_succ] at h1; rw [← e]; exact h1
    · refine absurd ?_ h3
      rw [List.mem_take_iff_getElem]
      refine ⟨0, by omega, ?_⟩
      rw [links_succ, links_zero]
      exact e.symm
  · rcases Nat.lt_trichotomy i j with h1 | h1 | h1
    · exact absurd (key i j h1 hj e) hne
    · exact h1
    · have := key j i h1 hi e.symm
      exact absurd (e.trans this) hne
theorem links_of_inj {n : Nat} {nx : Nat → Int} {fr : Int} (h : Inj n nx fr) : LinksP (links n nx fr) n := by
  have hl := links_len n nx fr
  intro j hj
  cases j with
  | zero =>
    rw [links_zero]
    have := h.f0
    have := h.f1
    by_cases e : fr = -1
    · exact .inl e
    · exact .inr ⟨by omega, by omega, by simp⟩
  | succ i =>
    rw [links_succ]
    have hi : i < n := by omega
    obtain ⟨r0, r1⟩ := h.rng i hi
    by_cases e : nx i = -1
    · exact .inl e
    · refine .inr ⟨by omega, by omega, fun hm => ?_⟩
      rw [List.mem_take_iff_getElem] at hm
      obtain ⟨k, hk, ek⟩ := hm
      cases k with
      | zero =>
        rw [links_zero] at ek
        have := h.ne i hi ek.symm
        omega
      | succ k =>
        rw [links_succ] at ek
        have := h.inj k i (by omega) hi ek (by omega)
        omega
/-- who names a cell of a path is of that path, but for who names its first -/
theorem Path.enter {n : Nat} {nx : Nat → Int} {fr : Int} (h : Inj n nx fr) : ∀ {P : List Int} {a : Int}, a < n → Path nx a P → ∀ y, y < n → nx y ∈ P → nx y = a ∨ (y : Int) ∈ P
  | x :: xs, a, ha, p, y, hy, hm => by
    obtain ⟨h1, h2, h3⟩ := p
    subst h1
    rcases List.mem_cons.1 hm with e | hm
    · exact .inl e
    · have h0 := Path.nonneg h3 _ hm
      rcases Path.enter h (h.rng a.toNat (by omega)).2 h3 y hy hm with e | hin
      · have := h.inj y a.toNat hy (by omega) e (by omega)
        right
        rw [this, Int.toNat_of_nonneg h2]
        exact List.mem_cons_self
      · exact .inr (List.mem_cons_of_mem _ hin)

/-- what a right arena is, in paths -/
structure Right (n : Nat) (nx : Nat → Int) (dt : Nat → ByteArray) (fr : Int) (L : List Int) : Prop where
  l1 : 1 ≤ n
  l2 : n ≤ 60
  inj : Inj n nx fr
  paths : ∀ i, i < n → ∃ P, Path nx (i : Int) P
  free : Path nx fr L
  data : ∀ i, i < n → ((i : Int) ∈ L ↔ (dt i).size = 0) ∧ (dt i).size ≤ 10
theorem Right.len {n : Nat} {nx : Nat → Int} {dt : Nat → ByteArray} {fr : Int} {L P : List Int} {a : Int} (h : Right n nx dt fr L) (ha : a < n) (p : Path nx a P) : P.length ≤ n :=
  pigeon n P p.nodup (p.range h.inj.rng ha)
theorem Right.walk {n : Nat} {nx : Nat → Int} {dt : Nat → ByteArray} {fr : Int} {L P : List Int} {a : Int} (h : Right n nx dt fr L) (ha : a < n) (p : Path nx a P) : walkL nx n a = P := (p.walk (h.len ha p)).1
theorem Right.ok {n : Nat} {nx : Nat → Int} {dt : Nat → ByteArray} {fr : Int} {L : List Int} (h : Right n nx dt fr L) : okP n n nx dt fr := by
  refine ⟨h.l1, h.l2, rfl, links_of_inj h.inj, fun i hi => ?_, fun i hi => ?_⟩
  · obtain ⟨P, p⟩ := h.paths i hi
    exact (p.walk (h.len (by omega) p)).2
  · rw [h.walk h.inj.f1 h.free]
    exact h.data i hi
theorem right_of_ok {n m : Nat} {nx : Nat → Int} {dt : Nat → ByteArray} {fr : Int} (h : okP n m nx dt fr) : m = n ∧ Right n nx dt fr (walkL nx n fr) := by
  obtain ⟨l1, l2, e, hr, r0, r1, hG, hE⟩ := okP_parts h
  obtain ⟨h1, h2, h3, h4, h5, h6⟩ := h
  exact ⟨e, l1, l2, inj_of_links h4, fun i hi => ⟨_, path_of_go hr n i (by omega) (by omega) (h5 i hi)⟩, path_of_go hr n fr r0 r1 hE, h6⟩
end Go.Proofs.Ythkkogpegmmbdaa
