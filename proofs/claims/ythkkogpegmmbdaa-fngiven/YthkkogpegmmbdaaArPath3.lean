/- What taking does to a right arena. -/
import Derived.Test.YthkkogpegmmbdaaArPath2
namespace Go.Proofs.Ythkkogpegmmbdaa
open Go.RowKit
set_option linter.unusedVariables false

section Take
variable {n : Nat} {nx : Nat → Int} {dt : Nat → ByteArray} {fr : Int} {L : List Int} {s : ByteArray}
theorem getD_at (L : List Int) (j : Nat) (h : j < L.length) : L.getD j 0 = L[j] := by
  simp [List.getD_eq_getElem?_getD, List.getElem?_eq_getElem h]
theorem nodup_at {L : List Int} (hn : L.Nodup) {i j : Nat} (hi : i < L.length) (hj : j < L.length) (e : L[i] = L[j]) : i = j := by
  have hp := List.pairwise_iff_getElem.1 hn
  rcases Nat.lt_trichotomy i j with h | h | h
  · exact absurd e (hp i j hi hj h)
  · exact h
  · exact absurd e.symm (hp j i hj hi h)
theorem flatMap_same {α β : Type} {f g : α → List β} : ∀ {l : List α}, (∀ x ∈ l, f x = g x) → l.flatMap f = l.flatMap g
  | [], _ => rfl
  | x :: xs, h => by
    rw [List.flatMap_cons, List.flatMap_cons, h x (by simp), flatMap_same (fun y hy => h y (by simp [hy]))]
theorem size_list (s : ByteArray) : s.data.toList.length = s.size := Array.length_toList (xs := s.data)
theorem tL_last (h1 : 1 ≤ needS s) (h2 : needS s ≤ L.length) : tL L s = lastL (L.take (needS s)) := by
  unfold tL lastL
  rw [List.length_take, Nat.min_eq_left h2, getD_at _ _ (by omega), getD_at _ _ (by rw [List.length_take]; omega), List.getElem_take]
theorem tD_out {i : Nat} : ∀ (k : Nat), (∀ j, j < k → L.getD j 0 ≠ (i : Int)) → tD L s dt k i = dt i
  | 0, _ => rfl
  | k + 1, h => by
    rw [tD, if_neg (fun e => h k (by omega) e.symm)]
    exact tD_out k (fun j hj => h j (by omega))
theorem tD_in (hn : L.Nodup) {i j : Nat} (hj : j < L.length) (e : L[j] = (i : Int)) : ∀ (k : Nat), j < k → k ≤ L.length → tD L s dt k i = cutS s j
  | k + 1, hk, hl => by
    by_cases ejk : j = k
    · subst ejk
      rw [tD, getD_at L j hj, if_pos e.symm]
    · have hne : ¬ ((i : Int) = L.getD k 0) := fun e2 => by
        rw [getD_at L k (by omega), ← e] at e2
        exact ejk (nodup_at hn hj (by omega) e2)
      rw [tD, if_neg hne]
      exact tD_in hn hj e k (by omega) (by omega)
theorem cutS_pos {j : Nat} (h : j * 10 < s.size) : (cutS s j).size ≠ 0 := by
  unfold cutS
  rw [ByteArray.size_extract]
  omega
theorem need_cut {j : Nat} (h : j < needS s) : j * 10 < s.size := by
  unfold needS at h
  omega
theorem mem_take_at {x : Int} {N : Nat} (h2 : N ≤ L.length) (hm : x ∈ L.take N) : ∃ j, ∃ hj : j < L.length, j < N ∧ L[j] = x := by
  rw [List.mem_take_iff_getElem] at hm
  obtain ⟨j, hj, e⟩ := hm
  exact ⟨j, by omega, by omega, e⟩
theorem Right.takenText (h : Right n nx dt fr L) (h2 : needS s ≤ L.length) {i : Nat} (hi : i < n) :
    ((i : Int) ∈ L.take (needS s) → (tD L s dt (needS s) i).size ≠ 0 ∧ (tD L s dt (needS s) i).size ≤ 10) ∧ ((i : Int) ∉ L.take (needS s) → tD L s dt (needS s) i = dt i) := by
  refine ⟨fun hm => ?_, fun hm => ?_⟩
  · obtain ⟨j, hj, hjN, e⟩ := mem_take_at h2 hm
    rw [tD_in h.free.nodup hj e _ hjN h2]
    exact ⟨cutS_pos (need_cut hjN), cutS_size s j⟩
  · refine tD_out _ (fun j hj e => hm ?_)
    rw [getD_at L j (by omega)] at e
    rw [List.mem_take_iff_getElem]
    exact ⟨j, by omega, e⟩
theorem tNx_else {z : Int} (h0 : 0 ≤ z) (hne : z ≠ tL L s) : tNx nx L s z.toNat = nx z.toNat := by
  unfold tNx
  rw [Int.toNat_of_nonneg h0, if_neg hne]
theorem tNx_last (h0 : 0 ≤ tL L s) : tNx nx L s (tL L s).toNat = -1 := by
  unfold tNx
  rw [Int.toNat_of_nonneg h0, if_pos rfl]
theorem Right.takenPaths (h : Right n nx dt fr L) (h1 : 1 ≤ needS s) (h2 : needS s ≤ L.length) :
    (0 ≤ tL L s ∧ tL L s < n) ∧ tL L s ∈ L.take (needS s) ∧ Path (tNx nx L s) fr (L.take (needS s)) ∧ Path (tNx nx L s) (nx (tL L s).toNat) (L.drop (needS s)) ∧ ∀ z ∈ L.drop (needS s), z ∉ L.take (needS s) := by
  have hpp : Path nx fr (L.take (needS s) ++ L.drop (needS s)) := by rw [List.take_append_drop]; exact h.free
  have hnd := hpp.nodup
  rw [List.nodup_append] at hnd
  obtain ⟨n1, n2, n3⟩ := hnd
  have hA : L.take (needS s) ≠ [] := fun e => by
    have : (L.take (needS s)).length = 0 := by rw [e]; rfl
    rw [List.length_take] at this
    omega
  have hlm : lastL (L.take (needS s)) ∈ L.take (needS s) := lastL_mem (by rw [List.length_take]; omega)
  have hr := h.free.range h.inj.rng h.inj.f1 _ (List.mem_of_mem_take hlm)
  have hlast := tL_last h1 h2
  rw [← hlast] at hlm hr
  have hdis : ∀ z ∈ L.drop (needS s), z ∉ L.take (needS s) := fun z hz hz' => n3 z hz' z hz rfl
  refine ⟨hr, hlm, ?_, ?_, hdis⟩
  · have := Path.cut (nx := nx) (nx' := tNx nx L s) (B := L.drop (needS s)) (Q := []) (b := -1) hA n1 hpp (fun z hz hne => tNx_else (h.free.nonneg z (List.mem_of_mem_take hz)) (by rw [hlast]; exact hne)) (by rw [← hlast]; exact tNx_last hr.1) rfl
    rwa [List.append_nil] at this
  · have := Path.behind hA hpp
    rw [← hlast] at this
    exact this.keep (fun z hz => tNx_else (h.free.nonneg z (List.mem_of_mem_drop hz)) (fun e => hdis z hz (e ▸ hlm)))
theorem Right.taken (h : Right n nx dt fr L) (h1 : 1 ≤ needS s) (h2 : needS s ≤ L.length) : Right n (tNx nx L s) (tD L s dt (needS s)) (nx (tL L s).toNat) (L.drop (needS s)) := by
  obtain ⟨hr, hlm, hpA, hpB, hdis⟩ := h.takenPaths (s := s) h1 h2
  have hlL : tL L s ∈ L := List.mem_of_mem_take hlm
  have hrl := h.inj.rng (tL L s).toNat (by omega)
  refine ⟨h.l1, h.l2, ⟨fun i hi => ?_, hrl.1, hrl.2, fun i hi e => ?_, fun i j hi hj e hne => ?_⟩, fun i hi => ?_, hpB, fun i hi => ?_⟩
  · unfold tNx
    split
    · omega
    · exact h.inj.rng i hi
  · unfold tNx at e
    split at e
    · exact e.symm
    · rename_i hq
      by_cases e0 : nx i = -1
      · rw [← e]; exact e0
      · have := h.inj.inj i (tL L s).toNat hi (by omega) e e0
        omega
  · unfold tNx at e hne
    split at hne
    · exact absurd rfl hne
    · rename_i q1
      rw [if_neg q1] at e
      split at e
      · exact absurd e hne
      · exact h.inj.inj i j hi hj e hne
  · by_cases hm : (i : Int) ∈ L
    · rw [← List.take_append_drop (needS s) L, List.mem_append] at hm
      rcases hm with hm | hm
      · obtain ⟨P, Q, e2, q⟩ := hpA.sub hm
        exact ⟨_, q⟩
      · obtain ⟨P, Q, e2, q⟩ := hpB.sub hm
        exact ⟨_, q⟩
    · obtain ⟨P, q⟩ := h.paths i hi
      have hst := q.stay h.inj.rng L h.freeBack (by omega) hm
      exact ⟨P, q.keep (fun z hz => tNx_else (q.nonneg z hz) (fun e => hst z hz (e ▸ hlL)))⟩
  · obtain ⟨t1, t2⟩ := h.takenText (s := s) h2 hi
    by_cases hm : (i : Int) ∈ L.take (needS s)
    · obtain ⟨z1, z2⟩ := t1 hm
      exact ⟨⟨fun hb => absurd hm (hdis _ hb), fun e => absurd e z1⟩, z2⟩
    · rw [t2 hm, ← (h.data i hi).1]
      refine ⟨⟨fun hb => List.mem_of_mem_drop hb, fun hL => ?_⟩, (h.data i hi).2⟩
      rw [← List.take_append_drop (needS s) L, List.mem_append] at hL
      exact hL.resolve_left hm
theorem Right.takenHead (h : Right n nx dt fr L) (h1 : 1 ≤ needS s) (h2 : needS s ≤ L.length) : headP n (tNx nx L s) (tD L s dt (needS s)) fr := by
  obtain ⟨hr, hlm, hpA, hpB, hdis⟩ := h.takenPaths (s := s) h1 h2
  have hA : L.take (needS s) ≠ [] := fun e => by rw [e] at hlm; simp at hlm
  have h0 : 0 ≤ fr := by
    cases e : L.take (needS s) with
    | nil => exact absurd e hA
    | cons x xs => rw [e] at hpA; have := hpA.1; have := hpA.2.1; omega
  have hf1 := h.inj.f1
  obtain ⟨xs, e⟩ := hpA.first h0
  have hm : ((fr.toNat : Nat) : Int) ∈ L.take (needS s) := by rw [Int.toNat_of_nonneg h0, e]; simp
  refine ⟨h0, hf1, ((h.takenText (s := s) h2 (by omega)).1 hm).1, fun i hi => ?_⟩
  unfold tNx
  split
  · omega
  · intro e2
    have := h.inj.ne i hi e2
    omega
theorem Right.takenElse (h : Right n nx dt fr L) (h1 : 1 ≤ needS s) (h2 : needS s ≤ L.length) {c : Int} {P : List Int} (hh : headP n nx dt c) (q : Path nx c P) :
    headP n (tNx nx L s) (tD L s dt (needS s)) c ∧ Path (tNx nx L s) c P ∧ ∀ z ∈ P, tD L s dt (needS s) z.toNat = dt z.toNat := by
  obtain ⟨hr, hlm, hpA, hpB, hdis⟩ := h.takenPaths (s := s) h1 h2
  have hlL : tL L s ∈ L := List.mem_of_mem_take hlm
  have hst := h.headOut hh q
  have hkeep : ∀ z : Int, 0 ≤ z → z < n → z ∉ L → tD L s dt (needS s) z.toNat = dt z.toNat := fun z z0 z1 hz => by
    refine (h.takenText (s := s) h2 (i := z.toNat) (by omega)).2 (fun hm => hz ?_)
    rw [Int.toNat_of_nonneg z0] at hm
    exact List.mem_of_mem_take hm
  refine ⟨⟨hh.1, hh.2.1, ?_, fun i hi => ?_⟩, q.keep (fun z hz => tNx_else (q.nonneg z hz) (fun e => hst z hz (e ▸ hlL))), fun z hz => ?_⟩
  · rw [hkeep c hh.1 hh.2.1 (hh.notFree h)]
    exact hh.2.2.1
  · have := hh.1
    unfold tNx
    split
    · omega
    · exact hh.2.2.2 i hi
  · have hz2 := q.range h.inj.rng hh.2.1 z hz
    exact hkeep z hz2.1 hz2.2 (hst z hz)
theorem catB_same {dt dt' : Nat → ByteArray} {P : List Int} (h : ∀ z ∈ P, dt' z.toNat = dt z.toNat) : catT dt' P = catT dt P := by
  have e : catB dt' P = catB dt P := by
    unfold catB
    exact flatMap_same (fun z hz => by rw [h z hz])
  unfold catT
  rw [e]
theorem cut_list (j : Nat) : (cutS s j).data.toList = (s.data.toList.drop (j * 10)).take 10 := by
  unfold cutS
  have : (s.extract (j * 10) (min (j * 10 + 10) s.size)).data = s.data.extract (j * 10) (min (j * 10 + 10) s.size) := by simp
  rw [this, Array.toList_extract, List.extract_eq_take_drop]
  have hz : s.size = s.data.toList.length := (size_list s).symm
  rw [hz]
  by_cases hle : j * 10 + 10 ≤ s.data.toList.length
  · rw [Nat.min_eq_left hle]
    congr 1
    omega
  · rw [Nat.min_eq_right (by omega), List.take_of_length_le (by simp), List.take_of_length_le (by simp; omega)]
theorem cuts_list : ∀ (k : Nat), ((List.range k).flatMap fun j => (cutS s j).data.toList) = s.data.toList.take (k * 10)
  | 0 => by simp
  | k + 1 => by
    rw [List.range_succ, List.flatMap_append, cuts_list k]
    simp only [List.flatMap_cons, List.flatMap_nil, List.append_nil, cut_list]
    rw [Nat.add_mul, Nat.one_mul, List.take_add]
theorem Right.takenHeld (h : Right n nx dt fr L) (h1 : 1 ≤ needS s) (h2 : needS s ≤ L.length) : catT (tD L s dt (needS s)) (L.take (needS s)) = s := by
  have hlist : catB (tD L s dt (needS s)) (L.take (needS s)) = s.data.toList := by
    have e1 : L.take (needS s) = (List.range (needS s)).map (fun j => L.getD j 0) := by
      refine List.ext_getElem (by simp; omega) (fun i k1 k2 => ?_)
      rw [List.getElem_take, List.getElem_map, List.getElem_range, getD_at]
    unfold catB
    rw [e1, List.flatMap_map]
    have e2 : ((List.range (needS s)).flatMap fun j => (cutS s j).data.toList) = s.data.toList := by
      rw [cuts_list, List.take_of_length_le]
      have : s.data.toList.length = s.size := size_list s
      unfold needS
      omega
    rw [← e2]
    refine flatMap_same (fun j hj => ?_)
    have hjN : j < needS s := List.mem_range.1 hj
    have hjL : j < L.length := by omega
    have h0 := h.free.nonneg L[j] (List.getElem_mem hjL)
    rw [getD_at L j hjL, tD_in h.free.nodup hjL (by rw [Int.toNat_of_nonneg h0]) _ hjN h2]
  unfold catT
  rw [hlist]
end Take
end Go.Proofs.Ythkkogpegmmbdaa
