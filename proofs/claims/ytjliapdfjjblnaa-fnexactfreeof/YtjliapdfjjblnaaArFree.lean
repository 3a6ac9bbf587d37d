/- The free cells: both sides' contracts. -/
import Derived.Test.YtjliapdfjjblnaaArGot
namespace Go.Proofs.Ytjliapdfjjblnaa
open Go.RowKit
set_option linter.unusedVariables false
set_option linter.unusedSimpArgs false

def freeL (b : Bool) (n : Nat) (nx : Nat → Int) (fr : Int) : List Int := if b then walkL nx n fr else []
theorem freeL_len (b : Bool) (n : Nat) (nx : Nat → Int) (fr : Int) : (freeL b n nx fr).length ≤ n := by
  unfold freeL
  split
  · exact walkL_len nx n fr
  · simp
theorem okP_parts {n m : Nat} {nx : Nat → Int} {dt : Nat → ByteArray} {fr : Int} (h : okP n m nx dt fr) : 1 ≤ n ∧ n ≤ 60 ∧ m = n ∧ inRange n nx ∧ -1 ≤ fr ∧ fr < n ∧ ringsP n nx ∧ goN nx n fr = -1 := by
  obtain ⟨h1, h2, h3, h4, h5, h6⟩ := h
  obtain ⟨r, r0, r1⟩ := links_range h4
  exact ⟨h1, h2, h3, r, r0, r1, h5, rings_at h5 r0 r1⟩

theorem iFree_any (a1 b1 : Option Addr) (n m c1 d1 : Nat) (fr : Int) (nx : Nat → Int) (dt : Nat → ByteArray) (w : World) (hn : n ≤ 1048576) (hm : m ≤ 1048576) (hd : ∀ i, i < m → (dt i).size ≤ maxLen) (h1 : RdRow w a1 n fun i => .int .i64 (nx i)) (h2 : RdRow w b1 m fun i => .string (dt i)) (b : Bool) (hb : b = true ↔ okP n m nx dt fr) :
    Calls Try.prog 11 #[.agg #[.slice a1 n c1, .slice b1 m d1, .int .i64 fr]] w fun e w' => (∃ v, e = .returned v ∧ VRow 2 w' w.heap.size v (freeL b n nx fr).length (intsOf (freeL b n nx fr))) ∧ Below w.heap.size w w' := by
  have HA : Hid (∀ o, Below w.heap.size w (w.alloc o)) := fun o => (Below.refl _ _).alloc (Nat.le_refl _) _
  have e1 : ∀ o, (w.alloc o).heap.size = w.heap.size + 1 := by intro o; simp
  go_enter Try.func11, Try.ntmps11
  go_wp2_with fail
  refine (iOk_any a1 b1 n m c1 d1 fr nx dt _ hn hm hd (h1.up (HA.out _)) (h2.up (HA.out _)) b hb).mono ?_
  rintro e w1 ⟨rfl, hb1⟩
  have hB := first hb1
  have cb := boxed hB
  cases b
  · have B1 := under hB
    go_wp2_with fail
    go_ret
    exact ⟨⟨_, rfl, VRow.nil _ _ _ _⟩, B1⟩
  · obtain ⟨l1, l2, rfl, hr, r0, r1, hG, hE⟩ := okP_parts (hb.1 rfl)
    have HE : Hid (goN nx m fr = -1) := hE
    have HR : Hid (inRange m nx) := hr
    have cb := boxed hB
    clear hb1 hE hG hr hb hd
    go_wp2_with fail
    refine wp_region_held_drew (S := fun w' => ∀ o, w'.cell? ⟨w.heap.size, o, none⟩ = (#[.slice a1 m c1, .slice b1 m d1, .int .i64 fr] : Array Value)[o]?) (by kernel_rfl) cb (fun hHeld => ?_)
    refine wpAnyH_take (i := 0) (v := ?_) rfl (by kernel_rfl) (by kernel_rfl) (by kernel_rfl) (fun _ _ _ h => h) (Or.inl ⟨by rfl, ?_⟩) (by assumption) ?_
    rotate_left
    · intro wx hSw
      try dsimp only at hSw
      go_simp
      try (with_reducible rfl)
    try simp only [Act.put, List.setIfInBounds_toArray, List.set_cons_zero, List.set_cons_succ]
    refine wpAnyH_take (i := 2) (v := ?_) rfl (by kernel_rfl) (by kernel_rfl) (by kernel_rfl) (fun _ _ _ h => h) (Or.inl ⟨by rfl, ?_⟩) (by assumption) ?_
    rotate_left
    · intro wx hSw
      try dsimp only at hSw
      go_simp
      try (with_reducible rfl)
    try simp only [Act.put, List.setIfInBounds_toArray, List.set_cons_zero, List.set_cons_succ]
    refine wpAnyH_take (i := 3) (v := ?_) rfl (by kernel_rfl) (by kernel_rfl) (by kernel_rfl) (fun _ _ _ h => h) (Or.inl ⟨by rfl, ?_⟩) (by assumption) ?_
    rotate_left
    · intro wx hSw
      try dsimp only at hSw
      go_simp
      try (with_reducible rfl)
    try simp only [Act.put, List.setIfInBounds_toArray, List.set_cons_zero, List.set_cons_succ]
    refine wpAnyH_ready (rs := [1]) (by kernel_rfl) (by simp) ?_
    refine AllReadyH.cons rfl (fun K hK => ?_) AllReadyH.nil
    go_simp
    have hB := hB.drew
    refine (cellsIn_any a1 b1 m c1 d1 fr nx dt _ (by omega) (h1.up (under hB)) (h2.up (under hB))).mono ?_
    rintro e w2 ⟨g, rfl, hg, hC, hb2⟩
    have hB := next hB hb2
    have cb := boxed hB
    clear hb2
    go_wp2_with fail
    refine hK.out _ _ cb (fun hHeld => ?_)
    clear hK K
    try simp only [Act.put, List.setIfInBounds_toArray, List.set_cons_zero, List.set_cons_succ]
    refine wpAnyH_ready (rs := [4]) (by kernel_rfl) (by simp) ?_
    refine AllReadyH.cons rfl (fun K hK => ?_) AllReadyH.nil
    go_simp
    refine (cellsFrom_any g m m fr nx dt _ (by omega) hC.lt hC.cells HR.out r0 r1 HE.out).mono ?_
    rintro e w3 ⟨v, rfl, hown, hb3⟩
    have z2 := upper hB
    have hB := next hB hb3
    have cb := boxed hB
    have B3 := under hB
    have hv := (own_vrow hown).2.low (by omega : w.heap.size ≤ w2.heap.size)
    clear hb3 hown hC
    go_wp2_with fail
    refine hK.out _ _ cb (fun hHeld => ?_)
    clear hK K
    try simp only [Act.put, List.setIfInBounds_toArray, List.set_cons_zero, List.set_cons_succ]
    refine wpAnyH_ready (rs := [5]) (by kernel_rfl) (by simp) ?_
    refine AllReadyH.cons rfl (fun K hK => ?_) AllReadyH.nil
    go_simp
    refine hK.out _ _ cb (fun hHeld => ?_)
    clear hK K
    try simp only [Act.put, List.setIfInBounds_toArray, List.set_cons_zero, List.set_cons_succ]
    refine wpAnyH_done (by kernel_rfl) ?_ _
    go_wp2_with fail
    go_ret
    exact ⟨⟨_, rfl, hv⟩, B3⟩

theorem sFree_any (a1 b1 : Option Addr) (n m c1 d1 : Nat) (fr : Int) (nx : Nat → Int) (dt : Nat → ByteArray) (w : World) (hn : n ≤ 1048576) (hm : m ≤ 1048576) (hd : ∀ i, i < m → (dt i).size ≤ maxLen) (h1 : RdRow w a1 n fun i => .int .i64 (nx i)) (h2 : RdRow w b1 m fun i => .string (dt i)) (b : Bool) (hb : b = true ↔ okP n m nx dt fr) :
    Calls Try.prog 9 #[.agg #[.slice a1 n c1, .slice b1 m d1, .int .i64 fr]] w fun e w' => (∃ v, e = .returned v ∧ VRow 2 w' w.heap.size v (freeL b n nx fr).length (intsOf (freeL b n nx fr))) ∧ Below w.heap.size w w' := by
  have HA : Hid (∀ o, Below w.heap.size w (w.alloc o)) := fun o => (Below.refl _ _).alloc (Nat.le_refl _) _
  have e1 : ∀ o, (w.alloc o).heap.size = w.heap.size + 1 := by intro o; simp
  go_enter Try.func9, Try.ntmps9
  go_wp2_with fail
  refine (sOk_any a1 b1 n m c1 d1 fr nx dt _ hn hm hd (h1.up (HA.out _)) (h2.up (HA.out _)) b hb).mono ?_
  rintro e w1 ⟨rfl, hb1⟩
  have hB := first hb1
  have cb := boxed hB
  have z1 := upper hB
  cases b
  · have B1 := (under hB).alloc (by omega) (.cells #[] 2)
    go_wp2_with fail
    go_ret
    refine ⟨⟨_, rfl, VRow.of (n := 0) ⟨#[], blk_new w1 _, by simp, fun i hi => by omega⟩ (by omega)⟩, B1⟩
  · obtain ⟨l1, l2, rfl, hr, r0, r1, hG, hE⟩ := okP_parts (hb.1 rfl)
    have HE : Hid (goN nx m fr = -1) := hE
    have HR : Hid (inRange m nx) := hr
    have cb := boxed hB
    clear hb1 hE hG hr hb hd
    go_wp2_with fail
    refine (l2Walk_any a1 b1 m c1 d1 m fr fr nx w1 (by omega) (h1.up (under hB)) HR.out r0 r1).mono ?_
    rintro e w2 ⟨⟨_, v, rfl, hown2⟩ | ⟨hE', rfl⟩, hb2⟩
    · have B2 := under (next hB hb2)
      have hv := (own_vrow hown2).2.low (by omega : w.heap.size ≤ w1.heap.size)
      clear hown2 hb2
      go_wp2_with fail
      go_ret
      exact ⟨⟨_, rfl, hv⟩, B2⟩
    · exact absurd HE.out hE'
end Go.Proofs.Ytjliapdfjjblnaa
