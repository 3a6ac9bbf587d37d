/- The exact law on whether arenas are right: it returns true, and nothing that was there has turned. -/
import Derived.Test.YtapabolgfcocfaaArSOk
import Derived.Test.YtapabolgfcocfaaArTo
import Derived.Test.YtapabolgfcocfaaBox
namespace Go.Proofs.Ytapabolgfcocfaa
open Go.RowKit
set_option linter.unusedVariables false
set_option linter.unusedSimpArgs false

theorem ok_law (a b : Option Addr) (n m c d : Nat) (fr : Int) (nx : Nat → Int) (dt : Nat → ByteArray) (w : World) (hn : n ≤ maxLen) (hm : m ≤ maxLen) (h1 : RdRow w a n fun i => .int .i64 (nx i)) (h2 : RdRow w b m fun i => .string (dt i)) (hd : ∀ i, i < m → (dt i).size ≤ maxLen) :
    Calls Try.prog 8 #[.agg #[.slice a n c, .slice b m d, .int .i64 fr]] w fun e w' => e = .returned (.bool true) ∧ Below w.heap.size w w' := by
  obtain ⟨ok, hok⟩ : ∃ ok : Bool, ok = true ↔ okP n m nx dt fr := by
    by_cases h : okP n m nx dt fr
    · exact ⟨true, by simp [h]⟩
    · exact ⟨false, by simp [h]⟩
  have HA : Hid (∀ o, Below w.heap.size w (w.alloc o)) := fun o => (Below.refl _ _).alloc (Nat.le_refl _) _
  go_enter Try.func8, Try.ntmps8
  go_wp2_with fail
  refine (szArena_any a b n m c d fr dt _ hn hm (h2.up (HA.out _)) hd).mono ?_
  rintro e w1 ⟨⟨r, rfl, hr⟩, hb⟩
  have hB := first hb
  clear hb
  rcases hr with rfl | ⟨r0, hn', hm', hd'⟩
  · have B := under hB
    go_wp2_with fail
    go_ret
    exact ⟨rfl, B⟩
  have HD : Hid (∀ i, i < m → (dt i).size ≤ maxLen) := hd
  clear hd hd'
  have cb := boxed hB
  go_wp2_with fail
  refine (toArena_any a b n m c d fr nx dt _ hn' hm' (h1.up (under hB)) (h2.up (under hB))).mono ?_
  rintro e w2 ⟨gN, gD, rfl, hN, hD, hND, rN, rD, hb2⟩
  have hB := next hB hb2
  have cb := boxed hB
  clear hb2
  go_wp2_with fail
  refine (sOk_any _ _ n m n m fr nx dt _ hn' hm' HD.out rN.read rD.read ok hok).mono ?_
  rintro e w3 ⟨rfl, hb3⟩
  have hB := next hB hb3
  have cb := boxed hB
  clear hb3 rN rD hN hD hND
  go_wp2_with fail
  refine (toArena_any a b n m c d fr nx dt _ hn' hm' (h1.up (under hB)) (h2.up (under hB))).mono ?_
  rintro e w4 ⟨gN4, gD4, rfl, hN4, hD4, hND4, rN4, rD4, hb4⟩
  have hB := next hB hb4
  have cb := boxed hB
  clear hb4
  go_wp2_with fail
  have hX := (Below.refl w4.heap.size w4).alloc (Nat.le_refl _) (.cells #[.slice (some ⟨gN4, 0, none⟩) n n, .slice (some ⟨gD4, 0, none⟩) m m, .int .i64 fr] 38)
  have kX := blk_new w4 (.cells #[.slice (some ⟨gN4, 0, none⟩) n n, .slice (some ⟨gD4, 0, none⟩) m m, .int .i64 fr] 38)
  have eX : ∀ o, (w4.alloc o).heap.size = w4.heap.size + 1 := by intro o; simp
  refine (iOk_any _ _ n m n m fr nx dt _ hn' hm' HD.out (rN4.read.up hX) (rD4.read.up hX) ok hok).mono ?_
  rintro e w5 ⟨rfl, hb5⟩
  have j1 := (rN4.read.up hX).up hb5
  have j2 := (rD4.read.up hX).up hb5
  have kX := (hb5.block w4.heap.size (by rw [eX]; omega)).trans kX
  have hB := next (next hB hX) hb5
  have cb := boxed hB
  have cX := blk_cell kX
  have hbb : (ok != ok) = false := by cases ok <;> rfl
  clear hb5 rN4 rD4 hX
  go_wp2_with fail
  refine wp_region_held_drew (S := fun w' => (∀ o, w'.cell? ⟨w.heap.size, o, none⟩ = (#[.slice a n c, .slice b m d, .int .i64 fr] : Array Value)[o]?) ∧ ∀ o, w'.cell? ⟨w4.heap.size, o, none⟩ = (#[.slice (some ⟨gN4, 0, none⟩) n n, .slice (some ⟨gD4, 0, none⟩) m m, .int .i64 fr] : Array Value)[o]?) (by kernel_rfl) ⟨cb, cX⟩ (fun hHeld => ?_)
  refine wpAnyH_take (i := 0) (v := ?_) rfl (by kernel_rfl) (by kernel_rfl) (by kernel_rfl) (fun _ _ _ h => h) (Or.inl ⟨by rfl, ?_⟩) (by assumption) ?_
  rotate_left
  · intro wx hSw
    obtain ⟨hS1, hS2⟩ := hSw
    go_simp
    try (with_reducible rfl)
  try simp only [Act.put, List.setIfInBounds_toArray, List.set_cons_zero, List.set_cons_succ]
  refine wpAnyH_take (i := 1) (v := ?_) rfl (by kernel_rfl) (by kernel_rfl) (by kernel_rfl) (fun _ _ _ h => h) (Or.inl ⟨by rfl, ?_⟩) (by assumption) ?_
  rotate_left
  · intro wx hSw
    obtain ⟨hS1, hS2⟩ := hSw
    go_simp
    try (with_reducible rfl)
  try simp only [Act.put, List.setIfInBounds_toArray, List.set_cons_zero, List.set_cons_succ]
  refine wpAnyH_ready (rs := [2]) (by kernel_rfl) (by simp) ?_
  refine AllReadyH.cons rfl (fun K hK => ?_) AllReadyH.nil
  go_simp
  have hB := hB.drew
  have j1 := j1.up (((Below.refl _ _).drew : Below w5.heap.size w5 w5.drew))
  have j2 := j2.up (((Below.refl _ _).drew : Below w5.heap.size w5 w5.drew))
  have kX : w5.drew.heap[w4.heap.size]? = _ := kX
  refine (toArena_any a b n m c d fr nx dt _ hn' hm' (h1.up (under hB)) (h2.up (under hB))).mono ?_
  rintro e w6 ⟨gN6, gD6, rfl, hN6, hD6, hND6, rN6, rD6, hb6⟩
  have j1 := j1.up hb6
  have j2 := j2.up hb6
  have kX := (hb6.block w4.heap.size (blk_lt kX)).trans kX
  have cX := blk_cell kX
  have hB := next hB hb6
  have cb := boxed hB
  clear hb6
  go_wp2_with fail
  refine hK.out _ _ ⟨cb, cX⟩ (fun hHeld => ?_)
  clear hK K
  try simp only [Act.put, List.setIfInBounds_toArray, List.set_cons_zero, List.set_cons_succ]
  refine wpAnyH_ready (rs := [3]) (by kernel_rfl) (by simp) ?_
  refine AllReadyH.cons rfl (fun K hK => ?_) AllReadyH.nil
  go_simp
  refine (eqArena2_any _ _ _ _ n m n n m m fr nx dt _ hn' hm' j1 rN6.read j2 rD6.read).mono ?_
  rintro e w7 ⟨rfl, hb7⟩
  have kX := (hb7.block w4.heap.size (blk_lt kX)).trans kX
  have cX := blk_cell kX
  have hB := next hB hb7
  have cb := boxed hB
  have B7 := under hB
  go_wp2_with fail
  refine hK.out _ _ ⟨cb, cX⟩ (fun hHeld => ?_)
  clear hK K
  try simp only [Act.put, List.setIfInBounds_toArray, List.set_cons_zero, List.set_cons_succ]
  refine wpAnyH_ready (rs := [4]) (by kernel_rfl) (by simp) ?_
  refine AllReadyH.cons rfl (fun K hK => ?_) AllReadyH.nil
  go_simp
  refine hK.out _ _ ⟨cb, cX⟩ (fun hHeld => ?_)
  clear hK K
  try simp only [Act.put, List.setIfInBounds_toArray, List.set_cons_zero, List.set_cons_succ]
  refine wpAnyH_done (by kernel_rfl) ?_ _
  go_wp2_with fail
  go_ret
  exact ⟨rfl, B7⟩
end Go.Proofs.Ytapabolgfcocfaa
