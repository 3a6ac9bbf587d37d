/- The exact law on what a chain holds: it returns true, and nothing that was there has turned. -/
import Derived.Test.YtjliapdfjjblnaaArHeld
namespace Go.Proofs.Ytjliapdfjjblnaa
open Go.RowKit
set_option linter.unusedVariables false
set_option linter.unusedSimpArgs false

set_option maxHeartbeats 1000000 in
theorem held_law (a b : Option Addr) (n m c d : Nat) (fr hd0 : Int) (nx : Nat → Int) (dt : Nat → ByteArray) (w : World) (hn : n ≤ maxLen) (hm : m ≤ maxLen) (h1 : RdRow w a n fun i => .int .i64 (nx i)) (h2 : RdRow w b m fun i => .string (dt i)) (hd : ∀ i, i < m → (dt i).size ≤ maxLen) :
    Calls Try.prog 6 #[.agg #[.slice a n c, .slice b m d, .int .i64 fr], .int .i64 hd0] w fun e w' => e = .returned (.bool true) ∧ Below w.heap.size w w' := by
  obtain ⟨ok, hok⟩ : ∃ ok : Bool, ok = true ↔ chainP n m nx dt fr hd0 := by
    by_cases h : chainP n m nx dt fr hd0
    · exact ⟨true, by simp [h]⟩
    · exact ⟨false, by simp [h]⟩
  have HOK : Hid (ok = true ↔ chainP n m nx dt fr hd0) := hok
  have HD : Hid (∀ i, i < m → (dt i).size ≤ maxLen) := hd
  have H1 : Hid (RdRow w a n fun i => .int .i64 (nx i)) := h1
  have H2 : Hid (RdRow w b m fun i => .string (dt i)) := h2
  clear hok hd h1 h2
  have HA : Hid (∀ o, Below w.heap.size w (w.alloc o)) := fun o => (Below.refl _ _).alloc (Nat.le_refl _) _
  have hbb : (ok != ok) = false := by cases ok <;> rfl
  obtain ⟨T, HTE⟩ : ∃ T, Hid (catT dt (freeL ok n nx hd0) = T) := ⟨_, rfl⟩
  have hss : (T.toList == T.toList) = true := by simp
  have hsn : (T.toList != T.toList) = false := by simp
  go_enter Try.func6, Try.ntmps6
  go_wp2_with fail
  refine (szArena_any a b n m c d fr dt _ hn hm (H2.out.up (HA.out _)) HD.out).mono ?_
  rintro e w1 ⟨⟨r, rfl, hr⟩, hb⟩
  have hB := first hb
  clear hb
  rcases hr with rfl | ⟨r0, hn', hm', hd'⟩
  · have B := under hB
    go_wp2_with fail
    go_ret
    exact ⟨rfl, B⟩
  clear hd'
  have cb := boxed hB
  go_wp2_with fail
  refine (toArena_any a b n m c d fr nx dt _ hn' hm' (H1.out.up (under hB)) (H2.out.up (under hB))).mono ?_
  rintro e w2 ⟨gN, gD, rfl, hN, hD, hND, rN, rD, hb2⟩
  replace hB := next hB hb2
  replace cb := boxed hB
  clear hb2
  go_wp2_with fail
  have hcall := sHeld_any _ _ n m n m fr hd0 nx dt _ hn' hm' HD.out rN.read rD.read ok HOK.out
  rw [HTE.out] at hcall
  refine hcall.mono ?_
  clear hcall
  rintro e w3 ⟨rfl, hb3⟩
  replace hB := next hB hb3
  replace cb := boxed hB
  clear hb3 rN rD hN hD hND
  go_wp2_with fail
  refine (toArena_any a b n m c d fr nx dt _ hn' hm' (H1.out.up (under hB)) (H2.out.up (under hB))).mono ?_
  rintro e w4 ⟨gN4, gD4, rfl, hN4, hD4, hND4, rN4, rD4, hb4⟩
  replace hB := next hB hb4
  replace cb := boxed hB
  clear hb4
  go_wp2_with fail
  have hX := (Below.refl w4.heap.size w4).alloc (Nat.le_refl _) (.cells #[.slice (some ⟨gN4, 0, none⟩) n n, .slice (some ⟨gD4, 0, none⟩) m m, .int .i64 fr] 28)
  have kX := blk_new w4 (.cells #[.slice (some ⟨gN4, 0, none⟩) n n, .slice (some ⟨gD4, 0, none⟩) m m, .int .i64 fr] 28)
  have eX : ∀ o, (w4.alloc o).heap.size = w4.heap.size + 1 := by intro o; simp
  have hcall := iHeld_any _ _ n m n m fr hd0 nx dt _ hn' hm' HD.out (rN4.read.up hX) (rD4.read.up hX) ok HOK.out
  rw [HTE.out] at hcall
  refine hcall.mono ?_
  clear hcall
  rintro e w5 ⟨rfl, hb5⟩
  have j1 := (rN4.read.up hX).up hb5
  have j2 := (rD4.read.up hX).up hb5
  replace kX := (hb5.block w4.heap.size (by rw [eX]; omega)).trans kX
  replace hB := next (next hB hX) hb5
  replace cb := boxed hB
  have cX := blk_cell kX
  clear hb5 rN4 rD4 hX eX
  go_wp2_with fail
  refine wp_region_held_drew (S := fun w' => (∀ o, w'.cell? ⟨w.heap.size, o, none⟩ = (#[.slice a n c, .slice b m d, .int .i64 fr] : Array Value)[o]?) ∧ ∀ o, w'.cell? ⟨w4.heap.size, o, none⟩ = (#[.slice (some ⟨gN4, 0, none⟩) n n, .slice (some ⟨gD4, 0, none⟩) m m, .int .i64 fr] : Array Value)[o]?) (by kernel_rfl) ⟨cb, cX⟩ (fun hHeld => ?_)
  refine wpAnyH_take (i := 0) (v := ?_) rfl (by kernel_rfl) (by kernel_rfl) (by kernel_rfl) (fun _ _ _ h => h) (Or.inl ⟨by rfl, ?_⟩) (by assumption) ?_
  rotate_left
  · intro wx hSw
    obtain ⟨hS1, hS2⟩ := hSw
    go_simp
    try (with_reducible rfl)
  try simp only [Act.put, List.setIfInBounds_toArray, List.set_cons_zero, List.set_cons_succ]
  refine wpAnyH_take (i := 1) (v := ?_) rfl (by kernel_rfl) (by kernel_rfl) (by kernel_rfl) (fun _ _ _ h => h) (Or.inl ⟨by rfl, ?_⟩) (by assumption) ?_
  rotate_left
  · intro wx hSw
    obtain ⟨hS1, hS2⟩ := hSw
    go_simp
    try (with_reducible rfl)
  try simp only [Act.put, List.setIfInBounds_toArray, List.set_cons_zero, List.set_cons_succ]
  refine wpAnyH_ready (rs := [2]) (by kernel_rfl) (by simp) ?_
  refine AllReadyH.cons rfl (fun K hK => ?_) AllReadyH.nil
  go_simp
  have hdr : Below w5.heap.size w5 w5.drew := (Below.refl _ _).drew
  replace hB := hB.drew
  replace kX : w5.drew.heap[w4.heap.size]? = _ := kX
  replace j1 := j1.up hdr
  replace j2 := j2.up hdr
  clear hdr
  refine (toArena_any a b n m c d fr nx dt _ hn' hm' (H1.out.up (under hB)) (H2.out.up (under hB))).mono ?_
  rintro e w6 ⟨gN6, gD6, rfl, hN6, hD6, hND6, rN6, rD6, hb⟩
  replace j1 := j1.up hb
  replace j2 := j2.up hb
  replace kX := (hb.block w4.heap.size (blk_lt kX)).trans kX
  replace cX := blk_cell kX
  replace hB := next hB hb
  replace cb := boxed hB
  clear hb hHeld
  go_wp2_with fail
  refine hK.out _ _ ⟨cb, cX⟩ (fun hHeld => ?_)
  clear hK K
  try simp only [Act.put, List.setIfInBounds_toArray, List.set_cons_zero, List.set_cons_succ]
  refine wpAnyH_ready (rs := [3]) (by kernel_rfl) (by simp) ?_
  refine AllReadyH.cons rfl (fun K hK => ?_) AllReadyH.nil
  go_simp
  refine (eqArena2_any _ _ _ _ n m n n m m fr nx dt _ hn' hm' j1 rN6.read j2 rD6.read).mono ?_
  rintro e w7 ⟨rfl, hb⟩
  replace kX := (hb.block w4.heap.size (blk_lt kX)).trans kX
  replace cX := blk_cell kX
  replace hB := next hB hb
  replace cb := boxed hB
  clear hb hHeld
  go_wp2_with fail
  refine hK.out _ _ ⟨cb, cX⟩ (fun hHeld => ?_)
  clear hK K
  try simp only [Act.put, List.setIfInBounds_toArray, List.set_cons_zero, List.set_cons_succ]
  refine wpAnyH_ready (rs := [4]) (by kernel_rfl) (by simp) ?_
  refine AllReadyH.cons rfl (fun K hK => ?_) AllReadyH.nil
  go_simp
  refine hK.out _ _ ⟨cb, cX⟩ (fun hHeld => ?_)
  clear hK K
  try simp only [Act.put, List.setIfInBounds_toArray, List.set_cons_zero, List.set_cons_succ]
  refine wpAnyH_done (by kernel_rfl) ?_ _
  have B7 := under hB
  clear hHeld
  go_wp2_with fail
  go_ret
  exact ⟨rfl, B7⟩
end Go.Proofs.Ytjliapdfjjblnaa
