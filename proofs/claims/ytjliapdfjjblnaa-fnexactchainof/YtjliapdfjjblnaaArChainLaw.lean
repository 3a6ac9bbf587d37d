/- The exact law on chains: it returns true, and nothing that was there has turned. -/
import Derived.Test.YtjliapdfjjblnaaArChain
namespace Go.Proofs.Ytjliapdfjjblnaa
open Go.RowKit
set_option linter.unusedVariables false
set_option linter.unusedSimpArgs false

set_option maxHeartbeats 1000000 in
theorem chain_law (a b : Option Addr) (n m c d : Nat) (fr hd0 : Int) (nx : Nat → Int) (dt : Nat → ByteArray) (w : World) (hn : n ≤ maxLen) (hm : m ≤ maxLen) (h1 : RdRow w a n fun i => .int .i64 (nx i)) (h2 : RdRow w b m fun i => .string (dt i)) (hd : ∀ i, i < m → (dt i).size ≤ maxLen) :
    Calls Try.prog 4 #[.agg #[.slice a n c, .slice b m d, .int .i64 fr], .int .i64 hd0] w fun e w' => e = .returned (.bool true) ∧ Below w.heap.size w w' := by
  obtain ⟨ok, hok⟩ : ∃ ok : Bool, ok = true ↔ chainP n m nx dt fr hd0 := by
    by_cases h : chainP n m nx dt fr hd0
    · exact ⟨true, by simp [h]⟩
    · exact ⟨false, by simp [h]⟩
  have HOK : Hid (ok = true ↔ chainP n m nx dt fr hd0) := hok
  have HD : Hid (∀ i, i < m → (dt i).size ≤ maxLen) := hd
  have H1 : Hid (RdRow w a n fun i => .int .i64 (nx i)) := h1
  have H2 : Hid (RdRow w b m fun i => .string (dt i)) := h2
  clear hok hd h1 h2
  have HA : Hid (∀ o, Below w.heap.size w (w.alloc o)) := fun o => (Below.refl _ _).alloc (Nat.le_refl _) _
  have hbb : (ok != ok) = false := by cases ok <;> rfl
  obtain ⟨L, HLE, hLn⟩ : ∃ L, Hid (freeL ok n nx hd0 = L) ∧ L.length ≤ n := ⟨_, rfl, freeL_len ok n nx hd0⟩
  go_enter Try.func4, Try.ntmps4
  go_wp2_with fail
  refine (szArena_any a b n m c d fr dt _ hn hm (H2.out.up (HA.out _)) HD.out).mono ?_
  rintro e w1 ⟨⟨r, rfl, hr⟩, hb⟩
  have hB := first hb
  clear hb
  rcases hr with rfl | ⟨r0, hn', hm', hd'⟩
  · have B := under hB
    go_wp2_with fail
    go_ret
    exact ⟨rfl, B⟩
  clear hd'
  have cb := boxed hB
  go_wp2_with fail
  refine (toArena_any a b n m c d fr nx dt _ hn' hm' (H1.out.up (under hB)) (H2.out.up (under hB))).mono ?_
  rintro e w2 ⟨gN, gD, rfl, hN, hD, hND, rN, rD, hb2⟩
  replace hB := next hB hb2
  replace cb := boxed hB
  clear hb2
  go_wp2_with fail
  have hcall := sChain_any _ _ n m n m fr hd0 nx dt _ hn' hm' HD.out (rN.read) (rD.read) ok HOK.out
  rw [HLE.out] at hcall
  refine hcall.mono ?_
  clear hcall
  rintro e w3 ⟨⟨vs, rfl, hVS⟩, hb3⟩
  have z2 := upper hB
  replace hVS := hVS.low z2
  replace hB := next hB hb3
  replace cb := boxed hB
  clear hb3 rN rD hN hD hND
  go_wp2_with fail
  refine (toArena_any a b n m c d fr nx dt _ hn' hm' (H1.out.up (under hB)) (H2.out.up (under hB))).mono ?_
  rintro e w4 ⟨gN4, gD4, rfl, hN4, hD4, hND4, rN4, rD4, hb4⟩
  have HL3 : Hid (∀ g ∈ bl vs, g < w3.heap.size) := fun g hg => (hVS.lt g hg).1
  have z3 := upper hB
  replace hVS := hVS.up hb4
  replace hB := next hB hb4
  replace cb := boxed hB
  clear hb4
  go_wp2_with fail
  have hX := (Below.refl w4.heap.size w4).alloc (Nat.le_refl _) (.cells #[.slice (some ⟨gN4, 0, none⟩) n n, .slice (some ⟨gD4, 0, none⟩) m m, .int .i64 fr] 28)
  have kX := blk_new w4 (.cells #[.slice (some ⟨gN4, 0, none⟩) n n, .slice (some ⟨gD4, 0, none⟩) m m, .int .i64 fr] 28)
  have eX : ∀ o, (w4.alloc o).heap.size = w4.heap.size + 1 := by intro o; simp
  have hcall := iChain_any _ _ n m n m fr hd0 nx dt _ hn' hm' HD.out (rN4.read.up hX) (rD4.read.up hX) ok HOK.out
  rw [HLE.out] at hcall
  refine hcall.mono ?_
  clear hcall
  rintro e w5 ⟨⟨vg, rfl, hVG⟩, hb5⟩
  rw [eX] at hVG
  have l4N := rN4.lt
  have l4D := rD4.lt
  have z4 : w3.heap.size ≤ w4.heap.size := by omega
  replace hVS := (hVS.up hX).up hb5
  have vN := ((VRow.of (cap := n) rN4 hN4).up hX).up hb5
  have vD := ((VRow.of (cap := m) rD4 hD4).up hX).up hb5
  replace kX := (hb5.block w4.heap.size (by rw [eX]; omega)).trans kX
  replace hB := next (next hB hX) hb5
  replace cb := boxed hB
  have cX := blk_cell kX
  clear hb5 rN4 rD4 hX eX
  go_wp2_with fail
  refine (eqI_any vg vs _ _ L.length L _ (by omega) hVG hVS).mono ?_
  rintro e w6 ⟨rfl, hS6⟩
  replace hVS := hVS.up (hS6.below _)
  replace hVG := hVG.up (hS6.below _)
  replace vN := vN.up (hS6.below _)
  replace vD := vD.up (hS6.below _)
  replace kX := ((hS6.below w5.heap.size).block w4.heap.size (blk_lt kX)).trans kX
  replace hB := next hB (hS6.below _)
  replace cb := boxed hB
  replace cX := blk_cell kX
  clear hS6
  go_wp2_with fail
  refine wp_region_held_drew (S := fun w' => (∀ o, w'.cell? ⟨w.heap.size, o, none⟩ = (#[.slice a n c, .slice b m d, .int .i64 fr] : Array Value)[o]?) ∧ ∀ o, w'.cell? ⟨w4.heap.size, o, none⟩ = (#[.slice (some ⟨gN4, 0, none⟩) n n, .slice (some ⟨gD4, 0, none⟩) m m, .int .i64 fr] : Array Value)[o]?) (by kernel_rfl) ⟨cb, cX⟩ (fun hHeld => ?_)
  refine wpAnyH_take (i := 0) (v := ?_) rfl (by kernel_rfl) (by kernel_rfl) (by kernel_rfl) (fun _ _ _ h => h) (Or.inl ⟨by rfl, ?_⟩) (by assumption) ?_
  rotate_left
  · intro wx hSw
    obtain ⟨hS1, hS2⟩ := hSw
    go_simp
    try (with_reducible rfl)
  try simp only [Act.put, List.setIfInBounds_toArray, List.set_cons_zero, List.set_cons_succ]
  refine wpAnyH_take (i := 1) (v := ?_) rfl (by kernel_rfl) (by kernel_rfl) (by kernel_rfl) (fun _ _ _ h => h) (Or.inl ⟨by rfl, ?_⟩) (by assumption) ?_
  rotate_left
  · intro wx hSw
    obtain ⟨hS1, hS2⟩ := hSw
    go_simp
    try (with_reducible rfl)
  try simp only [Act.put, List.setIfInBounds_toArray, List.set_cons_zero, List.set_cons_succ]
  refine wpAnyH_ready (rs := [2]) (by kernel_rfl) (by simp) ?_
  refine AllReadyH.cons rfl (fun K hK => ?_) AllReadyH.nil
  go_simp
  have hdr : Below w6.heap.size w6 w6.drew := (Below.refl _ _).drew
  replace hB := hB.drew
  replace kX : w6.drew.heap[w4.heap.size]? = _ := kX
  replace vN := vN.up hdr
  replace vD := vD.up hdr
  replace hVS := hVS.up hdr
  replace hVG := hVG.up hdr
  clear hdr
  refine (toArena_any a b n m c d fr nx dt _ hn' hm' (H1.out.up (under hB)) (H2.out.up (under hB))).mono ?_
  rintro e w7 ⟨gN6, gD6, rfl, hN6, hD6, hND6, rN6, rD6, hb⟩
  replace vN := vN.up hb
  replace vD := vD.up hb
  replace hVS := hVS.up hb
  replace hVG := hVG.up hb
  replace kX := (hb.block w4.heap.size (blk_lt kX)).trans kX
  replace cX := blk_cell kX
  replace hB := next hB hb
  replace cb := boxed hB
  clear hb hHeld
  go_wp2_with fail
  refine hK.out _ _ ⟨cb, cX⟩ (fun hHeld => ?_)
  clear hK K
  try simp only [Act.put, List.setIfInBounds_toArray, List.set_cons_zero, List.set_cons_succ]
  refine wpAnyH_ready (rs := [3]) (by kernel_rfl) (by simp) ?_
  refine AllReadyH.cons rfl (fun K hK => ?_) AllReadyH.nil
  go_simp
  obtain ⟨aN, capN, eN, qN⟩ := vN.read
  obtain ⟨aD, capD, eD, qD⟩ := vD.read
  cases eN
  cases eD
  refine (eqArena2_any _ _ _ _ n m n n m m fr nx dt _ hn' hm' qN rN6.read qD rD6.read).mono ?_
  rintro e w8 ⟨rfl, hb⟩
  replace vN := vN.up hb
  replace vD := vD.up hb
  replace hVS := hVS.up hb
  replace hVG := hVG.up hb
  replace kX := (hb.block w4.heap.size (blk_lt kX)).trans kX
  replace cX := blk_cell kX
  replace hB := next hB hb
  replace cb := boxed hB
  clear hb hHeld qN qD rN6 rD6 hN6 hD6 hND6
  go_wp2_with fail
  refine hK.out _ _ ⟨cb, cX⟩ (fun hHeld => ?_)
  clear hK K
  try simp only [Act.put, List.setIfInBounds_toArray, List.set_cons_zero, List.set_cons_succ]
  refine wpAnyH_ready (rs := [4]) (by kernel_rfl) (by simp) ?_
  refine AllReadyH.cons rfl (fun K hK => ?_) AllReadyH.nil
  go_simp
  refine hK.out _ _ ⟨cb, cX⟩ (fun hHeld => ?_)
  clear hK K
  try simp only [Act.put, List.setIfInBounds_toArray, List.set_cons_zero, List.set_cons_succ]
  refine wpAnyH_done (by kernel_rfl) ?_ _
  clear hHeld
  go_wp2_with fail
  refine (markA_any _ _ _ _ n m 1 fr _ _ _ hn' hm' (by omega) vN vD).mono ?_
  rintro e w9 ⟨rfl, vN9, vD9, hT⟩
  have hTB : Below (w.heap.size + 1) w8 w9 := hT.below (by have := upper hB; omega) (by simp [bl]; omega)
  replace hVS := hVS.touch hT (fun g hg hm => by have := HL3.out g hg; simp [bl] at hm; omega)
  have HG8 : Hid (∀ g ∈ bl vg, w4.heap.size + 1 ≤ g) := fun g hg => (hVG.lt g hg).2
  replace hVG := hVG.touch hT (fun g hg hm => by have := HG8.out g hg; simp [bl] at hm; omega)
  replace hB := hB.trans hTB
  replace cb := boxed hB
  clear hT hTB vN9 vD9 vN vD kX cX
  have hk0 : ¬ ((1 + n + m : Nat) : Int) < 0 := by omega
  have hk1 : (0 : Int) ≤ 1 + (n : Int) + m := by omega
  go_wp2_with fail
  refine (eqI_any vg vs _ _ L.length L _ (by omega) hVG hVS).mono ?_
  rintro e wA ⟨rfl, hS⟩
  replace hVS := hVS.up (hS.below _)
  replace hVG := hVG.up (hS.below _)
  replace hB := next hB (hS.below _)
  replace cb := boxed hB
  clear hS
  go_wp2_with fail
  refine (markI_any vg _ L.length 1 _ _ hVG (by omega) (by omega)).mono ?_
  rintro e wB ⟨rfl, hVM, hT⟩
  have hTB : Below (w.heap.size + 1) wA wB := hT.below (by have := upper hB; omega) (fun g hg => by have := HG8.out g hg; omega)
  replace hVS := hVS.touch hT (fun g hg hm => by have := HL3.out g hg; have := HG8.out g hm; omega)
  replace hB := hB.trans hTB
  replace cb := boxed hB
  clear hT hTB hVG
  go_wp2_with fail
  refine (heldI_any vg _ L.length 1 _ hVM (by omega) (by omega)).mono ?_
  rintro e wC ⟨rfl, rfl⟩
  have hq0 : ¬ ((1 + L.length : Nat) : Int) < 0 := by omega
  have hq1 : (0 : Int) ≤ 1 + (L.length : Int) := by omega
  go_wp2_with fail
  refine (toArena_any a b n m c d fr nx dt _ hn' hm' (H1.out.up (under hB)) (H2.out.up (under hB))).mono ?_
  rintro e wD ⟨gN9, gD9, rfl, hN9, hD9, hND9, rN9, rD9, hb⟩
  replace hVS := hVS.up hb
  replace hVM := hVM.up hb
  replace hB := next hB hb
  replace cb := boxed hB
  clear hb
  go_wp2_with fail
  have hcall := iChain_any _ _ n m n m fr hd0 nx dt _ hn' hm' HD.out rN9.read rD9.read ok HOK.out
  rw [HLE.out] at hcall
  refine hcall.mono ?_
  clear hcall
  rintro e wE ⟨⟨vh, rfl, hVH⟩, hb⟩
  replace hVS := hVS.up hb
  replace hVM := hVM.up hb
  replace hB := next hB hb
  clear hb rN9 rD9
  go_wp2_with fail
  refine (eqI_any vh vs _ _ L.length L _ (by omega) hVH hVS).mono ?_
  rintro e wF ⟨rfl, hS⟩
  replace hVM := hVM.up (hS.below _)
  replace hB := next hB (hS.below _)
  clear hS
  go_wp2_with fail
  refine (heldI_any vg _ L.length 1 _ hVM (by omega) (by omega)).mono ?_
  rintro e wG ⟨rfl, rfl⟩
  have BF := under hB
  go_wp2_with fail
  go_ret
  exact ⟨rfl, BF⟩
end Go.Proofs.Ytjliapdfjjblnaa
