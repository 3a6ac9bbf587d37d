/- The exact law on chains that are given back: it returns true, and nothing that was there has turned. -/
import Derived.Test.YtjliapdfjjblnaaArSGive
namespace Go.Proofs.Ytjliapdfjjblnaa
open Go.RowKit
set_option linter.unusedVariables false
set_option linter.unusedSimpArgs false

theorem eqA_any (v1 v2 u1 u2 : Value) (b1 b2 b3 b4 k : Nat) (fr : Int) (F : Nat → Int) (U : Nat → ByteArray) (w : World) (hk : k ≤ 1048576) (h1 : VRow 2 w b1 v1 k (fun i => .int .i64 (F i))) (h2 : VRow 9 w b2 v2 k (fun i => .string (U i))) (h3 : VRow 2 w b3 u1 k (fun i => .int .i64 (F i))) (h4 : VRow 9 w b4 u2 k (fun i => .string (U i))) :
    Calls Try.prog 13 #[.agg #[v1, v2, .int .i64 fr], .agg #[u1, u2, .int .i64 fr]] w fun e w' => e = .returned (.bool true) ∧ Below w.heap.size w w' := by
  obtain ⟨a1, c1, rfl, r1⟩ := h1.read
  obtain ⟨a2, c2, rfl, r2⟩ := h2.read
  obtain ⟨a3, c3, rfl, r3⟩ := h3.read
  obtain ⟨a4, c4, rfl, r4⟩ := h4.read
  exact eqArena2_any a1 a3 a2 a4 k k c1 c3 c2 c4 fr F U w hk hk r1 r3 r2 r4
theorem VRow.form {t : TypeId} {w : World} {base n : Nat} {v : Value} {f : Nat → Value} (h : VRow t w base v n f) : ∃ a c, v = .slice a n c := by
  obtain ⟨a, c, e, _⟩ := h
  exact ⟨a, c, e⟩

set_option maxHeartbeats 2000000 in
theorem give_law (a b : Option Addr) (n m c d : Nat) (fr hd0 : Int) (nx : Nat → Int) (dt : Nat → ByteArray) (w : World) (hn : n ≤ maxLen) (hm : m ≤ maxLen) (h1 : RdRow w a n fun i => .int .i64 (nx i)) (h2 : RdRow w b m fun i => .string (dt i)) (hd : ∀ i, i < m → (dt i).size ≤ maxLen) :
    Calls Try.prog 7 #[.agg #[.slice a n c, .slice b m d, .int .i64 fr], .int .i64 hd0] w fun e w' => e = .returned (.bool true) ∧ Below w.heap.size w w' := by
  obtain ⟨ok, hok⟩ : ∃ ok : Bool, ok = true ↔ chainP n m nx dt fr hd0 := by
    by_cases h : chainP n m nx dt fr hd0
    · exact ⟨true, by simp [h]⟩
    · exact ⟨false, by simp [h]⟩
  have HOK : Hid (ok = true ↔ chainP n m nx dt fr hd0) := hok
  have HD : Hid (∀ i, i < m → (dt i).size ≤ maxLen) := hd
  have H1 : Hid (RdRow w a n fun i => .int .i64 (nx i)) := h1
  have H2 : Hid (RdRow w b m fun i => .string (dt i)) := h2
  clear hok hd h1 h2
  have HA : Hid (∀ o, Below w.heap.size w (w.alloc o)) := fun o => (Below.refl _ _).alloc (Nat.le_refl _) _
  have hbb : (ok != ok) = false := by cases ok <;> rfl
  go_enter Try.func7, Try.ntmps7
  go_wp2_with fail
  refine (szArena_any a b n m c d fr dt _ hn hm (H2.out.up (HA.out _)) HD.out).mono ?_
  rintro e w1 ⟨⟨r, rfl, hr⟩, hb⟩
  have hB := first hb
  clear hb
  rcases hr with rfl | ⟨r0, hn', hm', hd'⟩
  · have B := under hB
    go_wp2_with fail
    go_ret
    exact ⟨rfl, B⟩
  clear hd'
  have cb := boxed hB
  go_wp2_with fail
  refine (toArena_any a b n m c d fr nx dt _ hn' hm' (H1.out.up (under hB)) (H2.out.up (under hB))).mono ?_
  rintro e w2 ⟨gN, gD, rfl, hN, hD, hND, rN, rD, hb2⟩
  replace hB := next hB hb2
  replace cb := boxed hB
  clear hb2
  obtain ⟨k, F, U, f', HC1, HC2, hk⟩ : ∃ (k : Nat) (F : Nat → Int) (U : Nat → ByteArray) (f' : Int),
      Hid (∀ (a1 b1 : Option Addr) (c1 d1 : Nat) (w : World), RdRow w a1 n (fun i => .int .i64 (nx i)) → RdRow w b1 m (fun i => .string (dt i)) → Calls Try.prog 24 #[.agg #[.slice a1 n c1, .slice b1 m d1, .int .i64 fr], .int .i64 hd0] w fun e w' => (∃ v1 v2, e = .returned (.tuple #[.agg #[v1, v2, .int .i64 f'], .bool ok]) ∧ VRow 2 w' w.heap.size v1 k (fun i => .int .i64 (F i)) ∧ VRow 9 w' w.heap.size v2 k (fun i => .string (U i))) ∧ Below w.heap.size w w') ∧
      Hid (∀ (a1 b1 : Option Addr) (c1 d1 : Nat) (w : World), RdRow w a1 n (fun i => .int .i64 (nx i)) → RdRow w b1 m (fun i => .string (dt i)) → Calls Try.prog 25 #[.agg #[.slice a1 n c1, .slice b1 m d1, .int .i64 fr], .int .i64 hd0] w fun e w' => (∃ v1 v2, e = .returned (.tuple #[.agg #[v1, v2, .int .i64 f'], .bool ok]) ∧ VRow 2 w' w.heap.size v1 k (fun i => .int .i64 (F i)) ∧ VRow 9 w' w.heap.size v2 k (fun i => .string (U i))) ∧ Below w.heap.size w w') ∧ k ≤ n :=
    ⟨gK ok n, gNx nx (freeL ok n nx hd0) fr, gDt dt (freeL ok n nx hd0), gFr ok hd0, fun a1 b1 c1 d1 w q1 q2 => sGiven_any a1 b1 n m c1 d1 fr hd0 nx dt w hn' hm' HD.out q1 q2 ok HOK.out, fun a1 b1 c1 d1 w q1 q2 => iGiven_any a1 b1 n m c1 d1 fr hd0 nx dt w hn' hm' HD.out q1 q2 ok HOK.out, by unfold gK; split <;> omega⟩
  go_wp2_with fail
  refine (HC1.out _ _ n m _ rN.read rD.read).mono ?_
  rintro e w3 ⟨⟨s1, s2, rfl, vS1, vS2⟩, hb3⟩
  have z2 := upper hB
  replace hB := next hB hb3
  replace cb := boxed hB
  clear hb3 rN rD hN hD hND
  obtain ⟨q1, x1, rfl⟩ := vS1.form
  obtain ⟨q2, x2, rfl⟩ := vS2.form
  have HL3 : Hid (∀ g ∈ bl (.slice q1 k x1) ++ bl (.slice q2 k x2), g < w3.heap.size) := fun g hg => by
    rcases List.mem_append.1 hg with h | h
    · exact (vS1.lt g h).1
    · exact (vS2.lt g h).1
  have hX : Below w3.heap.size w3 (w3.alloc (.cells #[.slice q1 k x1, .slice q2 k x2, .int .i64 f'] 28)) := (Below.refl _ _).alloc (Nat.le_refl _) _
  have kW := blk_new w3 (.cells #[.slice q1 k x1, .slice q2 k x2, .int .i64 f'] 28)
  have eX : (w3.alloc (.cells #[.slice q1 k x1, .slice q2 k x2, .int .i64 f'] 28)).heap.size = w3.heap.size + 1 := by simp
  replace vS1 := vS1.up hX
  replace vS2 := vS2.up hX
  replace hB := next hB hX
  replace cb := boxed hB
  have cW := blk_cell kW
  clear hX
  go_wp2_with fail
  generalize w3.alloc (.cells #[.slice q1 k x1, .slice q2 k x2, .int .i64 f'] 28) = wW at *
  have z3 := upper hB
  have eW := eX
  clear eX
  refine (toArena_any a b n m c d fr nx dt _ hn' hm' (H1.out.up (under hB)) (H2.out.up (under hB))).mono ?_
  rintro e w4 ⟨gN4, gD4, rfl, hN4, hD4, hND4, rN4, rD4, hb4⟩
  replace vS1 := vS1.up hb4
  replace vS2 := vS2.up hb4
  replace kW := (hb4.block _ (blk_lt kW)).trans kW
  replace cW := blk_cell kW
  replace hB := next hB hb4
  replace cb := boxed hB
  have z4 := hb4.size
  clear hb4
  have l4N := rN4.lt
  have l4D := rD4.lt
  have vN := VRow.of (cap := n) rN4 hN4
  have vD := VRow.of (cap := m) rD4 hD4
  clear rN4 rD4
  have hX : Below w4.heap.size w4 (w4.alloc (.cells #[.slice (some ⟨gN4, 0, none⟩) n n, .slice (some ⟨gD4, 0, none⟩) m m, .int .i64 fr] 28)) := (Below.refl _ _).alloc (Nat.le_refl _) _
  have kX := blk_new w4 (.cells #[.slice (some ⟨gN4, 0, none⟩) n n, .slice (some ⟨gD4, 0, none⟩) m m, .int .i64 fr] 28)
  have eX : (w4.alloc (.cells #[.slice (some ⟨gN4, 0, none⟩) n n, .slice (some ⟨gD4, 0, none⟩) m m, .int .i64 fr] 28)).heap.size = w4.heap.size + 1 := by simp
  replace vS1 := vS1.up hX
  replace vS2 := vS2.up hX
  replace vN := vN.up hX
  replace vD := vD.up hX
  replace kW := (hX.block _ (blk_lt kW)).trans kW
  replace cW := blk_cell kW
  replace hB := next hB hX
  replace cb := boxed hB
  have cX := blk_cell kX
  clear hX
  go_wp2_with fail
  generalize w4.alloc (.cells #[.slice (some ⟨gN4, 0, none⟩) n n, .slice (some ⟨gD4, 0, none⟩) m m, .int .i64 fr] 28) = wX at *
  have eXX := eX
  clear eX
  obtain ⟨aN, capN, eN, qN⟩ := vN.read
  obtain ⟨aD, capD, eD, qD⟩ := vD.read
  cases eN
  cases eD
  refine (HC2.out _ _ n m _ qN qD).mono ?_
  clear qN qD
  rintro e w5 ⟨⟨g1, g2, rfl, vG1, vG2⟩, hb5⟩
  replace vS1 := vS1.up hb5
  replace vS2 := vS2.up hb5
  replace vN := vN.up hb5
  replace vD := vD.up hb5
  replace kW := (hb5.block _ (blk_lt kW)).trans kW
  replace cW := blk_cell kW
  replace kX := (hb5.block _ (blk_lt kX)).trans kX
  replace cX := blk_cell kX
  replace hB := next hB hb5
  replace cb := boxed hB
  have z5 := hb5.size
  clear hb5
  obtain ⟨q3, x3, rfl⟩ := vG1.form
  obtain ⟨q4, x4, rfl⟩ := vG2.form
  have HL5 : Hid (∀ g ∈ bl (.slice q3 k x3) ++ bl (.slice q4 k x4), wX.heap.size ≤ g ∧ g < w5.heap.size) := fun g hg => by
    rcases List.mem_append.1 hg with h | h
    · exact ⟨(vG1.lt g h).2, (vG1.lt g h).1⟩
    · exact ⟨(vG2.lt g h).2, (vG2.lt g h).1⟩
  have hX : Below w5.heap.size w5 (w5.alloc (.cells #[.slice q3 k x3, .slice q4 k x4, .int .i64 f'] 28)) := (Below.refl _ _).alloc (Nat.le_refl _) _
  have kG := blk_new w5 (.cells #[.slice q3 k x3, .slice q4 k x4, .int .i64 f'] 28)
  have eX : (w5.alloc (.cells #[.slice q3 k x3, .slice q4 k x4, .int .i64 f'] 28)).heap.size = w5.heap.size + 1 := by simp
  replace vS1 := vS1.up hX
  replace vS2 := vS2.up hX
  replace vN := vN.up hX
  replace vD := vD.up hX
  replace vG1 := vG1.up hX
  replace vG2 := vG2.up hX
  replace kW := (hX.block _ (blk_lt kW)).trans kW
  replace cW := blk_cell kW
  replace kX := (hX.block _ (blk_lt kX)).trans kX
  replace cX := blk_cell kX
  replace hB := next hB hX
  replace cb := boxed hB
  have cG := blk_cell kG
  clear hX
  go_wp2_with fail
  generalize w5.alloc (.cells #[.slice q3 k x3, .slice q4 k x4, .int .i64 f'] 28) = wG at *
  have eG := eX
  clear eX
  refine (eqA_any _ _ _ _ _ _ _ _ k f' F U _ (by omega) vG1 vG2 vS1 vS2).mono ?_
  rintro e w6 ⟨rfl, hb⟩
  replace vS1 := vS1.up hb
  replace vS2 := vS2.up hb
  replace vN := vN.up hb
  replace vD := vD.up hb
  replace vG1 := vG1.up hb
  replace vG2 := vG2.up hb
  replace kW := (hb.block _ (blk_lt kW)).trans kW
  replace cW := blk_cell kW
  replace kX := (hb.block _ (blk_lt kX)).trans kX
  replace cX := blk_cell kX
  replace kG := (hb.block _ (blk_lt kG)).trans kG
  replace cG := blk_cell kG
  replace hB := next hB hb
  replace cb := boxed hB
  clear hb
  go_wp2_with fail
  refine wp_region_held_drew (S := fun w' => (∀ o, w'.cell? ⟨w.heap.size, o, none⟩ = (#[.slice a n c, .slice b m d, .int .i64 fr] : Array Value)[o]?) ∧ ∀ o, w'.cell? ⟨w4.heap.size, o, none⟩ = (#[.slice (some ⟨gN4, 0, none⟩) n n, .slice (some ⟨gD4, 0, none⟩) m m, .int .i64 fr] : Array Value)[o]?) (by kernel_rfl) ⟨cb, cX⟩ (fun hHeld => ?_)
  refine wpAnyH_take (i := 0) (v := ?_) rfl (by kernel_rfl) (by kernel_rfl) (by kernel_rfl) (fun _ _ _ h => h) (Or.inl ⟨by rfl, ?_⟩) (by assumption) ?_
  rotate_left
  · intro wx hSw
    obtain ⟨hS1, hS2⟩ := hSw
    go_simp
    try (with_reducible rfl)
  try simp only [Act.put, List.setIfInBounds_toArray, List.set_cons_zero, List.set_cons_succ]
  refine wpAnyH_take (i := 1) (v := ?_) rfl (by kernel_rfl) (by kernel_rfl) (by kernel_rfl) (fun _ _ _ h => h) (Or.inl ⟨by rfl, ?_⟩) (by assumption) ?_
  rotate_left
  · intro wx hSw
    obtain ⟨hS1, hS2⟩ := hSw
    go_simp
    try (with_reducible rfl)
  try simp only [Act.put, List.setIfInBounds_toArray, List.set_cons_zero, List.set_cons_succ]
  refine wpAnyH_ready (rs := [2]) (by kernel_rfl) (by simp) ?_
  refine AllReadyH.cons rfl (fun K hK => ?_) AllReadyH.nil
  go_simp
  have hdr : Below w6.heap.size w6 w6.drew := (Below.refl _ _).drew
  replace vS1 := vS1.up hdr
  replace vS2 := vS2.up hdr
  replace vN := vN.up hdr
  replace vD := vD.up hdr
  replace vG1 := vG1.up hdr
  replace vG2 := vG2.up hdr
  replace kW := (hdr.block _ (blk_lt kW)).trans kW
  replace cW := blk_cell kW
  replace kX := (hdr.block _ (blk_lt kX)).trans kX
  replace cX := blk_cell kX
  replace kG := (hdr.block _ (blk_lt kG)).trans kG
  replace cG := blk_cell kG
  replace hB := next hB hdr
  replace cb := boxed hB
  clear hdr
  refine (toArena_any a b n m c d fr nx dt _ hn' hm' (H1.out.up (under hB)) (H2.out.up (under hB))).mono ?_
  rintro e w7 ⟨gN6, gD6, rfl, hN6, hD6, hND6, rN6, rD6, hb⟩
  replace vS1 := vS1.up hb
  replace vS2 := vS2.up hb
  replace vN := vN.up hb
  replace vD := vD.up hb
  replace vG1 := vG1.up hb
  replace vG2 := vG2.up hb
  replace kW := (hb.block _ (blk_lt kW)).trans kW
  replace cW := blk_cell kW
  replace kX := (hb.block _ (blk_lt kX)).trans kX
  replace cX := blk_cell kX
  replace kG := (hb.block _ (blk_lt kG)).trans kG
  replace cG := blk_cell kG
  replace hB := next hB hb
  replace cb := boxed hB
  clear hb hHeld
  go_wp2_with fail
  refine hK.out _ _ ⟨cb, cX⟩ (fun hHeld => ?_)
  clear hK K
  try simp only [Act.put, List.setIfInBounds_toArray, List.set_cons_zero, List.set_cons_succ]
  refine wpAnyH_ready (rs := [3]) (by kernel_rfl) (by simp) ?_
  refine AllReadyH.cons rfl (fun K hK => ?_) AllReadyH.nil
  go_simp
  obtain ⟨aN, capN, eN, qN⟩ := vN.read
  obtain ⟨aD, capD, eD, qD⟩ := vD.read
  cases eN
  cases eD
  refine (eqArena2_any _ _ _ _ n m n n m m fr nx dt _ hn' hm' qN rN6.read qD rD6.read).mono ?_
  rintro e w8 ⟨rfl, hb⟩
  replace vS1 := vS1.up hb
  replace vS2 := vS2.up hb
  replace vN := vN.up hb
  replace vD := vD.up hb
  replace vG1 := vG1.up hb
  replace vG2 := vG2.up hb
  replace kW := (hb.block _ (blk_lt kW)).trans kW
  replace cW := blk_cell kW
  replace kX := (hb.block _ (blk_lt kX)).trans kX
  replace cX := blk_cell kX
  replace kG := (hb.block _ (blk_lt kG)).trans kG
  replace cG := blk_cell kG
  replace hB := next hB hb
  replace cb := boxed hB
  clear hb hHeld qN qD rN6 rD6 hN6 hD6 hND6
  go_wp2_with fail
  refine hK.out _ _ ⟨cb, cX⟩ (fun hHeld => ?_)
  clear hK K
  try simp only [Act.put, List.setIfInBounds_toArray, List.set_cons_zero, List.set_cons_succ]
  refine wpAnyH_ready (rs := [4]) (by kernel_rfl) (by simp) ?_
  refine AllReadyH.cons rfl (fun K hK => ?_) AllReadyH.nil
  go_simp
  refine hK.out _ _ ⟨cb, cX⟩ (fun hHeld => ?_)
  clear hK K
  try simp only [Act.put, List.setIfInBounds_toArray, List.set_cons_zero, List.set_cons_succ]
  refine wpAnyH_done (by kernel_rfl) ?_ _
  clear hHeld
  go_wp2_with fail
  refine (markA_any _ _ _ _ n m 1 fr _ _ _ hn' hm' (by omega) vN vD).mono ?_
  rintro e w9 ⟨rfl, vN9, vD9, hT⟩
  have hTB : Below (w.heap.size + 1) w8 w9 := hT.below (by have := upper hB; omega) (by simp [bl]; omega)
  replace vS1 := vS1.touch hT (fun g hg hm => by have := HL3.out g (List.mem_append_left _ hg); simp [bl] at hm; omega)
  replace vS2 := vS2.touch hT (fun g hg hm => by have := HL3.out g (List.mem_append_right _ hg); simp [bl] at hm; omega)
  replace vG1 := vG1.touch hT (fun g hg hm => by have := HL5.out g (List.mem_append_left _ hg); simp [bl] at hm; omega)
  replace vG2 := vG2.touch hT (fun g hg hm => by have := HL5.out g (List.mem_append_right _ hg); simp [bl] at hm; omega)
  replace kW := (hT.block _ (blk_lt kW) (by simp [bl]; omega)).trans kW
  replace kG := (hT.block _ (blk_lt kG) (by simp [bl]; omega)).trans kG
  replace cW := blk_cell kW
  replace cG := blk_cell kG
  replace hB := hB.trans hTB
  replace cb := boxed hB
  clear hT hTB vN9 vD9 vN vD kX cX
  have hk0 : ¬ ((1 + n + m : Nat) : Int) < 0 := by omega
  have hk1 : (0 : Int) ≤ 1 + (n : Int) + m := by omega
  go_wp2_with fail
  refine (eqA_any _ _ _ _ _ _ _ _ k f' F U _ (by omega) vG1 vG2 vS1 vS2).mono ?_
  rintro e wA ⟨rfl, hb⟩
  replace vS1 := vS1.up hb
  replace vS2 := vS2.up hb
  replace vG1 := vG1.up hb
  replace vG2 := vG2.up hb
  replace kW := (hb.block _ (blk_lt kW)).trans kW
  replace cW := blk_cell kW
  replace kG := (hb.block _ (blk_lt kG)).trans kG
  replace cG := blk_cell kG
  replace hB := next hB hb
  replace cb := boxed hB
  clear hb
  go_wp2_with fail
  refine (markA_any _ _ _ _ k k 1 f' _ _ _ (by omega) (by omega) (by omega) vG1 vG2).mono ?_
  rintro e wB ⟨rfl, vM1, vM2, hT⟩
  have hTB : Below (w.heap.size + 1) wA wB := hT.below (by have := upper hB; omega) (fun g hg => by have := HL5.out g hg; omega)
  replace vS1 := vS1.touch hT (fun g hg hm => by have := HL3.out g (List.mem_append_left _ hg); have := HL5.out g hm; omega)
  replace vS2 := vS2.touch hT (fun g hg hm => by have := HL3.out g (List.mem_append_right _ hg); have := HL5.out g hm; omega)
  replace kW := (hT.block _ (blk_lt kW) (fun hm => by have := HL5.out _ hm; omega)).trans kW
  replace kG := (hT.block _ (blk_lt kG) (fun hm => by have := HL5.out _ hm; omega)).trans kG
  replace cW := blk_cell kW
  replace cG := blk_cell kG
  replace hB := hB.trans hTB
  replace cb := boxed hB
  clear hT hTB vG1 vG2
  go_wp2_with fail
  refine (heldA_any _ _ _ _ k k 1 f' _ (by omega) (by omega) (by omega) vM1 vM2).mono ?_
  rintro e wC ⟨rfl, hb⟩
  replace vS1 := vS1.up hb
  replace vS2 := vS2.up hb
  replace vM1 := vM1.up hb
  replace vM2 := vM2.up hb
  replace kW := (hb.block _ (blk_lt kW)).trans kW
  replace cW := blk_cell kW
  replace kG := (hb.block _ (blk_lt kG)).trans kG
  replace cG := blk_cell kG
  replace hB := next hB hb
  replace cb := boxed hB
  clear hb
  have hq0 : ¬ ((1 + k + k : Nat) : Int) < 0 := by omega
  have hq1 : (0 : Int) ≤ 1 + (k : Int) + k := by omega
  go_wp2_with fail
  refine (toArena_any a b n m c d fr nx dt _ hn' hm' (H1.out.up (under hB)) (H2.out.up (under hB))).mono ?_
  rintro e wD ⟨gN9, gD9, rfl, hN9, hD9, hND9, rN9, rD9, hb⟩
  replace vS1 := vS1.up hb
  replace vS2 := vS2.up hb
  replace vM1 := vM1.up hb
  replace vM2 := vM2.up hb
  replace kW := (hb.block _ (blk_lt kW)).trans kW
  replace cW := blk_cell kW
  replace kG := (hb.block _ (blk_lt kG)).trans kG
  replace cG := blk_cell kG
  replace hB := next hB hb
  replace cb := boxed hB
  clear hb
  go_wp2_with fail
  refine (HC2.out _ _ n m _ rN9.read rD9.read).mono ?_
  rintro e wE ⟨⟨h1, h2, rfl, vH1, vH2⟩, hb⟩
  replace vS1 := vS1.up hb
  replace vS2 := vS2.up hb
  replace vM1 := vM1.up hb
  replace vM2 := vM2.up hb
  replace kW := (hb.block _ (blk_lt kW)).trans kW
  replace cW := blk_cell kW
  replace kG := (hb.block _ (blk_lt kG)).trans kG
  replace cG := blk_cell kG
  replace hB := next hB hb
  replace cb := boxed hB
  clear hb rN9 rD9
  obtain ⟨q5, x5, rfl⟩ := vH1.form
  obtain ⟨q6, x6, rfl⟩ := vH2.form
  have hX : Below wE.heap.size wE (wE.alloc (.cells #[.slice q5 k x5, .slice q6 k x6, .int .i64 f'] 28)) := (Below.refl _ _).alloc (Nat.le_refl _) _
  have kH := blk_new wE (.cells #[.slice q5 k x5, .slice q6 k x6, .int .i64 f'] 28)
  have eX : (wE.alloc (.cells #[.slice q5 k x5, .slice q6 k x6, .int .i64 f'] 28)).heap.size = wE.heap.size + 1 := by simp
  replace vS1 := vS1.up hX
  replace vS2 := vS2.up hX
  replace vM1 := vM1.up hX
  replace vM2 := vM2.up hX
  replace vH1 := vH1.up hX
  replace vH2 := vH2.up hX
  replace kW := (hX.block _ (blk_lt kW)).trans kW
  replace cW := blk_cell kW
  replace kG := (hX.block _ (blk_lt kG)).trans kG
  replace cG := blk_cell kG
  replace hB := next hB hX
  replace cb := boxed hB
  have cH := blk_cell kH
  clear hX
  go_wp2_with fail
  generalize wE.alloc (.cells #[.slice q5 k x5, .slice q6 k x6, .int .i64 f'] 28) = wH at *
  clear eX
  refine (eqA_any _ _ _ _ _ _ _ _ k f' F U _ (by omega) vH1 vH2 vS1 vS2).mono ?_
  rintro e wI ⟨rfl, hb⟩
  replace vS1 := vS1.up hb
  replace vS2 := vS2.up hb
  replace vM1 := vM1.up hb
  replace vM2 := vM2.up hb
  replace vH1 := vH1.up hb
  replace vH2 := vH2.up hb
  replace kW := (hb.block _ (blk_lt kW)).trans kW
  replace cW := blk_cell kW
  replace kG := (hb.block _ (blk_lt kG)).trans kG
  replace cG := blk_cell kG
  replace kH := (hb.block _ (blk_lt kH)).trans kH
  replace cH := blk_cell kH
  replace hB := next hB hb
  replace cb := boxed hB
  clear hb
  go_wp2_with fail
  refine (heldA_any _ _ _ _ k k 1 f' _ (by omega) (by omega) (by omega) vM1 vM2).mono ?_
  rintro e wJ ⟨rfl, hb⟩
  replace vS1 := vS1.up hb
  replace vS2 := vS2.up hb
  replace vM1 := vM1.up hb
  replace vM2 := vM2.up hb
  replace vH1 := vH1.up hb
  replace vH2 := vH2.up hb
  replace kW := (hb.block _ (blk_lt kW)).trans kW
  replace cW := blk_cell kW
  replace kG := (hb.block _ (blk_lt kG)).trans kG
  replace cG := blk_cell kG
  replace kH := (hb.block _ (blk_lt kH)).trans kH
  replace cH := blk_cell kH
  replace hB := next hB hb
  replace cb := boxed hB
  clear hb
  have BF := under hB
  go_wp2_with fail
  go_ret
  exact ⟨rfl, BF⟩
end Go.Proofs.Ytjliapdfjjblnaa
