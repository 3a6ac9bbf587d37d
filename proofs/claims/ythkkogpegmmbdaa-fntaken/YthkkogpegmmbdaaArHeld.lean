/- The bytes of a chain: both sides' contracts. -/
import Derived.Test.YthkkogpegmmbdaaArChain
import Derived.Test.YthkkogpegmmbdaaBld
namespace Go.Proofs.Ythkkogpegmmbdaa
open Go.RowKit
set_option linter.unusedVariables false
set_option linter.unusedSimpArgs false

/-- the bytes of the cells of a list -/
def catB (dt : Nat → ByteArray) (L : List Int) : List UInt8 := L.flatMap fun i => (dt i.toNat).data.toList
def catT (dt : Nat → ByteArray) (L : List Int) : ByteArray := ⟨(catB dt L).toArray⟩
theorem catB_snoc (dt : Nat → ByteArray) (L : List Int) (j : Nat) (h : j < L.length) : catB dt (L.take (j + 1)) = catB dt (L.take j) ++ (dt (L[j]).toNat).data.toList := by
  unfold catB
  rw [List.take_succ_eq_append_getElem h, List.flatMap_append]
  simp
theorem catT_snoc (dt : Nat → ByteArray) (L : List Int) (j : Nat) (h : j < L.length) : catT dt (L.take (j + 1)) = catT dt (L.take j) ++ dt (L[j]).toNat := by
  unfold catT
  rw [catB_snoc dt L j h]
  apply ByteArray.ext
  rw [ByteArray.data_append]
  simp
theorem catB_len (dt : Nat → ByteArray) (L : List Int) (h : ∀ x ∈ L, (dt x.toNat).size ≤ 10) : (catB dt L).length ≤ 10 * L.length := by
  induction L with
  | nil => simp [catB]
  | cons x L ih =>
    have h1 := ih (fun y hy => h y (List.mem_cons_of_mem _ hy))
    have h2 := h x (List.mem_cons_self)
    have e : (dt x.toNat).data.toList.length = (dt x.toNat).size := Array.length_toList
    have e2 : catB dt (x :: L) = (dt x.toNat).data.toList ++ catB dt L := by simp [catB]
    rw [e2, List.length_append, e, List.length_cons]
    omega
theorem strCells_byte (s : ByteArray) : Lib.strCells s = Lib.byteCells s.data.toList := rfl
theorem byteCells_app (a b : List UInt8) : Lib.byteCells (a ++ b) = Lib.byteCells a ++ Lib.byteCells b := by simp [Lib.byteCells]

set_option maxHeartbeats 1000000 in
theorem iHeld_any (a1 b1 : Option Addr) (n m c1 d1 : Nat) (fr h : Int) (nx : Nat → Int) (dt : Nat → ByteArray) (w : World) (hn : n ≤ 1048576) (hm : m ≤ 1048576) (hd : ∀ i, i < m → (dt i).size ≤ maxLen) (h1 : RdRow w a1 n fun i => .int .i64 (nx i)) (h2 : RdRow w b1 m fun i => .string (dt i)) (b : Bool) (hb : b = true ↔ chainP n m nx dt fr h) :
    Calls Try.prog 14 #[.agg #[.slice a1 n c1, .slice b1 m d1, .int .i64 fr], .int .i64 h] w fun e w' => e = .returned (.tuple #[.string (catT dt (freeL b n nx h)), .bool b]) ∧ Below w.heap.size w w' := by
  have HA : Hid (∀ o, Below w.heap.size w (w.alloc o)) := fun o => (Below.refl _ _).alloc (Nat.le_refl _) _
  have HB : Hid (b = true ↔ chainP n m nx dt fr h) := hb
  have H2 : Hid (RdRow w b1 m fun i => .string (dt i)) := h2
  go_enter Try.func14, Try.ntmps14
  go_wp2_with fail
  refine (iChain_any a1 b1 n m c1 d1 fr h nx dt _ hn hm hd (h1.up (HA.out _)) (h2.up (HA.out _)) b hb).mono ?_
  rintro e w1 ⟨⟨v, rfl, hV⟩, hb1⟩
  clear h1 h2 hd hb
  obtain ⟨a, cap, rfl, hrd⟩ := hV.read
  have hB := first hb1
  clear hb1 hV
  cases b
  · have B1 := under hB
    go_wp2_with fail
    exact bodyPost_ret (v := .tuple #[.string ⟨#[]⟩, .bool false]) (by simp [results, Try.results14, go_sem]) rfl ⟨rfl, B1⟩
  · have cb := boxed hB
    obtain ⟨hO, hH⟩ := HB.out.1 rfl
    obtain ⟨l1, l2, rfl, hr, r0, r1, hG, hE⟩ := okP_parts hO
    have HIN : Hid (∀ x ∈ freeL true m nx h, 0 ≤ x ∧ x < m) := walkL_in hr m h (by have := hH.1; omega) hH.2.1
    have HSZ : Hid (∀ i, i < m → (dt i).size ≤ 10) := fun i hi => (hO.2.2.2.2.2 i hi).2
    have hLn := freeL_len true m nx h
    clear hO hH hr hE hG
    generalize hL : freeL true m nx h = L at *
    have HLE : Hid (freeL true m nx h = L) := hL
    clear hL
    go_wp2_with fail
    have e1 : ∀ o, (w1.alloc o).heap.size = w1.heap.size + 1 := by intro o; simp
    go_loopw [21] (fun i wr => ∃ j : Nat, j ≤ L.length ∧ i = .int .i64 j ∧ Lib.IsBuilder 64 5 w1.heap.size w1.heap.size (Lib.byteCells (catB dt (L.take j))) wr ∧ Below w1.heap.size w1 wr) (fun i _ => L.length - (intOf i).toNat)
    case atStart => exact ⟨0, Nat.zero_le _, rfl, Lib.fresh_isBuilder 64 5 w1, (Below.refl _ _).alloc (Nat.le_refl _) _⟩
    case round =>
      obtain ⟨j, hj, rfl, hI, hBr⟩ := hrel
      have hBn := next hB hBr
      have cbn := boxed hBn
      have zr := hBr.size
      by_cases hlt : j < L.length
      · have hlt' : (j : Int) < L.length := by omega
        obtain ⟨g, o, rfl, p1⟩ := hrd.up hBr j hlt
        obtain ⟨x0, x1⟩ := HIN.out L[j] (List.getElem_mem hlt)
        have HT1 : Hid (catB dt (L.take (j + 1)) = catB dt (L.take j) ++ (dt (L[j]).toNat).data.toList) := catB_snoc dt L j hlt
        have HL : Hid ((catB dt (L.take j)).length ≤ 600) := by
          have := catB_len dt (L.take j) (fun x hx => HSZ.out _ (by have := HIN.out x (List.mem_of_mem_take hx); omega))
          rw [List.length_take] at this
          show _ ≤ _
          omega
        have p1' : wr.cell? ⟨g, o + j, none⟩ = some (.int .i64 L[j]) := by
          rw [p1]; simp [intsOf, List.getD_eq_getElem?_getD, List.getElem?_eq_getElem hlt]
        clear p1 hrd
        generalize L[j] = x at *
        obtain ⟨q, rfl⟩ := Int.eq_ofNat_of_zero_le x0
        have hq : q < m := by omega
        obtain ⟨g2, o2, rfl, p2⟩ := H2.out.up (under hBn) q hq
        have s10 := HSZ.out q hq
        dsimp only at p2
        go_wp2_with fail
        refine (bldWrite_any w1.heap.size w1.heap.size _ (dt q) _ hI (by have := HL.out; simp [Lib.byteCells]; omega) (by omega)).mono ?_
        rintro e w2 ⟨rfl, hI2, hb2⟩
        have hI3 : Lib.IsBuilder 64 5 w1.heap.size w1.heap.size (Lib.byteCells (catB dt (L.take (j + 1)))) w2 := by
          rw [HT1.out, byteCells_app]
          exact .inr hI2
        have hBr2 := hBr.trans hb2
        clear hI hI2 hb2 hBr
        go_wp2_with fail
        go_roundw
        case rel => exact ⟨j + 1, by omega, by go_num, hI3, hBr2⟩
        case measure => simp [intOf]; omega
      · obtain rfl : j = L.length := by omega
        rw [List.take_length] at hI
        clear hrd
        go_wp2_with fail
        refine (bldString_any w1.heap.size w1.heap.size _ _ hI (by omega)).mono ?_
        rintro e w2 ⟨rfl, hb2⟩
        have B2 := under (next hB (hBr.trans hb2))
        clear hb2 hBr hI
        go_wp2_with fail
        exact bodyPost_ret (v := .tuple #[.string (catT dt L), .bool true]) (by simp [results, Try.results14, go_sem, catT]) rfl ⟨by rw [HLE.out], B2⟩

set_option maxHeartbeats 1000000 in
theorem sHeld_any (a1 b1 : Option Addr) (n m c1 d1 : Nat) (fr h : Int) (nx : Nat → Int) (dt : Nat → ByteArray) (w : World) (hn : n ≤ 1048576) (hm : m ≤ 1048576) (hd : ∀ i, i < m → (dt i).size ≤ maxLen) (h1 : RdRow w a1 n fun i => .int .i64 (nx i)) (h2 : RdRow w b1 m fun i => .string (dt i)) (b : Bool) (hb : b = true ↔ chainP n m nx dt fr h) :
    Calls Try.prog 20 #[.agg #[.slice a1 n c1, .slice b1 m d1, .int .i64 fr], .int .i64 h] w fun e w' => e = .returned (.tuple #[.string (catT dt (freeL b n nx h)), .bool b]) ∧ Below w.heap.size w w' := by
  have HA : Hid (∀ o, Below w.heap.size w (w.alloc o)) := fun o => (Below.refl _ _).alloc (Nat.le_refl _) _
  have HB : Hid (b = true ↔ chainP n m nx dt fr h) := hb
  have H2 : Hid (RdRow w b1 m fun i => .string (dt i)) := h2
  go_enter Try.func20, Try.ntmps20
  go_wp2_with fail
  refine (sChain_any a1 b1 n m c1 d1 fr h nx dt _ hn hm hd (h1.up (HA.out _)) (h2.up (HA.out _)) b hb).mono ?_
  rintro e w1 ⟨⟨v, rfl, hV⟩, hb1⟩
  clear h1 h2 hd hb
  obtain ⟨a, cap, rfl, hrd⟩ := hV.read
  have hB := first hb1
  clear hb1 hV
  cases b
  · have B1 := under hB
    go_wp2_with fail
    exact bodyPost_ret (v := .tuple #[.string ⟨#[]⟩, .bool false]) (by simp [results, Try.results20, go_sem]) rfl ⟨rfl, B1⟩
  · have cb := boxed hB
    obtain ⟨hO, hH⟩ := HB.out.1 rfl
    obtain ⟨l1, l2, rfl, hr, r0, r1, hG, hE⟩ := okP_parts hO
    have HIN : Hid (∀ x ∈ freeL true m nx h, 0 ≤ x ∧ x < m) := walkL_in hr m h (by have := hH.1; omega) hH.2.1
    have HSZ : Hid (∀ i, i < m → (dt i).size ≤ 10) := fun i hi => (hO.2.2.2.2.2 i hi).2
    have hLn := freeL_len true m nx h
    have B1 := under hB
    clear hO hH hr hE hG
    generalize hL : freeL true m nx h = L at *
    have HLE : Hid (freeL true m nx h = L) := hL
    clear hL
    go_wp2_with fail
    go_loopw [8, 9] (fun t i wr => ∃ j : Nat, j ≤ L.length ∧ i = .int .i64 j ∧ t = .string (catT dt (L.take j)) ∧ Same w1 wr) (fun _ i _ => L.length - (intOf i).toNat)
    case atStart => exact ⟨0, Nat.zero_le _, rfl, rfl, Same.refl _⟩
    case round =>
      obtain ⟨j, hj, rfl, rfl, hS⟩ := hrel
      have cbn := fun o => (hS.cell ⟨w.heap.size, o, none⟩).trans (cb o)
      by_cases hlt : j < L.length
      · have hlt' : (j : Int) < L.length := by omega
        obtain ⟨g, o, rfl, p1⟩ := hrd j hlt
        obtain ⟨x0, x1⟩ := HIN.out L[j] (List.getElem_mem hlt)
        have HT1 : Hid (catT dt (L.take (j + 1)) = catT dt (L.take j) ++ dt (L[j]).toNat) := catT_snoc dt L j hlt
        have HL : Hid ((catT dt (L.take j)).size ≤ 600) := by
          have := catB_len dt (L.take j) (fun x hx => HSZ.out _ (by have := HIN.out x (List.mem_of_mem_take hx); omega))
          rw [List.length_take] at this
          have e : (catT dt (L.take j)).size = (catB dt (L.take j)).length := by unfold catT; simp [ByteArray.size]
          show _ ≤ _
          omega
        have p1' : wr.cell? ⟨g, o + j, none⟩ = some (.int .i64 L[j]) := by
          rw [hS.cell, p1]; simp [intsOf, List.getD_eq_getElem?_getD, List.getElem?_eq_getElem hlt]
        clear p1 hrd
        generalize L[j] = x at *
        obtain ⟨q, rfl⟩ := Int.eq_ofNat_of_zero_le x0
        have hq : q < m := by omega
        obtain ⟨g2, o2, rfl, p2⟩ := H2.out.up (B1.trans (hS.below _)) q hq
        have s10 := HSZ.out q hq
        have s600 := HL.out
        dsimp only at p2
        rw [Int.toNat_natCast] at HT1
        generalize catT dt (L.take j) = acc at *
        have hd1 : ¬ (9223372036854775807 < acc.size + (dt q).size) := by omega
        clear cb
        go_wp2_with fail
        go_quiet (fail)
        go_wp2_with fail
        go_roundw
        case rel => exact ⟨j + 1, by omega, by go_num, by rw [HT1.out], hS.drewN _⟩
        case measure => simp [intOf]; omega
      · obtain rfl : j = L.length := by omega
        rw [List.take_length]
        have B2 := B1.trans (hS.below _)
        clear hrd
        go_wp2_with fail
        exact bodyPost_ret (v := .tuple #[.string (catT dt L), .bool true]) (by simp [results, Try.results20, go_sem]) rfl ⟨by rw [HLE.out], B2⟩
end Go.Proofs.Ythkkogpegmmbdaa
