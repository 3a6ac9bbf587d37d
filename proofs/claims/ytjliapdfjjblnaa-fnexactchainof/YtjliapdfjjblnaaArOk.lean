/- Whether an arena is right: the program's contract. -/
import Derived.Test.YtjliapdfjjblnaaArIn
namespace Go.Proofs.Ytjliapdfjjblnaa
open Go.RowKit
set_option linter.unusedVariables false

/-- an arena of n links and m texts is right -/
def okP (n m : Nat) (nx : Nat → Int) (dt : Nat → ByteArray) (fr : Int) : Prop :=
  1 ≤ n ∧ n ≤ 60 ∧ m = n ∧ LinksP (links n nx fr) n ∧ ringsP n nx ∧ dataP n nx (fun i => (dt i).size) fr
theorem rings_at {n : Nat} {nx : Nat → Int} {a : Int} (h : ringsP n nx) (h0 : -1 ≤ a) (h1 : a < n) : goN nx n a = -1 := by
  by_cases e : a = -1
  · rw [e]; exact goN_end nx n
  · obtain ⟨m, rfl⟩ := Int.eq_ofNat_of_zero_le (show 0 ≤ a by omega)
    exact h m (by omega)

theorem iOk_no (a1 b1 : Option Addr) (n m c1 d1 : Nat) (fr : Int) (w : World) (hn : n ≤ 1048576) (hm : m ≤ 1048576) (h : n < 1 ∨ 60 < n ∨ m ≠ n) :
    Calls Try.prog 32 #[.agg #[.slice a1 n c1, .slice b1 m d1, .int .i64 fr]] w fun e w' => e = .returned (.bool false) ∧ Below w.heap.size w w' := by
  by_cases q1 : (n : Int) < 1
  · go_enter Try.func32, Try.ntmps32
    go_wp2_with fail
    go_ret
    exact ⟨rfl, (Below.refl _ _).alloc (Nat.le_refl _) _⟩
  · by_cases q2 : (n : Int) ≤ 60
    · have q3 : ((m : Int) != (n : Int)) = true := by simp; omega
      go_enter Try.func32, Try.ntmps32
      go_wp2_with fail
      go_ret
      exact ⟨rfl, (Below.refl _ _).alloc (Nat.le_refl _) _⟩
    · go_enter Try.func32, Try.ntmps32
      go_wp2_with fail
      go_ret
      exact ⟨rfl, (Below.refl _ _).alloc (Nat.le_refl _) _⟩

set_option maxHeartbeats 1000000 in
theorem iOk_mid (a1 b1 : Option Addr) (n c1 d1 : Nat) (fr : Int) (nx : Nat → Int) (dt : Nat → ByteArray) (w : World) (l1 : 1 ≤ n) (l2 : n ≤ 60) (hd : ∀ i, i < n → (dt i).size ≤ maxLen) (h1 : RdRow w a1 n fun i => .int .i64 (nx i)) (h2 : RdRow w b1 n fun i => .string (dt i)) (b : Bool) (hb : b = true ↔ LinksP (links n nx fr) n ∧ ringsP n nx ∧ dataP n nx (fun i => (dt i).size) fr) :
    Calls Try.prog 32 #[.agg #[.slice a1 n c1, .slice b1 n d1, .int .i64 fr]] w fun e w' => e = .returned (.bool b) ∧ Below w.heap.size w w' := by
  have q1 : ¬ ((n : Int) < 1) := by omega
  have q2 : (n : Int) ≤ 60 := by omega
  have HA : Hid (∀ o, Below w.heap.size w (w.alloc o)) := fun o => (Below.refl _ _).alloc (Nat.le_refl _) _
  have HB : Hid (b = true ↔ LinksP (links n nx fr) n ∧ ringsP n nx ∧ dataP n nx (fun i => (dt i).size) fr) := hb
  clear hb
  have e1 : ∀ o, (w.alloc o).heap.size = w.heap.size + 1 := by intro o; simp
  go_enter Try.func32, Try.ntmps32
  go_wp2_with fail
  refine (cellsIn_any a1 b1 n c1 d1 fr nx dt _ (by omega) (h1.up (HA.out _)) (h2.up (HA.out _))).mono ?_
  rintro e w1 ⟨g, rfl, hg, hC, hb1⟩
  rw [e1] at hg
  have kb := (hb1.block w.heap.size (by rw [e1]; omega)).trans (blk_new w _)
  have B1 : Below w.heap.size w w1 := (HA.out _).trans (hb1.mono (by rw [e1]; omega))
  have cb := blk_cell kb
  have hgl := hC.lt
  have hcc := hC.cells
  clear hb1 h1 h2 hC
  go_wp2_with fail
  by_cases hL : LinksP (links n nx fr) n
  · obtain ⟨hr, r0, r1⟩ := links_range hL
    refine (linksOk_any g n n fr nx dt _ (by omega) hgl hcc true (by simp [hL])).mono ?_
    rintro e w2 ⟨rfl, hb2⟩
    have kb2 := (hb2.block w.heap.size (blk_lt kb)).trans kb
    have cb2 := blk_cell kb2
    have B2 : Below w.heap.size w w2 := B1.trans (hb2.mono B1.size)
    have hcc2 := hcc.up hb2
    have hgl2 : g < w2.heap.size := Nat.lt_of_lt_of_le hgl hb2.size
    clear hb2 hcc hgl cb kb B1
    go_wp2_with fail
    by_cases hG : ringsP n nx
    · refine (withoutRing_any g n n nx dt _ (by omega) hcc2 hr true (by simp [hG])).mono ?_
      rintro e w3 ⟨rfl, rfl⟩
      go_wp2_with fail
      have HV : Hid (b = true ↔ dataP n nx (fun i => (dt i).size) fr) := HB.out.trans ⟨fun h => h.2.2, fun h => ⟨hL, hG, h⟩⟩
      refine (dataOk_any g n n fr nx dt _ (by omega) hgl2 hcc2 hd hr r0 r1 (rings_at hG r0 r1) b HV.out).mono ?_
      rintro e w4 ⟨rfl, hb4⟩
      have B4 : Below w.heap.size w w4 := B2.trans (hb4.mono B2.size)
      clear hb4 B2 hcc2
      go_wp2_with fail
      go_ret
      exact ⟨rfl, B4⟩
    · have HF : Hid (b = false) := by
        cases b
        · exact rfl
        · exact absurd (HB.out.1 rfl).2.1 hG
      refine (withoutRing_any g n n nx dt _ (by omega) hcc2 hr false (by simp [hG])).mono ?_
      rintro e w3 ⟨rfl, rfl⟩
      go_wp2_with fail
      go_ret
      exact ⟨ret_bool HF.out.symm, B2⟩
  · have HF : Hid (b = false) := by
      cases b
      · exact rfl
      · exact absurd (HB.out.1 rfl).1 hL
    refine (linksOk_any g n n fr nx dt _ (by omega) hgl hcc false (by simp [hL])).mono ?_
    rintro e w2 ⟨rfl, hb2⟩
    have B2 : Below w.heap.size w w2 := B1.trans (hb2.mono B1.size)
    clear hb2 hcc cb kb B1
    go_wp2_with fail
    go_ret
    exact ⟨ret_bool HF.out.symm, B2⟩

theorem iOk_any (a1 b1 : Option Addr) (n m c1 d1 : Nat) (fr : Int) (nx : Nat → Int) (dt : Nat → ByteArray) (w : World) (hn : n ≤ 1048576) (hm : m ≤ 1048576) (hd : ∀ i, i < m → (dt i).size ≤ maxLen) (h1 : RdRow w a1 n fun i => .int .i64 (nx i)) (h2 : RdRow w b1 m fun i => .string (dt i)) (b : Bool) (hb : b = true ↔ okP n m nx dt fr) :
    Calls Try.prog 32 #[.agg #[.slice a1 n c1, .slice b1 m d1, .int .i64 fr]] w fun e w' => e = .returned (.bool b) ∧ Below w.heap.size w w' := by
  by_cases h : n < 1 ∨ 60 < n ∨ m ≠ n
  · have hf : b = false := by
      cases b
      · rfl
      · have := hb.1 rfl
        unfold okP at this
        omega
    subst hf
    exact iOk_no a1 b1 n m c1 d1 fr w hn hm h
  · obtain rfl : m = n := by omega
    exact iOk_mid a1 b1 m c1 d1 fr nx dt w (by omega) (by omega) hd h1 h2 b (hb.trans ⟨fun h => h.2.2.2, fun h => ⟨by omega, by omega, rfl, h⟩⟩)
end Go.Proofs.Ytjliapdfjjblnaa
