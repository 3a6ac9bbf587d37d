/- The bytes of a frame: the program's side. -/
import Derived.Test.YtapabolgfcocfaaText
namespace Go.Proofs.Ytapabolgfcocfaa
open Go.RowKit
set_option linter.unusedVariables false

theorem cells_at {w : World} {g : Nat} {l : List UInt8} (h : ∀ i, i < l.length → w.cell? ⟨g, i, none⟩ = (cellsB l)[i]?) : ∀ i (hi : i < l.length), w.cell? ⟨g, 0 + i, none⟩ = some (.int .u8 (l[i].toNat)) := by
  intro i hi
  rw [Nat.zero_add, h i hi]
  simp [cellsB, hi]
theorem one_cells (l : List UInt8) : ∀ u ∈ cellsB l, u.oneCell' = true := by
  intro u hu
  obtain ⟨_, _, rfl⟩ := List.mem_map.1 hu
  rfl

theorem news_new (w : World) (l : List Value) (t : TypeId) : ∀ j u, l[j]? = some u → (w.alloc (.cells l.toArray t)).cell? ((⟨w.heap.size, 0, none⟩ : Addr).add j) = some u := by
  intro j u h
  have e : (⟨w.heap.size, 0, none⟩ : Addr).add j = ⟨w.heap.size, j, none⟩ := by unfold Addr.add; split <;> simp_all
  rw [e, World.cell?_alloc_mark w l.toArray t (0, 0) j]
  simpa using h
theorem sumOf_at (b cap n : Nat) (l : List UInt8) (w : World) (hb : b < w.heap.size) (hl : l.length ≤ 100) (hcell : ∀ i, i < l.length → w.cell? ⟨b, i, none⟩ = (cellsB l)[i]?) (hn : l.length = n) :
    Calls Try.prog 34 #[.slice (some ⟨b, 0, none⟩) n cap] w fun e w' => e = .returned (.int .u32 ((4294967295 - Crc.run l : Nat) : Int)) ∧ Below w.heap.size w w' := by
  subst hn
  exact sumOf_any b 0 cap l w hb hl (cells_at hcell)
theorem conv_own {w : World} {base g n cap : Nat} {l : List UInt8} (h : w.ownsRow base 5 1 (.slice (some ⟨g, 0, none⟩) n cap) n (cellsB l)) :
    (convert 50 9 (.slice (some ⟨g, 0, none⟩) n cap)).run Try.prog w = .ok (.string ⟨l.toArray⟩) w := by
  have hl : l.length = n := by have := own_len h; simpa [cellsB] using this
  have := run_convert_bytes_arg (P := Try.prog) w 50 5 Try.underlying50 Try.underlying5 g 0 n cap (l.map fun b => (b.toNat : Int)) (by simpa using hl) (fun i hi => by
    rw [Nat.zero_add, own_cell h i hi]
    have : i < l.length := by omega
    simp [cellsB, this]) 9 Try.underlying9
  rw [this]
  congr 2
  unfold strOfNums
  have e : ((fun n : Int => UInt8.ofNat n.toNat) ∘ fun b : UInt8 => (b.toNat : Int)) = id := by funext b; simp
  rw [List.map_map, e, List.map_id]

theorem cells_append (a b : List UInt8) : cellsB (a ++ b) = cellsB a ++ cellsB b := by simp [cellsB]
theorem sum_cells (l : List UInt8) : Hid (([.int .u8 (((4294967295 - Crc.run l : Nat) : Int) % 256), .int .u8 (((4294967295 - Crc.run l : Nat) : Int) / 256 % 256), .int .u8 (((4294967295 - Crc.run l : Nat) : Int) / 65536 % 256), .int .u8 (((4294967295 - Crc.run l : Nat) : Int) / 16777216)] : List Value) = cellsB (Crc.bytes l)) := by
  show _ = _
  have hy : 4294967295 - Crc.run l ≤ 4294967295 := by omega
  unfold cellsB Crc.bytes
  generalize 4294967295 - Crc.run l = y at *
  simp only [List.map_cons, List.map_nil, UInt8.toNat_ofNat']
  have e0 : ((y % 256 % 2 ^ 8 : Nat) : Int) = (y : Int) % 256 := by omega
  have e1 : ((y / 256 % 256 % 2 ^ 8 : Nat) : Int) = (y : Int) / 256 % 256 := by omega
  have e2 : ((y / 65536 % 256 % 2 ^ 8 : Nat) : Int) = (y : Int) / 65536 % 256 := by omega
  have e3 : ((y / 16777216 % 256 % 2 ^ 8 : Nat) : Int) = (y : Int) / 16777216 := by omega
  rw [e0, e1, e2, e3]

theorem iFrameText_yes (k d s p : Int) (b : ByteArray) (w : World) (hb : b.size ≤ maxLen) (hok : frOkB k d s p b.size = true) :
    Calls Try.prog 14 #[.agg #[.int .i64 k, .int .i64 d, .int .i64 s, .int .i64 p, .string b]] w fun e w' => e = .returned (.string (textB k d s p b)) ∧ Below w.heap.size w w' := by
  obtain ⟨k0, k1, d0, d1, s0, s1, p0, p1, hn⟩ := frOk_bounds hok
  obtain ⟨i0, hi, hz0, hz1, hz2⟩ := info_parts info5
  have h1c : ∀ u ∈ ([.int .u8 k, .int .u8 d, .int .u8 s, .int .u8 p, .int .u8 b.size] : List Value), u.oneCell' = true := by simp [Value.oneCell']
  have hhd : Hid (([.int .u8 k, .int .u8 d, .int .u8 s, .int .u8 p, .int .u8 b.size] : List Value) ++ Lib.strCells b = cellsB (bodyB k d s p b)) := by
    show _ = _
    simp only [cellsB, bodyB, hdB, Lib.strCells, List.map_append, List.map_cons, List.map_nil, byte_of _ k0 k1, byte_of _ d0 d1, byte_of _ s0 s1, byte_of _ p0 p1]
    have := byte_of b.size (by omega) (by omega)
    simp only [Int.toNat_natCast] at this
    rw [this]
  have hbl : (bodyB k d s p b).length = 5 + b.size := by
    rw [bodyB, List.length_append, size_data]; rfl
  go_enter Try.func14, Try.ntmps14
  go_wp2_with fail
  refine (iFrameOk_any _ _ _ _ _ _ hb).mono ?_
  rintro e w1 ⟨rfl, hb1⟩
  rw [hok]
  have B1 := first hb1
  have hc1 := boxed B1
  clear hb1 hok
  go_wp2_with fail
  refine (textSize_any _ _ _ _ _ _ hn).mono ?_
  rintro e w2 ⟨rfl, hb2⟩
  have B2 := next B1 hb2
  have U2 := upper B2
  clear hb2 hc1 B1
  go_wp2_with (first
    | (at_make; refine wpList_make_own _ rfl _ _ 50 rfl w2.heap.size 5 i0 (.int .u8 0) 1 Try.underlying50 hi hz0 hz1 .i64 .i64 _ (b.size + 9) rfl rfl (by omega) (by rw [hz2]; omega) (by unfold maxLen; omega) (Nat.le_refl _) ?_; intro w3 hown3 hgrow3; have B3 := B2.grown hgrow3 (upper B2) (fun k h => by cases h); have hc3 := boxed B3; have U3 := upper B3)
    | (at_builtin; refine wpList_append_fits _ rfl (.tmp 11) (.tmp 28) 50 rfl w2.heap.size 5 i0 1 Try.underlying50 hi hz1 w2.heap.size 0 (b.size + 9) [] rfl (hown3.alloc _) ⟨w3.heap.size, 0, none⟩ 5 5 [.int .u8 k, .int .u8 d, .int .u8 s, .int .u8 p, .int .u8 b.size] rfl rfl (news_new _ _ _) h1c (by omega) ?_; intro w4 hown4 hgrow4; have B4 := (B3.alloc U3 _).grown hgrow4 (by simp; omega) (fun k h => by cases h; exact U2); have hc4 := boxed B4; have U4 := upper B4; clear hc3 hgrow3 hgrow4; simp only [Nat.zero_add, List.nil_append] at hown4)
    | (at_builtin; refine Lib.wpList_append_fits_string _ rfl (.tmp 30) (.tmp 32) 50 9 rfl w2.heap.size 5 i0 Try.underlying50 Try.underlying9 hi hz1 _ 5 (b.size + 9) _ rfl hown4 b rfl (by omega) (by omega) ?_; intro w5 hown5 hgrow5; have B5 := B4.grown hgrow5 U4 (fun k h => by cases h; exact U2); have U5 := upper B5; clear hc4 hgrow5; rw [hhd.out] at hown5))
  refine (sumOf_at _ _ _ (bodyB k d s p b) _ (own_lt hown5) (by omega) (fun i hi => own_cell hown5 i (by omega)) (by omega)).mono ?_
  rintro e w6 ⟨rfl, hb6⟩
  have B6 := B5.trans (hb6.mono U5)
  have U6 := upper B6
  have hown6 := own_below hown5 hb6 (Nat.le_refl _)
  have hy : 4294967295 - Crc.run (bodyB k d s p b) ≤ 4294967295 := by omega
  have hby := sum_cells (bodyB k d s p b)
  have HB : Hid (Crc.bytes (bodyB k d s p b) = Crc.bytes (bodyB k d s p b)) := rfl
  clear hb6 hown3 hown4 hown5
  generalize 4294967295 - Crc.run (bodyB k d s p b) = y at *
  have h1c : ∀ u ∈ ([.int .u8 ((y : Int) % 256), .int .u8 ((y : Int) / 256 % 256), .int .u8 ((y : Int) / 65536 % 256), .int .u8 ((y : Int) / 16777216)] : List Value), u.oneCell' = true := by simp [Value.oneCell']
  go_wp2_with (at_builtin; refine wpList_append_fits _ rfl (.tmp 36) (.tmp 48) 50 rfl w2.heap.size 5 i0 1 Try.underlying50 hi hz1 w2.heap.size (5 + b.size) (b.size + 9) _ rfl (hown6.alloc _) ⟨w6.heap.size, 0, none⟩ 4 4 [.int .u8 ((y : Int) % 256), .int .u8 ((y : Int) / 256 % 256), .int .u8 ((y : Int) / 65536 % 256), .int .u8 ((y : Int) / 16777216)] rfl rfl (news_new _ _ _) h1c (by omega) ?_; intro w7 hown7 hgrow7; rw [hby.out, ← cells_append] at hown7; have hcv := conv_own hown7; have B7 := (B6.alloc U6 _).grown hgrow7 (by simp; omega) (fun k h => by cases h; exact U2))
  go_ret
  exact ⟨rfl, under B7⟩

theorem iFrameText_any (k d s p : Int) (b : ByteArray) (w : World) (hb : b.size ≤ maxLen) :
    Calls Try.prog 14 #[.agg #[.int .i64 k, .int .i64 d, .int .i64 s, .int .i64 p, .string b]] w fun e w' => e = .returned (.string (if frOkB k d s p b.size then textB k d s p b else ⟨#[]⟩)) ∧ Below w.heap.size w w' := by
  cases hok : frOkB k d s p b.size
  · rw [if_neg (by simp)]
    go_enter Try.func14, Try.ntmps14
    go_wp2_with fail
    refine (iFrameOk_any _ _ _ _ _ _ hb).mono ?_
    rintro e w1 ⟨rfl, hb1⟩
    rw [hok]
    have B1 := first hb1
    go_wp2_with fail
    go_ret
    exact ⟨rfl, under B1⟩
  · rw [if_pos rfl]
    exact iFrameText_yes k d s p b w hb hok
end Go.Proofs.Ytapabolgfcocfaa
