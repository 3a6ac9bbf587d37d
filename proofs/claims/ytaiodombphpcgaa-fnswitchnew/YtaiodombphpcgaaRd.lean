/- The reader from which the laws draw: each of its calls answers within its bounds, and turns nothing but its own place. -/
import Derived.Test.YtaiodombphpcgaaBox
import Derived.Test.YtaiodombphpcgaaBa
import Derived.Deep.QuietTactic
import Derived.BigQuiet
namespace Go.Proofs.Ytaiodombphpcgaa
open Go.RowKit
set_option linter.unusedVariables false

/-- the bytes that came in, as they lie in w: none, or a row of bytes below block g -/
def Code (g : Nat) (cv : Value) (len : Nat) (w : World) : Prop :=
  ((∃ a cap, cv = .slice a 0 cap) ∧ len = 0) ∨ ∃ b off cap, cv = .slice (some ⟨b, off, none⟩) len cap ∧ b < g ∧ len ≤ 1048576 ∧ ∀ i, i < len → ∃ z : Nat, z ≤ 255 ∧ w.cell? ⟨b, off + i, none⟩ = some (.int .u8 z)
/-- a reader lies in block g -/
def Rd (g : Nat) (cv : Value) (w : World) : Prop :=
  ∃ len p : Nat, p ≤ len ∧ w.heap[g]? = some (.cells #[cv, .int .i64 p] 66 (0, 0)) ∧ Code g cv len w
/-- but for block g all that was there is as it was -/
structure Kept (g : Nat) (w w' : World) : Prop where
  os : w'.os = w.os
  tape : w'.tape = w.tape
  output : w'.output = w.output
  size : w.heap.size ≤ w'.heap.size
  block : ∀ k, k < w.heap.size → k ≠ g → w'.heap[k]? = w.heap[k]?

theorem Kept.refl (g : Nat) (w : World) : Kept g w w := ⟨rfl, rfl, rfl, Nat.le_refl _, fun _ _ _ => rfl⟩
theorem Kept.trans {g : Nat} {a b c : World} (h : Kept g a b) (k : Kept g b c) : Kept g a c :=
  ⟨k.os.trans h.os, k.tape.trans h.tape, k.output.trans h.output, Nat.le_trans h.size k.size, fun i hi hn => (k.block i (Nat.lt_of_lt_of_le hi h.size) hn).trans (h.block i hi hn)⟩
theorem Kept.ofBelow {g : Nat} {a b : World} (h : Below a.heap.size a b) : Kept g a b := ⟨h.os, h.tape, h.output, h.size, fun i hi _ => h.block i hi⟩
theorem Kept.alloc {g : Nat} {a b : World} (h : Kept g a b) (o : Obj) : Kept g a (b.alloc o) := h.trans (Kept.ofBelow ((Below.refl _ _).alloc (Nat.le_refl _) o))
theorem Kept.drewN {g : Nat} {a b : World} (h : Kept g a b) (n : Nat) : Kept g a (b.drewN n) := ⟨h.os, h.tape, h.output, h.size, h.block⟩
theorem Kept.set {g : Nat} {a b : World} (h : Kept g a b) (i : Nat) (v : Value) : Kept g a (b.setCell ⟨g, i, none⟩ v) :=
  h.trans ⟨rfl, rfl, rfl, by simp [World.setCell], fun k _ hn => blk_set_ne hn v⟩
theorem Kept.setNew {g k : Nat} {a b : World} (h : Kept g a b) (hk : a.heap.size ≤ k) (i : Nat) (v : Value) : Kept g a (b.setCell ⟨k, i, none⟩ v) :=
  ⟨h.os, h.tape, h.output, by simpa [World.setCell] using h.size, fun j hj hn => (blk_set_ne (by omega) v).trans (h.block j hj hn)⟩
theorem Kept.below {g B : Nat} {a b : World} (h : Kept g a b) (hB : B ≤ a.heap.size) (hg : B ≤ g) : Below B a b := ⟨h.os, h.tape, h.output, h.size, fun k hk => h.block k (by omega) (by omega)⟩

theorem Code.keep {g : Nat} {cv : Value} {len : Nat} {w w' : World} (h : Code g cv len w) (hg : g ≤ w.heap.size) (hk : ∀ k, k < g → w'.heap[k]? = w.heap[k]?) : Code g cv len w' := by
  rcases h with h | ⟨b, off, cap, hv, hb, hl, hc⟩
  · exact .inl h
  · refine .inr ⟨b, off, cap, hv, hb, hl, fun i hi => ?_⟩
    obtain ⟨z, hz, he⟩ := hc i hi
    exact ⟨z, hz, (World.cell?_of_block (w := w) (a := ⟨b, off + i, none⟩) (hk b hb)).trans he⟩
theorem Rd.lt {g : Nat} {cv : Value} {w : World} (h : Rd g cv w) : g < w.heap.size := by
  obtain ⟨_, _, _, hb, _⟩ := h; exact blk_lt hb
theorem Rd.keep {g : Nat} {cv : Value} {w w' : World} (h : Rd g cv w) (hk : ∀ k, k ≤ g → w'.heap[k]? = w.heap[k]?) : Rd g cv w' := by
  have hl := h.lt
  obtain ⟨len, p, hp, hb, hc⟩ := h
  exact ⟨len, p, hp, by rw [hk g (Nat.le_refl _)]; exact hb, hc.keep (by omega) (fun k hk' => hk k (by omega))⟩
theorem Rd.below {g : Nat} {cv : Value} {w w' : World} (h : Rd g cv w) (hb : Below w.heap.size w w') : Rd g cv w' :=
  h.keep (fun k hk => hb.block k (by have := h.lt; omega))
theorem Rd.alloc {g : Nat} {cv : Value} {w : World} (h : Rd g cv w) (o : Obj) : Rd g cv (w.alloc o) := h.below ((Below.refl _ _).alloc (Nat.le_refl _) o)
theorem Rd.setNew {g k : Nat} {cv : Value} {w : World} (h : Rd g cv w) (hk : g < k) (i : Nat) (v : Value) : Rd g cv (w.setCell ⟨k, i, none⟩ v) :=
  h.keep (fun j hj => blk_set_ne (by omega) v)

theorem open_any (cv : Value) (len : Nat) (w : World) (h : Code w.heap.size cv len w) (hs : ∃ a n c, cv = .slice a n c) :
    Calls Try.prog 13 #[cv] w fun e w' => e = .returned (.pointer (some ⟨w.heap.size, 0, none⟩)) ∧ Rd w.heap.size cv w' ∧ Below w.heap.size w w' := by
  obtain ⟨a, n, c, rfl⟩ := hs
  go_enter Try.func13, Try.ntmps13
  go_wp2
  go_ret
  refine ⟨rfl, ⟨len, 0, Nat.zero_le _, blk_new w _, h.keep (Nat.le_refl _) (fun k hk => blk_old _ hk)⟩, (Below.refl _ _).alloc (Nat.le_refl _) _⟩

theorem next_any (g : Nat) (cv : Value) (w : World) (h : Rd g cv w) :
    Calls Try.prog 49 #[.pointer (some ⟨g, 0, none⟩)] w fun e w' => ∃ x : Nat, x ≤ 255 ∧ e = .returned (.int .i64 x) ∧ Rd g cv w' ∧ Kept g w w' := by
  have hR := h
  obtain ⟨len, p, hp, hb, hc⟩ := h
  have c0 : w.cell? ⟨g, 0, none⟩ = some cv := by rw [blk_cell hb]; rfl
  have c1 : w.cell? ⟨g, 1, none⟩ = some (.int .i64 p) := by rw [blk_cell hb]; rfl
  rcases hc with ⟨⟨ca, ccap, rfl⟩, rfl⟩ | ⟨b, off, cap, rfl, hbg, hl, hcell⟩
  · obtain rfl : p = 0 := by omega
    go_enter Try.func49, Try.ntmps49
    go_wp2
    go_quiet (fail)
    go_wp2
    go_ret
    exact ⟨0, by omega, rfl, hR.keep (fun _ _ => rfl), (Kept.refl _ _).drewN _⟩
  · by_cases hlt : p < len
    · obtain ⟨z, hz, hzc⟩ := hcell p hlt
      have f1 := blk_free hb 1
      have hlt' : (p : Int) < (len : Int) := by omega
      have hx : ∀ v, (w.setCell ⟨g, 1, none⟩ v).cell? ⟨b, off + p, none⟩ = some (.int .u8 z) := by
        intro v
        rw [World.cell?_of_block (w := w) (a := ⟨b, off + p, none⟩) (blk_set_ne (by show b ≠ g; omega) v)]
        exact hzc
      have hbn : b ≠ g := by omega
      go_enter Try.func49, Try.ntmps49
      go_wp2
      go_quiet (fail)
      go_wp2
      go_quiet (fail)
      go_wp2
      go_ret
      refine ⟨z, hz, rfl, ⟨len, p + 1, hlt, ?_, ?_⟩, (((Kept.refl _ _).drewN _).set 1 _).drewN _⟩
      · exact blk_set (w := w) (i := 1) hb (.int .i64 ((p + 1 : Nat) : Int))
      · refine .inr ⟨b, off, cap, rfl, hbg, hl, fun i hi => ?_⟩
        obtain ⟨z', hz', hc'⟩ := hcell i hi
        exact ⟨z', hz', (World.cell?_of_block (w := w) (a := ⟨b, off + i, none⟩) (blk_set_ne (w := w) (g := g) (i := 1) (by show b ≠ g; omega) (.int .i64 ((p + 1 : Nat) : Int)))).trans hc'⟩
    · have hge : (len : Int) ≤ p := by omega
      go_enter Try.func49, Try.ntmps49
      go_wp2
      go_quiet (fail)
      go_wp2
      go_ret
      exact ⟨0, by omega, rfl, hR.keep (fun _ _ => rfl), (Kept.refl _ _).drewN _⟩

theorem below_any (g : Nat) (cv : Value) (n : Int) (w : World) (h : Rd g cv w) (h1 : 1 ≤ n) (h2 : n ≤ 65536) :
    Calls Try.prog 32 #[.pointer (some ⟨g, 0, none⟩), .int .i64 n] w fun e w' => ∃ x : Nat, (x : Int) < n ∧ e = .returned (.int .i64 x) ∧ Rd g cv w' ∧ Kept g w w' := by
  by_cases hn1 : n ≤ 1
  · go_enter Try.func32, Try.ntmps32
    go_wp2_with fail
    go_ret
    exact ⟨0, by omega, rfl, h, Kept.refl _ _⟩
  · by_cases hn2 : n ≤ 256
    · go_enter Try.func32, Try.ntmps32
      go_wp2_with fail
      refine (next_any _ _ _ h).mono ?_
      rintro e w1 ⟨x, hx, rfl, hR1, hK1⟩
      go_wp2_with fail
      go_ret
      have e1 := Int.emod_nonneg (x : Int) (show n ≠ 0 by omega)
      have e2 := Int.emod_lt_of_pos (x : Int) (show 0 < n by omega)
      exact ⟨((x : Int) % n).toNat, by omega, ret_int (by omega), hR1, hK1⟩
    · go_enter Try.func32, Try.ntmps32
      go_wp2_with fail
      refine (next_any _ _ _ h).mono ?_
      rintro e w1 ⟨x, hx, rfl, hR1, hK1⟩
      go_wp2_with fail
      refine (next_any _ _ _ hR1).mono ?_
      rintro e w2 ⟨y, hy, rfl, hR2, hK2⟩
      go_wp2_with fail
      go_ret
      have e1 := Int.emod_nonneg ((x : Int) * 256 + y) (show n ≠ 0 by omega)
      have e2 := Int.emod_lt_of_pos ((x : Int) * 256 + y) (show 0 < n by omega)
      exact ⟨(((x : Int) * 256 + y) % n).toNat, by omega, ret_int (by omega), hR2, hK1.trans hK2⟩

theorem once_any (g : Nat) (cv : Value) (n : Int) (w : World) (h : Rd g cv w) (h1 : 1 ≤ n) (h2 : n ≤ 65536) :
    Calls Try.prog 50 #[.pointer (some ⟨g, 0, none⟩), .int .i64 n] w fun e w' => ∃ x : Bool, e = .returned (.bool x) ∧ Rd g cv w' ∧ Kept g w w' := by
  go_enter Try.func50, Try.ntmps50
  go_wp2_with fail
  refine (below_any _ _ _ _ h h1 h2).mono ?_
  rintro e w1 ⟨x, hx, rfl, hR1, hK1⟩
  go_wp2_with fail
  go_ret
  exact ⟨_, rfl, hR1, hK1⟩

def U64 (v : Int) : Prop := 0 ≤ v ∧ v < 18446744073709551616
theorem bits_u64 (op : BinOp) (x y : Int) : U64 (bits op .u64 x y) := by
  unfold bits U64
  simp only [IntKind.wrap, IntKind.bits, IntKind.signed]
  constructor
  · simp; omega
  · simp; omega

theorem word_any (g : Nat) (cv : Value) (w : World) (h : Rd g cv w) :
    Calls Try.prog 63 #[.pointer (some ⟨g, 0, none⟩)] w fun e w' => ∃ x : Int, U64 x ∧ e = .returned (.int .u64 x) ∧ Rd g cv w' ∧ Kept g w w' := by
  go_enter Try.func63, Try.ntmps63
  go_wp2_with fail
  go_loopw [3, 4] (fun x i wr => ∃ (k : Nat) (v : Int), k ≤ 8 ∧ i = .int .i64 k ∧ x = .int .u64 v ∧ U64 v ∧ Rd g cv wr ∧ Kept g w wr) (fun _ i _ => 8 - (intOf i).toNat)
  case atStart => exact ⟨0, 0, by omega, rfl, rfl, ⟨by omega, by omega⟩, h, Kept.refl _ _⟩
  case round =>
    obtain ⟨k, v, hk, rfl, rfl, hv, hR, hK⟩ := hrel
    by_cases hlt : k < 8
    · have hlt' : (k : Int) < 8 := by omega
      go_wp2_with fail
      refine (next_any _ _ _ hR).mono ?_
      rintro e w1 ⟨x, hx, rfl, hR1, hK1⟩
      go_wp2_with fail
      go_roundw
      case rel => exact ⟨k + 1, _, by omega, by go_num, rfl, bits_u64 _ _ _, hR1, hK.trans hK1⟩
      case measure => simp [intOf]; omega
    · go_wp2_with fail
      go_ret
      exact ⟨v, hv, rfl, hR, hK⟩
end Go.Proofs.Ytaiodombphpcgaa
