/- SwitchOk of a new switch: what is in lanes, and the whole. -/
import Derived.Test.YtaiodombphpcgaaSwD3
import Derived.Maps.AppendAt
import Derived.Room.AppendFits
namespace Go.Proofs.Ytaiodombphpcgaa
open Go.RowKit
set_option linter.unusedVariables false
set_option linter.unusedSimpArgs false

theorem stopHere {p : Prop} (h : Hid p) : p := h.out
theorem make_mapR (n : Int) (w : World) : (Instr.makeMap 85 (some (.int .i64 n))).run Try.prog w = .ok (.map (some w.heap.size)) (w.alloc (.map #[] 0)) := by
  simp [Instr.makeMap, run_underlying Try.underlying85, go_sem, Result.andThen]
theorem own_one {W : World} {base g : Nat} (hb : base ≤ g) (h : W.heap[g]? = some (.cells #[.slice none 0 0] 28 (0, 0))) : W.ownsRow base 28 1 (.slice (some ⟨g, 0, none⟩) 1 1) 1 [.slice none 0 0] :=
  ⟨rfl, .inr ⟨g, 1, #[.slice none 0 0], rfl, hb, h, Nat.le_refl _, by unfold maxLen; omega, rfl, rfl⟩⟩
theorem own_succR {w : World} {base sz n : Nat} {e : TypeId} {v : Value} {xs : List Value} (h : w.ownsRow base e sz v (n + 1) xs) : ∃ g cap, v = .slice (some ⟨g, 0, none⟩) (n + 1) cap := by
  rcases h.2 with ⟨_, h0⟩ | ⟨g, cap, cur, hv, _⟩
  · omega
  · exact ⟨g, cap, hv⟩
set_option maxRecDepth 100000 in
set_option maxHeartbeats 1000000 in
theorem refs_new (S : Sw) (w : World) (h : Fresh w S) :
    Calls Try.prog 28 #[.agg S.cells] w fun e w' => e = .returned (.bool true) ∧ Below w.heap.size w w' := by
  obtain ⟨C, nx, N, aL, nL, cL, L⟩ := S
  obtain rfl : nx = 1 := h.x
  have HL : Hid (RdLn w aL nL L) := h.r.l
  have HUu : Hid (∀ k, k < nL → RdRow w (L k).aU 2 fun _ => .slice none 0 0) := h.r.u
  have hn4 : nL ≤ 4 := h.n4
  have hB : Below (w.heap.size + 1) (w.alloc (.cells #[.int .i64 C.p, .int .i64 C.c, .int .i64 C.xo, .int .i64 C.xn, .int .i64 C.hd, .int .i64 C.lo, .int .i64 C.dl, .int .i64 0, .int .i64 1, .slice none 0 0, .slice N.aU N.nU N.cU, .int .i64 N.lo, .slice N.aP N.nP N.cP, .slice none 0 0, .slice aL nL cL, .int .i64 0, .int .i64 0] 35)) ((w.alloc (.cells #[.int .i64 C.p, .int .i64 C.c, .int .i64 C.xo, .int .i64 C.xn, .int .i64 C.hd, .int .i64 C.lo, .int .i64 C.dl, .int .i64 0, .int .i64 1, .slice none 0 0, .slice N.aU N.nU N.cU, .int .i64 N.lo, .slice N.aP N.nP N.cP, .slice none 0 0, .slice aL nL cL, .int .i64 0, .int .i64 0] 35)).alloc (.map #[] 0)) := (Below.refl _ _).alloc (by simp) _
  have mk := make_mapR 0 (w.alloc (.cells #[.int .i64 C.p, .int .i64 C.c, .int .i64 C.xo, .int .i64 C.xn, .int .i64 C.hd, .int .i64 C.lo, .int .i64 C.dl, .int .i64 0, .int .i64 1, .slice none 0 0, .slice N.aU N.nU N.cU, .int .i64 N.lo, .slice N.aP N.nP N.cP, .slice none 0 0, .slice aL nL cL, .int .i64 0, .int .i64 0] 35))
  have cb := boxed hB
  have cb0 := boxed (wi := (w.alloc (.cells #[.int .i64 C.p, .int .i64 C.c, .int .i64 C.xo, .int .i64 C.xn, .int .i64 C.hd, .int .i64 C.lo, .int .i64 C.dl, .int .i64 0, .int .i64 1, .slice none 0 0, .slice N.aU N.nU N.cU, .int .i64 N.lo, .slice N.aP N.nP N.cP, .slice none 0 0, .slice aL nL cL, .int .i64 0, .int .i64 0] 35))) (C := #[.int .i64 C.p, .int .i64 C.c, .int .i64 C.xo, .int .i64 C.xn, .int .i64 C.hd, .int .i64 C.lo, .int .i64 C.dl, .int .i64 0, .int .i64 1, .slice none 0 0, .slice N.aU N.nU N.cU, .int .i64 N.lo, .slice N.aP N.nP N.cP, .slice none 0 0, .slice aL nL cL, .int .i64 0, .int .i64 0]) (t := 35) (Below.refl _ _)
  obtain ⟨i0, hi, hz0, hz1, hz2⟩ := info_parts info22
  clear h
  unfold Sw.cells
  dsimp only
  go_enter Try.func28, Try.ntmps28
  go_wp2_with fail
  clear mk cb0
  go_loopw [19] (fun i wr => ∃ k : Nat, k ≤ nL ∧ i = .int .i64 k ∧ Below (w.heap.size + 1) (w.alloc (.cells #[.int .i64 C.p, .int .i64 C.c, .int .i64 C.xo, .int .i64 C.xn, .int .i64 C.hd, .int .i64 C.lo, .int .i64 C.dl, .int .i64 0, .int .i64 1, .slice none 0 0, .slice N.aU N.nU N.cU, .int .i64 N.lo, .slice N.aP N.nP N.cP, .slice none 0 0, .slice aL nL cL, .int .i64 0, .int .i64 0] 35)) wr) (fun i _ => nL - (intOf i).toNat)
  case atStart => exact ⟨0, Nat.zero_le _, rfl, hB⟩
  case round =>
    clear hB cb
    obtain ⟨k, hk, rfl, hB⟩ := hrel
    by_cases hlt : k < nL
    · have hlt' : (k : Int) < nL := by omega
      obtain ⟨g, o, rfl, Ca⟩ := (HL.out.up (under hB)) k hlt
      have HU : Hid (RdRow w (L k).aU 2 fun _ => .slice none 0 0) := HUu.out k hlt
      generalize L k = l1 at *
      obtain ⟨st, aU, cU, R⟩ := l1
      dsimp only at HU
      obtain ⟨gu, ou, rfl, _⟩ := HU.out 0 (by omega)
      have c0 : wr.cell? ⟨g, o + k * 8, none⟩ = some (.bool st) := Ca 0 (by omega)
      have c1 : wr.cell? ⟨g, o + k * 8 + 1, none⟩ = some (.slice none 0 0) := Ca 1 (by omega)
      have c2 : wr.cell? ⟨g, o + k * 8 + 2, none⟩ = some (.slice (some ⟨gu, ou, none⟩) 2 cU) := Ca 2 (by omega)
      have c3 : wr.cell? ⟨g, o + k * 8 + 3, none⟩ = some (.slice R.aQ R.nQ R.cQ) := Ca 3 (by omega)
      have c4 : wr.cell? ⟨g, o + k * 8 + 4, none⟩ = some (.slice R.aD R.nD R.cD) := Ca 4 (by omega)
      have c5 : wr.cell? ⟨g, o + k * 8 + 5, none⟩ = some (.int .i64 R.turn) := Ca 5 (by omega)
      have c6 : wr.cell? ⟨g, o + k * 8 + 6, none⟩ = some (.bool R.fresh) := Ca 6 (by omega)
      have c7 : wr.cell? ⟨g, o + k * 8 + 7, none⟩ = some (.slice R.aS R.nS R.cS) := Ca 7 (by omega)
      clear Ca
      have hup := upper hB
      have hBn : Below (w.heap.size + 1) (w.alloc (.cells #[.int .i64 C.p, .int .i64 C.c, .int .i64 C.xo, .int .i64 C.xn, .int .i64 C.hd, .int .i64 C.lo, .int .i64 C.dl, .int .i64 0, .int .i64 1, .slice none 0 0, .slice N.aU N.nU N.cU, .int .i64 N.lo, .slice N.aP N.nP N.cP, .slice none 0 0, .slice (some ⟨g, o, none⟩) nL cL, .int .i64 0, .int .i64 0] 35)) ((wr.alloc (.cells #[.bool st, .slice none 0 0, .slice (some ⟨gu, ou, none⟩) 2 cU, .slice R.aQ R.nQ R.cQ, .slice R.aD R.nD R.cD, .int .i64 R.turn, .bool R.fresh, .slice R.aS R.nS R.cS] 51)).alloc (.cells #[.slice none 0 0] 28)) := (hB.alloc hup _).alloc (by simp; omega) _
      obtain ⟨gu', ou', eu', u0⟩ := (HU.out.up (under hBn)) 0 (by omega)
      cases eu'
      obtain ⟨gu', ou', eu', u1⟩ := (HU.out.up (under hBn)) 1 (by omega)
      cases eu'
      dsimp only at u0 u1
      have HCu : Hid (∀ j x, ([.slice none 0 0, .slice none 0 0] : List Value)[j]? = some x → ((wr.alloc (.cells #[.bool st, .slice none 0 0, .slice (some ⟨gu, ou, none⟩) 2 cU, .slice R.aQ R.nQ R.cQ, .slice R.aD R.nD R.cD, .int .i64 R.turn, .bool R.fresh, .slice R.aS R.nS R.cS] 51)).alloc (.cells #[.slice none 0 0] 28)).cell? ((⟨gu, ou, none⟩ : Addr).add j) = some x) := fun j x hj => by
        have e : (⟨gu, ou, none⟩ : Addr).add j = ⟨gu, ou + j, none⟩ := by unfold Addr.add; split <;> simp_all
        rw [e]
        match j, hj with
        | 0, hj => simp at hj; rw [← hj]; exact u0
        | 1, hj => simp at hj; rw [← hj]; exact u1
        | j + 2, hj => simp at hj
      have HOw : Hid (World.ownsRow ((wr.alloc (.cells #[.bool st, .slice none 0 0, .slice (some ⟨gu, ou, none⟩) 2 cU, .slice R.aQ R.nQ R.cQ, .slice R.aD R.nD R.cD, .int .i64 R.turn, .bool R.fresh, .slice R.aS R.nS R.cS] 51)).alloc (.cells #[.slice none 0 0] 28)) (w.heap.size + 1) 28 1 (.slice (some ⟨wr.heap.size + 1, 0, none⟩) 1 1) 1 [.slice none 0 0]) := own_one (by omega) (by
        have := blk_new (wr.alloc (.cells #[.bool st, .slice none 0 0, .slice (some ⟨gu, ou, none⟩) 2 cU, .slice R.aQ R.nQ R.cQ, .slice R.aD R.nD R.cD, .int .i64 R.turn, .bool R.fresh, .slice R.aS R.nS R.cS] 51)) (.cells #[.slice none 0 0] 28)
        simpa using this)
      have cL0 := blk_cell (blk_new wr (.cells #[.bool st, .slice none 0 0, .slice (some ⟨gu, ou, none⟩) 2 cU, .slice R.aQ R.nQ R.cQ, .slice R.aD R.nD R.cD, .int .i64 R.turn, .bool R.fresh, .slice R.aS R.nS R.cS] 51))
      have cL1 : ∀ i, ((wr.alloc (.cells #[.bool st, .slice none 0 0, .slice (some ⟨gu, ou, none⟩) 2 cU, .slice R.aQ R.nQ R.cQ, .slice R.aD R.nD R.cD, .int .i64 R.turn, .bool R.fresh, .slice R.aS R.nS R.cS] 51)).alloc (.cells #[.slice none 0 0] 28)).cell? ⟨wr.heap.size, i, none⟩ = (#[.bool st, .slice none 0 0, .slice (some ⟨gu, ou, none⟩) 2 cU, .slice R.aQ R.nQ R.cQ, .slice R.aD R.nD R.cD, .int .i64 R.turn, .bool R.fresh, .slice R.aS R.nS R.cS] : Array Value)[i]? := blk_cell ((blk_old _ (by simp)).trans (blk_new wr (.cells #[.bool st, .slice none 0 0, .slice (some ⟨gu, ou, none⟩) 2 cU, .slice R.aQ R.nQ R.cQ, .slice R.aD R.nD R.cD, .int .i64 R.turn, .bool R.fresh, .slice R.aS R.nS R.cS] 51)))
      have hsz : w.heap.size + 1 ≤ ((wr.alloc (.cells #[.bool st, .slice none 0 0, .slice (some ⟨gu, ou, none⟩) 2 cU, .slice R.aQ R.nQ R.cQ, .slice R.aD R.nD R.cD, .int .i64 R.turn, .bool R.fresh, .slice R.aS R.nS R.cS] 51)).alloc (.cells #[.slice none 0 0] 28)).heap.size := upper hBn
      have HSz : Hid (w.heap.size + 1 ≤ ((wr.alloc (.cells #[.bool st, .slice none 0 0, .slice (some ⟨gu, ou, none⟩) 2 cU, .slice R.aQ R.nQ R.cQ, .slice R.aD R.nD R.cD, .int .i64 R.turn, .bool R.fresh, .slice R.aS R.nS R.cS] 51)).alloc (.cells #[.slice none 0 0] 28)).heap.size) := hsz
      have HBn : Hid (Below (w.heap.size + 1) (w.alloc (.cells #[.int .i64 C.p, .int .i64 C.c, .int .i64 C.xo, .int .i64 C.xn, .int .i64 C.hd, .int .i64 C.lo, .int .i64 C.dl, .int .i64 0, .int .i64 1, .slice none 0 0, .slice N.aU N.nU N.cU, .int .i64 N.lo, .slice N.aP N.nP N.cP, .slice none 0 0, .slice (some ⟨g, o, none⟩) nL cL, .int .i64 0, .int .i64 0] 35)) ((wr.alloc (.cells #[.bool st, .slice none 0 0, .slice (some ⟨gu, ou, none⟩) 2 cU, .slice R.aQ R.nQ R.cQ, .slice R.aD R.nD R.cD, .int .i64 R.turn, .bool R.fresh, .slice R.aS R.nS R.cS] 51)).alloc (.cells #[.slice none 0 0] 28))) := hBn
      clear u0 u1 hB hsz hBn
      go_wp2_with (at_builtin; refine stopHere ?_)
      rw [Hid]
      refine wpList_append_own_at _ rfl (.tmp 25) (.tmp 27) 47 rfl (w.heap.size + 1) 28 i0 (.slice none 0 0) 1 24 Try.underlying47 hi hz0 hz1 hz2 rfl (by decide) (.slice (some ⟨wr.heap.size + 1, 0, none⟩) 1 1) 1 [.slice none 0 0] rfl HOw.out ⟨gu, ou, none⟩ 2 cU [.slice none 0 0, .slice none 0 0] rfl rfl HCu.out (by intro u hu; simp at hu; rw [hu]; rfl) (by unfold maxLen; omega) (by omega) HSz.out ?_
      intro v2 w2 hown2 hgrow2 hnil2 hat2
      obtain ⟨gg2, cap2, rfl⟩ := own_succR hown2
      have hB2 := HBn.out.grown hgrow2 HSz.out (fun x e => by simp [Value.ownBlock] at e; omega)
      have HBm : Hid (Below (w.heap.size + 1) (w.alloc (.cells #[.int .i64 C.p, .int .i64 C.c, .int .i64 C.xo, .int .i64 C.xn, .int .i64 C.hd, .int .i64 C.lo, .int .i64 C.dl, .int .i64 0, .int .i64 1, .slice none 0 0, .slice N.aU N.nU N.cU, .int .i64 N.lo, .slice N.aP N.nP N.cP, .slice none 0 0, .slice (some ⟨g, o, none⟩) nL cL, .int .i64 0, .int .i64 0] 35)) w2) := hB2
      have HEl : Hid (∀ i, i < 3 → w2.cell? ⟨gg2, i, none⟩ = some (.slice none 0 0)) := fun i hi3 => by
        rw [own_cell hown2 i hi3]
        match i, hi3 with
        | 0, _ => rfl
        | 1, _ => rfl
        | 2, _ => rfl
        | i + 3, h3 => omega
      clear hown2 hgrow2 hnil2 hat2 hB2 cL0 cL1
      clear HCu HOw HSz HBn c0 c1 c2 c3 c4 c5 c6 c7
      go_wp2_with fail
      go_loop [30] (fun i => ∃ m : Nat, m ≤ 3 ∧ i = .int .i64 m) (fun i => 3 - (intOf i).toNat)
      case atStart => exact ⟨0, by omega, rfl⟩
      case round =>
        obtain ⟨m, hm, rfl⟩ := hrel
        by_cases hml : m < 3
        · have hml' : (m : Int) < 3 := by omega
          have ce := HEl.out m hml
          go_wp2_with fail
          go_loop [36] (fun i => i = .int .i64 0) (fun _ => 0)
          case atStart => rfl
          case round =>
            obtain rfl := hrel
            clear ce
            go_wp2_with fail
            go_round
            case rel => exact ⟨m + 1, by omega, by go_num⟩
            case measure => simp [intOf]; omega
        · have hml' : ¬ (m : Int) < 3 := by omega
          go_wp2_with fail
          go_roundw
          case rel => exact ⟨k + 1, by omega, by go_num, HBm.out⟩
          case measure => simp [intOf]; omega
    · obtain rfl : k = nL := by omega
      have hkk : ¬ ((k : Nat) : Int) < ((k : Nat) : Int) := by omega
      have cb := boxed hB
      go_wp2_with fail
      go_loop [50] (fun i => i = .int .i64 0) (fun _ => 0)
      case atStart => rfl
      case round =>
        obtain rfl := hrel
        go_wp2_with fail
        go_ret
        exact ⟨rfl, under hB⟩
theorem wpList_ldG {ops : Array Oper} {rest : List Oper} {o : Oper} {a : Act} {w : World} {Q : Exit → Act → World → Prop} (x : Operand) (ho : o.op = .load 35 x) (hw : Region.wanted o (yielded ops a.tmps) = true) (g : Nat) (hx : a.eval x = .pointer (some ⟨g, 0, none⟩))
    (cs : Array Value) (hk : w.heap[g]? = some (.cells cs 35 (0, 0))) (hs : cs.size = 17) (h : wpList Try.prog ops Q rest (a.put o.dst (.agg cs)) w) : wpList Try.prog ops Q (o :: rest) a w :=
  wpList_step fun K hK => by
    rw [if_pos hw]
    exact wp_load_row 35 x ho g hx 35 cs (0, 0) _ hk Try.underlying35 rfl (by rw [hs]; exact infoS) (hK _ _ h)
set_option maxRecDepth 100000 in
set_option maxHeartbeats 2000000 in
theorem iSwitchOk_new (S : Sw) (w : World) (h : Fresh w S) :
    Calls Try.prog 11 #[.agg S.cells] w fun e w' => e = .returned (.bool true) ∧ Below w.heap.size w w' := by
  obtain ⟨C, nx, N, aL, nL, cL, L⟩ := S
  obtain rfl : nx = 1 := h.x
  have HF : Hid (∀ W : World, Below (w.heap.size + 1) (w.alloc (.cells #[.int .i64 C.p, .int .i64 C.c, .int .i64 C.xo, .int .i64 C.xn, .int .i64 C.hd, .int .i64 C.lo, .int .i64 C.dl, .int .i64 0, .int .i64 1, .slice none 0 0, .slice N.aU N.nU N.cU, .int .i64 N.lo, .slice N.aP N.nP N.cP, .slice none 0 0, .slice aL nL cL, .int .i64 0, .int .i64 0] 35)) W → Fresh W ⟨C, 1, N, aL, nL, cL, L⟩) := fun W hb => h.up (under hb)
  have HK : Hid (∀ W : World, Below (w.heap.size + 1) (w.alloc (.cells #[.int .i64 C.p, .int .i64 C.c, .int .i64 C.xo, .int .i64 C.xn, .int .i64 C.hd, .int .i64 C.lo, .int .i64 C.dl, .int .i64 0, .int .i64 1, .slice none 0 0, .slice N.aU N.nU N.cU, .int .i64 N.lo, .slice N.aP N.nP N.cP, .slice none 0 0, .slice aL nL cL, .int .i64 0, .int .i64 0] 35)) W → W.heap[w.heap.size]? = some (.cells #[.int .i64 C.p, .int .i64 C.c, .int .i64 C.xo, .int .i64 C.xn, .int .i64 C.hd, .int .i64 C.lo, .int .i64 C.dl, .int .i64 0, .int .i64 1, .slice none 0 0, .slice N.aU N.nU N.cU, .int .i64 N.lo, .slice N.aP N.nP N.cP, .slice none 0 0, .slice aL nL cL, .int .i64 0, .int .i64 0] 35 (0, 0))) := fun W hb => (hb.block _ (by omega)).trans (blk_new _ _)
  have HCn : Hid (Cnt.Ok C N) := h.counts
  have HNf : Hid N.Fit := (h.n.small (newC_small h.n4)).fit
  have HNr : Hid (RdCnt w N) := h.r.n
  have hB : Below (w.heap.size + 1) (w.alloc (.cells #[.int .i64 C.p, .int .i64 C.c, .int .i64 C.xo, .int .i64 C.xn, .int .i64 C.hd, .int .i64 C.lo, .int .i64 C.dl, .int .i64 0, .int .i64 1, .slice none 0 0, .slice N.aU N.nU N.cU, .int .i64 N.lo, .slice N.aP N.nP N.cP, .slice none 0 0, .slice aL nL cL, .int .i64 0, .int .i64 0] 35)) (w.alloc (.cells #[.int .i64 C.p, .int .i64 C.c, .int .i64 C.xo, .int .i64 C.xn, .int .i64 C.hd, .int .i64 C.lo, .int .i64 C.dl, .int .i64 0, .int .i64 1, .slice none 0 0, .slice N.aU N.nU N.cU, .int .i64 N.lo, .slice N.aP N.nP N.cP, .slice none 0 0, .slice aL nL cL, .int .i64 0, .int .i64 0] 35)) := Below.refl _ _
  have cb := boxed hB
  clear h
  unfold Sw.cells
  dsimp only
  go_enter Try.func11, Try.ntmps11
  go_wp2_with fail
  refine (iCountsOk_any C N _ HNf.out (HNr.out.up (under hB)) true ⟨fun _ => HCn.out, fun _ => rfl⟩).mono ?_
  rintro e w1 ⟨rfl, hb⟩
  replace hB := next hB hb
  clear cb hb
  have HK0 : Hid (w1.heap[w.heap.size]? = some (.cells #[.int .i64 C.p, .int .i64 C.c, .int .i64 C.xo, .int .i64 C.xn, .int .i64 C.hd, .int .i64 C.lo, .int .i64 C.dl, .int .i64 0, .int .i64 1, .slice none 0 0, .slice N.aU N.nU N.cU, .int .i64 N.lo, .slice N.aP N.nP N.cP, .slice none 0 0, .slice aL nL cL, .int .i64 0, .int .i64 0] 35 (0, 0))) := HK.out _ hB
  go_wp2_with (refine wpList_ldG (.tmp 1) rfl (by kernel_rfl) w.heap.size rfl #[.int .i64 C.p, .int .i64 C.c, .int .i64 C.xo, .int .i64 C.xn, .int .i64 C.hd, .int .i64 C.lo, .int .i64 C.dl, .int .i64 0, .int .i64 1, .slice none 0 0, .slice N.aU N.nU N.cU, .int .i64 N.lo, .slice N.aP N.nP N.cP, .slice none 0 0, .slice aL nL cL, .int .i64 0, .int .i64 0] HK0.out rfl ?_)
  clear HK0
  refine (numbers_new ⟨C, 1, N, aL, nL, cL, L⟩ _ (HF.out _ hB)).mono ?_
  rintro e w2 ⟨rfl, hb⟩
  replace hB := next hB hb
  clear hb
  have HK1 : Hid (w2.heap[w.heap.size]? = some (.cells #[.int .i64 C.p, .int .i64 C.c, .int .i64 C.xo, .int .i64 C.xn, .int .i64 C.hd, .int .i64 C.lo, .int .i64 C.dl, .int .i64 0, .int .i64 1, .slice none 0 0, .slice N.aU N.nU N.cU, .int .i64 N.lo, .slice N.aP N.nP N.cP, .slice none 0 0, .slice aL nL cL, .int .i64 0, .int .i64 0] 35 (0, 0))) := HK.out _ hB
  go_wp2_with (refine wpList_ldG (.tmp 1) rfl (by kernel_rfl) w.heap.size rfl #[.int .i64 C.p, .int .i64 C.c, .int .i64 C.xo, .int .i64 C.xn, .int .i64 C.hd, .int .i64 C.lo, .int .i64 C.dl, .int .i64 0, .int .i64 1, .slice none 0 0, .slice N.aU N.nU N.cU, .int .i64 N.lo, .slice N.aP N.nP N.cP, .slice none 0 0, .slice aL nL cL, .int .i64 0, .int .i64 0] HK1.out rfl ?_)
  clear HK1
  refine (seen_new ⟨C, 1, N, aL, nL, cL, L⟩ _ (HF.out _ hB)).mono ?_
  rintro e w3 ⟨rfl, hb⟩
  replace hB := next hB hb
  clear hb
  have HK2 : Hid (w3.heap[w.heap.size]? = some (.cells #[.int .i64 C.p, .int .i64 C.c, .int .i64 C.xo, .int .i64 C.xn, .int .i64 C.hd, .int .i64 C.lo, .int .i64 C.dl, .int .i64 0, .int .i64 1, .slice none 0 0, .slice N.aU N.nU N.cU, .int .i64 N.lo, .slice N.aP N.nP N.cP, .slice none 0 0, .slice aL nL cL, .int .i64 0, .int .i64 0] 35 (0, 0))) := HK.out _ hB
  go_wp2_with (refine wpList_ldG (.tmp 1) rfl (by kernel_rfl) w.heap.size rfl #[.int .i64 C.p, .int .i64 C.c, .int .i64 C.xo, .int .i64 C.xn, .int .i64 C.hd, .int .i64 C.lo, .int .i64 C.dl, .int .i64 0, .int .i64 1, .slice none 0 0, .slice N.aU N.nU N.cU, .int .i64 N.lo, .slice N.aP N.nP N.cP, .slice none 0 0, .slice aL nL cL, .int .i64 0, .int .i64 0] HK2.out rfl ?_)
  clear HK2
  refine (packets_new ⟨C, 1, N, aL, nL, cL, L⟩ _ (HF.out _ hB)).mono ?_
  rintro e w4 ⟨rfl, hb⟩
  replace hB := next hB hb
  clear hb
  have HK3 : Hid (w4.heap[w.heap.size]? = some (.cells #[.int .i64 C.p, .int .i64 C.c, .int .i64 C.xo, .int .i64 C.xn, .int .i64 C.hd, .int .i64 C.lo, .int .i64 C.dl, .int .i64 0, .int .i64 1, .slice none 0 0, .slice N.aU N.nU N.cU, .int .i64 N.lo, .slice N.aP N.nP N.cP, .slice none 0 0, .slice aL nL cL, .int .i64 0, .int .i64 0] 35 (0, 0))) := HK.out _ hB
  go_wp2_with (refine wpList_ldG (.tmp 1) rfl (by kernel_rfl) w.heap.size rfl #[.int .i64 C.p, .int .i64 C.c, .int .i64 C.xo, .int .i64 C.xn, .int .i64 C.hd, .int .i64 C.lo, .int .i64 C.dl, .int .i64 0, .int .i64 1, .slice none 0 0, .slice N.aU N.nU N.cU, .int .i64 N.lo, .slice N.aP N.nP N.cP, .slice none 0 0, .slice aL nL cL, .int .i64 0, .int .i64 0] HK3.out rfl ?_)
  clear HK3
  refine (lanes_new ⟨C, 1, N, aL, nL, cL, L⟩ _ (HF.out _ hB)).mono ?_
  rintro e w5 ⟨rfl, hb⟩
  replace hB := next hB hb
  clear hb
  have HK4 : Hid (w5.heap[w.heap.size]? = some (.cells #[.int .i64 C.p, .int .i64 C.c, .int .i64 C.xo, .int .i64 C.xn, .int .i64 C.hd, .int .i64 C.lo, .int .i64 C.dl, .int .i64 0, .int .i64 1, .slice none 0 0, .slice N.aU N.nU N.cU, .int .i64 N.lo, .slice N.aP N.nP N.cP, .slice none 0 0, .slice aL nL cL, .int .i64 0, .int .i64 0] 35 (0, 0))) := HK.out _ hB
  go_wp2_with (refine wpList_ldG (.tmp 1) rfl (by kernel_rfl) w.heap.size rfl #[.int .i64 C.p, .int .i64 C.c, .int .i64 C.xo, .int .i64 C.xn, .int .i64 C.hd, .int .i64 C.lo, .int .i64 C.dl, .int .i64 0, .int .i64 1, .slice none 0 0, .slice N.aU N.nU N.cU, .int .i64 N.lo, .slice N.aP N.nP N.cP, .slice none 0 0, .slice aL nL cL, .int .i64 0, .int .i64 0] HK4.out rfl ?_)
  clear HK4
  refine (refs_new ⟨C, 1, N, aL, nL, cL, L⟩ _ (HF.out _ hB)).mono ?_
  rintro e w6 ⟨rfl, hb⟩
  replace hB := next hB hb
  clear hb
  have HK5 : Hid (w6.heap[w.heap.size]? = some (.cells #[.int .i64 C.p, .int .i64 C.c, .int .i64 C.xo, .int .i64 C.xn, .int .i64 C.hd, .int .i64 C.lo, .int .i64 C.dl, .int .i64 0, .int .i64 1, .slice none 0 0, .slice N.aU N.nU N.cU, .int .i64 N.lo, .slice N.aP N.nP N.cP, .slice none 0 0, .slice aL nL cL, .int .i64 0, .int .i64 0] 35 (0, 0))) := HK.out _ hB
  go_wp2_with (refine wpList_ldG (.tmp 1) rfl (by kernel_rfl) w.heap.size rfl #[.int .i64 C.p, .int .i64 C.c, .int .i64 C.xo, .int .i64 C.xn, .int .i64 C.hd, .int .i64 C.lo, .int .i64 C.dl, .int .i64 0, .int .i64 1, .slice none 0 0, .slice N.aU N.nU N.cU, .int .i64 N.lo, .slice N.aP N.nP N.cP, .slice none 0 0, .slice aL nL cL, .int .i64 0, .int .i64 0] HK5.out rfl ?_)
  clear HK5
  refine (cellsHeld_new ⟨C, 1, N, aL, nL, cL, L⟩ _ (HF.out _ hB)).mono ?_
  rintro e w7 ⟨rfl, hb⟩
  replace hB := next hB hb
  clear hb
  go_wp2_with fail
  go_ret
  exact ⟨rfl, under hB⟩
end Go.Proofs.Ytaiodombphpcgaa
