/- A new switch is right, knows nothing and has nothing: the law FnSwitchNew returns true for every code, under no condition. -/
import Derived.Test.YtaiodombphpcgaaLiftB
import Derived.Test.YtaiodombphpcgaaSwNS
import Derived.Test.YtaiodombphpcgaaSwNI
import Derived.Test.YtaiodombphpcgaaSwD2
import Derived.Test.YtaiodombphpcgaaSwD4
import Derived.Test.YtaiodombphpcgaaDCfg
import Derived.Test.YtaiodombphpcgaaDSame
namespace Go.Proofs.Ytaiodombphpcgaa
open Go.ChangeShapes Go.WideShapes Go.ChangeAt Go.RowKit
set_option linter.unusedVariables false
set_option linter.unusedSimpArgs false

theorem infoCf : (Try.prog.info? 25).map (·.size) = some 7 := by kernel_rfl
theorem wpList_stC {ops : Array Oper} {rest : List Oper} {o : Oper} {a : Act} {w : World} {Q : Exit → Act → World → Prop} (hg : o.guard = none) (x y : Operand) (ho : o.op = .store 25 x y) (g : Nat) (hx : a.eval x = .pointer (some ⟨g, 0, none⟩))
    (cs : Array Value) (hy : a.eval y = .agg cs) (old : Array Value) (hk : w.heap[g]? = some (.cells old 25 (0, 0))) (hs : cs.size = 7) (ho2 : old.size = 7) (h1 : cs.all (·.oneCell') = true) (h : wpList Try.prog ops Q rest (a.put o.dst undef) (w.setRow g cs)) : wpList Try.prog ops Q (o :: rest) a w :=
  wpList_plain hg fun _ hK => wp_store_row 25 x y ho g cs hx hy 25 old hk (by rw [hs]; exact infoCf) (by omega) h1 (hK _ _ h)
theorem res_cellC {fn : Func} {i : Tmp} (h : fn.results = #[.cell i 25]) (tmps : Array Value) (w : World) (g : Nat) (cs : Array Value) (hi : tmps[i]?.getD undef = .pointer (some ⟨g, 0, none⟩)) (hk : w.heap[g]? = some (.cells cs 25 (0, 0))) (hs : cs.size = 7) :
    (results fn tmps).run Try.prog w = .ok (.agg cs) w := by
  have := run_loadVar_row (P := Try.prog) w g 25 25 cs (0, 0) _ hk Try.underlying25 rfl (by rw [hs]; exact infoCf)
  simp [results, h, hi, asAddr, this]
theorem Cfg.cells_one (C : Cfg) : C.cells.all (·.oneCell') = true := by simp [Cfg.cells, Value.oneCell']
theorem Code.upS {w w' : World} {cv : Value} {len : Nat} (h : Code w.heap.size cv len w) (hb : Below w.heap.size w w') : Code w'.heap.size cv len w' := by
  rcases h with h | ⟨b, off, cap, hv, hb1, hl, hc⟩
  · exact .inl h
  · refine .inr ⟨b, off, cap, hv, Nat.lt_of_lt_of_le hb1 hb.size, hl, fun i hi => ?_⟩
    obtain ⟨z, hz, he⟩ := hc i hi
    exact ⟨z, hz, (World.cell?_of_block (w := w) (a := ⟨b, off + i, none⟩) (hb.block b hb1)).trans he⟩
set_option maxHeartbeats 1000000 in
theorem drawSwitchNew_any (cv : Value) (len : Nat) (w : World) (h : Code w.heap.size cv len w) (hs : ∃ a n c, cv = .slice a n c) :
    Calls Try.prog 5 #[cv] w fun e w' => ∃ C : Cfg, e = .returned (.agg C.cells) ∧ 2 ≤ C.p ∧ C.p ≤ 4 ∧ Below w.heap.size w w' := by
  obtain ⟨a0, n0, c0, rfl⟩ := hs
  generalize hcv : Value.slice a0 n0 c0 = cv at *
  have hB : Below w.heap.size w (w.alloc (.cells #[.int .i64 0, .int .i64 0, .int .i64 0, .int .i64 0, .int .i64 0, .int .i64 0, .int .i64 0] 25)) := (Below.refl _ _).alloc (Nat.le_refl _) _
  have kz := blk_new w (.cells #[.int .i64 0, .int .i64 0, .int .i64 0, .int .i64 0, .int .i64 0, .int .i64 0, .int .i64 0] 25)
  have hC0 := Code.upS h hB
  have hlt : w.heap.size < (w.alloc (.cells #[.int .i64 0, .int .i64 0, .int .i64 0, .int .i64 0, .int .i64 0, .int .i64 0, .int .i64 0] 25)).heap.size := blk_lt kz
  clear h
  go_enter Try.func5, Try.ntmps5
  go_wp2_with fail
  generalize w.alloc (.cells #[.int .i64 0, .int .i64 0, .int .i64 0, .int .i64 0, .int .i64 0, .int .i64 0, .int .i64 0] 25) = W0 at *
  refine (open_any cv len W0 hC0 ⟨a0, n0, c0, hcv.symm⟩).mono ?_
  rintro e w1 ⟨rfl, hR, hb⟩
  replace kz := (hb.block _ (blk_lt kz)).trans kz
  replace hB := hB.trans (hb.mono hB.size)
  generalize W0.heap.size = g0 at *
  clear hb hC0
  go_wp2_with fail
  refine (config_any g0 cv _ hR).mono ?_
  rintro e w2 ⟨C, rfl, hp1, hp2, hR2, hK2⟩
  have HP : Hid (2 ≤ C.p ∧ C.p ≤ 4) := ⟨hp1, hp2⟩
  have kz2 := kblk hK2 kz (by omega)
  have hB2 : Below w.heap.size w w2 := hB.trans (hK2.below hB.size (by omega))
  have ht := setRow_touch w2 w.heap.size C.cells
  have HK3 : Hid ((w2.setRow w.heap.size C.cells).heap[w.heap.size]? = some (.cells C.cells 25 (0, 0))) := setRow_blk kz2
  have HB3 : Hid (Below w.heap.size w (w2.setRow w.heap.size C.cells)) := hB2.trans (ht.below hB2.size (fun x hx => by simp at hx; omega))
  have HKz : Hid (w2.heap[w.heap.size]? = some (.cells #[.int .i64 0, .int .i64 0, .int .i64 0, .int .i64 0, .int .i64 0, .int .i64 0, .int .i64 0] 25 (0, 0))) := kz2
  clear hR hR2 hK2 hB hB2 ht kz kz2 hp1 hp2 hlt
  go_wp2_with (refine wpList_stC rfl (.tmp 2) (.tmp 7) rfl w.heap.size rfl C.cells rfl #[.int .i64 0, .int .i64 0, .int .i64 0, .int .i64 0, .int .i64 0, .int .i64 0, .int .i64 0] HKz.out rfl rfl C.cells_one ?_)
  generalize w2.setRow w.heap.size C.cells = WF at *
  exact bodyPost_ret (res_cellC Try.results5 _ _ w.heap.size _ rfl HK3.out rfl) rfl ⟨C, rfl, HP.out.1, HP.out.2, HB3.out⟩
theorem filledX (w : World) (cs : Array Value) : Below w.heap.size w ((w.alloc (.cells #[.int .i64 0, .int .i64 0, .int .i64 0, .int .i64 0, .int .i64 0, .int .i64 0, .int .i64 0, .int .i64 0, .int .i64 0, .slice none 0 0, .slice none 0 0, .int .i64 0, .slice none 0 0, .slice none 0 0, .slice none 0 0, .int .i64 0, .int .i64 0] 35)).setRow w.heap.size cs) ∧ ((w.alloc (.cells #[.int .i64 0, .int .i64 0, .int .i64 0, .int .i64 0, .int .i64 0, .int .i64 0, .int .i64 0, .int .i64 0, .int .i64 0, .slice none 0 0, .slice none 0 0, .int .i64 0, .slice none 0 0, .slice none 0 0, .slice none 0 0, .int .i64 0, .int .i64 0] 35)).setRow w.heap.size cs).heap[w.heap.size]? = some (.cells cs 35 (0, 0)) := by
  have h1 := (Below.refl w.heap.size w).alloc (Nat.le_refl _) (.cells #[.int .i64 0, .int .i64 0, .int .i64 0, .int .i64 0, .int .i64 0, .int .i64 0, .int .i64 0, .int .i64 0, .int .i64 0, .slice none 0 0, .slice none 0 0, .int .i64 0, .slice none 0 0, .slice none 0 0, .slice none 0 0, .int .i64 0, .int .i64 0] 35)
  exact ⟨h1.trans ((setRow_touch _ _ _).below h1.size (fun x hx => by simp at hx; omega)), setRow_blk (blk_new _ _)⟩
theorem cells_oneX (S : Sw) : S.cells.all (·.oneCell') = true := by simp [Sw.cells, Value.oneCell']
theorem NewS.fresh {w : World} {base n : Nat} {C : Cfg} {S : Sw} (h : NewS w base C n true S) (hc : C.Ok) (hp : C.p = (n : Int)) : Fresh w S := by
  have hr := h.rd
  obtain ⟨h1, h2, h3, h4, h5, h6, h7, g, b, h8⟩ := h
  exact ⟨by rw [h1]; exact hc, h2, by rw [h1, h3, hp], by omega, by rw [h3]; exact h6, fun i hi => h7 i (by omega), hr⟩
set_option maxRecDepth 100000 in
set_option maxHeartbeats 4000000 in
theorem switchNewD_any (a : Option Addr) (len cap : Nat) (w : World) (hl : len ≤ maxLen) (hC : len ≤ 1048576 → Code w.heap.size (.slice a len cap) len w) :
    Calls Try.prog 3 #[.slice a len cap] w fun e w' => e = .returned (.bool true) ∧ Below w.heap.size w w' := by
  have HC : Hid (len ≤ 1048576 → Code w.heap.size (.slice a len cap) len w) := hC
  clear hC
  by_cases hbig : 1048576 < (len : Int)
  · go_enter Try.func3, Try.ntmps3
    go_wp2_with fail
    refine (bigC_any a len cap _ hl).mono ?_
    rintro e w' ⟨rfl, hw⟩
    rw [hw, decide_eq_true hbig]
    clear hw w'
    go_wp2_with fail
    go_ret
    exact ⟨rfl, Below.refl _ _⟩
  go_enter Try.func3, Try.ntmps3
  go_wp2_with fail
  refine (bigC_any a len cap _ hl).mono ?_
  rintro e w' ⟨rfl, hw⟩
  rw [hw, decide_eq_false (show ¬ (1048576 : Int) < (len : Int) by omega)]
  clear hw w'
  go_wp2_with fail
  refine (drawSwitchNew_any (.slice a len cap) len _ (HC.out (by omega)) ⟨_, _, _, rfl⟩).mono ?_
  rintro e w1 ⟨C, rfl, hp1, hp2, B1⟩
  clear HC hbig
  obtain ⟨n, hn4, hpn⟩ : ∃ n : Nat, n ≤ 4 ∧ C.p = (n : Int) := ⟨C.p.toNat, by omega, by omega⟩
  have HPn : Hid (C.p = (n : Int)) := hpn
  obtain ⟨ok, hok⟩ := ok_decC C.Ok
  have HO : Hid (ok = true ↔ C.Ok) := hok
  have hbe : (ok == ok) = true := by cases ok <;> rfl
  have hB : Below (w1.heap.size + 1) (w1.alloc (.cells #[.int .i64 C.p, .int .i64 C.c, .int .i64 C.xo, .int .i64 C.xn, .int .i64 C.hd, .int .i64 C.lo, .int .i64 C.dl] 25)) (w1.alloc (.cells #[.int .i64 C.p, .int .i64 C.c, .int .i64 C.xo, .int .i64 C.xn, .int .i64 C.hd, .int .i64 C.lo, .int .i64 C.dl] 25)) := Below.refl _ _
  have cb := boxed hB
  have HB1 : Hid (Below w.heap.size w w1) := B1
  clear hok hpn hp1 hp2 B1
  unfold Cfg.cells
  go_wp2_with fail
  refine (iSwitchNew_any C n _ (fun _ => HPn.out) ok HO.out).mono ?_
  rintro e w2 ⟨SG, rfl, hG, hb⟩
  replace hB := next hB hb
  clear hb
  have hb := (filledX w2 #[.int .i64 SG.C.p, .int .i64 SG.C.c, .int .i64 SG.C.xo, .int .i64 SG.C.xn, .int .i64 SG.C.hd, .int .i64 SG.C.lo, .int .i64 SG.C.dl, .int .i64 0, .int .i64 SG.nx, .slice none 0 0, .slice SG.N.aU SG.N.nU SG.N.cU, .int .i64 SG.N.lo, .slice SG.N.aP SG.N.nP SG.N.cP, .slice none 0 0, .slice SG.aL SG.nL SG.cL, .int .i64 0, .int .i64 0]).1
  have HKG : Hid (((w2.alloc (.cells #[.int .i64 0, .int .i64 0, .int .i64 0, .int .i64 0, .int .i64 0, .int .i64 0, .int .i64 0, .int .i64 0, .int .i64 0, .slice none 0 0, .slice none 0 0, .int .i64 0, .slice none 0 0, .slice none 0 0, .slice none 0 0, .int .i64 0, .int .i64 0] 35)).setRow w2.heap.size #[.int .i64 SG.C.p, .int .i64 SG.C.c, .int .i64 SG.C.xo, .int .i64 SG.C.xn, .int .i64 SG.C.hd, .int .i64 SG.C.lo, .int .i64 SG.C.dl, .int .i64 0, .int .i64 SG.nx, .slice none 0 0, .slice SG.N.aU SG.N.nU SG.N.cU, .int .i64 SG.N.lo, .slice SG.N.aP SG.N.nP SG.N.cP, .slice none 0 0, .slice SG.aL SG.nL SG.cL, .int .i64 0, .int .i64 0]).heap[w2.heap.size]? = some (.cells #[.int .i64 SG.C.p, .int .i64 SG.C.c, .int .i64 SG.C.xo, .int .i64 SG.C.xn, .int .i64 SG.C.hd, .int .i64 SG.C.lo, .int .i64 SG.C.dl, .int .i64 0, .int .i64 SG.nx, .slice none 0 0, .slice SG.N.aU SG.N.nU SG.N.cU, .int .i64 SG.N.lo, .slice SG.N.aP SG.N.nP SG.N.cP, .slice none 0 0, .slice SG.aL SG.nL SG.cL, .int .i64 0, .int .i64 0] 35 (0, 0))) := (filledX w2 #[.int .i64 SG.C.p, .int .i64 SG.C.c, .int .i64 SG.C.xo, .int .i64 SG.C.xn, .int .i64 SG.C.hd, .int .i64 SG.C.lo, .int .i64 SG.C.dl, .int .i64 0, .int .i64 SG.nx, .slice none 0 0, .slice SG.N.aU SG.N.nU SG.N.cU, .int .i64 SG.N.lo, .slice SG.N.aP SG.N.nP SG.N.cP, .slice none 0 0, .slice SG.aL SG.nL SG.cL, .int .i64 0, .int .i64 0]).2
  have K0 : Hid ((w2.alloc (.cells #[.int .i64 0, .int .i64 0, .int .i64 0, .int .i64 0, .int .i64 0, .int .i64 0, .int .i64 0, .int .i64 0, .int .i64 0, .slice none 0 0, .slice none 0 0, .int .i64 0, .slice none 0 0, .slice none 0 0, .slice none 0 0, .int .i64 0, .int .i64 0] 35)).heap[w2.heap.size]? = some (.cells #[.int .i64 0, .int .i64 0, .int .i64 0, .int .i64 0, .int .i64 0, .int .i64 0, .int .i64 0, .int .i64 0, .int .i64 0, .slice none 0 0, .slice none 0 0, .int .i64 0, .slice none 0 0, .slice none 0 0, .slice none 0 0, .int .i64 0, .int .i64 0] 35 (0, 0))) := blk_new _ _
  have HG : Hid (NewS ((w2.alloc (.cells #[.int .i64 0, .int .i64 0, .int .i64 0, .int .i64 0, .int .i64 0, .int .i64 0, .int .i64 0, .int .i64 0, .int .i64 0, .slice none 0 0, .slice none 0 0, .int .i64 0, .slice none 0 0, .slice none 0 0, .slice none 0 0, .int .i64 0, .int .i64 0] 35)).setRow w2.heap.size #[.int .i64 SG.C.p, .int .i64 SG.C.c, .int .i64 SG.C.xo, .int .i64 SG.C.xn, .int .i64 SG.C.hd, .int .i64 SG.C.lo, .int .i64 SG.C.dl, .int .i64 0, .int .i64 SG.nx, .slice none 0 0, .slice SG.N.aU SG.N.nU SG.N.cU, .int .i64 SG.N.lo, .slice SG.N.aP SG.N.nP SG.N.cP, .slice none 0 0, .slice SG.aL SG.nL SG.cL, .int .i64 0, .int .i64 0]) (w1.alloc (.cells #[.int .i64 C.p, .int .i64 C.c, .int .i64 C.xo, .int .i64 C.xn, .int .i64 C.hd, .int .i64 C.lo, .int .i64 C.dl] 25)).heap.size C n ok SG) := hG.up hb
  replace hB := next hB hb
  replace cb := boxed hB
  clear hb hG
  dsimp only [Sw.cells]
  go_wp2_with (refine wpList_stS rfl (.tmp 4) (.tmp 17) rfl w2.heap.size rfl #[.int .i64 SG.C.p, .int .i64 SG.C.c, .int .i64 SG.C.xo, .int .i64 SG.C.xn, .int .i64 SG.C.hd, .int .i64 SG.C.lo, .int .i64 SG.C.dl, .int .i64 0, .int .i64 SG.nx, .slice none 0 0, .slice SG.N.aU SG.N.nU SG.N.cU, .int .i64 SG.N.lo, .slice SG.N.aP SG.N.nP SG.N.cP, .slice none 0 0, .slice SG.aL SG.nL SG.cL, .int .i64 0, .int .i64 0] rfl #[.int .i64 0, .int .i64 0, .int .i64 0, .int .i64 0, .int .i64 0, .int .i64 0, .int .i64 0, .int .i64 0, .int .i64 0, .slice none 0 0, .slice none 0 0, .int .i64 0, .slice none 0 0, .slice none 0 0, .slice none 0 0, .int .i64 0, .int .i64 0] K0.out rfl rfl (cells_oneX SG) ?_)
  clear K0
  generalize ((w2.alloc (.cells #[.int .i64 0, .int .i64 0, .int .i64 0, .int .i64 0, .int .i64 0, .int .i64 0, .int .i64 0, .int .i64 0, .int .i64 0, .slice none 0 0, .slice none 0 0, .int .i64 0, .slice none 0 0, .slice none 0 0, .slice none 0 0, .int .i64 0, .int .i64 0] 35)).setRow w2.heap.size #[.int .i64 SG.C.p, .int .i64 SG.C.c, .int .i64 SG.C.xo, .int .i64 SG.C.xn, .int .i64 SG.C.hd, .int .i64 SG.C.lo, .int .i64 SG.C.dl, .int .i64 0, .int .i64 SG.nx, .slice none 0 0, .slice SG.N.aU SG.N.nU SG.N.cU, .int .i64 SG.N.lo, .slice SG.N.aP SG.N.nP SG.N.cP, .slice none 0 0, .slice SG.aL SG.nL SG.cL, .int .i64 0, .int .i64 0]) = wa at *
  have BG : Below wa.heap.size wa wa := Below.refl _ _
  refine (sSwitchNew_any C n _ (fun _ => HPn.out) ok HO.out).mono ?_
  rintro e w3 ⟨SW, rfl, hW, hb⟩
  replace hB := next hB hb
  replace BG := BG.trans (hb.mono BG.size)
  clear hb
  have hb := (filledX w3 #[.int .i64 SW.C.p, .int .i64 SW.C.c, .int .i64 SW.C.xo, .int .i64 SW.C.xn, .int .i64 SW.C.hd, .int .i64 SW.C.lo, .int .i64 SW.C.dl, .int .i64 0, .int .i64 SW.nx, .slice none 0 0, .slice SW.N.aU SW.N.nU SW.N.cU, .int .i64 SW.N.lo, .slice SW.N.aP SW.N.nP SW.N.cP, .slice none 0 0, .slice SW.aL SW.nL SW.cL, .int .i64 0, .int .i64 0]).1
  have HKW : Hid (((w3.alloc (.cells #[.int .i64 0, .int .i64 0, .int .i64 0, .int .i64 0, .int .i64 0, .int .i64 0, .int .i64 0, .int .i64 0, .int .i64 0, .slice none 0 0, .slice none 0 0, .int .i64 0, .slice none 0 0, .slice none 0 0, .slice none 0 0, .int .i64 0, .int .i64 0] 35)).setRow w3.heap.size #[.int .i64 SW.C.p, .int .i64 SW.C.c, .int .i64 SW.C.xo, .int .i64 SW.C.xn, .int .i64 SW.C.hd, .int .i64 SW.C.lo, .int .i64 SW.C.dl, .int .i64 0, .int .i64 SW.nx, .slice none 0 0, .slice SW.N.aU SW.N.nU SW.N.cU, .int .i64 SW.N.lo, .slice SW.N.aP SW.N.nP SW.N.cP, .slice none 0 0, .slice SW.aL SW.nL SW.cL, .int .i64 0, .int .i64 0]).heap[w3.heap.size]? = some (.cells #[.int .i64 SW.C.p, .int .i64 SW.C.c, .int .i64 SW.C.xo, .int .i64 SW.C.xn, .int .i64 SW.C.hd, .int .i64 SW.C.lo, .int .i64 SW.C.dl, .int .i64 0, .int .i64 SW.nx, .slice none 0 0, .slice SW.N.aU SW.N.nU SW.N.cU, .int .i64 SW.N.lo, .slice SW.N.aP SW.N.nP SW.N.cP, .slice none 0 0, .slice SW.aL SW.nL SW.cL, .int .i64 0, .int .i64 0] 35 (0, 0))) := (filledX w3 #[.int .i64 SW.C.p, .int .i64 SW.C.c, .int .i64 SW.C.xo, .int .i64 SW.C.xn, .int .i64 SW.C.hd, .int .i64 SW.C.lo, .int .i64 SW.C.dl, .int .i64 0, .int .i64 SW.nx, .slice none 0 0, .slice SW.N.aU SW.N.nU SW.N.cU, .int .i64 SW.N.lo, .slice SW.N.aP SW.N.nP SW.N.cP, .slice none 0 0, .slice SW.aL SW.nL SW.cL, .int .i64 0, .int .i64 0]).2
  have K0 : Hid ((w3.alloc (.cells #[.int .i64 0, .int .i64 0, .int .i64 0, .int .i64 0, .int .i64 0, .int .i64 0, .int .i64 0, .int .i64 0, .int .i64 0, .slice none 0 0, .slice none 0 0, .int .i64 0, .slice none 0 0, .slice none 0 0, .slice none 0 0, .int .i64 0, .int .i64 0] 35)).heap[w3.heap.size]? = some (.cells #[.int .i64 0, .int .i64 0, .int .i64 0, .int .i64 0, .int .i64 0, .int .i64 0, .int .i64 0, .int .i64 0, .int .i64 0, .slice none 0 0, .slice none 0 0, .int .i64 0, .slice none 0 0, .slice none 0 0, .slice none 0 0, .int .i64 0, .int .i64 0] 35 (0, 0))) := blk_new _ _
  have HW : Hid (NewS ((w3.alloc (.cells #[.int .i64 0, .int .i64 0, .int .i64 0, .int .i64 0, .int .i64 0, .int .i64 0, .int .i64 0, .int .i64 0, .int .i64 0, .slice none 0 0, .slice none 0 0, .int .i64 0, .slice none 0 0, .slice none 0 0, .slice none 0 0, .int .i64 0, .int .i64 0] 35)).setRow w3.heap.size #[.int .i64 SW.C.p, .int .i64 SW.C.c, .int .i64 SW.C.xo, .int .i64 SW.C.xn, .int .i64 SW.C.hd, .int .i64 SW.C.lo, .int .i64 SW.C.dl, .int .i64 0, .int .i64 SW.nx, .slice none 0 0, .slice SW.N.aU SW.N.nU SW.N.cU, .int .i64 SW.N.lo, .slice SW.N.aP SW.N.nP SW.N.cP, .slice none 0 0, .slice SW.aL SW.nL SW.cL, .int .i64 0, .int .i64 0]) wa.heap.size C n ok SW) := hW.up hb
  replace hB := next hB hb
  replace BG := BG.trans (hb.mono BG.size)
  replace cb := boxed hB
  clear hb hW
  dsimp only [Sw.cells]
  go_wp2_with (refine wpList_stS rfl (.tmp 6) (.tmp 22) rfl w3.heap.size rfl #[.int .i64 SW.C.p, .int .i64 SW.C.c, .int .i64 SW.C.xo, .int .i64 SW.C.xn, .int .i64 SW.C.hd, .int .i64 SW.C.lo, .int .i64 SW.C.dl, .int .i64 0, .int .i64 SW.nx, .slice none 0 0, .slice SW.N.aU SW.N.nU SW.N.cU, .int .i64 SW.N.lo, .slice SW.N.aP SW.N.nP SW.N.cP, .slice none 0 0, .slice SW.aL SW.nL SW.cL, .int .i64 0, .int .i64 0] rfl #[.int .i64 0, .int .i64 0, .int .i64 0, .int .i64 0, .int .i64 0, .int .i64 0, .int .i64 0, .int .i64 0, .int .i64 0, .slice none 0 0, .slice none 0 0, .int .i64 0, .slice none 0 0, .slice none 0 0, .slice none 0 0, .int .i64 0, .int .i64 0] K0.out rfl rfl (cells_oneX SW) ?_)
  clear K0
  generalize ((w3.alloc (.cells #[.int .i64 0, .int .i64 0, .int .i64 0, .int .i64 0, .int .i64 0, .int .i64 0, .int .i64 0, .int .i64 0, .int .i64 0, .slice none 0 0, .slice none 0 0, .int .i64 0, .slice none 0 0, .slice none 0 0, .slice none 0 0, .int .i64 0, .int .i64 0] 35)).setRow w3.heap.size #[.int .i64 SW.C.p, .int .i64 SW.C.c, .int .i64 SW.C.xo, .int .i64 SW.C.xn, .int .i64 SW.C.hd, .int .i64 SW.C.lo, .int .i64 SW.C.dl, .int .i64 0, .int .i64 SW.nx, .slice none 0 0, .slice SW.N.aU SW.N.nU SW.N.cU, .int .i64 SW.N.lo, .slice SW.N.aP SW.N.nP SW.N.cP, .slice none 0 0, .slice SW.aL SW.nL SW.cL, .int .i64 0, .int .i64 0]) = wc at *
  have BW : Below wc.heap.size wc wc := Below.refl _ _
  refine (iCountsNew_any C n _ (fun _ => HPn.out) ok HO.out).mono ?_
  rintro e w4 ⟨M, rfl, hM, hb, hAM⟩
  replace hB := next hB hb
  replace BG := BG.trans (hb.mono BG.size)
  replace BW := BW.trans (hb.mono BW.size)
  have HAM : Hid (AlikeC (newC n ok) M) := hAM
  clear hb hAM
  have hb := (Below.refl w4.heap.size w4).alloc (Nat.le_refl _) (.cells #[.slice M.aU M.nU M.cU, .int .i64 M.lo, .slice M.aP M.nP M.cP] 31)
  have kM := blk_new w4 (.cells #[.slice M.aU M.nU M.cU, .int .i64 M.lo, .slice M.aP M.nP M.cP] 31)
  have hMr := hM.rd.up hb
  replace hB := next hB hb
  replace BG := BG.trans (hb.mono BG.size)
  replace BW := BW.trans (hb.mono BW.size)
  have HKG4 : Hid ((w4.alloc (.cells #[.slice M.aU M.nU M.cU, .int .i64 M.lo, .slice M.aP M.nP M.cP] 31)).heap[w2.heap.size]? = some (.cells #[.int .i64 SG.C.p, .int .i64 SG.C.c, .int .i64 SG.C.xo, .int .i64 SG.C.xn, .int .i64 SG.C.hd, .int .i64 SG.C.lo, .int .i64 SG.C.dl, .int .i64 0, .int .i64 SG.nx, .slice none 0 0, .slice SG.N.aU SG.N.nU SG.N.cU, .int .i64 SG.N.lo, .slice SG.N.aP SG.N.nP SG.N.cP, .slice none 0 0, .slice SG.aL SG.nL SG.cL, .int .i64 0, .int .i64 0] 35 (0, 0))) := (BG.block _ (blk_lt HKG.out)).trans HKG.out
  have HKW4 : Hid ((w4.alloc (.cells #[.slice M.aU M.nU M.cU, .int .i64 M.lo, .slice M.aP M.nP M.cP] 31)).heap[w3.heap.size]? = some (.cells #[.int .i64 SW.C.p, .int .i64 SW.C.c, .int .i64 SW.C.xo, .int .i64 SW.C.xn, .int .i64 SW.C.hd, .int .i64 SW.C.lo, .int .i64 SW.C.dl, .int .i64 0, .int .i64 SW.nx, .slice none 0 0, .slice SW.N.aU SW.N.nU SW.N.cU, .int .i64 SW.N.lo, .slice SW.N.aP SW.N.nP SW.N.cP, .slice none 0 0, .slice SW.aL SW.nL SW.cL, .int .i64 0, .int .i64 0] 35 (0, 0))) := (BW.block _ (blk_lt HKW.out)).trans HKW.out
  clear hb hM cb
  dsimp only [Cnt.cells]
  go_wp2_with (first | refine wpList_ldG (.tmp 4) rfl (by kernel_rfl) w2.heap.size rfl #[.int .i64 SG.C.p, .int .i64 SG.C.c, .int .i64 SG.C.xo, .int .i64 SG.C.xn, .int .i64 SG.C.hd, .int .i64 SG.C.lo, .int .i64 SG.C.dl, .int .i64 0, .int .i64 SG.nx, .slice none 0 0, .slice SG.N.aU SG.N.nU SG.N.cU, .int .i64 SG.N.lo, .slice SG.N.aP SG.N.nP SG.N.cP, .slice none 0 0, .slice SG.aL SG.nL SG.cL, .int .i64 0, .int .i64 0] HKG4.out rfl ?_ | refine wpList_ldG (.tmp 6) rfl (by kernel_rfl) w3.heap.size rfl #[.int .i64 SW.C.p, .int .i64 SW.C.c, .int .i64 SW.C.xo, .int .i64 SW.C.xn, .int .i64 SW.C.hd, .int .i64 SW.C.lo, .int .i64 SW.C.dl, .int .i64 0, .int .i64 SW.nx, .slice none 0 0, .slice SW.N.aU SW.N.nU SW.N.cU, .int .i64 SW.N.lo, .slice SW.N.aP SW.N.nP SW.N.cP, .slice none 0 0, .slice SW.aL SW.nL SW.cL, .int .i64 0, .int .i64 0] HKW4.out rfl ?_)
  clear HKG4 HKW4
  generalize w4.alloc (.cells #[.slice M.aU M.nU M.cU, .int .i64 M.lo, .slice M.aP M.nP M.cP] 31) = wd at *
  refine (sameSwitch_any SG SW _ HG.out.small (HG.out.up BG).rd (HW.out.up BW).rd (HG.out.alike HW.out)).mono ?_
  rintro e w5 ⟨rfl, hb⟩
  replace hB := next hB hb
  replace BG := BG.trans (hb.mono BG.size)
  replace BW := BW.trans (hb.mono BW.size)
  replace kM := (hb.block _ (blk_lt kM)).trans kM
  replace hMr := hMr.up hb
  clear hb
  have cb := boxed hB
  go_wp2_with fail
  refine (iConfigOk_any C _ ok HO.out).mono ?_
  rintro e w6 ⟨rfl, hb⟩
  replace hB := next hB hb
  replace BG := BG.trans (hb.mono BG.size)
  replace BW := BW.trans (hb.mono BW.size)
  replace kM := (hb.block _ (blk_lt kM)).trans kM
  replace hMr := hMr.up hb
  clear hb cb
  cases ok
  · have B := HB1.out.trans ((under hB).mono HB1.out.size)
    clear hB BG BW kM hMr
    go_wp2_with fail
    go_ret
    exact ⟨rfl, B⟩
  · have HOk : Hid C.Ok := HO.out.1 rfl
    have HK6 : Hid (w6.heap[w2.heap.size]? = some (.cells #[.int .i64 SG.C.p, .int .i64 SG.C.c, .int .i64 SG.C.xo, .int .i64 SG.C.xn, .int .i64 SG.C.hd, .int .i64 SG.C.lo, .int .i64 SG.C.dl, .int .i64 0, .int .i64 SG.nx, .slice none 0 0, .slice SG.N.aU SG.N.nU SG.N.cU, .int .i64 SG.N.lo, .slice SG.N.aP SG.N.nP SG.N.cP, .slice none 0 0, .slice SG.aL SG.nL SG.cL, .int .i64 0, .int .i64 0] 35 (0, 0))) := (BG.block _ (blk_lt HKG.out)).trans HKG.out
    go_wp2_with (refine wpList_ldG (.tmp 4) rfl (by kernel_rfl) w2.heap.size rfl #[.int .i64 SG.C.p, .int .i64 SG.C.c, .int .i64 SG.C.xo, .int .i64 SG.C.xn, .int .i64 SG.C.hd, .int .i64 SG.C.lo, .int .i64 SG.C.dl, .int .i64 0, .int .i64 SG.nx, .slice none 0 0, .slice SG.N.aU SG.N.nU SG.N.cU, .int .i64 SG.N.lo, .slice SG.N.aP SG.N.nP SG.N.cP, .slice none 0 0, .slice SG.aL SG.nL SG.cL, .int .i64 0, .int .i64 0] HK6.out rfl ?_)
    clear HK6
    refine (iSwitchOk_new SG _ ((HG.out.up BG).fresh HOk.out HPn.out)).mono ?_
    rintro e w7 ⟨rfl, hb⟩
    replace hB := next hB hb
    replace BG := BG.trans (hb.mono BG.size)
    replace BW := BW.trans (hb.mono BW.size)
    replace kM := (hb.block _ (blk_lt kM)).trans kM
    replace hMr := hMr.up hb
    clear hb
    have cG := blk_cell ((BG.block _ (blk_lt HKG.out)).trans HKG.out)
    have cM := blk_cell kM
    have HNs : Hid (SG.N.Small ∧ AlikeC SG.N M) := by
      obtain ⟨_, _, _, _, _, h6, _⟩ := HG.out
      exact ⟨h6.small (newC_small hn4), h6.symm.trans HAM.out⟩
    go_wp2_with fail
    refine (sameCounts_any SG.N M _ HNs.out.1 (HG.out.up BG).rd.n hMr HNs.out.2).mono ?_
    rintro e w8 ⟨rfl, hb⟩
    have B := HB1.out.trans ((under (next hB hb)).mono HB1.out.size)
    clear hB BG BW kM hMr hb cG cM
    go_wp2_with fail
    go_ret
    exact ⟨rfl, B⟩

set_option maxRecDepth 100000 in
theorem switchNewD_lifted (os : Os) (started : os.Started) (H : Type) (enc : TypeId × Value → H) :
    ReturnsInHanded {} Try.checked os 3 .any (Rows.fnSwitchNewSpec.pre6 enc Try.prog Try.f3 Rows.fnSwitchNewRow.domain false) (Rows.fnSwitchNewSpec.post enc Try.prog Try.f3 false true false false) := by
  refine returnsInHanded_of_change (C := Try.checked) own started (by kernel_rfl) Try.func3
    (ChangeSpec.witness6 (enc := enc) (C := Try.checked) false ⟨#[], #[.slice none 0 0], []⟩ 8 (by kernel_rfl) (by kernel_rfl) (by kernel_rfl) (by kernel_rfl)) ?_
  intro W base args ds gs before hval0 hW hcnd _
  have hval : ∀ (j : Nat) t v, Try.f3.params[j]? = some t → args[j]? = some v → Value.okWide Try.prog W .any base t v := hval0
  have hW' := hW
  obtain ⟨p, q, hA0, hV, rfl, hfz, hnd⟩ := hW
  have hA : DataW.TrodAll enc Try.prog W 0 (fun _ => true) true Try.f3.params.toList args.toList ds p := hA0
  rw [Try.params3] at hA hval
  obtain ⟨v0, vs0, d0, ds0, p0, q0, hargs, rfl, rfl, h0, r0⟩ := trodAll_cons hA
  obtain ⟨rfl, rfl, rfl⟩ := trodAll_nil r0
  obtain rfl : args = #[v0] := by cases args; simp_all
  obtain ⟨rfl, rfl⟩ := trodVars_none hV
  obtain ⟨a0, len0, cap0, rfl⟩ := okWide_slice Try.underlying22 (hval 0 22 v0 rfl rfl)
  have k0 := h0
  have lt0 : ∀ x ∈ p0, x.block < W.heap.size := by obtain ⟨m, hm⟩ := k0; exact DataW.trod_lt m _ _ _ hm
  obtain ⟨hm, hc⟩ := open_bytes h0
  clear hA0 hval0
  refine (switchNewD_any a0 len0 cap0 W hm hc).mono fun e W' ⟨he, bel⟩ => ?_
  subst he
  exact ⟨_, rfl, _, _, _, [], _, [], hW', trodAll_mk1 (shut_bool Try.underlying4 _), (trodAll_cons_mk (Below.trod laidOut (by kernel_rfl) (of_decide_eq_true (by kernel_rfl)) k0 bel lt0) trodAll_mk0), rfl, bel.frame _, fun h => by cases h⟩

theorem switchNewD_holds : Rows.FnSwitchNewSaid :=
  OpenClaim.holds_of_wide 3 Try.f3 rfl rfl rfl rfl rfl rfl rfl ⟨rfl, rfl, rfl, rfl, rfl⟩ rfl rfl rfl rfl rfl (by kernel_rfl) Try.func3 (by kernel_rfl)
    (of_decide_eq_true (by kernel_rfl)) (by unfold Func.isWrapper; first | (rw [if_pos (by decide +kernel)]; kernel_rfl) | (rw [if_neg (by decide +kernel)]; exact ⟨rfl, rfl⟩))
    (fun os started H enc _ => switchNewD_lifted os started H enc)
#print axioms switchNewD_holds
end Go.Proofs.Ytaiodombphpcgaa
