/- Counts copied, by both sides. -/
import Derived.Test.YtpldaohflojkmaaCnNew
import Derived.Room.AppendFits
import Derived.Lib.AppendZeros
namespace Go.Proofs.Ytpldaohflojkmaa
open Go.RowKit
set_option linter.unusedVariables false
set_option linter.unusedSimpArgs false

def valsV (n : Nat) (F : Nat → Value) : List Value := (List.range n).map F
theorem valsV_len (n : Nat) (F : Nat → Value) : (valsV n F).length = n := by simp [valsV]
theorem valsV_get {n : Nat} {F : Nat → Value} {j : Nat} {u : Value} (h : (valsV n F)[j]? = some u) : j < n ∧ u = F j := by
  have hj : j < n := by
    have := (List.getElem?_eq_some_iff.1 h).1
    rwa [valsV_len] at this
  refine ⟨hj, ?_⟩
  simp [valsV, hj] at h
  exact h.symm
theorem valsV_at {n : Nat} {F : Nat → Value} {j : Nat} (h : j < n) : (valsV n F)[j]? = some (F j) := by simp [valsV, h]
theorem own_vt {e : TypeId} {w : World} {base n : Nat} {v : Value} {F : Nat → Value} (h : w.ownsRow base e 1 v n (valsV n F)) : ∃ a c, v = .slice a n c ∧ VT e w base a n F := by
  rcases h.2 with ⟨rfl, rfl⟩ | ⟨g, cap, cur, rfl, hb, hg, hnc, hcm, hcs, htake⟩
  · exact ⟨none, 0, rfl, .inl rfl⟩
  · refine ⟨_, cap, rfl, .inr ⟨g, rfl, hb, cur, hg, by omega, fun i hi => ?_⟩⟩
    have e : (cur.toList.take (n * 1))[i]? = some (F i) := by rw [htake]; exact valsV_at hi
    rw [List.getElem?_take_of_lt (by omega)] at e
    simpa using e
/-- append of a whole row to nothing: its run -/
theorem appendT {t e : TypeId} {z : Value} {by' : Nat} (ht : Try.prog.underlying t = some (.slice e)) (hinf : (Try.prog.info? e).map (fun i => (i.zero, i.size, i.bytes)) = some (some z, 1, by')) (hby : by' ≤ 8) (hzc : z.cells.size = 1)
    {W : World} {base : Nat} {v : Value} {g q n c : Nat} {F : Nat → Value} (h : W.ownsRow base e 1 v 0 []) (hb : base ≤ W.heap.size) (hn : n ≤ 1048576) (hc : ∀ i, i < n → W.cell? ⟨g, q + i, none⟩ = some (F i)) (h1 : ∀ i, (F i).oneCell' = true) :
    ∃ a' c' W', (Builtin.append_ #[t, t] t #[v, .slice (some ⟨g, q, none⟩) n c]).run Try.prog W = .ok (.slice a' n c') W' ∧ VT e W' base a' n F ∧ W.grownBy W' v.ownBlock ∧ (∀ x ∈ blkV a' n, some x = v.ownBlock ∨ x = W.heap.size) := by
  obtain ⟨i0, hi, hz0, hz1, hz2⟩ := info_parts hinf
  obtain ⟨v', w', hr, h2, h3, h4, h5⟩ := run_append_own_at (P := Try.prog) W base t t e i0 z 1 by' ht hi hz0 hz1 hz2 hzc (by decide) v 0 [] h ⟨g, q, none⟩ n c (valsV n F) (by rw [valsV_len]; omega) (fun j u hj => by
    obtain ⟨hjn, rfl⟩ := valsV_get hj
    have e : (⟨g, q, none⟩ : Addr).add j = ⟨g, q + j, none⟩ := by unfold Addr.add; split <;> simp_all
    rw [e]; exact hc j hjn) (fun u hu => by
    obtain ⟨j, _, rfl⟩ := List.mem_map.1 hu
    exact h1 j) (by unfold maxLen; omega) (by have : (0 + n) * by' ≤ (0 + n) * 8 := Nat.mul_le_mul_left _ hby; omega) hb
  rw [Nat.zero_add, List.nil_append] at h2
  obtain ⟨a', c', rfl, hv⟩ := own_vt h2
  refine ⟨a', c', w', hr, hv, h3, fun x hx => ?_⟩
  unfold blkV at hx
  split at hx
  · simp at hx
  · rename_i hn0
    rcases hv with h0 | ⟨g', rfl, _, _⟩
    · exact absurd h0 hn0
    · simp at hx
      subst hx
      rcases h5 with h5 | h5
      · exact .inl h5
      · right
        simpa [Value.ownBlock] using h5
theorem own_empty0 {W : World} {base g : Nat} {e : TypeId} (hg : base ≤ g) (h : W.heap[g]? = some (.cells #[] e (0, 0))) : W.ownsRow base e 1 (.slice (some ⟨g, 0, none⟩) 0 0) 0 [] :=
  ⟨rfl, .inr ⟨g, 0, #[], rfl, hg, h, Nat.le_refl _, Nat.zero_le _, rfl, rfl⟩⟩
theorem rd_some {w : World} {a : Option Addr} {n : Nat} {F : Nat → Value} (h : RdRow w a n F) (hn : 0 < n) : ∃ g q, a = some ⟨g, q, none⟩ ∧ ∀ i, i < n → w.cell? ⟨g, q + i, none⟩ = some (F i) := by
  obtain ⟨g, q, rfl, _⟩ := h 0 hn
  refine ⟨g, q, rfl, fun i hi => ?_⟩
  obtain ⟨g', q', e, hc⟩ := h i hi
  cases e
  exact hc
theorem copyInts_any (a : Option Addr) (n cap : Nat) (f : Nat → Int) (w : World) (h0 : 0 < n) (hn : n ≤ 1048576) (h : RdRow w a n fun i => .int .i64 (f i)) :
    Calls Try.prog 47 #[.slice a n cap] w fun e w' => ∃ a' c', e = .returned (.slice a' n c') ∧ VT 2 w' w.heap.size a' n (fun i => .int .i64 (f i)) ∧ Below w.heap.size w w' := by
  obtain ⟨g, q, rfl, hc⟩ := rd_some h h0
  obtain ⟨a', c', W', hr, hv, hg, hp⟩ := appendT (t := 26) Try.underlying26 info2 (by decide) rfl (W := w) (base := w.heap.size) (v := .slice none 0 0) (g := g) (q := q) (c := cap) (World.ownsRow_nil _ _ _ _) (Nat.le_refl _) hn hc (fun i => rfl)
  have hB : Below w.heap.size w W' := (Below.refl _ _).grown hg (Nat.le_refl _) (fun k e => by simp [Value.ownBlock] at e)
  have HV : Hid (VT 2 W' w.heap.size a' n (fun i => .int .i64 (f i))) := hv
  clear hv hg hp h hc
  go_enter Try.func47, Try.ntmps47
  go_wp2_with (at_builtin; refine Lib.wpList_append_run _ rfl _ _ _ _ rfl _ _ rfl rfl _ _ hr ?_)
  go_ret
  exact ⟨_, _, rfl, HV.out, hB⟩
theorem copyBools_any (a : Option Addr) (n cap : Nat) (f : Nat → Bool) (w : World) (h0 : 0 < n) (hn : n ≤ 1048576) (h : RdRow w a n fun i => .bool (f i)) :
    Calls Try.prog 48 #[.slice a n cap] w fun e w' => ∃ a' c', e = .returned (.slice a' n c') ∧ VT 4 w' w.heap.size a' n (fun i => .bool (f i)) ∧ Below w.heap.size w w' := by
  obtain ⟨g, q, rfl, hc⟩ := rd_some h h0
  obtain ⟨a', c', W', hr, hv, hg, hp⟩ := appendT (t := 27) Try.underlying27 info4 (by decide) rfl (W := w) (base := w.heap.size) (v := .slice none 0 0) (g := g) (q := q) (c := cap) (World.ownsRow_nil _ _ _ _) (Nat.le_refl _) hn hc (fun i => rfl)
  have hB : Below w.heap.size w W' := (Below.refl _ _).grown hg (Nat.le_refl _) (fun k e => by simp [Value.ownBlock] at e)
  have HV : Hid (VT 4 W' w.heap.size a' n (fun i => .bool (f i))) := hv
  clear hv hg hp h hc
  go_enter Try.func48, Try.ntmps48
  go_wp2_with (at_builtin; refine Lib.wpList_append_run _ rfl _ _ _ _ rfl _ _ rfl rfl _ _ hr ?_)
  go_ret
  exact ⟨_, _, rfl, HV.out, hB⟩
theorem touch3 {W : World} {base : Nat} {N : Cnt} {g : Nat} {x y z : Value} {cs : Array Value} (h : OwnCn W base N) (hk : W.heap[g]? = some (.cells cs 29 (0, 0))) : OwnCn (put3 W g x y z) base N :=
  ⟨h.u.touchS (put3_touch _ _ _ _ _) (fun k hk1 hk2 => by simp at hk2; subst hk2; exact VT.boxOut h.u (by decide) hk hk1), h.p.touchS (put3_touch _ _ _ _ _) (fun k hk1 hk2 => by simp at hk2; subst hk2; exact VT.boxOut h.p (by decide) hk hk1)⟩
set_option maxHeartbeats 4000000 in
theorem copyCounts_any (N : Cnt) (w : World) (hU : 0 < N.nU) (hP : 0 < N.nP) (hs : N.Small) (h : RdCnt w N) :
    Calls Try.prog 33 #[.agg N.cells] w fun e w' => ∃ M : Cnt, e = .returned (.agg M.cells) ∧ OwnCn w' w.heap.size M ∧ Below w.heap.size w w' ∧ AlikeC N M := by
  obtain ⟨aU, nU, cU, u, lo, aP, nP, cP, p⟩ := N
  have HU : Hid (RdRow w aU nU fun i => .int .i64 (u i)) := h.u
  have HP : Hid (RdRow w aP nP fun i => .bool (p i)) := h.p
  have hs1 : nU ≤ 1048576 := hs.u
  have hs2 : nP ≤ 1048576 := hs.p
  have hU' : 0 < nU := hU
  have hP' : 0 < nP := hP
  clear h hs hU hP
  obtain ⟨w3, hw3⟩ : ∃ w3, w3 = ((w.alloc (.cells #[.slice aU nU cU, .int .i64 lo, .slice aP nP cP] 29)).alloc (.cells #[.slice none 0 0, .int .i64 0, .slice none 0 0] 29)).alloc (.cells #[.slice aU nU cU, .int .i64 lo, .slice aP nP cP] 29) := ⟨_, rfl⟩
  have k1 : w3.heap[w.heap.size]? = some (.cells #[.slice aU nU cU, .int .i64 lo, .slice aP nP cP] 29 (0, 0)) := by
    rw [hw3]; exact (blk_old _ (by simp; omega)).trans ((blk_old _ (by simp)).trans (blk_new _ _))
  have k2 : w3.heap[w.heap.size + 1]? = some (.cells #[.slice none 0 0, .int .i64 0, .slice none 0 0] 29 (0, 0)) := by
    rw [hw3]
    refine (blk_old _ (by simp)).trans ?_
    have := blk_new (w.alloc (.cells #[.slice aU nU cU, .int .i64 lo, .slice aP nP cP] 29)) (.cells #[.slice none 0 0, .int .i64 0, .slice none 0 0] 29)
    simpa using this
  have k3 : w3.heap[w.heap.size + 1 + 1]? = some (.cells #[.slice aU nU cU, .int .i64 lo, .slice aP nP cP] 29 (0, 0)) := by
    rw [hw3]
    have := blk_new ((w.alloc (.cells #[.slice aU nU cU, .int .i64 lo, .slice aP nP cP] 29)).alloc (.cells #[.slice none 0 0, .int .i64 0, .slice none 0 0] 29)) (.cells #[.slice aU nU cU, .int .i64 lo, .slice aP nP cP] 29)
    simpa using this
  have B3 : Below w.heap.size w w3 := by rw [hw3]; go_grown
  have HZ3 : Hid (w.heap.size + 3 = w3.heap.size) := by rw [Hid, hw3]; simp
  have c1 := blk_cell k1
  have c3' := blk_cell k3
  unfold Cnt.cells
  dsimp only
  go_enter Try.func33, Try.ntmps33
  go_wp2_with fail
  try rw [← hw3]
  refine (copyInts_any aU nU cU u _ hU' hs1 (HU.out.up B3)).mono ?_
  rintro e w4 ⟨aq, cq, rfl, hv4, hb4⟩
  have k14 := (hb4.block _ (blk_lt k1)).trans k1
  have k24 := (hb4.block _ (blk_lt k2)).trans k2
  have k34 := (hb4.block _ (blk_lt k3)).trans k3
  have B4 := B3.trans (hb4.mono B3.size)
  have HV4 : Hid (VT 2 w4 w3.heap.size aq nU (fun i => .int .i64 (u i))) := hv4
  clear k1 k2 k3 hb4 B3 c1 c3' hv4 hw3
  have c1 := blk_cell k14
  have c3 := blk_cell k34
  have f3 := blk_free k34
  have hz3 := HZ3.out
  have hT5 : Touch [w.heap.size + 1 + 1] w4 (w4.setCell ⟨w.heap.size + 1 + 1, 0, none⟩ (.slice aq nU cq)) := (Touch.refl _ _).set (by simp) 0 _
  have HV5 : Hid (VT 2 (w4.setCell ⟨w.heap.size + 1 + 1, 0, none⟩ (.slice aq nU cq)) w3.heap.size aq nU (fun i => .int .i64 (u i))) := HV4.out.touchS hT5 (fun x hx hy => by simp at hy; have := (HV4.out.blk x hx).1; omega)
  have k15 := (hT5.block _ (blk_lt k14) (by simp; omega)).trans k14
  have k25 := (hT5.block _ (blk_lt k24) (by simp)).trans k24
  have k35 : (w4.setCell ⟨w.heap.size + 1 + 1, 0, none⟩ (.slice aq nU cq)).heap[w.heap.size + 1 + 1]? = some (.cells #[.slice aq nU cq, .int .i64 lo, .slice aP nP cP] 29 (0, 0)) := blk_set k34 _
  have B5 := B4.trans (hT5.below B4.size (fun x hx => by simp at hx; omega))
  have c15 := blk_cell k15
  clear hz3 hT5 k14 k24 k34 B4
  go_wp2_with fail
  generalize w4.setCell ⟨w.heap.size + 1 + 1, 0, none⟩ (.slice aq nU cq) = w5 at *
  refine (copyBools_any aP nP cP p _ hP' hs2 (HP.out.up B5)).mono ?_
  rintro e w6 ⟨ap, cp, rfl, hv6, hb6⟩
  have k26 := (hb6.block _ (blk_lt k25)).trans k25
  have k36 := (hb6.block _ (blk_lt k35)).trans k35
  have HV6 : Hid (VT 2 w6 w3.heap.size aq nU (fun i => .int .i64 (u i))) := HV5.out.up hb6
  have HW6 : Hid (VT 4 w6 w5.heap.size ap nP (fun i => .bool (p i))) := hv6
  have B6 := B5.trans (hb6.mono B5.size)
  have l5 := blk_lt k35
  have HL5 : Hid (w.heap.size + 1 + 1 < w5.heap.size) := l5
  clear k15 k25 k35 hb6 B5 hv6 HV4 HV5 c1 c3 f3 c15 l5
  have c3 := blk_cell k36
  have f3 := blk_free k36
  have hz3 := HZ3.out
  have hl5 := HL5.out
  have hT7 : Touch [w.heap.size + 1 + 1] w6 (w6.setCell ⟨w.heap.size + 1 + 1, 2, none⟩ (.slice ap nP cp)) := (Touch.refl _ _).set (by simp) 2 _
  have O7 : OwnCn (w6.setCell ⟨w.heap.size + 1 + 1, 2, none⟩ (.slice ap nP cp)) w.heap.size ⟨aq, nU, cq, u, lo, ap, nP, cp, p⟩ :=
    ⟨(HV6.out.touchS hT7 (fun x hx hy => by simp at hy; have := (HV6.out.blk x hx).1; omega)).mono (by omega), (HW6.out.touchS hT7 (fun x hx hy => by simp at hy; have := (HW6.out.blk x hx).1; omega)).mono (by omega)⟩
  have k27 := (hT7.block _ (blk_lt k26) (by simp)).trans k26
  have k37 : (w6.setCell ⟨w.heap.size + 1 + 1, 2, none⟩ (.slice ap nP cp)).heap[w.heap.size + 1 + 1]? = some (.cells #[.slice aq nU cq, .int .i64 lo, .slice ap nP cp] 29 (0, 0)) := blk_set k36 _
  have B7 := B6.trans (hT7.below B6.size (fun x hx => by simp at hx; omega))
  have c37 := blk_cell k37
  have c27 := blk_cell k27
  have f27 := blk_free k27
  have HO8 : Hid (OwnCn (put3 (w6.setCell ⟨w.heap.size + 1 + 1, 2, none⟩ (.slice ap nP cp)) (w.heap.size + 1) (.slice aq nU cq) (.int .i64 lo) (.slice ap nP cp)) w.heap.size ⟨aq, nU, cq, u, lo, ap, nP, cp, p⟩) := touch3 O7 k27
  have HB8 : Hid (Below w.heap.size w (put3 (w6.setCell ⟨w.heap.size + 1 + 1, 2, none⟩ (.slice ap nP cp)) (w.heap.size + 1) (.slice aq nU cq) (.int .i64 lo) (.slice ap nP cp))) := B7.trans ((put3_touch _ _ _ _ _).below B7.size (fun x hx => by simp at hx; omega))
  have cB := blk_cell (put3_blk k27 (.slice aq nU cq) (.int .i64 lo) (.slice ap nP cp))
  clear hz3 hl5 hT7 k26 k36 k27 k37 B6 B7 O7 HV6 HW6
  unfold put3 at cB
  go_wp2_with fail
  exact bodyPost_ret (v := .agg #[.slice aq nU cq, .int .i64 lo, .slice ap nP cp]) (by simp [results, Try.results33, go_sem, cB]) rfl ⟨⟨aq, nU, cq, u, lo, ap, nP, cp, p⟩, rfl, HO8.out, HB8.out, ⟨rfl, rfl, rfl, rfl, rfl⟩⟩
theorem wp_appC {o : Oper} {a : Act} {K : Act → World → Prop} {Q : Exit → Act → World → Prop} {W W' : World} {c : Prop} [Decidable c] {E : Prop} (hc : c) (d : Option Tmp) (s x : Operand) (t : TypeId) (vs vx v : Value)
    (ho : o.op = .call { callee := .builtin .append, args := #[s, x], argTypes := #[t, t] }) (hd : o.dst = d) (hty : o.type = t) (hs : a.eval s = vs) (hx : a.eval x = vx)
    (hr : (Builtin.append_ #[t, t] t #[vs, vx]).run Try.prog W = .ok v W') (h : K (a.put d v) W') : if c then o.wp Try.prog a W K Q else E := by
  subst hd
  exact wp_appR hc s x t vs vx v ho hty hs hx hr h
set_option maxHeartbeats 8000000 in
theorem l5Copy_any (N : Cnt) (w : World) (hU : 0 < N.nU) (hP : 0 < N.nP) (hs : N.Small) (h : RdCnt w N) :
    Calls Try.prog 36 #[.agg N.cells] w fun e w' => ∃ M : Cnt, e = .returned (.agg M.cells) ∧ OwnCn w' w.heap.size M ∧ Below w.heap.size w w' ∧ AlikeC N M := by
  obtain ⟨aU, nU, cU, u, lo, aP, nP, cP, p⟩ := N
  have hs1 : nU ≤ 1048576 := hs.u
  have hs2 : nP ≤ 1048576 := hs.p
  obtain ⟨gu, qu, ea, hcU⟩ := rd_some h.u hU
  obtain ⟨gp, qp, eb, hcP⟩ := rd_some h.p hP
  dsimp only at ea eb hcU hcP
  subst ea eb
  have hB : Below (w.heap.size + 2) ((w.alloc (.cells #[.slice (some ⟨gu, qu, none⟩) nU cU, .int .i64 lo, .slice (some ⟨gp, qp, none⟩) nP cP] 29)).alloc (.cells #[.slice none 0 0, .int .i64 0, .slice none 0 0] 29)) ((w.alloc (.cells #[.slice (some ⟨gu, qu, none⟩) nU cU, .int .i64 lo, .slice (some ⟨gp, qp, none⟩) nP cP] 29)).alloc (.cells #[.slice none 0 0, .int .i64 0, .slice none 0 0] 29)).drew := (Below.refl _ _).drew
  have HU : Hid (∀ W, Below (w.heap.size + 2) ((w.alloc (.cells #[.slice (some ⟨gu, qu, none⟩) nU cU, .int .i64 lo, .slice (some ⟨gp, qp, none⟩) nP cP] 29)).alloc (.cells #[.slice none 0 0, .int .i64 0, .slice none 0 0] 29)) W → ∀ i, i < nU → W.cell? ⟨gu, qu + i, none⟩ = some (.int .i64 (u i))) := fun W hW i hi => ((under2 hW).cell (p := ⟨gu, qu + i, none⟩) (cellLt (hcU i hi))).trans (hcU i hi)
  have HP : Hid (∀ W, Below (w.heap.size + 2) ((w.alloc (.cells #[.slice (some ⟨gu, qu, none⟩) nU cU, .int .i64 lo, .slice (some ⟨gp, qp, none⟩) nP cP] 29)).alloc (.cells #[.slice none 0 0, .int .i64 0, .slice none 0 0] 29)) W → ∀ i, i < nP → W.cell? ⟨gp, qp + i, none⟩ = some (.bool (p i))) := fun W hW i hi => ((under2 hW).cell (p := ⟨gp, qp + i, none⟩) (cellLt (hcP i hi))).trans (hcP i hi)
  have cb := (boxed2 hB).1
  have kz := (laid2 hB).2
  clear h hs hU hP hcU hcP
  unfold Cnt.cells
  dsimp only
  go_enter Try.func36, Try.ntmps36
  go_wp2_with fail
  refine wp_region_held_drew (S := fun w' => ∀ o, w'.cell? ⟨w.heap.size, o, none⟩ = (#[.slice (some ⟨gu, qu, none⟩) nU cU, .int .i64 lo, .slice (some ⟨gp, qp, none⟩) nP cP] : Array Value)[o]?) (by kernel_rfl) cb (fun hHeld => ?_)
  generalize ((w.alloc (.cells #[.slice (some ⟨gu, qu, none⟩) nU cU, .int .i64 lo, .slice (some ⟨gp, qp, none⟩) nP cP] 29)).alloc (.cells #[.slice none 0 0, .int .i64 0, .slice none 0 0] 29)).drew = W at *
  refine takeD (i := 1) (some 4) (v := ?_) rfl rfl (by kernel_rfl) (by kernel_rfl) (by kernel_rfl) (fun _ _ _ h => h) (by kernel_rfl) ?_ (by assumption) ?_
  rotate_left
  · intro wx hSw
    try dsimp only at hSw
    go_simp
    try (with_reducible rfl)
  try simp only [Act.put, List.setIfInBounds_toArray, List.set_cons_zero, List.set_cons_succ]
  refine takeD (i := 2) (some 5) (v := ?_) rfl rfl (by kernel_rfl) (by kernel_rfl) (by kernel_rfl) (fun _ _ _ h => h) (by kernel_rfl) ?_ (by assumption) ?_
  rotate_left
  · intro wx hSw
    try dsimp only at hSw
    go_simp
    try (with_reducible rfl)
  try simp only [Act.put, List.setIfInBounds_toArray, List.set_cons_zero, List.set_cons_succ]
  refine takeD (i := 4) (some 7) (v := ?_) rfl rfl (by kernel_rfl) (by kernel_rfl) (by kernel_rfl) (fun _ _ _ h => h) (by kernel_rfl) ?_ (by assumption) ?_
  rotate_left
  · intro wx hSw
    try dsimp only at hSw
    go_simp
    try (with_reducible rfl)
  try simp only [Act.put, List.setIfInBounds_toArray, List.set_cons_zero, List.set_cons_succ]
  refine takeD (i := 5) (some 8) (v := ?_) rfl rfl (by kernel_rfl) (by kernel_rfl) (by kernel_rfl) (fun _ _ _ h => h) (by kernel_rfl) ?_ (by assumption) ?_
  rotate_left
  · intro wx hSw
    try dsimp only at hSw
    go_simp
    try (with_reducible rfl)
  try simp only [Act.put, List.setIfInBounds_toArray, List.set_cons_zero, List.set_cons_succ]
  refine takeD (i := 7) (some 10) (v := ?_) rfl rfl (by kernel_rfl) (by kernel_rfl) (by kernel_rfl) (fun _ _ _ h => h) (by kernel_rfl) ?_ (by assumption) ?_
  rotate_left
  · intro wx hSw
    try dsimp only at hSw
    go_simp
    try (with_reducible rfl)
  try simp only [Act.put, List.setIfInBounds_toArray, List.set_cons_zero, List.set_cons_succ]
  refine takeD (i := 8) (some 11) (v := ?_) rfl rfl (by kernel_rfl) (by kernel_rfl) (by kernel_rfl) (fun _ _ _ h => h) (by kernel_rfl) ?_ (by assumption) ?_
  rotate_left
  · intro wx hSw
    try dsimp only at hSw
    go_simp
    try (with_reducible rfl)
  try simp only [Act.put, List.setIfInBounds_toArray, List.set_cons_zero, List.set_cons_succ]
  refine wpAnyH_ready (rs := [0, 6]) (by kernel_rfl) (by simp) ?_
  refine AllReadyH.cons rfl (fun K hK => ?_) (AllReadyH.cons rfl (fun K hK => ?_) AllReadyH.nil)
  · have hA := (Below.refl W.heap.size W).alloc (Nat.le_refl _) (.cells #[] 2)
    have kE1 := blk_new W (.cells #[] 2)
    have lE1 := upper2 hB
    replace hB := next2 hB hA
    replace cb := (boxed2 hB).1
    replace kz := (hA.block _ (blk_lt kz)).trans kz
    go_simp
    clear hHeld
    refine hK.out _ _ cb (fun hHeld => ?_)
    clear hK K
    try simp only [Act.put, List.setIfInBounds_toArray, List.set_cons_zero, List.set_cons_succ]
    generalize hgE1 : W.heap.size = gE1 at *
    generalize W.alloc (.cells #[] 2) = W' at *
    clear hA hgE1
    clear W
    rename World => W
    refine wpAnyH_ready (rs := [3, 6]) (by kernel_rfl) (by simp) ?_
    refine AllReadyH.cons rfl (fun K hK => ?_) (AllReadyH.cons rfl (fun K hK => ?_) AllReadyH.nil)
    · obtain ⟨aq, cq, W', hr, hv, hg, hp⟩ := appendT (t := 26) Try.underlying26 info2 (by decide) rfl (W := W) (base := w.heap.size + 2) (v := .slice (some ⟨gE1, 0, none⟩) 0 0) (g := gu) (q := qu) (c := cU) (own_empty0 lE1 kE1) (upper2 hB) hs1 (HU.out W hB) (fun i => rfl)
      have hB' := hB.grown hg (upper2 hB) (fun k e => by simp [Value.ownBlock] at e; omega)
      have cb' := (boxed2 hB').1
      have kz' := (laid2 hB').2
      refine wp_appC (by kernel_rfl) (some 6) (.tmp 3) (.tmp 5) 26 _ _ _ rfl rfl rfl rfl rfl hr ?_
      clear hr hHeld
      refine hK.out _ _ cb' (fun hHeld => ?_)
      clear hK K
      try simp only [Act.put, List.setIfInBounds_toArray, List.set_cons_zero, List.set_cons_succ]
      clear hg hp hB cb kz kE1
      have hB := hB'
      have cb := cb'
      have kz := kz'
      have hVU := hv
      clear hB' cb' kz' hv W
      rename World => W
      refine wpAnyH_ready (rs := [6]) (by kernel_rfl) (by simp) ?_
      refine AllReadyH.cons rfl (fun K hK => ?_) AllReadyH.nil
      have hA := (Below.refl W.heap.size W).alloc (Nat.le_refl _) (.cells #[] 4)
      have kE2 := blk_new W (.cells #[] 4)
      have lE2 := upper2 hB
      replace hB := next2 hB hA
      replace cb := (boxed2 hB).1
      replace kz := (hA.block _ (blk_lt kz)).trans kz
      replace hVU := hVU.up hA
      go_simp
      clear hHeld
      refine hK.out _ _ cb (fun hHeld => ?_)
      clear hK K
      try simp only [Act.put, List.setIfInBounds_toArray, List.set_cons_zero, List.set_cons_succ]
      generalize hgE2 : W.heap.size = gE2 at *
      generalize W.alloc (.cells #[] 4) = W' at *
      clear hA hgE2
      clear W
      rename World => W
      refine wpAnyH_ready (rs := [9]) (by kernel_rfl) (by simp) ?_
      refine AllReadyH.cons rfl (fun K hK => ?_) AllReadyH.nil
      obtain ⟨ap, cp, W', hr, hv, hg, hp⟩ := appendT (t := 27) Try.underlying27 info4 (by decide) rfl (W := W) (base := w.heap.size + 2) (v := .slice (some ⟨gE2, 0, none⟩) 0 0) (g := gp) (q := qp) (c := cP) (own_empty0 lE2 kE2) (upper2 hB) hs2 (HP.out W hB) (fun i => rfl)
      have hB' := hB.grown hg (upper2 hB) (fun k e => by simp [Value.ownBlock] at e; omega)
      have cb' := (boxed2 hB').1
      have kz' := (laid2 hB').2
      have hVU' : VT 2 W' (w.heap.size + 2) aq nU (fun i => .int .i64 (u i)) := by
        rcases hVU with h0 | ⟨gq, e, hgq, arr, h1, h2⟩
        · exact .inl h0
        · refine .inr ⟨gq, e, hgq, arr, (hg.block gq (blk_lt h1) (by intro e2; simp [Value.ownBlock] at e2; subst e2; rw [kE2] at h1; simp at h1)).trans h1, h2⟩
      refine wp_appC (by kernel_rfl) (some 12) (.tmp 9) (.tmp 11) 27 _ _ _ rfl rfl rfl rfl rfl hr ?_
      clear hr hHeld
      refine hK.out _ _ cb' (fun hHeld => ?_)
      clear hK K
      try simp only [Act.put, List.setIfInBounds_toArray, List.set_cons_zero, List.set_cons_succ]
      clear hg hp hB cb kz kE2 hVU
      have hB := hB'
      have cb := cb'
      have kz := kz'
      have hVP := hv
      have hVU := hVU'
      clear hB' cb' kz' hv hVU' W
      rename World => W
      refine takeD (i := 10) (some 13) (v := ?_) rfl rfl (by kernel_rfl) (by kernel_rfl) (by kernel_rfl) (fun _ _ _ h => h) (by kernel_rfl) ?_ (by assumption) ?_
      rotate_left
      · intro wx hSw
        try dsimp only at hSw
        go_simp
        try (with_reducible rfl)
      try simp only [Act.put, List.setIfInBounds_toArray, List.set_cons_zero, List.set_cons_succ]
      have cz := blk_cell kz
      have fz := blk_free kz
      have ht := put3_touch W (w.heap.size + 1) (.slice aq nU cq) (.int .i64 lo) (.slice ap nP cp)
      have kz3 := put3_blk kz (.slice aq nU cq) (.int .i64 lo) (.slice ap nP cp)
      have O : OwnCn W (w.heap.size + 2) ⟨aq, nU, cq, u, lo, ap, nP, cp, p⟩ := ⟨hVU, hVP⟩
      have HO : Hid (OwnCn (put3 W (w.heap.size + 1) (.slice aq nU cq) (.int .i64 lo) (.slice ap nP cp)) w.heap.size ⟨aq, nU, cq, u, lo, ap, nP, cp, p⟩) := (touch3 O kz).mono (by omega)
      have HB : Hid (Below w.heap.size w (put3 W (w.heap.size + 1) (.slice aq nU cq) (.int .i64 lo) (.slice ap nP cp))) := (under2 hB).trans (ht.below (under2 hB).size (fun x hx => by simp at hx; omega))
      have cb3 := blk_cell ((ht.block w.heap.size (by have := upper2 hB; omega) (by simp)).trans (laid2 hB).1)
      have cB := blk_cell kz3
      clear O kz kz3 ht hVU hVP hB cb
      unfold put3 at cb3 cB
      refine wpAnyH_ready (rs := [11]) (by kernel_rfl) (by simp) ?_
      refine AllReadyH.cons rfl (fun K hK => ?_) AllReadyH.nil
      go_simp
      refine hK.out _ _ cb3 (fun hHeld => ?_)
      clear hK K
      try simp only [Act.put, List.setIfInBounds_toArray, List.set_cons_zero, List.set_cons_succ]
      refine wpAnyH_done (by kernel_rfl) ?_ _
      clear cz fz cb3
      go_wp2_with fail
      exact bodyPost_ret (v := .agg #[.slice aq nU cq, .int .i64 lo, .slice ap nP cp]) (by simp [results, Try.results36, go_sem, cB]) rfl ⟨⟨aq, nU, cq, u, lo, ap, nP, cp, p⟩, rfl, HO.out, HB.out, ⟨rfl, rfl, rfl, rfl, rfl⟩⟩
    · have hA := (Below.refl W.heap.size W).alloc (Nat.le_refl _) (.cells #[] 4)
      have kE2 := blk_new W (.cells #[] 4)
      have lE2 := upper2 hB
      replace hB := next2 hB hA
      replace cb := (boxed2 hB).1
      replace kz := (hA.block _ (blk_lt kz)).trans kz
      replace kE1 := (hA.block _ (blk_lt kE1)).trans kE1
      go_simp
      clear hHeld
      refine hK.out _ _ cb (fun hHeld => ?_)
      clear hK K
      try simp only [Act.put, List.setIfInBounds_toArray, List.set_cons_zero, List.set_cons_succ]
      generalize hgE2 : W.heap.size = gE2 at *
      generalize W.alloc (.cells #[] 4) = W' at *
      clear hA hgE2
      clear W
      rename World => W
      refine wpAnyH_ready (rs := [3]) (by kernel_rfl) (by simp) ?_
      refine AllReadyH.cons rfl (fun K hK => ?_) AllReadyH.nil
      obtain ⟨aq, cq, W', hr, hv, hg, hp⟩ := appendT (t := 26) Try.underlying26 info2 (by decide) rfl (W := W) (base := w.heap.size + 2) (v := .slice (some ⟨gE1, 0, none⟩) 0 0) (g := gu) (q := qu) (c := cU) (own_empty0 lE1 kE1) (upper2 hB) hs1 (HU.out W hB) (fun i => rfl)
      have hB' := hB.grown hg (upper2 hB) (fun k e => by simp [Value.ownBlock] at e; omega)
      have cb' := (boxed2 hB').1
      have kz' := (laid2 hB').2
      have kE2' := (hg.block gE2 (blk_lt kE2) (by intro e; simp [Value.ownBlock] at e; subst e; rw [kE1] at kE2; simp at kE2)).trans kE2
      refine wp_appC (by kernel_rfl) (some 6) (.tmp 3) (.tmp 5) 26 _ _ _ rfl rfl rfl rfl rfl hr ?_
      clear hr hHeld
      refine hK.out _ _ cb' (fun hHeld => ?_)
      clear hK K
      try simp only [Act.put, List.setIfInBounds_toArray, List.set_cons_zero, List.set_cons_succ]
      clear hg hp hB cb kz kE1 kE2
      have hB := hB'
      have cb := cb'
      have kz := kz'
      have hVU := hv
      have kE2 := kE2'
      clear hB' cb' kz' hv kE2' W
      rename World => W
      refine wpAnyH_ready (rs := [9]) (by kernel_rfl) (by simp) ?_
      refine AllReadyH.cons rfl (fun K hK => ?_) AllReadyH.nil
      obtain ⟨ap, cp, W', hr, hv, hg, hp⟩ := appendT (t := 27) Try.underlying27 info4 (by decide) rfl (W := W) (base := w.heap.size + 2) (v := .slice (some ⟨gE2, 0, none⟩) 0 0) (g := gp) (q := qp) (c := cP) (own_empty0 lE2 kE2) (upper2 hB) hs2 (HP.out W hB) (fun i => rfl)
      have hB' := hB.grown hg (upper2 hB) (fun k e => by simp [Value.ownBlock] at e; omega)
      have cb' := (boxed2 hB').1
      have kz' := (laid2 hB').2
      have hVU' : VT 2 W' (w.heap.size + 2) aq nU (fun i => .int .i64 (u i)) := by
        rcases hVU with h0 | ⟨gq, e, hgq, arr, h1, h2⟩
        · exact .inl h0
        · refine .inr ⟨gq, e, hgq, arr, (hg.block gq (blk_lt h1) (by intro e2; simp [Value.ownBlock] at e2; subst e2; rw [kE2] at h1; simp at h1)).trans h1, h2⟩
      refine wp_appC (by kernel_rfl) (some 12) (.tmp 9) (.tmp 11) 27 _ _ _ rfl rfl rfl rfl rfl hr ?_
      clear hr hHeld
      refine hK.out _ _ cb' (fun hHeld => ?_)
      clear hK K
      try simp only [Act.put, List.setIfInBounds_toArray, List.set_cons_zero, List.set_cons_succ]
      clear hg hp hB cb kz kE2 hVU
      have hB := hB'
      have cb := cb'
      have kz := kz'
      have hVP := hv
      have hVU := hVU'
      clear hB' cb' kz' hv hVU' W
      rename World => W
      refine takeD (i := 10) (some 13) (v := ?_) rfl rfl (by kernel_rfl) (by kernel_rfl) (by kernel_rfl) (fun _ _ _ h => h) (by kernel_rfl) ?_ (by assumption) ?_
      rotate_left
      · intro wx hSw
        try dsimp only at hSw
        go_simp
        try (with_reducible rfl)
      try simp only [Act.put, List.setIfInBounds_toArray, List.set_cons_zero, List.set_cons_succ]
      have cz := blk_cell kz
      have fz := blk_free kz
      have ht := put3_touch W (w.heap.size + 1) (.slice aq nU cq) (.int .i64 lo) (.slice ap nP cp)
      have kz3 := put3_blk kz (.slice aq nU cq) (.int .i64 lo) (.slice ap nP cp)
      have O : OwnCn W (w.heap.size + 2) ⟨aq, nU, cq, u, lo, ap, nP, cp, p⟩ := ⟨hVU, hVP⟩
      have HO : Hid (OwnCn (put3 W (w.heap.size + 1) (.slice aq nU cq) (.int .i64 lo) (.slice ap nP cp)) w.heap.size ⟨aq, nU, cq, u, lo, ap, nP, cp, p⟩) := (touch3 O kz).mono (by omega)
      have HB : Hid (Below w.heap.size w (put3 W (w.heap.size + 1) (.slice aq nU cq) (.int .i64 lo) (.slice ap nP cp))) := (under2 hB).trans (ht.below (under2 hB).size (fun x hx => by simp at hx; omega))
      have cb3 := blk_cell ((ht.block w.heap.size (by have := upper2 hB; omega) (by simp)).trans (laid2 hB).1)
      have cB := blk_cell kz3
      clear O kz kz3 ht hVU hVP hB cb
      unfold put3 at cb3 cB
      refine wpAnyH_ready (rs := [11]) (by kernel_rfl) (by simp) ?_
      refine AllReadyH.cons rfl (fun K hK => ?_) AllReadyH.nil
      go_simp
      refine hK.out _ _ cb3 (fun hHeld => ?_)
      clear hK K
      try simp only [Act.put, List.setIfInBounds_toArray, List.set_cons_zero, List.set_cons_succ]
      refine wpAnyH_done (by kernel_rfl) ?_ _
      clear cz fz cb3
      go_wp2_with fail
      exact bodyPost_ret (v := .agg #[.slice aq nU cq, .int .i64 lo, .slice ap nP cp]) (by simp [results, Try.results36, go_sem, cB]) rfl ⟨⟨aq, nU, cq, u, lo, ap, nP, cp, p⟩, rfl, HO.out, HB.out, ⟨rfl, rfl, rfl, rfl, rfl⟩⟩
  · have hA := (Below.refl W.heap.size W).alloc (Nat.le_refl _) (.cells #[] 4)
    have kE2 := blk_new W (.cells #[] 4)
    have lE2 := upper2 hB
    replace hB := next2 hB hA
    replace cb := (boxed2 hB).1
    replace kz := (hA.block _ (blk_lt kz)).trans kz
    go_simp
    clear hHeld
    refine hK.out _ _ cb (fun hHeld => ?_)
    clear hK K
    try simp only [Act.put, List.setIfInBounds_toArray, List.set_cons_zero, List.set_cons_succ]
    generalize hgE2 : W.heap.size = gE2 at *
    generalize W.alloc (.cells #[] 4) = W' at *
    clear hA hgE2
    clear W
    rename World => W
    refine wpAnyH_ready (rs := [0]) (by kernel_rfl) (by simp) ?_
    refine AllReadyH.cons rfl (fun K hK => ?_) AllReadyH.nil
    have hA := (Below.refl W.heap.size W).alloc (Nat.le_refl _) (.cells #[] 2)
    have kE1 := blk_new W (.cells #[] 2)
    have lE1 := upper2 hB
    replace hB := next2 hB hA
    replace cb := (boxed2 hB).1
    replace kz := (hA.block _ (blk_lt kz)).trans kz
    replace kE2 := (hA.block _ (blk_lt kE2)).trans kE2
    go_simp
    clear hHeld
    refine hK.out _ _ cb (fun hHeld => ?_)
    clear hK K
    try simp only [Act.put, List.setIfInBounds_toArray, List.set_cons_zero, List.set_cons_succ]
    generalize hgE1 : W.heap.size = gE1 at *
    generalize W.alloc (.cells #[] 2) = W' at *
    clear hA hgE1
    clear W
    rename World => W
    refine wpAnyH_ready (rs := [3]) (by kernel_rfl) (by simp) ?_
    refine AllReadyH.cons rfl (fun K hK => ?_) AllReadyH.nil
    obtain ⟨aq, cq, W', hr, hv, hg, hp⟩ := appendT (t := 26) Try.underlying26 info2 (by decide) rfl (W := W) (base := w.heap.size + 2) (v := .slice (some ⟨gE1, 0, none⟩) 0 0) (g := gu) (q := qu) (c := cU) (own_empty0 lE1 kE1) (upper2 hB) hs1 (HU.out W hB) (fun i => rfl)
    have hB' := hB.grown hg (upper2 hB) (fun k e => by simp [Value.ownBlock] at e; omega)
    have cb' := (boxed2 hB').1
    have kz' := (laid2 hB').2
    have kE2' := (hg.block gE2 (blk_lt kE2) (by intro e; simp [Value.ownBlock] at e; subst e; rw [kE1] at kE2; simp at kE2)).trans kE2
    refine wp_appC (by kernel_rfl) (some 6) (.tmp 3) (.tmp 5) 26 _ _ _ rfl rfl rfl rfl rfl hr ?_
    clear hr hHeld
    refine hK.out _ _ cb' (fun hHeld => ?_)
    clear hK K
    try simp only [Act.put, List.setIfInBounds_toArray, List.set_cons_zero, List.set_cons_succ]
    clear hg hp hB cb kz kE1 kE2
    have hB := hB'
    have cb := cb'
    have kz := kz'
    have hVU := hv
    have kE2 := kE2'
    clear hB' cb' kz' hv kE2' W
    rename World => W
    refine wpAnyH_ready (rs := [9]) (by kernel_rfl) (by simp) ?_
    refine AllReadyH.cons rfl (fun K hK => ?_) AllReadyH.nil
    obtain ⟨ap, cp, W', hr, hv, hg, hp⟩ := appendT (t := 27) Try.underlying27 info4 (by decide) rfl (W := W) (base := w.heap.size + 2) (v := .slice (some ⟨gE2, 0, none⟩) 0 0) (g := gp) (q := qp) (c := cP) (own_empty0 lE2 kE2) (upper2 hB) hs2 (HP.out W hB) (fun i => rfl)
    have hB' := hB.grown hg (upper2 hB) (fun k e => by simp [Value.ownBlock] at e; omega)
    have cb' := (boxed2 hB').1
    have kz' := (laid2 hB').2
    have hVU' : VT 2 W' (w.heap.size + 2) aq nU (fun i => .int .i64 (u i)) := by
      rcases hVU with h0 | ⟨gq, e, hgq, arr, h1, h2⟩
      · exact .inl h0
      · refine .inr ⟨gq, e, hgq, arr, (hg.block gq (blk_lt h1) (by intro e2; simp [Value.ownBlock] at e2; subst e2; rw [kE2] at h1; simp at h1)).trans h1, h2⟩
    refine wp_appC (by kernel_rfl) (some 12) (.tmp 9) (.tmp 11) 27 _ _ _ rfl rfl rfl rfl rfl hr ?_
    clear hr hHeld
    refine hK.out _ _ cb' (fun hHeld => ?_)
    clear hK K
    try simp only [Act.put, List.setIfInBounds_toArray, List.set_cons_zero, List.set_cons_succ]
    clear hg hp hB cb kz kE2 hVU
    have hB := hB'
    have cb := cb'
    have kz := kz'
    have hVP := hv
    have hVU := hVU'
    clear hB' cb' kz' hv hVU' W
    rename World => W
    refine takeD (i := 10) (some 13) (v := ?_) rfl rfl (by kernel_rfl) (by kernel_rfl) (by kernel_rfl) (fun _ _ _ h => h) (by kernel_rfl) ?_ (by assumption) ?_
    rotate_left
    · intro wx hSw
      try dsimp only at hSw
      go_simp
      try (with_reducible rfl)
    try simp only [Act.put, List.setIfInBounds_toArray, List.set_cons_zero, List.set_cons_succ]
    have cz := blk_cell kz
    have fz := blk_free kz
    have ht := put3_touch W (w.heap.size + 1) (.slice aq nU cq) (.int .i64 lo) (.slice ap nP cp)
    have kz3 := put3_blk kz (.slice aq nU cq) (.int .i64 lo) (.slice ap nP cp)
    have O : OwnCn W (w.heap.size + 2) ⟨aq, nU, cq, u, lo, ap, nP, cp, p⟩ := ⟨hVU, hVP⟩
    have HO : Hid (OwnCn (put3 W (w.heap.size + 1) (.slice aq nU cq) (.int .i64 lo) (.slice ap nP cp)) w.heap.size ⟨aq, nU, cq, u, lo, ap, nP, cp, p⟩) := (touch3 O kz).mono (by omega)
    have HB : Hid (Below w.heap.size w (put3 W (w.heap.size + 1) (.slice aq nU cq) (.int .i64 lo) (.slice ap nP cp))) := (under2 hB).trans (ht.below (under2 hB).size (fun x hx => by simp at hx; omega))
    have cb3 := blk_cell ((ht.block w.heap.size (by have := upper2 hB; omega) (by simp)).trans (laid2 hB).1)
    have cB := blk_cell kz3
    clear O kz kz3 ht hVU hVP hB cb
    unfold put3 at cb3 cB
    refine wpAnyH_ready (rs := [11]) (by kernel_rfl) (by simp) ?_
    refine AllReadyH.cons rfl (fun K hK => ?_) AllReadyH.nil
    go_simp
    refine hK.out _ _ cb3 (fun hHeld => ?_)
    clear hK K
    try simp only [Act.put, List.setIfInBounds_toArray, List.set_cons_zero, List.set_cons_succ]
    refine wpAnyH_done (by kernel_rfl) ?_ _
    clear cz fz cb3
    go_wp2_with fail
    exact bodyPost_ret (v := .agg #[.slice aq nU cq, .int .i64 lo, .slice ap nP cp]) (by simp [results, Try.results36, go_sem, cB]) rfl ⟨⟨aq, nU, cq, u, lo, ap, nP, cp, p⟩, rfl, HO.out, HB.out, ⟨rfl, rfl, rfl, rfl, rfl⟩⟩
end Go.Proofs.Ytpldaohflojkmaa
