/- The program's pick: the first of the class whose turn it is, if its deficit is enough. -/
import Derived.Test.YtnfcmiiibkbmfaaPkW1
namespace Go.Proofs.Ytnfcmiiibkbmfaa
open Go.RowKit
set_option linter.unusedVariables false
set_option linter.unusedSimpArgs false

theorem RepO.cq {w : World} {base top gb gD gS : Nat} {X : Rnd} (h : RepO w base top gb gD gS X) {c : Nat} (hc : c < X.nQ) : ∃ g o, X.aQ = some ⟨g, o, none⟩ ∧ w.cell? ⟨g, o + c, none⟩ = some (.int .i64 (X.q c)) := h.own.rd.q c hc
theorem RepO.cz {w : World} {base top gb gD gS : Nat} {X : Rnd} (h : RepO w base top gb gD gS X) {c : Nat} (hc : c < X.nQ) {gz oz : Nat} (hA : X.A c = some ⟨gz, oz, none⟩) (hL : X.L c ≠ 0) : w.cell? ⟨gz, oz, none⟩ = some (.int .i64 (X.z c 0)) := by
  have := h.pos
  obtain ⟨g, o, e, hz⟩ := h.own.rd.z c (by omega) 0 (by omega)
  rw [hA] at e
  cases e
  exact hz
theorem RepO.az {w : World} {base top gb gD gS : Nat} {X : Rnd} (h : RepO w base top gb gD gS X) {c : Nat} (hc : c < X.nQ) (hL : X.L c ≠ 0) : ∃ gz oz, X.A c = some ⟨gz, oz, none⟩ := by
  have := h.pos
  obtain ⟨g, o, e, hz⟩ := h.own.rd.z c (by omega) 0 (by omega)
  exact ⟨g, o, e⟩
theorem run_cutO (gz oz o' L C : Nat) (w : World) (hL : L ≠ 0) (ho : o' = if C = 1 then oz else oz + 1) :
    (Instr.slice 24 (.slice (some ⟨gz, oz, none⟩) L C) (some (.int .i64 1)) none none).run Try.prog w = .ok (.slice (some ⟨gz, o', none⟩) (L - 1) (C - 1)) w := by
  have h1 : (1 : Int) ≤ (L : Int) := by omega
  subst ho
  by_cases hC : C = 1
  · simp [go_sem, h1, hC]
  · simp [go_sem, h1, hC]
theorem pickOf_none (X : Rnd) (base top gb gD gS c : Nat) (w : World) (h : RepO w base top gb gD gS X) (hc : c < X.nQ) (hn : X.nQ ≤ 4) (hL : X.L c = 0) :
    Calls Try.prog 41 #[.pointer (some ⟨gb, 0, none⟩), .int .i64 (c : Int)] w fun e w' => e = .returned (.tuple #[.int .i64 0, .bool false]) ∧ w = w' := by
  have cb := h.cb
  have cs := h.cs hc
  rw [hL] at cs
  have hc' : (c : Int) < X.nQ := by omega
  clear hL h
  go_enter Try.func41, Try.ntmps41
  go_wp2_with fail
  go_ret2
  exact ⟨rfl, rfl⟩
/-- what pickOf leaves of a round of whose class something waits -/
def PickPost (X : Rnd) (base top gb gD gS c : Nat) (w : World) (e : Ending) (w' : World) : Prop :=
  ((grantR X).d c < X.z c 0 ∧ e = .returned (.tuple #[.int .i64 0, .bool false]) ∧ RepO w' base top gb gD gS (grantR X) ∨
    X.z c 0 ≤ (grantR X).d c ∧ e = .returned (.tuple #[.int .i64 (X.z c 0), .bool true]) ∧ ∃ X', Alike (takeR (grantR X)) X' ∧ RepO w' base top gb gD gS X') ∧ Touch [gb, gD, gS] w w'
set_option maxHeartbeats 4000000 in
/-- from the first size on, of a round whose class has had its grant -/
theorem pickOf_end (X : Rnd) (base top gb gD gS c : Nat) (w : World) (h : RepO w base top gb gD gS X) (hok : X.Ok) (hc : X.now = c) (ht : X.turn = (c : Int)) (hL : X.L c ≠ 0) (hf : X.fresh = false) :
    Calls Try.prog 41 #[.pointer (some ⟨gb, 0, none⟩), .int .i64 (c : Int)] w (PickPost X base top gb gD gS c w) := by
  have hg : grantR X = X := by unfold grantR; rw [if_neg (by rw [hf]; simp)]
  have hcq : c < X.nQ := by rw [← hc]; exact hok.now_lt
  have HC := hok.c c hcq
  have hn := hok.n
  unfold PickPost
  rw [hg]
  obtain ⟨gz, oz, hA⟩ := h.az hcq hL
  obtain ⟨gq, oq, hQ, cq⟩ := h.cq hcq
  have HR : Hid (RepO w base top gb gD gS X) := h
  have cb := h.cb
  have cs := h.cs hcq
  have cd := h.cd hcq
  have cz := h.cz hcq hA hL
  have fd := h.rowD.1.free c
  rw [hA] at cs
  rw [hQ, hf, ht] at cb
  have hc' : (c : Int) < X.nQ := by omega
  have hLn : ((X.L c : Int) == 0) = false := by simp; exact hL
  have hLp : (0 : Int) < X.L c := by omega
  have hsz := HC.2.1.2 0 (by omega)
  have hdd := HC.2.2
  unfold defP at hdd
  rw [if_neg hL] at hdd
  have hd0 : 0 ≤ X.d c := hdd.1
  have hd1 : X.d c ≤ 20 := by
    have h1 := hdd.2
    have h2 := HC.1.2
    split at h1 <;> omega
  have HL : Hid (X.L c ≠ 0) := hL
  have HOk : Hid X.Ok := hok
  have HA : Hid (X.A c = some ⟨gz, oz, none⟩) := hA
  have HF : Hid (X.fresh = false) := hf
  have HTu : Hid (X.turn = (c : Int)) := ht
  have HNo : Hid (X.now = c) := hc
  have HQ : Hid (X.aQ = some ⟨gq, oq, none⟩) := hQ
  clear hdd HC hok hL hA hf ht hc hQ h hg
  by_cases hsh : X.d c < X.z c 0
  · go_enter Try.func41, Try.ntmps41
    go_wp2_with fail
    go_ret2
    exact ⟨.inl ⟨hsh, rfl, HR.out⟩, Touch.refl _ _⟩
  have hsh' : X.z c 0 ≤ X.d c := by omega
  -- the deficit written
  have hwr : IntKind.i64.wrap (X.d c - X.z c 0) = X.d c - X.z c 0 := wrapR _ (by omega) (by omega)
  obtain ⟨W2, eW2⟩ : ∃ W2, w.setCell ⟨gD, c, none⟩ (.int .i64 (X.d c - X.z c 0)) = W2 := ⟨_, rfl⟩
  have HR2 : Hid (RepO W2 base top gb gD gS (X.defTo c (X.d c - X.z c 0))) := by rw [Hid, ← eW2]; exact HR.out.def hcq _
  have HT2 : Hid (Touch [gb, gD, gS] w W2) := by rw [Hid, ← eW2]; exact (Touch.refl _ _).set (by simp) c _
  have HV : Hid (RepO W2.drew base top gb gD gS (X.defTo c (X.d c - X.z c 0))) := HR2.out.up ((Below.refl _ _).drew)
  have HTV : Hid (Touch [gb, gD, gS] w W2.drew) := HT2.out.trans (Touch.ofBelow ((Below.refl _ _).drew))
  have cbV : ∀ o, W2.drew.cell? ⟨gb, o, none⟩ = (#[.slice (some ⟨gq, oq, none⟩) X.nQ X.cQ, .slice (some ⟨gD, 0, none⟩) X.nQ X.cD, .int .i64 (c : Int), .bool false, .slice (some ⟨gS, 0, none⟩) X.nQ X.cS] : Array Value)[o]? := fun o => by
    rw [HV.out.cb]
    show (#[.slice X.aQ X.nQ X.cQ, _, .int .i64 X.turn, .bool X.fresh, _] : Array Value)[o]? = _
    rw [HQ.out, HF.out, HTu.out]
    rfl
  have csV : W2.drew.cell? ⟨gS, c, none⟩ = some (.slice (some ⟨gz, oz, none⟩) (X.L c) (X.C c)) := by
    rw [HV.out.cs hcq]
    show some (Value.slice (X.A c) (X.L c) (X.C c)) = _
    rw [HA.out]
  have fsV := HV.out.rowS.1.free c
  obtain ⟨o', ho'⟩ : ∃ o' : Nat, o' = if X.C c = 1 then oz else oz + 1 := ⟨_, rfl⟩
  have HRC : Hid (∀ wx, (Instr.slice 24 (.slice (some ⟨gz, oz, none⟩) (X.L c) (X.C c)) (some (.int .i64 1)) none none).run Try.prog wx = .ok (.slice (some ⟨gz, o', none⟩) (X.L c - 1) (X.C c - 1)) wx) := fun wx => run_cutO gz oz o' (X.L c) (X.C c) wx HL.out ho'
  have HR3 : Hid (RepO (W2.drew.setCell ⟨gS, c, none⟩ (.slice (some ⟨gz, o', none⟩) (X.L c - 1) (X.C c - 1))) base top gb gD gS ((X.defTo c (X.d c - X.z c 0)).cut c (some ⟨gz, o', none⟩) (X.C c - 1))) := HV.out.cut hcq HA.out HL.out (fun hC => by rw [ho']; exact if_neg hC)
  clear ho'
  go_enter Try.func41, Try.ntmps41
  go_wp2_with fail
  clear eW2 cb cs cd cz fd cq hwr
  refine wp_region_held_drew (S := fun w' => ∀ o, w'.cell? ⟨gb, o, none⟩ = (#[.slice (some ⟨gq, oq, none⟩) X.nQ X.cQ, .slice (some ⟨gD, 0, none⟩) X.nQ X.cD, .int .i64 (c : Int), .bool false, .slice (some ⟨gS, 0, none⟩) X.nQ X.cS] : Array Value)[o]?) (by kernel_rfl) cbV (fun hHeld => ?_)
  generalize W2.drew = V at *
  refine takeD (i := 0) (some 67) (v := ?_) rfl rfl (by kernel_rfl) (by kernel_rfl) (by kernel_rfl) (fun _ _ _ h => h) (by kernel_rfl) ?_ (by assumption) ?_
  rotate_left
  · intro wx hSw
    try dsimp only at hSw
    go_simp
    try (with_reducible rfl)
  try simp only [Act.put, List.setIfInBounds_toArray, List.set_cons_zero, List.set_cons_succ]
  refine takeD (i := 1) (some 68) (v := ?_) rfl rfl (by kernel_rfl) (by kernel_rfl) (by kernel_rfl) (fun _ _ _ h => h) (by kernel_rfl) ?_ (by assumption) ?_
  rotate_left
  · intro wx hSw
    try dsimp only at hSw
    go_simp
    try (with_reducible rfl)
  try simp only [Act.put, List.setIfInBounds_toArray, List.set_cons_zero, List.set_cons_succ]
  refine takeD (i := 2) (some 69) (v := ?_) rfl rfl (by kernel_rfl) (by kernel_rfl) (by kernel_rfl) (fun _ _ _ h => h) (by kernel_rfl) ?_ (by assumption) ?_
  rotate_left
  · intro wx hSw
    try dsimp only at hSw
    go_simp
    try (with_reducible rfl)
  try simp only [Act.put, List.setIfInBounds_toArray, List.set_cons_zero, List.set_cons_succ]
  refine takeD (i := 3) (some 70) (v := ?_) rfl rfl (by kernel_rfl) (by kernel_rfl) (by kernel_rfl) (fun _ _ _ h => h) (by kernel_rfl) ?_ (by assumption) ?_
  rotate_left
  · intro wx hSw
    try dsimp only at hSw
    go_simp
    try (with_reducible rfl)
  try simp only [Act.put, List.setIfInBounds_toArray, List.set_cons_zero, List.set_cons_succ]
  refine takeD (i := 4) (some 71) (v := ?_) rfl rfl (by kernel_rfl) (by kernel_rfl) (by kernel_rfl) (fun _ _ _ h => h) (by kernel_rfl) ?_ (by assumption) ?_
  rotate_left
  · intro wx hSw
    try dsimp only at hSw
    go_simp
    try (with_reducible rfl)
  try simp only [Act.put, List.setIfInBounds_toArray, List.set_cons_zero, List.set_cons_succ]
  refine takeD (i := 5) (some 72) (v := ?_) rfl rfl (by kernel_rfl) (by kernel_rfl) (by kernel_rfl) (fun _ _ _ h => h) (by kernel_rfl) ?_ (by assumption) ?_
  rotate_left
  · intro wx hSw
    try dsimp only at hSw
    go_simp
    try (with_reducible rfl)
  try simp only [Act.put, List.setIfInBounds_toArray, List.set_cons_zero, List.set_cons_succ]
  refine takeD (i := 6) (some 73) (v := ?_) rfl rfl (by kernel_rfl) (by kernel_rfl) (by kernel_rfl) (fun _ _ _ h => h) (by kernel_rfl) ?_ (by assumption) ?_
  rotate_left
  · intro wx hSw
    try dsimp only at hSw
    go_simp
    try (with_reducible rfl)
  try simp only [Act.put, List.setIfInBounds_toArray, List.set_cons_zero, List.set_cons_succ]
  refine takeD (i := 7) (some 74) (v := ?_) rfl rfl (by kernel_rfl) (by kernel_rfl) (by kernel_rfl) (fun _ _ _ h => h) (by kernel_rfl) ?_ (by assumption) ?_
  rotate_left
  · intro wx hSw
    try dsimp only at hSw
    go_simp
    try (with_reducible rfl)
  try simp only [Act.put, List.setIfInBounds_toArray, List.set_cons_zero, List.set_cons_succ]
  refine takeD (i := 8) (some 75) (v := ?_) rfl rfl (by kernel_rfl) (by kernel_rfl) (by kernel_rfl) (fun _ _ _ h => h) (by kernel_rfl) ?_ (by assumption) ?_
  rotate_left
  · intro wx hSw
    try dsimp only at hSw
    go_simp
    try (with_reducible rfl)
  try simp only [Act.put, List.setIfInBounds_toArray, List.set_cons_zero, List.set_cons_succ]
  refine takeD (i := 9) (some 76) (v := ?_) rfl rfl (by kernel_rfl) (by kernel_rfl) (by kernel_rfl) (fun _ _ _ h => h) (by kernel_rfl) ?_ (by assumption) ?_
  rotate_left
  · intro wx hSw
    try dsimp only at hSw
    go_simp
    try (with_reducible rfl)
  try simp only [Act.put, List.setIfInBounds_toArray, List.set_cons_zero, List.set_cons_succ]
  refine takeD (i := 10) (some 77) (v := ?_) rfl rfl (by kernel_rfl) (by kernel_rfl) (by kernel_rfl) (fun _ _ _ h => h) (by kernel_rfl) ?_ (by assumption) ?_
  rotate_left
  · intro wx hSw
    try dsimp only at hSw
    go_simp
    try (with_reducible rfl)
  try simp only [Act.put, List.setIfInBounds_toArray, List.set_cons_zero, List.set_cons_succ]
  refine wpAnyH_ready (rs := [11]) (by kernel_rfl) (by simp) ?_
  refine AllReadyH.cons rfl (fun K hK => ?_) AllReadyH.nil
  go_simp
  refine hK.out _ _ cbV (fun hHeld => ?_)
  clear hK K
  try simp only [Act.put, List.setIfInBounds_toArray, List.set_cons_zero, List.set_cons_succ]
  refine takeD (i := 12) (some 79) (v := .slice (some ⟨gz, o', none⟩) (X.L c - 1) (X.C c - 1)) rfl rfl (by kernel_rfl) (by kernel_rfl) (by kernel_rfl) (fun _ _ _ h => h) (by kernel_rfl) ?_ (by assumption) ?_
  · intro wx hSw
    have hrc := HRC.out wx
    go_simp
  try simp only [Act.put, List.setIfInBounds_toArray, List.set_cons_zero, List.set_cons_succ]
  refine takeD (i := 13) (some 80) (v := ?_) rfl rfl (by kernel_rfl) (by kernel_rfl) (by kernel_rfl) (fun _ _ _ h => h) (by kernel_rfl) ?_ (by assumption) ?_
  rotate_left
  · intro wx hSw
    try dsimp only at hSw
    go_simp
    try (with_reducible rfl)
  try simp only [Act.put, List.setIfInBounds_toArray, List.set_cons_zero, List.set_cons_succ]
  obtain ⟨V3, eV3⟩ : ∃ V3, V.setCell ⟨gS, c, none⟩ (.slice (some ⟨gz, o', none⟩) (X.L c - 1) (X.C c - 1)) = V3 := ⟨_, rfl⟩
  rw [eV3] at HR3
  have HT3 : Hid (Touch [gb, gD, gS] w V3) := by rw [Hid, ← eV3]; exact HTV.out.set (by simp) c _
  have cbS : ∀ o, V3.cell? ⟨gb, o, none⟩ = (#[.slice (some ⟨gq, oq, none⟩) X.nQ X.cQ, .slice (some ⟨gD, 0, none⟩) X.nQ X.cD, .int .i64 (c : Int), .bool false, .slice (some ⟨gS, 0, none⟩) X.nQ X.cS] : Array Value)[o]? := fun o => by
    rw [HR3.out.cb]
    show (#[.slice X.aQ X.nQ X.cQ, _, .int .i64 X.turn, .bool X.fresh, _] : Array Value)[o]? = _
    rw [HQ.out, HF.out, HTu.out]
    rfl
  have csS : V3.cell? ⟨gS, c, none⟩ = some (.slice (some ⟨gz, o', none⟩) (X.L c - 1) (X.C c - 1)) := by
    rw [HR3.out.cs hcq]
    show some (Value.slice (if c = c then _ else X.A c) (updN X.L c (X.L c - 1) c) (if c = c then _ else X.C c)) = _
    rw [if_pos rfl, if_pos rfl, updN_self]
  have fdS := HR3.out.rowD.1.free c
  have cdS := HR3.out.cd hcq
  refine wpAnyH_ready (rs := [14]) (by kernel_rfl) (by simp) ?_
  refine AllReadyH.cons rfl (fun K hK => ?_) AllReadyH.nil
  go_simp
  refine hK.out _ _ cbS (fun hHeld => ?_)
  clear hK K
  try simp only [Act.put, List.setIfInBounds_toArray, List.set_cons_zero, List.set_cons_succ]
  refine wpAnyH_done (by kernel_rfl) ?_ _
  clear hHeld csV fsV eV3
  by_cases h1 : X.L c = 1
  · have h1' : (((X.L c - 1 : Nat) : Int) == 0) = true := by simp; omega
    obtain ⟨V4, eV4⟩ : ∃ V4, V3.setCell ⟨gD, c, none⟩ (.int .i64 0) = V4 := ⟨_, rfl⟩
    have HR4 : Hid (RepO V4 base top gb gD gS (((X.defTo c (X.d c - X.z c 0)).cut c (some ⟨gz, o', none⟩) (X.C c - 1)).defTo c 0)) := by rw [Hid, ← eV4]; exact HR3.out.def hcq _
    have HT4 : Hid (Touch [gb, gD, gS] w V4) := by rw [Hid, ← eV4]; exact HT3.out.set (by simp) c _
    have HAl : Hid (Alike (takeR X) (turnR (((X.defTo c (X.d c - X.z c 0)).cut c (some ⟨gz, o', none⟩) (X.C c - 1)).defTo c 0))) := last_alike HNo.out h1 _ _
    clear h1
    go_wp2_with fail
    refine (beginTurn_any _ base top gb gD gS _ HR4.out hn.2 HOk.out.t).mono ?_
    rintro e V5 ⟨⟨v, rfl⟩, hR5, hT5⟩
    go_wp2_with fail
    go_ret2
    exact ⟨.inr ⟨hsh', rfl, _, HAl.out, hR5⟩, HT4.out.trans (hT5.mono (fun x hx => by simp at hx; simp [hx]))⟩
  · have h1' : (((X.L c - 1 : Nat) : Int) == 0) = false := by simp; have := HL.out; omega
    have HAl : Hid (Alike (takeR X) ((X.defTo c (X.d c - X.z c 0)).cut c (some ⟨gz, o', none⟩) (X.C c - 1))) := took_alike HNo.out h1 _ _
    clear h1
    go_wp2_with fail
    go_ret2
    exact ⟨.inr ⟨hsh', rfl, _, HAl.out, HR3.out⟩, HT3.out⟩
set_option maxHeartbeats 4000000 in
/-- of a round whose class gets its grant now -/
theorem pickOf_fresh (X0 : Rnd) (base top gb gD gS c : Nat) (w0 : World) (h0 : RepO w0 base top gb gD gS X0) (hok0 : X0.Ok) (hc0 : X0.now = c) (ht0 : X0.turn = (c : Int)) (hL0 : X0.L c ≠ 0) (hf0 : X0.fresh = true) :
    Calls Try.prog 41 #[.pointer (some ⟨gb, 0, none⟩), .int .i64 (c : Int)] w0 (PickPost X0 base top gb gD gS c w0) := by
  have hcq0 : c < X0.nQ := by rw [← hc0]; exact hok0.now_lt
  have hg : grantR X0 = { X0.defTo c (X0.d c + X0.q c) with fresh := false } := by
    unfold grantR
    rw [if_pos hf0, hc0]
    rfl
  have hok : (grantR X0).Ok := grant_ok hok0 (by rw [hc0]; exact hL0)
  have hV0 := h0.up (w' := w0.drew) ((Below.refl _ _).drew)
  obtain ⟨V1, eV1⟩ : ∃ V1, w0.drew.setCell ⟨gD, c, none⟩ (.int .i64 (X0.d c + X0.q c)) = V1 := ⟨_, rfl⟩
  have hV1 : RepO V1 base top gb gD gS (X0.defTo c (X0.d c + X0.q c)) := by rw [← eV1]; exact hV0.def hcq0 _
  obtain ⟨w, ew⟩ : ∃ w, V1.setCell ⟨gb, 3, none⟩ (.bool false) = w := ⟨_, rfl⟩
  have h : RepO w base top gb gD gS (grantR X0) := by
    rw [← ew, hg]
    exact hV1.boxSet 3 _ rfl rfl
  have HT0 : Hid (Touch [gb, gD, gS] w0 w) := by
    rw [Hid, ← ew, ← eV1]
    exact ((Touch.ofBelow ((Below.refl _ _).drew)).set (by simp) c _).set (by simp) 3 _
  have HC0 := hok0.c c hcq0
  have hdd0 := HC0.2.2
  unfold defP at hdd0
  rw [if_neg hL0, begun_fresh hf0] at hdd0
  simp only [Bool.false_eq_true, if_false] at hdd0
  have hq0 := HC0.1
  obtain ⟨gq0, oq0, hQ0, cq0⟩ := hV0.cq hcq0
  have cb0 := hV0.cb
  have cs0 := h0.cs hcq0
  have cbw := h0.cb
  have cd0 := hV0.cd hcq0
  have fd0 := hV0.rowD.1.free c
  have fb1 := blk_free hV1.box 3
  have cb1 : V1.cell? ⟨gb, 3, none⟩ = some (.bool X0.fresh) := by rw [hV1.cb]; rfl
  rw [hQ0, hf0, ht0] at cb0 cbw
  have hLn0 : ((X0.L c : Int) == 0) = false := by simp; exact hL0
  have hc' : (c : Int) < X0.nQ := by omega
  have hwr0 : IntKind.i64.wrap (X0.d c + X0.q c) = X0.d c + X0.q c := wrapR _ (by omega) (by omega)
  have HP : Hid (PickPost X0 base top gb gD gS c w0 = fun e w' => ((grantR X0).d c < (grantR X0).z c 0 ∧ e = .returned (.tuple #[.int .i64 0, .bool false]) ∧ RepO w' base top gb gD gS (grantR X0) ∨
    (grantR X0).z c 0 ≤ (grantR X0).d c ∧ e = .returned (.tuple #[.int .i64 ((grantR X0).z c 0), .bool true]) ∧ ∃ X', Alike (takeR (grantR X0)) X' ∧ RepO w' base top gb gD gS X') ∧ Touch [gb, gD, gS] w0 w') := by
    rw [Hid, grantR_z]; rfl
  rw [HP.out]
  have ht : (grantR X0).turn = (c : Int) := by rw [grantR_turn]; exact ht0
  have hc : (grantR X0).now = c := by rw [grantR_now]; exact hc0
  have hL : (grantR X0).L c ≠ 0 := by rw [grantR_L]; exact hL0
  have hf : (grantR X0).fresh = false := grantR_fresh X0
  have hAA : (grantR X0).A = X0.A := by rw [hg]; rfl
  have hnn : (grantR X0).nQ = X0.nQ := grantR_nQ X0
  have HX0 : Hid (X0.L c = (grantR X0).L c) := by rw [Hid, grantR_L]
  have HCQ : Hid (V1.cell? ⟨gq0, oq0 + c, none⟩ = some (.int .i64 (X0.q c))) := by
    obtain ⟨g9, o9, e9, c9⟩ := hV1.cq hcq0
    have e8 : X0.aQ = some ⟨g9, o9, none⟩ := e9
    rw [hQ0] at e8
    cases e8
    exact c9
  have hne := h0.ne
  generalize grantR X0 = X at *
  clear hg hAA HP h0 hV0 hV1 hok0 hL0 HC0
  have hcq : c < X.nQ := by rw [hnn]; exact hcq0
  have HC := hok.c c hcq
  have hn := hok.n
  obtain ⟨gz, oz, hA⟩ := h.az hcq hL
  obtain ⟨gq, oq, hQ, cq⟩ := h.cq hcq
  have HR : Hid (RepO w base top gb gD gS X) := h
  have cb := h.cb
  have cs := h.cs hcq
  have cd := h.cd hcq
  have cz := h.cz hcq hA hL
  have fd := h.rowD.1.free c
  rw [hA] at cs
  rw [hQ, hf, ht] at cb
  have hc'' : (c : Int) < X.nQ := by omega
  have hLn : ((X.L c : Int) == 0) = false := by simp; exact hL
  have hLp : (0 : Int) < X.L c := by omega
  have hsz := HC.2.1.2 0 (by omega)
  have hdd := HC.2.2
  unfold defP at hdd
  rw [if_neg hL] at hdd
  have hd0 : 0 ≤ X.d c := hdd.1
  have hd1 : X.d c ≤ 20 := by
    have h1 := hdd.2
    have h2 := HC.1.2
    split at h1 <;> omega
  have HL : Hid (X.L c ≠ 0) := hL
  have HOk : Hid X.Ok := hok
  have HA : Hid (X.A c = some ⟨gz, oz, none⟩) := hA
  have HF : Hid (X.fresh = false) := hf
  have HTu : Hid (X.turn = (c : Int)) := ht
  have HNo : Hid (X.now = c) := hc
  have HQ : Hid (X.aQ = some ⟨gq, oq, none⟩) := hQ
  clear hdd HC hok hL hA hf ht hc hQ h
  by_cases hsh : X.d c < X.z c 0
  · go_enter Try.func41, Try.ntmps41
    go_wp2_with fail
    clear cs0 cbw hLn0
    refine wp_region_held_drew (S := fun w' => (∀ o, w'.cell? ⟨gb, o, none⟩ = (#[.slice (some ⟨gq0, oq0, none⟩) X0.nQ X0.cQ, .slice (some ⟨gD, 0, none⟩) X0.nQ X0.cD, .int .i64 (c : Int), .bool true, .slice (some ⟨gS, 0, none⟩) X0.nQ X0.cS] : Array Value)[o]?) ∧ w'.cell? ⟨gq0, oq0 + c, none⟩ = some (.int .i64 (X0.q c))) (by kernel_rfl) ⟨cb0, cq0⟩ (fun hHeld => ?_)
    generalize w0.drew = V0 at *
    refine takeD (i := 0) (some 20) (v := ?_) rfl rfl (by kernel_rfl) (by kernel_rfl) (by kernel_rfl) (fun _ _ _ h => h) (by kernel_rfl) ?_ (by assumption) ?_
    rotate_left
    · intro wx hSw
      obtain ⟨hS1, hS2⟩ := hSw
      go_simp
      try (with_reducible rfl)
    try simp only [Act.put, List.setIfInBounds_toArray, List.set_cons_zero, List.set_cons_succ]
    refine takeD (i := 1) (some 21) (v := ?_) rfl rfl (by kernel_rfl) (by kernel_rfl) (by kernel_rfl) (fun _ _ _ h => h) (by kernel_rfl) ?_ (by assumption) ?_
    rotate_left
    · intro wx hSw
      obtain ⟨hS1, hS2⟩ := hSw
      go_simp
      try (with_reducible rfl)
    try simp only [Act.put, List.setIfInBounds_toArray, List.set_cons_zero, List.set_cons_succ]
    refine takeD (i := 2) (some 22) (v := ?_) rfl rfl (by kernel_rfl) (by kernel_rfl) (by kernel_rfl) (fun _ _ _ h => h) (by kernel_rfl) ?_ (by assumption) ?_
    rotate_left
    · intro wx hSw
      obtain ⟨hS1, hS2⟩ := hSw
      go_simp
      try (with_reducible rfl)
    try simp only [Act.put, List.setIfInBounds_toArray, List.set_cons_zero, List.set_cons_succ]
    refine takeD (i := 3) (some 23) (v := ?_) rfl rfl (by kernel_rfl) (by kernel_rfl) (by kernel_rfl) (fun _ _ _ h => h) (by kernel_rfl) ?_ (by assumption) ?_
    rotate_left
    · intro wx hSw
      obtain ⟨hS1, hS2⟩ := hSw
      go_simp
      try (with_reducible rfl)
    try simp only [Act.put, List.setIfInBounds_toArray, List.set_cons_zero, List.set_cons_succ]
    refine takeD (i := 4) (some 24) (v := ?_) rfl rfl (by kernel_rfl) (by kernel_rfl) (by kernel_rfl) (fun _ _ _ h => h) (by kernel_rfl) ?_ (by assumption) ?_
    rotate_left
    · intro wx hSw
      obtain ⟨hS1, hS2⟩ := hSw
      go_simp
      try (with_reducible rfl)
    try simp only [Act.put, List.setIfInBounds_toArray, List.set_cons_zero, List.set_cons_succ]
    refine takeD (i := 5) (some 25) (v := ?_) rfl rfl (by kernel_rfl) (by kernel_rfl) (by kernel_rfl) (fun _ _ _ h => h) (by kernel_rfl) ?_ (by assumption) ?_
    rotate_left
    · intro wx hSw
      obtain ⟨hS1, hS2⟩ := hSw
      go_simp
      try (with_reducible rfl)
    try simp only [Act.put, List.setIfInBounds_toArray, List.set_cons_zero, List.set_cons_succ]
    refine takeD (i := 7) (some 27) (v := ?_) rfl rfl (by kernel_rfl) (by kernel_rfl) (by kernel_rfl) (fun _ _ _ h => h) (by kernel_rfl) ?_ (by assumption) ?_
    rotate_left
    · intro wx hSw
      obtain ⟨hS1, hS2⟩ := hSw
      go_simp
      try (with_reducible rfl)
    try simp only [Act.put, List.setIfInBounds_toArray, List.set_cons_zero, List.set_cons_succ]
    refine takeD (i := 8) (some 28) (v := ?_) rfl rfl (by kernel_rfl) (by kernel_rfl) (by kernel_rfl) (fun _ _ _ h => h) (by kernel_rfl) ?_ (by assumption) ?_
    rotate_left
    · intro wx hSw
      obtain ⟨hS1, hS2⟩ := hSw
      go_simp
      try (with_reducible rfl)
    try simp only [Act.put, List.setIfInBounds_toArray, List.set_cons_zero, List.set_cons_succ]
    refine takeD (i := 9) (some 29) (v := ?_) rfl rfl (by kernel_rfl) (by kernel_rfl) (by kernel_rfl) (fun _ _ _ h => h) (by kernel_rfl) ?_ (by assumption) ?_
    rotate_left
    · intro wx hSw
      obtain ⟨hS1, hS2⟩ := hSw
      go_simp
      try (with_reducible rfl)
    try simp only [Act.put, List.setIfInBounds_toArray, List.set_cons_zero, List.set_cons_succ]
    refine takeD (i := 10) (some 30) (v := ?_) rfl rfl (by kernel_rfl) (by kernel_rfl) (by kernel_rfl) (fun _ _ _ h => h) (by kernel_rfl) ?_ (by assumption) ?_
    rotate_left
    · intro wx hSw
      obtain ⟨hS1, hS2⟩ := hSw
      go_simp
      try (with_reducible rfl)
    try simp only [Act.put, List.setIfInBounds_toArray, List.set_cons_zero, List.set_cons_succ]
    refine takeD (i := 11) (some 31) (v := ?_) rfl rfl (by kernel_rfl) (by kernel_rfl) (by kernel_rfl) (fun _ _ _ h => h) (by kernel_rfl) ?_ (by assumption) ?_
    rotate_left
    · intro wx hSw
      obtain ⟨hS1, hS2⟩ := hSw
      go_simp
      try (with_reducible rfl)
    try simp only [Act.put, List.setIfInBounds_toArray, List.set_cons_zero, List.set_cons_succ]
    refine takeD (i := 12) (some 32) (v := ?_) rfl rfl (by kernel_rfl) (by kernel_rfl) (by kernel_rfl) (fun _ _ _ h => h) (by kernel_rfl) ?_ (by assumption) ?_
    rotate_left
    · intro wx hSw
      obtain ⟨hS1, hS2⟩ := hSw
      go_simp
      try (with_reducible rfl)
    try simp only [Act.put, List.setIfInBounds_toArray, List.set_cons_zero, List.set_cons_succ]
    refine takeD (i := 13) (some 33) (v := ?_) rfl rfl (by kernel_rfl) (by kernel_rfl) (by kernel_rfl) (fun _ _ _ h => h) (by kernel_rfl) ?_ (by assumption) ?_
    rotate_left
    · intro wx hSw
      obtain ⟨hS1, hS2⟩ := hSw
      go_simp
      try (with_reducible rfl)
    try simp only [Act.put, List.setIfInBounds_toArray, List.set_cons_zero, List.set_cons_succ]
    refine wpAnyH_ready (rs := [6]) (by kernel_rfl) (by simp) ?_
    refine AllReadyH.cons rfl (fun K hK => ?_) AllReadyH.nil
    go_simp
    refine hK.out _ _ ⟨cb0, cq0⟩ (fun hHeld => ?_)
    clear hK K
    try simp only [Act.put, List.setIfInBounds_toArray, List.set_cons_zero, List.set_cons_succ]
    refine takeD (i := 14) (some 34) (v := ?_) rfl rfl (by kernel_rfl) (by kernel_rfl) (by kernel_rfl) (fun _ _ _ h => h) (by kernel_rfl) ?_ (by assumption) ?_
    rotate_left
    · intro wx hSw
      obtain ⟨hS1, hS2⟩ := hSw
      go_simp
      try (with_reducible rfl)
    try simp only [Act.put, List.setIfInBounds_toArray, List.set_cons_zero, List.set_cons_succ]
    refine takeD (i := 15) (some 35) (v := ?_) rfl rfl (by kernel_rfl) (by kernel_rfl) (by kernel_rfl) (fun _ _ _ h => h) (by kernel_rfl) ?_ (by assumption) ?_
    rotate_left
    · intro wx hSw
      obtain ⟨hS1, hS2⟩ := hSw
      go_simp
      try (with_reducible rfl)
    try simp only [Act.put, List.setIfInBounds_toArray, List.set_cons_zero, List.set_cons_succ]
    have cb2 : ∀ o, V1.cell? ⟨gb, o, none⟩ = (#[.slice (some ⟨gq0, oq0, none⟩) X0.nQ X0.cQ, .slice (some ⟨gD, 0, none⟩) X0.nQ X0.cD, .int .i64 (c : Int), .bool true, .slice (some ⟨gS, 0, none⟩) X0.nQ X0.cS] : Array Value)[o]? := fun o => by rw [← eV1]; exact (World.cell?_setCell_far _ _ _ _ (fun e => hne.1 e.symm)).trans (cb0 o)
    have cq2 : V1.cell? ⟨gq0, oq0 + c, none⟩ = some (.int .i64 (X0.q c)) := HCQ.out
    refine wpAnyH_ready (rs := [16]) (by kernel_rfl) (by simp) ?_
    refine AllReadyH.cons rfl (fun K hK => ?_) AllReadyH.nil
    go_simp
    refine hK.out _ _ ⟨cb2, cq2⟩ (fun hHeld => ?_)
    clear hK K
    try simp only [Act.put, List.setIfInBounds_toArray, List.set_cons_zero, List.set_cons_succ]
    refine wpAnyH_done (by kernel_rfl) ?_ _
    clear hHeld cb0 cq0 cd0 fd0 eV1
    go_wp2_with fail
    clear ew cb1 fb1 cb2 cq2
    go_ret2
    exact ⟨.inl ⟨hsh, rfl, HR.out⟩, HT0.out⟩
  have hsh' : X.z c 0 ≤ X.d c := by omega
  -- the deficit written
  have hwr : IntKind.i64.wrap (X.d c - X.z c 0) = X.d c - X.z c 0 := wrapR _ (by omega) (by omega)
  obtain ⟨W2, eW2⟩ : ∃ W2, w.setCell ⟨gD, c, none⟩ (.int .i64 (X.d c - X.z c 0)) = W2 := ⟨_, rfl⟩
  have HR2 : Hid (RepO W2 base top gb gD gS (X.defTo c (X.d c - X.z c 0))) := by rw [Hid, ← eW2]; exact HR.out.def hcq _
  have HT2 : Hid (Touch [gb, gD, gS] w0 W2) := by rw [Hid, ← eW2]; exact HT0.out.set (by simp) c _
  have HV : Hid (RepO W2.drew base top gb gD gS (X.defTo c (X.d c - X.z c 0))) := HR2.out.up ((Below.refl _ _).drew)
  have HTV : Hid (Touch [gb, gD, gS] w0 W2.drew) := HT2.out.trans (Touch.ofBelow ((Below.refl _ _).drew))
  have cbV : ∀ o, W2.drew.cell? ⟨gb, o, none⟩ = (#[.slice (some ⟨gq, oq, none⟩) X.nQ X.cQ, .slice (some ⟨gD, 0, none⟩) X.nQ X.cD, .int .i64 (c : Int), .bool false, .slice (some ⟨gS, 0, none⟩) X.nQ X.cS] : Array Value)[o]? := fun o => by
    rw [HV.out.cb]
    show (#[.slice X.aQ X.nQ X.cQ, _, .int .i64 X.turn, .bool X.fresh, _] : Array Value)[o]? = _
    rw [HQ.out, HF.out, HTu.out]
    rfl
  have csV : W2.drew.cell? ⟨gS, c, none⟩ = some (.slice (some ⟨gz, oz, none⟩) (X.L c) (X.C c)) := by
    rw [HV.out.cs hcq]
    show some (Value.slice (X.A c) (X.L c) (X.C c)) = _
    rw [HA.out]
  have fsV := HV.out.rowS.1.free c
  obtain ⟨o', ho'⟩ : ∃ o' : Nat, o' = if X.C c = 1 then oz else oz + 1 := ⟨_, rfl⟩
  have HRC : Hid (∀ wx, (Instr.slice 24 (.slice (some ⟨gz, oz, none⟩) (X.L c) (X.C c)) (some (.int .i64 1)) none none).run Try.prog wx = .ok (.slice (some ⟨gz, o', none⟩) (X.L c - 1) (X.C c - 1)) wx) := fun wx => run_cutO gz oz o' (X.L c) (X.C c) wx HL.out ho'
  have HR3 : Hid (RepO (W2.drew.setCell ⟨gS, c, none⟩ (.slice (some ⟨gz, o', none⟩) (X.L c - 1) (X.C c - 1))) base top gb gD gS ((X.defTo c (X.d c - X.z c 0)).cut c (some ⟨gz, o', none⟩) (X.C c - 1))) := HV.out.cut hcq HA.out HL.out (fun hC => by rw [ho']; exact if_neg hC)
  clear ho'
  go_enter Try.func41, Try.ntmps41
  go_wp2_with fail
  clear cs0 cbw hLn0
  refine wp_region_held_drew (S := fun w' => (∀ o, w'.cell? ⟨gb, o, none⟩ = (#[.slice (some ⟨gq0, oq0, none⟩) X0.nQ X0.cQ, .slice (some ⟨gD, 0, none⟩) X0.nQ X0.cD, .int .i64 (c : Int), .bool true, .slice (some ⟨gS, 0, none⟩) X0.nQ X0.cS] : Array Value)[o]?) ∧ w'.cell? ⟨gq0, oq0 + c, none⟩ = some (.int .i64 (X0.q c))) (by kernel_rfl) ⟨cb0, cq0⟩ (fun hHeld => ?_)
  generalize w0.drew = V0 at *
  refine takeD (i := 0) (some 20) (v := ?_) rfl rfl (by kernel_rfl) (by kernel_rfl) (by kernel_rfl) (fun _ _ _ h => h) (by kernel_rfl) ?_ (by assumption) ?_
  rotate_left
  · intro wx hSw
    obtain ⟨hS1, hS2⟩ := hSw
    go_simp
    try (with_reducible rfl)
  try simp only [Act.put, List.setIfInBounds_toArray, List.set_cons_zero, List.set_cons_succ]
  refine takeD (i := 1) (some 21) (v := ?_) rfl rfl (by kernel_rfl) (by kernel_rfl) (by kernel_rfl) (fun _ _ _ h => h) (by kernel_rfl) ?_ (by assumption) ?_
  rotate_left
  · intro wx hSw
    obtain ⟨hS1, hS2⟩ := hSw
    go_simp
    try (with_reducible rfl)
  try simp only [Act.put, List.setIfInBounds_toArray, List.set_cons_zero, List.set_cons_succ]
  refine takeD (i := 2) (some 22) (v := ?_) rfl rfl (by kernel_rfl) (by kernel_rfl) (by kernel_rfl) (fun _ _ _ h => h) (by kernel_rfl) ?_ (by assumption) ?_
  rotate_left
  · intro wx hSw
    obtain ⟨hS1, hS2⟩ := hSw
    go_simp
    try (with_reducible rfl)
  try simp only [Act.put, List.setIfInBounds_toArray, List.set_cons_zero, List.set_cons_succ]
  refine takeD (i := 3) (some 23) (v := ?_) rfl rfl (by kernel_rfl) (by kernel_rfl) (by kernel_rfl) (fun _ _ _ h => h) (by kernel_rfl) ?_ (by assumption) ?_
  rotate_left
  · intro wx hSw
    obtain ⟨hS1, hS2⟩ := hSw
    go_simp
    try (with_reducible rfl)
  try simp only [Act.put, List.setIfInBounds_toArray, List.set_cons_zero, List.set_cons_succ]
  refine takeD (i := 4) (some 24) (v := ?_) rfl rfl (by kernel_rfl) (by kernel_rfl) (by kernel_rfl) (fun _ _ _ h => h) (by kernel_rfl) ?_ (by assumption) ?_
  rotate_left
  · intro wx hSw
    obtain ⟨hS1, hS2⟩ := hSw
    go_simp
    try (with_reducible rfl)
  try simp only [Act.put, List.setIfInBounds_toArray, List.set_cons_zero, List.set_cons_succ]
  refine takeD (i := 5) (some 25) (v := ?_) rfl rfl (by kernel_rfl) (by kernel_rfl) (by kernel_rfl) (fun _ _ _ h => h) (by kernel_rfl) ?_ (by assumption) ?_
  rotate_left
  · intro wx hSw
    obtain ⟨hS1, hS2⟩ := hSw
    go_simp
    try (with_reducible rfl)
  try simp only [Act.put, List.setIfInBounds_toArray, List.set_cons_zero, List.set_cons_succ]
  refine takeD (i := 7) (some 27) (v := ?_) rfl rfl (by kernel_rfl) (by kernel_rfl) (by kernel_rfl) (fun _ _ _ h => h) (by kernel_rfl) ?_ (by assumption) ?_
  rotate_left
  · intro wx hSw
    obtain ⟨hS1, hS2⟩ := hSw
    go_simp
    try (with_reducible rfl)
  try simp only [Act.put, List.setIfInBounds_toArray, List.set_cons_zero, List.set_cons_succ]
  refine takeD (i := 8) (some 28) (v := ?_) rfl rfl (by kernel_rfl) (by kernel_rfl) (by kernel_rfl) (fun _ _ _ h => h) (by kernel_rfl) ?_ (by assumption) ?_
  rotate_left
  · intro wx hSw
    obtain ⟨hS1, hS2⟩ := hSw
    go_simp
    try (with_reducible rfl)
  try simp only [Act.put, List.setIfInBounds_toArray, List.set_cons_zero, List.set_cons_succ]
  refine takeD (i := 9) (some 29) (v := ?_) rfl rfl (by kernel_rfl) (by kernel_rfl) (by kernel_rfl) (fun _ _ _ h => h) (by kernel_rfl) ?_ (by assumption) ?_
  rotate_left
  · intro wx hSw
    obtain ⟨hS1, hS2⟩ := hSw
    go_simp
    try (with_reducible rfl)
  try simp only [Act.put, List.setIfInBounds_toArray, List.set_cons_zero, List.set_cons_succ]
  refine takeD (i := 10) (some 30) (v := ?_) rfl rfl (by kernel_rfl) (by kernel_rfl) (by kernel_rfl) (fun _ _ _ h => h) (by kernel_rfl) ?_ (by assumption) ?_
  rotate_left
  · intro wx hSw
    obtain ⟨hS1, hS2⟩ := hSw
    go_simp
    try (with_reducible rfl)
  try simp only [Act.put, List.setIfInBounds_toArray, List.set_cons_zero, List.set_cons_succ]
  refine takeD (i := 11) (some 31) (v := ?_) rfl rfl (by kernel_rfl) (by kernel_rfl) (by kernel_rfl) (fun _ _ _ h => h) (by kernel_rfl) ?_ (by assumption) ?_
  rotate_left
  · intro wx hSw
    obtain ⟨hS1, hS2⟩ := hSw
    go_simp
    try (with_reducible rfl)
  try simp only [Act.put, List.setIfInBounds_toArray, List.set_cons_zero, List.set_cons_succ]
  refine takeD (i := 12) (some 32) (v := ?_) rfl rfl (by kernel_rfl) (by kernel_rfl) (by kernel_rfl) (fun _ _ _ h => h) (by kernel_rfl) ?_ (by assumption) ?_
  rotate_left
  · intro wx hSw
    obtain ⟨hS1, hS2⟩ := hSw
    go_simp
    try (with_reducible rfl)
  try simp only [Act.put, List.setIfInBounds_toArray, List.set_cons_zero, List.set_cons_succ]
  refine takeD (i := 13) (some 33) (v := ?_) rfl rfl (by kernel_rfl) (by kernel_rfl) (by kernel_rfl) (fun _ _ _ h => h) (by kernel_rfl) ?_ (by assumption) ?_
  rotate_left
  · intro wx hSw
    obtain ⟨hS1, hS2⟩ := hSw
    go_simp
    try (with_reducible rfl)
  try simp only [Act.put, List.setIfInBounds_toArray, List.set_cons_zero, List.set_cons_succ]
  refine wpAnyH_ready (rs := [6]) (by kernel_rfl) (by simp) ?_
  refine AllReadyH.cons rfl (fun K hK => ?_) AllReadyH.nil
  go_simp
  refine hK.out _ _ ⟨cb0, cq0⟩ (fun hHeld => ?_)
  clear hK K
  try simp only [Act.put, List.setIfInBounds_toArray, List.set_cons_zero, List.set_cons_succ]
  refine takeD (i := 14) (some 34) (v := ?_) rfl rfl (by kernel_rfl) (by kernel_rfl) (by kernel_rfl) (fun _ _ _ h => h) (by kernel_rfl) ?_ (by assumption) ?_
  rotate_left
  · intro wx hSw
    obtain ⟨hS1, hS2⟩ := hSw
    go_simp
    try (with_reducible rfl)
  try simp only [Act.put, List.setIfInBounds_toArray, List.set_cons_zero, List.set_cons_succ]
  refine takeD (i := 15) (some 35) (v := ?_) rfl rfl (by kernel_rfl) (by kernel_rfl) (by kernel_rfl) (fun _ _ _ h => h) (by kernel_rfl) ?_ (by assumption) ?_
  rotate_left
  · intro wx hSw
    obtain ⟨hS1, hS2⟩ := hSw
    go_simp
    try (with_reducible rfl)
  try simp only [Act.put, List.setIfInBounds_toArray, List.set_cons_zero, List.set_cons_succ]
  have cb2 : ∀ o, V1.cell? ⟨gb, o, none⟩ = (#[.slice (some ⟨gq0, oq0, none⟩) X0.nQ X0.cQ, .slice (some ⟨gD, 0, none⟩) X0.nQ X0.cD, .int .i64 (c : Int), .bool true, .slice (some ⟨gS, 0, none⟩) X0.nQ X0.cS] : Array Value)[o]? := fun o => by rw [← eV1]; exact (World.cell?_setCell_far _ _ _ _ (fun e => hne.1 e.symm)).trans (cb0 o)
  have cq2 : V1.cell? ⟨gq0, oq0 + c, none⟩ = some (.int .i64 (X0.q c)) := HCQ.out
  refine wpAnyH_ready (rs := [16]) (by kernel_rfl) (by simp) ?_
  refine AllReadyH.cons rfl (fun K hK => ?_) AllReadyH.nil
  go_simp
  refine hK.out _ _ ⟨cb2, cq2⟩ (fun hHeld => ?_)
  clear hK K
  try simp only [Act.put, List.setIfInBounds_toArray, List.set_cons_zero, List.set_cons_succ]
  refine wpAnyH_done (by kernel_rfl) ?_ _
  clear hHeld cb0 cq0 cd0 fd0 eV1
  go_wp2_with fail
  clear ew cb1 fb1 cb2 cq2
  clear eW2 cb cs cd cz fd cq hwr
  refine wp_region_held_drew (S := fun w' => ∀ o, w'.cell? ⟨gb, o, none⟩ = (#[.slice (some ⟨gq, oq, none⟩) X.nQ X.cQ, .slice (some ⟨gD, 0, none⟩) X.nQ X.cD, .int .i64 (c : Int), .bool false, .slice (some ⟨gS, 0, none⟩) X.nQ X.cS] : Array Value)[o]?) (by kernel_rfl) cbV (fun hHeld => ?_)
  generalize W2.drew = V at *
  refine takeD (i := 0) (some 67) (v := ?_) rfl rfl (by kernel_rfl) (by kernel_rfl) (by kernel_rfl) (fun _ _ _ h => h) (by kernel_rfl) ?_ (by assumption) ?_
  rotate_left
  · intro wx hSw
    try dsimp only at hSw
    go_simp
    try (with_reducible rfl)
  try simp only [Act.put, List.setIfInBounds_toArray, List.set_cons_zero, List.set_cons_succ]
  refine takeD (i := 1) (some 68) (v := ?_) rfl rfl (by kernel_rfl) (by kernel_rfl) (by kernel_rfl) (fun _ _ _ h => h) (by kernel_rfl) ?_ (by assumption) ?_
  rotate_left
  · intro wx hSw
    try dsimp only at hSw
    go_simp
    try (with_reducible rfl)
  try simp only [Act.put, List.setIfInBounds_toArray, List.set_cons_zero, List.set_cons_succ]
  refine takeD (i := 2) (some 69) (v := ?_) rfl rfl (by kernel_rfl) (by kernel_rfl) (by kernel_rfl) (fun _ _ _ h => h) (by kernel_rfl) ?_ (by assumption) ?_
  rotate_left
  · intro wx hSw
    try dsimp only at hSw
    go_simp
    try (with_reducible rfl)
  try simp only [Act.put, List.setIfInBounds_toArray, List.set_cons_zero, List.set_cons_succ]
  refine takeD (i := 3) (some 70) (v := ?_) rfl rfl (by kernel_rfl) (by kernel_rfl) (by kernel_rfl) (fun _ _ _ h => h) (by kernel_rfl) ?_ (by assumption) ?_
  rotate_left
  · intro wx hSw
    try dsimp only at hSw
    go_simp
    try (with_reducible rfl)
  try simp only [Act.put, List.setIfInBounds_toArray, List.set_cons_zero, List.set_cons_succ]
  refine takeD (i := 4) (some 71) (v := ?_) rfl rfl (by kernel_rfl) (by kernel_rfl) (by kernel_rfl) (fun _ _ _ h => h) (by kernel_rfl) ?_ (by assumption) ?_
  rotate_left
  · intro wx hSw
    try dsimp only at hSw
    go_simp
    try (with_reducible rfl)
  try simp only [Act.put, List.setIfInBounds_toArray, List.set_cons_zero, List.set_cons_succ]
  refine takeD (i := 5) (some 72) (v := ?_) rfl rfl (by kernel_rfl) (by kernel_rfl) (by kernel_rfl) (fun _ _ _ h => h) (by kernel_rfl) ?_ (by assumption) ?_
  rotate_left
  · intro wx hSw
    try dsimp only at hSw
    go_simp
    try (with_reducible rfl)
  try simp only [Act.put, List.setIfInBounds_toArray, List.set_cons_zero, List.set_cons_succ]
  refine takeD (i := 6) (some 73) (v := ?_) rfl rfl (by kernel_rfl) (by kernel_rfl) (by kernel_rfl) (fun _ _ _ h => h) (by kernel_rfl) ?_ (by assumption) ?_
  rotate_left
  · intro wx hSw
    try dsimp only at hSw
    go_simp
    try (with_reducible rfl)
  try simp only [Act.put, List.setIfInBounds_toArray, List.set_cons_zero, List.set_cons_succ]
  refine takeD (i := 7) (some 74) (v := ?_) rfl rfl (by kernel_rfl) (by kernel_rfl) (by kernel_rfl) (fun _ _ _ h => h) (by kernel_rfl) ?_ (by assumption) ?_
  rotate_left
  · intro wx hSw
    try dsimp only at hSw
    go_simp
    try (with_reducible rfl)
  try simp only [Act.put, List.setIfInBounds_toArray, List.set_cons_zero, List.set_cons_succ]
  refine takeD (i := 8) (some 75) (v := ?_) rfl rfl (by kernel_rfl) (by kernel_rfl) (by kernel_rfl) (fun _ _ _ h => h) (by kernel_rfl) ?_ (by assumption) ?_
  rotate_left
  · intro wx hSw
    try dsimp only at hSw
    go_simp
    try (with_reducible rfl)
  try simp only [Act.put, List.setIfInBounds_toArray, List.set_cons_zero, List.set_cons_succ]
  refine takeD (i := 9) (some 76) (v := ?_) rfl rfl (by kernel_rfl) (by kernel_rfl) (by kernel_rfl) (fun _ _ _ h => h) (by kernel_rfl) ?_ (by assumption) ?_
  rotate_left
  · intro wx hSw
    try dsimp only at hSw
    go_simp
    try (with_reducible rfl)
  try simp only [Act.put, List.setIfInBounds_toArray, List.set_cons_zero, List.set_cons_succ]
  refine takeD (i := 10) (some 77) (v := ?_) rfl rfl (by kernel_rfl) (by kernel_rfl) (by kernel_rfl) (fun _ _ _ h => h) (by kernel_rfl) ?_ (by assumption) ?_
  rotate_left
  · intro wx hSw
    try dsimp only at hSw
    go_simp
    try (with_reducible rfl)
  try simp only [Act.put, List.setIfInBounds_toArray, List.set_cons_zero, List.set_cons_succ]
  refine wpAnyH_ready (rs := [11]) (by kernel_rfl) (by simp) ?_
  refine AllReadyH.cons rfl (fun K hK => ?_) AllReadyH.nil
  go_simp
  refine hK.out _ _ cbV (fun hHeld => ?_)
  clear hK K
  try simp only [Act.put, List.setIfInBounds_toArray, List.set_cons_zero, List.set_cons_succ]
  refine takeD (i := 12) (some 79) (v := .slice (some ⟨gz, o', none⟩) (X.L c - 1) (X.C c - 1)) rfl rfl (by kernel_rfl) (by kernel_rfl) (by kernel_rfl) (fun _ _ _ h => h) (by kernel_rfl) ?_ (by assumption) ?_
  · intro wx hSw
    have hrc := HRC.out wx
    go_simp
  try simp only [Act.put, List.setIfInBounds_toArray, List.set_cons_zero, List.set_cons_succ]
  refine takeD (i := 13) (some 80) (v := ?_) rfl rfl (by kernel_rfl) (by kernel_rfl) (by kernel_rfl) (fun _ _ _ h => h) (by kernel_rfl) ?_ (by assumption) ?_
  rotate_left
  · intro wx hSw
    try dsimp only at hSw
    go_simp
    try (with_reducible rfl)
  try simp only [Act.put, List.setIfInBounds_toArray, List.set_cons_zero, List.set_cons_succ]
  obtain ⟨V3, eV3⟩ : ∃ V3, V.setCell ⟨gS, c, none⟩ (.slice (some ⟨gz, o', none⟩) (X.L c - 1) (X.C c - 1)) = V3 := ⟨_, rfl⟩
  rw [eV3] at HR3
  have HT3 : Hid (Touch [gb, gD, gS] w0 V3) := by rw [Hid, ← eV3]; exact HTV.out.set (by simp) c _
  have cbS : ∀ o, V3.cell? ⟨gb, o, none⟩ = (#[.slice (some ⟨gq, oq, none⟩) X.nQ X.cQ, .slice (some ⟨gD, 0, none⟩) X.nQ X.cD, .int .i64 (c : Int), .bool false, .slice (some ⟨gS, 0, none⟩) X.nQ X.cS] : Array Value)[o]? := fun o => by
    rw [HR3.out.cb]
    show (#[.slice X.aQ X.nQ X.cQ, _, .int .i64 X.turn, .bool X.fresh, _] : Array Value)[o]? = _
    rw [HQ.out, HF.out, HTu.out]
    rfl
  have csS : V3.cell? ⟨gS, c, none⟩ = some (.slice (some ⟨gz, o', none⟩) (X.L c - 1) (X.C c - 1)) := by
    rw [HR3.out.cs hcq]
    show some (Value.slice (if c = c then _ else X.A c) (updN X.L c (X.L c - 1) c) (if c = c then _ else X.C c)) = _
    rw [if_pos rfl, if_pos rfl, updN_self]
  have fdS := HR3.out.rowD.1.free c
  have cdS := HR3.out.cd hcq
  refine wpAnyH_ready (rs := [14]) (by kernel_rfl) (by simp) ?_
  refine AllReadyH.cons rfl (fun K hK => ?_) AllReadyH.nil
  go_simp
  refine hK.out _ _ cbS (fun hHeld => ?_)
  clear hK K
  try simp only [Act.put, List.setIfInBounds_toArray, List.set_cons_zero, List.set_cons_succ]
  refine wpAnyH_done (by kernel_rfl) ?_ _
  clear hHeld csV fsV eV3
  by_cases h1 : X.L c = 1
  · have h1' : (((X.L c - 1 : Nat) : Int) == 0) = true := by simp; omega
    obtain ⟨V4, eV4⟩ : ∃ V4, V3.setCell ⟨gD, c, none⟩ (.int .i64 0) = V4 := ⟨_, rfl⟩
    have HR4 : Hid (RepO V4 base top gb gD gS (((X.defTo c (X.d c - X.z c 0)).cut c (some ⟨gz, o', none⟩) (X.C c - 1)).defTo c 0)) := by rw [Hid, ← eV4]; exact HR3.out.def hcq _
    have HT4 : Hid (Touch [gb, gD, gS] w0 V4) := by rw [Hid, ← eV4]; exact HT3.out.set (by simp) c _
    have HAl : Hid (Alike (takeR X) (turnR (((X.defTo c (X.d c - X.z c 0)).cut c (some ⟨gz, o', none⟩) (X.C c - 1)).defTo c 0))) := last_alike HNo.out h1 _ _
    clear h1
    go_wp2_with fail
    refine (beginTurn_any _ base top gb gD gS _ HR4.out hn.2 HOk.out.t).mono ?_
    rintro e V5 ⟨⟨v, rfl⟩, hR5, hT5⟩
    go_wp2_with fail
    go_ret2
    exact ⟨.inr ⟨hsh', rfl, _, HAl.out, hR5⟩, HT4.out.trans (hT5.mono (fun x hx => by simp at hx; simp [hx]))⟩
  · have h1' : (((X.L c - 1 : Nat) : Int) == 0) = false := by simp; have := HL.out; omega
    have HAl : Hid (Alike (takeR X) ((X.defTo c (X.d c - X.z c 0)).cut c (some ⟨gz, o', none⟩) (X.C c - 1))) := took_alike HNo.out h1 _ _
    clear h1
    go_wp2_with fail
    go_ret2
    exact ⟨.inr ⟨hsh', rfl, _, HAl.out, HR3.out⟩, HT3.out⟩
theorem pickOf_any (X : Rnd) (base top gb gD gS c : Nat) (w : World) (h : RepO w base top gb gD gS X) (hok : X.Ok) (hc : X.now = c) (ht : X.turn = (c : Int)) (hL : X.L c ≠ 0) :
    Calls Try.prog 41 #[.pointer (some ⟨gb, 0, none⟩), .int .i64 (c : Int)] w (PickPost X base top gb gD gS c w) := by
  cases hf : X.fresh
  · exact pickOf_end X base top gb gD gS c w h hok hc ht hL hf
  · exact pickOf_fresh X base top gb gD gS c w h hok hc ht hL hf
end Go.Proofs.Ytnfcmiiibkbmfaa
