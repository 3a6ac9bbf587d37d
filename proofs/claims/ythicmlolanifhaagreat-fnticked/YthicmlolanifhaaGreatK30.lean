import Derived.Test.YthicmlolanifhaaGreatK19
namespace Go.Proofs.YthicmlolanifhaaGreat
set_option maxRecDepth 100000
open Go.RowKit
set_option linter.unusedVariables false
set_option linter.unusedSimpArgs false
theorem dy {p:Prop} (h:p:=by
 clear hr
 refine hK.out _ _ ⟨⟩ fun hHeld=>?_
 clear hK K
 try simp only [Act.put,PZ]
 refine tM 9 14 ?_
 exact dS):p:=h
theorem dA {p:Prop} (h:p:=by
 clear hr
 refine hK.out _ _ ⟨⟩ fun hHeld=>?_
 clear hK K
 try simp only [Act.put,PZ]
 refine tM 9 14 ?_
 refine rq1 10 (fun K hK=>?_)
 obtain ⟨gB,W,hg,hW,hM⟩:=hM.s8
 go_simp
 refine hK.out _ _ ⟨⟩ fun hHeld=>?_
 clear hK K
 try simp only [Act.put,PZ]
 rw [←hg,←hW]
 clear hg hW
 exact dS):p:=h
theorem dB {p:Prop} (h:p:=by
 refine rq2 2 8 (fun K hK=>?_) (fun K hK=>?_)
 ·
  obtain ⟨aQ,cQ,W,hr,hM⟩:=hM.vC cap hn (HRd.out _ hM.below)
  refine jy (by kernel_rfl) (some 7) (.tmp 5) (.tmp 6) 27 _ _ _ rfl rfl rfl rfl rfl hr ?_
  exact dZ
 obtain ⟨gS,W,hr,hM⟩:=hM.zw hn
 refine iO (by kernel_rfl) (some 13) (.tmp 12) 44 _ _ rfl rfl rfl hr ?_
 exact dY):p:=h
theorem dC {p:Prop} (h:p:=by
 refine rq2 2 5 (fun K hK=>?_) (fun K hK=>?_)
 ·
  obtain ⟨aQ,cQ,W,hr,hM⟩:=hM.vC cap hn (HRd.out _ hM.below)
  refine jy (by kernel_rfl) (some 7) (.tmp 5) (.tmp 6) 27 _ _ _ rfl rfl rfl rfl rfl hr ?_
  exact ef
 obtain ⟨gD,W,hr,hM⟩:=hM.xd hn
 refine iO (by kernel_rfl) (some 10) (.tmp 9) 27 _ _ rfl rfl rfl hr ?_
 exact dY):p:=h
theorem dD {p:Prop} (h:p:=by
 go_simp
 refine hK.out _ _ ⟨⟩ fun hHeld=>?_
 clear hK K
 try simp only [Act.put,PZ]
 rw [←hg,←hW]
 clear hg hW
 exact dR):p:=h
theorem dE {p:Prop} (h:p:=by
 go_simp
 refine hK.out _ _ ⟨⟩ fun hHeld=>?_
 clear hK K
 try simp only [Act.put,PZ]
 rw [←hg,←hW]
 clear hg hW
 refine wpAnyH_ready (rs:=[2,5,8]) (by kernel_rfl) (by simp) ?_
 refine AllReadyH.cons rfl (fun K hK=>?_) (AllReadyH.cons rfl (fun K hK=>?_) (AllReadyH.cons rfl (fun K hK=>?_) AllReadyH.nil))
 ·
  obtain ⟨aQ,cQ,W,hr,hM⟩:=hM.vC cap hn (HRd.out _ hM.below)
  refine jy (by kernel_rfl) (some 7) (.tmp 5) (.tmp 6) 27 _ _ _ rfl rfl rfl rfl rfl hr ?_
  clear hr
  refine hK.out _ _ ⟨⟩ fun hHeld=>?_
  clear hK K
  try simp only [Act.put,PZ]
  exact dN
 ·
  obtain ⟨gD,W,hr,hM⟩:=hM.xd hn
  refine iO (by kernel_rfl) (some 10) (.tmp 9) 27 _ _ rfl rfl rfl hr ?_
  clear hr
  refine hK.out _ _ ⟨⟩ fun hHeld=>?_
  clear hK K
  try simp only [Act.put,PZ]
  exact dB
 obtain ⟨gS,W,hr,hM⟩:=hM.zw hn
 refine iO (by kernel_rfl) (some 13) (.tmp 12) 44 _ _ rfl rfl rfl hr ?_
 clear hr
 refine hK.out _ _ ⟨⟩ fun hHeld=>?_
 clear hK K
 try simp only [Act.put,PZ]
 exact dC):p:=h
theorem dF {p:Prop} (h:p:=by
 refine wpAnyH_ready (rs:=[2,8,10]) (by kernel_rfl) (by simp) ?_
 refine AllReadyH.cons rfl (fun K hK=>?_) (AllReadyH.cons rfl (fun K hK=>?_) (AllReadyH.cons rfl (fun K hK=>?_) AllReadyH.nil))
 ·
  obtain ⟨aQ,cQ,W,hr,hM⟩:=hM.vC cap hn (HRd.out _ hM.below)
  refine jy (by kernel_rfl) (some 7) (.tmp 5) (.tmp 6) 27 _ _ _ rfl rfl rfl rfl rfl hr ?_
  exact dO
 ·
  obtain ⟨gS,W,hr,hM⟩:=hM.zw hn
  refine iO (by kernel_rfl) (some 13) (.tmp 12) 44 _ _ rfl rfl rfl hr ?_
  exact dX
 obtain ⟨gB,W,hg,hW,hM⟩:=hM.s8
 exact dV):p:=h
theorem dG {p:Prop} (h:p:=by
 refine wpAnyH_ready (rs:=[2,5,10]) (by kernel_rfl) (by simp) ?_
 refine AllReadyH.cons rfl (fun K hK=>?_) (AllReadyH.cons rfl (fun K hK=>?_) (AllReadyH.cons rfl (fun K hK=>?_) AllReadyH.nil))
 ·
  obtain ⟨aQ,cQ,W,hr,hM⟩:=hM.vC cap hn (HRd.out _ hM.below)
  refine jy (by kernel_rfl) (some 7) (.tmp 5) (.tmp 6) 27 _ _ _ rfl rfl rfl rfl rfl hr ?_
  exact dQ
 ·
  obtain ⟨gD,W,hr,hM⟩:=hM.xd hn
  refine iO (by kernel_rfl) (some 10) (.tmp 9) 27 _ _ rfl rfl rfl hr ?_
  exact dX
 obtain ⟨gB,W,hg,hW,hM⟩:=hM.s8
 exact dW):p:=h
theorem dH {p:Prop} (h:p:=by
 clear hr
 refine hK.out _ _ ⟨⟩ fun hHeld=>?_
 clear hK K
 try simp only [Act.put,PZ]
 refine rq2 0 10 (fun K hK=>?_) (fun K hK=>?_)
 ·
  obtain ⟨gE,W,hg,hW,hM⟩:=hM.BX
  go_simp
  refine hK.out _ _ ⟨⟩ fun hHeld=>?_
  clear hK K
  try simp only [Act.put,PZ]
  rw [←hg,←hW]
  clear hg hW
  exact dM
 obtain ⟨gB,W,hg,hW,hM⟩:=hM.s8
 go_simp
 refine hK.out _ _ ⟨⟩ fun hHeld=>?_
 clear hK K
 try simp only [Act.put,PZ]
 rw [←hg,←hW]
 clear hg hW
 refine rq1 0 (fun K hK=>?_)
 obtain ⟨gE,W,hg,hW,hM⟩:=hM.BX
 exact dD):p:=h
theorem dI {p:Prop} (h:p:=by
 refine rq2 0 8 (fun K hK=>?_) (fun K hK=>?_)
 ·
  obtain ⟨gE,W,hg,hW,hM⟩:=hM.BX
  exact dV
 obtain ⟨gS,W,hr,hM⟩:=hM.zw hn
 refine iO (by kernel_rfl) (some 13) (.tmp 12) 44 _ _ rfl rfl rfl hr ?_
 exact dT):p:=h
theorem dJ {p:Prop} (h:p:=by
 refine rq2 0 5 (fun K hK=>?_) (fun K hK=>?_)
 ·
  obtain ⟨gE,W,hg,hW,hM⟩:=hM.BX
  exact dW
 obtain ⟨gD,W,hr,hM⟩:=hM.xd hn
 refine iO (by kernel_rfl) (some 10) (.tmp 9) 27 _ _ rfl rfl rfl hr ?_
 exact dT):p:=h
theorem dK {p:Prop} (h:p:=by
 refine rq1 8 (fun K hK=>?_)
 obtain ⟨gS,W,hr,hM⟩:=hM.zw hn
 refine iO (by kernel_rfl) (some 13) (.tmp 12) 44 _ _ rfl rfl rfl hr ?_
 exact dy):p:=h
theorem dL {p:Prop} (h:p:=by
 refine rq1 5 (fun K hK=>?_)
 obtain ⟨gD,W,hr,hM⟩:=hM.xd hn
 refine iO (by kernel_rfl) (some 10) (.tmp 9) 27 _ _ rfl rfl rfl hr ?_
 exact dy):p:=h
theorem dM {p:Prop} (h:p:=by
 refine rq2 2 10 (fun K hK=>?_) (fun K hK=>?_)
 ·
  obtain ⟨aQ,cQ,W,hr,hM⟩:=hM.vC cap hn (HRd.out _ hM.below)
  refine jy (by kernel_rfl) (some 7) (.tmp 5) (.tmp 6) 27 _ _ _ rfl rfl rfl rfl rfl hr ?_
  exact dA
 obtain ⟨gB,W,hg,hW,hM⟩:=hM.s8
 exact dD):p:=h
theorem dN {p:Prop} (h:p:=by
 refine rq2 5 8 (fun K hK=>?_) (fun K hK=>?_)
 ·
  obtain ⟨gD,W,hr,hM⟩:=hM.xd hn
  refine iO (by kernel_rfl) (some 10) (.tmp 9) 27 _ _ rfl rfl rfl hr ?_
  exact dZ
 obtain ⟨gS,W,hr,hM⟩:=hM.zw hn
 refine iO (by kernel_rfl) (some 13) (.tmp 12) 44 _ _ rfl rfl rfl hr ?_
 exact ef):p:=h
theorem dO {p:Prop} (h:p:=by
 clear hr
 refine hK.out _ _ ⟨⟩ fun hHeld=>?_
 clear hK K
 try simp only [Act.put,PZ]
 refine rq2 8 10 (fun K hK=>?_) (fun K hK=>?_)
 ·
  obtain ⟨gS,W,hr,hM⟩:=hM.zw hn
  refine iO (by kernel_rfl) (some 13) (.tmp 12) 44 _ _ rfl rfl rfl hr ?_
  exact dA
 obtain ⟨gB,W,hg,hW,hM⟩:=hM.s8
 go_simp
 refine hK.out _ _ ⟨⟩ fun hHeld=>?_
 clear hK K
 try simp only [Act.put,PZ]
 rw [←hg,←hW]
 clear hg hW
 exact dK):p:=h
theorem dQ {p:Prop} (h:p:=by
 clear hr
 refine hK.out _ _ ⟨⟩ fun hHeld=>?_
 clear hK K
 try simp only [Act.put,PZ]
 refine rq2 5 10 (fun K hK=>?_) (fun K hK=>?_)
 ·
  obtain ⟨gD,W,hr,hM⟩:=hM.xd hn
  refine iO (by kernel_rfl) (some 10) (.tmp 9) 27 _ _ rfl rfl rfl hr ?_
  exact dA
 obtain ⟨gB,W,hg,hW,hM⟩:=hM.s8
 go_simp
 refine hK.out _ _ ⟨⟩ fun hHeld=>?_
 clear hK K
 try simp only [Act.put,PZ]
 rw [←hg,←hW]
 clear hg hW
 exact dL):p:=h
theorem dR {p:Prop} (h:p:=by
 refine rq1 2 (fun K hK=>?_)
 obtain ⟨aQ,cQ,W,hr,hM⟩:=hM.vC cap hn (HRd.out _ hM.below)
 refine jy (by kernel_rfl) (some 7) (.tmp 5) (.tmp 6) 27 _ _ _ rfl rfl rfl rfl rfl hr ?_
 exact dy):p:=h
theorem dS {p:Prop} (h:p:=by
 have cB:=gM (hM.b gB rfl).2
 have fB:=ic (hM.b gB rfl).2
 unfold ql at cB
 refine rq1 11 (fun K hK=>?_)
 go_simp
 refine hK.out _ _ ⟨⟩ fun hHeld=>?_
 clear hK K
 try simp only [Act.put,PZ]
 refine dnq ?_
 exact ⟨rfl,aQ,cQ,gD,gS,gB,gE,W,hM,rfl,rfl⟩):p:=h
theorem dT {p:Prop} (h:p:=by
 clear hr
 refine hK.out _ _ ⟨⟩ fun hHeld=>?_
 clear hK K
 try simp only [Act.put,PZ]
 refine rq1 0 (fun K hK=>?_)
 obtain ⟨gE,W,hg,hW,hM⟩:=hM.BX
 exact dD):p:=h
theorem dV {p:Prop} (h:p:=by
 go_simp
 refine hK.out _ _ ⟨⟩ fun hHeld=>?_
 clear hK K
 try simp only [Act.put,PZ]
 rw [←hg,←hW]
 clear hg hW
 exact dB):p:=h
theorem dW {p:Prop} (h:p:=by
 go_simp
 refine hK.out _ _ ⟨⟩ fun hHeld=>?_
 clear hK K
 try simp only [Act.put,PZ]
 rw [←hg,←hW]
 clear hg hW
 exact dC):p:=h
theorem dX {p:Prop} (h:p:=by
 clear hr
 refine hK.out _ _ ⟨⟩ fun hHeld=>?_
 clear hK K
 try simp only [Act.put,PZ]
 exact dM):p:=h
theorem dY {p:Prop} (h:p:=by
 clear hr
 refine hK.out _ _ ⟨⟩ fun hHeld=>?_
 clear hK K
 try simp only [Act.put,PZ]
 exact dR):p:=h
theorem dZ {p:Prop} (h:p:=by
 clear hr
 refine hK.out _ _ ⟨⟩ fun hHeld=>?_
 clear hK K
 try simp only [Act.put,PZ]
 exact dK):p:=h
theorem ef {p:Prop} (h:p:=by
 clear hr
 refine hK.out _ _ ⟨⟩ fun hHeld=>?_
 clear hK K
 try simp only [Act.put,PZ]
 exact dL):p:=h
set_option maxHeartbeats 4000000 in
theorem uh (g q n cap:Nat) (f:Nat→Int) (w:World) (hn:n≤1048576) (h:iq w (some ⟨g,q,none⟩) n fun i=>.int .i64 (f i)) (ok:Bool) (hok:ok=true↔(tg n f none 0 0 0).Ok) :
  Calls Tryz.prog 84 #[.slice (some ⟨g,q,none⟩) n cap] w fun e w'=>∃ R,e=.returned (.tuple #[.agg R.cells,.bool ok])∧iX w' w.heap.size R∧Below w.heap.size w w'∧Alike (EK n f ok) R:=by
 have hB0:Below w.heap.size w (w.alloc (.cells #[.slice none 0 0,.slice none 0 0,.int .i64 0,.bool false,.slice none 0 0] 46)):=(Below.refl _ _).alloc (Nat.le_refl _) _
 have HRd:Hid (∀ W,Below (w.alloc (.cells #[.slice none 0 0,.slice none 0 0,.int .i64 0,.bool false,.slice none 0 0] 46)).heap.size (w.alloc (.cells #[.slice none 0 0,.slice none 0 0,.int .i64 0,.bool false,.slice none 0 0] 46)) W→iq W (some ⟨g,q,none⟩) n fun i=>.int .i64 (f i)):=fun W hb=>h.up (hB0.trans (hb.mono hB0.size))
 have HO:Hid (∀ aQ cQ gD gS,ok=true↔(tg n f aQ cQ gD gS).Ok):=fun _ _ _ _=>hok.trans DM
 have HB0:Hid (Below w.heap.size w (w.alloc (.cells #[.slice none 0 0,.slice none 0 0,.int .i64 0,.bool false,.slice none 0 0] 46))):=hB0
 have HBx:Hid ((w.alloc (.cells #[.slice none 0 0,.slice none 0 0,.int .i64 0,.bool false,.slice none 0 0] 46)).heap[w.heap.size]?=some (.cells #[.slice none 0 0,.slice none 0 0,.int .i64 0,.bool false,.slice none 0 0] 46 (0,0))):=gV _ _
 have HSz:Hid ((w.alloc (.cells #[.slice none 0 0,.slice none 0 0,.int .i64 0,.bool false,.slice none 0 0] 46)).heap.size=w.heap.size+1):=by rw [Hid];simp
 clear hB0 h hok
 go_enter Tryz.func84,Tryz.ntmps84
 go_wp2_with fail
 refine wp_mono (Q:=fun e a' W=>e=.normal∧∃ (aQ:Option Addr) (cQ gD gS gB gE:Nat) (W':World),Mk n f (w.alloc (.cells #[.slice none 0 0,.slice none 0 0,.int .i64 0,.bool false,.slice none 0 0] 46)) W' none (some aQ) (some gD) (some gS) (some gB)∧a'=⟨#[.slice (some ⟨g,q,none⟩) n cap,undef,.pointer (some ⟨w.heap.size,0,none⟩),.bool false,.pointer (some ⟨gB,0,none⟩),.slice (some ⟨gE,0,none⟩) 0 0,.slice (some ⟨g,q,none⟩) n cap,.slice aQ n cQ,.slice (some ⟨g,q,none⟩) n cap,.int .i64 n,.slice (some ⟨gD,0,none⟩) n n,.slice (some ⟨g,q,none⟩) n cap,.int .i64 n,.slice (some ⟨gS,0,none⟩) n n,.agg #[.slice aQ n cQ,.slice (some ⟨gD,0,none⟩) n n,.int .i64 0,.bool true,.slice (some ⟨gS,0,none⟩) n n],undef,undef,undef,undef,undef],[]⟩∧W=sf W' gB (.slice aQ n cQ) (.slice (some ⟨gD,0,none⟩) n n) (.int .i64 0) (.bool true) (.slice (some ⟨gS,0,none⟩) n n)) ?_ ?_
 ·
  have hM:Mk n f (w.alloc (.cells #[.slice none 0 0,.slice none 0 0,.int .i64 0,.bool false,.slice none 0 0] 46)) (w.alloc (.cells #[.slice none 0 0,.slice none 0 0,.int .i64 0,.bool false,.slice none 0 0] 46)).drew none none none none none:=Mk.start ((Below.refl _ _).drew)
  refine wp_region_held_drew (S:=fun _=>True) (by kernel_rfl) True.intro (fun hHeld=>?_)
  generalize hW:(w.alloc (.cells #[.slice none 0 0,.slice none 0 0,.int .i64 0,.bool false,.slice none 0 0] 46)).drew=W at hM ⊢
  clear hW
  refine tM 1 6 ?_
  refine tM 3 8 ?_
  refine tM 4 9 ?_
  refine tM 6 11 ?_
  refine tM 7 12 ?_
  refine wpAnyH_ready (rs:=[0,5,8,10]) (by kernel_rfl) (by simp) ?_
  refine AllReadyH.cons rfl (fun K hK=>?_) (AllReadyH.cons rfl (fun K hK=>?_) (AllReadyH.cons rfl (fun K hK=>?_) (AllReadyH.cons rfl (fun K hK=>?_) AllReadyH.nil)))
  ·
   obtain ⟨gE,W,hg,hW,hM⟩:=hM.BX
   go_simp
   refine hK.out _ _ ⟨⟩ fun hHeld=>?_
   clear hK K
   try simp only [Act.put,PZ]
   rw [←hg,←hW]
   clear hg hW
   refine wpAnyH_ready (rs:=[2,5,8,10]) (by kernel_rfl) (by simp) ?_
   refine AllReadyH.cons rfl (fun K hK=>?_) (AllReadyH.cons rfl (fun K hK=>?_) (AllReadyH.cons rfl (fun K hK=>?_) (AllReadyH.cons rfl (fun K hK=>?_) AllReadyH.nil)))
   ·
    obtain ⟨aQ,cQ,W,hr,hM⟩:=hM.vC cap hn (HRd.out _ hM.below)
    refine jy (by kernel_rfl) (some 7) (.tmp 5) (.tmp 6) 27 _ _ _ rfl rfl rfl rfl rfl hr ?_
    clear hr
    refine hK.out _ _ ⟨⟩ fun hHeld=>?_
    clear hK K
    try simp only [Act.put,PZ]
    refine wpAnyH_ready (rs:=[5,8,10]) (by kernel_rfl) (by simp) ?_
    refine AllReadyH.cons rfl (fun K hK=>?_) (AllReadyH.cons rfl (fun K hK=>?_) (AllReadyH.cons rfl (fun K hK=>?_) AllReadyH.nil))
    ·
     obtain ⟨gD,W,hr,hM⟩:=hM.xd hn
     refine iO (by kernel_rfl) (some 10) (.tmp 9) 27 _ _ rfl rfl rfl hr ?_
     exact dO
    ·
     obtain ⟨gS,W,hr,hM⟩:=hM.zw hn
     refine iO (by kernel_rfl) (some 13) (.tmp 12) 44 _ _ rfl rfl rfl hr ?_
     exact dQ
    obtain ⟨gB,W,hg,hW,hM⟩:=hM.s8
    go_simp
    refine hK.out _ _ ⟨⟩ fun hHeld=>?_
    clear hK K
    try simp only [Act.put,PZ]
    rw [←hg,←hW]
    clear hg hW
    exact dN
   ·
    obtain ⟨gD,W,hr,hM⟩:=hM.xd hn
    refine iO (by kernel_rfl) (some 10) (.tmp 9) 27 _ _ rfl rfl rfl hr ?_
    clear hr
    refine hK.out _ _ ⟨⟩ fun hHeld=>?_
    clear hK K
    try simp only [Act.put,PZ]
    exact dF
   ·
    obtain ⟨gS,W,hr,hM⟩:=hM.zw hn
    refine iO (by kernel_rfl) (some 13) (.tmp 12) 44 _ _ rfl rfl rfl hr ?_
    clear hr
    refine hK.out _ _ ⟨⟩ fun hHeld=>?_
    clear hK K
    try simp only [Act.put,PZ]
    exact dG
   obtain ⟨gB,W,hg,hW,hM⟩:=hM.s8
   exact dE
  ·
   obtain ⟨gD,W,hr,hM⟩:=hM.xd hn
   refine iO (by kernel_rfl) (some 10) (.tmp 9) 27 _ _ rfl rfl rfl hr ?_
   clear hr
   refine hK.out _ _ ⟨⟩ fun hHeld=>?_
   clear hK K
   try simp only [Act.put,PZ]
   refine wpAnyH_ready (rs:=[0,8,10]) (by kernel_rfl) (by simp) ?_
   refine AllReadyH.cons rfl (fun K hK=>?_) (AllReadyH.cons rfl (fun K hK=>?_) (AllReadyH.cons rfl (fun K hK=>?_) AllReadyH.nil))
   ·
    obtain ⟨gE,W,hg,hW,hM⟩:=hM.BX
    go_simp
    refine hK.out _ _ ⟨⟩ fun hHeld=>?_
    clear hK K
    try simp only [Act.put,PZ]
    rw [←hg,←hW]
    clear hg hW
    exact dF
   ·
    obtain ⟨gS,W,hr,hM⟩:=hM.zw hn
    refine iO (by kernel_rfl) (some 13) (.tmp 12) 44 _ _ rfl rfl rfl hr ?_
    exact dH
   obtain ⟨gB,W,hg,hW,hM⟩:=hM.s8
   go_simp
   refine hK.out _ _ ⟨⟩ fun hHeld=>?_
   clear hK K
   try simp only [Act.put,PZ]
   rw [←hg,←hW]
   clear hg hW
   exact dI
  ·
   obtain ⟨gS,W,hr,hM⟩:=hM.zw hn
   refine iO (by kernel_rfl) (some 13) (.tmp 12) 44 _ _ rfl rfl rfl hr ?_
   clear hr
   refine hK.out _ _ ⟨⟩ fun hHeld=>?_
   clear hK K
   try simp only [Act.put,PZ]
   refine wpAnyH_ready (rs:=[0,5,10]) (by kernel_rfl) (by simp) ?_
   refine AllReadyH.cons rfl (fun K hK=>?_) (AllReadyH.cons rfl (fun K hK=>?_) (AllReadyH.cons rfl (fun K hK=>?_) AllReadyH.nil))
   ·
    obtain ⟨gE,W,hg,hW,hM⟩:=hM.BX
    go_simp
    refine hK.out _ _ ⟨⟩ fun hHeld=>?_
    clear hK K
    try simp only [Act.put,PZ]
    rw [←hg,←hW]
    clear hg hW
    exact dG
   ·
    obtain ⟨gD,W,hr,hM⟩:=hM.xd hn
    refine iO (by kernel_rfl) (some 10) (.tmp 9) 27 _ _ rfl rfl rfl hr ?_
    exact dH
   obtain ⟨gB,W,hg,hW,hM⟩:=hM.s8
   go_simp
   refine hK.out _ _ ⟨⟩ fun hHeld=>?_
   clear hK K
   try simp only [Act.put,PZ]
   rw [←hg,←hW]
   clear hg hW
   exact dJ
  obtain ⟨gB,W,hg,hW,hM⟩:=hM.s8
  go_simp
  refine hK.out _ _ ⟨⟩ fun hHeld=>?_
  clear hK K
  try simp only [Act.put,PZ]
  rw [←hg,←hW]
  clear hg hW
  refine wpAnyH_ready (rs:=[0,5,8]) (by kernel_rfl) (by simp) ?_
  refine AllReadyH.cons rfl (fun K hK=>?_) (AllReadyH.cons rfl (fun K hK=>?_) (AllReadyH.cons rfl (fun K hK=>?_) AllReadyH.nil))
  ·
   obtain ⟨gE,W,hg,hW,hM⟩:=hM.BX
   exact dE
  ·
   obtain ⟨gD,W,hr,hM⟩:=hM.xd hn
   refine iO (by kernel_rfl) (some 10) (.tmp 9) 27 _ _ rfl rfl rfl hr ?_
   clear hr
   refine hK.out _ _ ⟨⟩ fun hHeld=>?_
   clear hK K
   try simp only [Act.put,PZ]
   exact dI
  obtain ⟨gS,W,hr,hM⟩:=hM.zw hn
  refine iO (by kernel_rfl) (some 13) (.tmp 12) 44 _ _ rfl rfl rfl hr ?_
  clear hr
  refine hK.out _ _ ⟨⟩ fun hHeld=>?_
  clear hK K
  try simp only [Act.put,PZ]
  exact dJ
 rintro e a' W ⟨rfl,aQ,cQ,gD,gS,gB,gE,W',hM,rfl,rfl⟩
 have hMd:=hM.made cQ
 clear hM
 generalize sf W' gB (.slice aQ n cQ) (.slice (some ⟨gD,0,none⟩) n n) (.int .i64 0) (.bool true) (.slice (some ⟨gS,0,none⟩) n n)=W1 at hMd ⊢
 have cB:=gM hMd.b
 go_wp2_with fail
 refine (qq (tg n f aQ cQ gD gS) _ (Ck hn) hMd.own.rd ok (HO.out _ _ _ _)).mono ?_
 rintro e W2 ⟨rfl,hb2⟩
 have hOwn:=hMd.own.up hb2
 have hBB:=(hb2.block gB (gO hMd.b)).trans hMd.b
 have hBelow:=hMd.below.trans (hb2.mono hMd.below.size)
 have hBox:=(hBelow.block w.heap.size (by rw [HSz.out];omega)).trans HBx.out
 have hlo:=hMd.lo
 rw [HSz.out] at hlo hOwn
 have HBw:Hid (Below w.heap.size w W2):=HB0.out.trans (hBelow.mono HB0.out.size)
 have HOw:Hid (iX W2 (w.heap.size+1) (tg n f aQ cQ gD gS)):=hOwn
 have cB2:=gM hBB
 have cX:=gM hBox
 have fX:=ic hBox
 clear hMd hb2 cB hBB hBelow hOwn
 cases ok
 ·
  go_wp2_with fail
  have ht:=jX W2 w.heap.size (.slice none 0 0) (.slice none 0 0) (.int .i64 0) (.bool false) (.slice none 0 0)
  have cF:=gM (l8 hBox (.slice none 0 0) (.slice none 0 0) (.int .i64 0) (.bool false) (.slice none 0 0))
  have hBf:=HBw.out.trans (ht.below HBw.out.size (fun x hx=>by simp at hx;omega))
  unfold sf at cF hBf
  exact bodyPost_ret (v:=.tuple #[.agg zR.cells,.bool false]) (by simp [results,Tryz.results84,go_sem,cF,zR,Rnd.cells]) rfl ⟨zR,rfl,Et _ _,hBf,Alike.refl _⟩
 go_wp2_with fail
 have ht:=jX W2 w.heap.size (.slice aQ n cQ) (.slice (some ⟨gD,0,none⟩) n n) (.int .i64 0) (.bool true) (.slice (some ⟨gS,0,none⟩) n n)
 have cF:=gM (l8 hBox (.slice aQ n cQ) (.slice (some ⟨gD,0,none⟩) n n) (.int .i64 0) (.bool true) (.slice (some ⟨gS,0,none⟩) n n))
 have hBf:=HBw.out.trans (ht.below HBw.out.size (fun x hx=>by simp at hx;omega))
 have hOf:=(HOw.out.jm ht (fun x hx=>by simp at hx;omega)).mono (Nat.le_succ _)
 unfold sf at cF hBf hOf
 exact bodyPost_ret (v:=.tuple #[.agg (tg n f aQ cQ gD gS).cells,.bool true]) (by simp [results,Tryz.results84,go_sem,cF,tg,Rnd.cells]) rfl ⟨tg n f aQ cQ gD gS,rfl,hOf,hBf,⟨rfl,rfl,rfl,rfl,rfl,rfl,rfl,rfl,rfl⟩⟩
end Go.Proofs.YthicmlolanifhaaGreat
