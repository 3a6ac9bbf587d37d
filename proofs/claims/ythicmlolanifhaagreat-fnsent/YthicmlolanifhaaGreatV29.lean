import Derived.Test.YthicmlolanifhaaGreatV19
namespace Go.Proofs.YthicmlolanifhaaGreat
set_option maxRecDepth 100000
open Go.RowKit
set_option linter.unusedVariables false
set_option linter.unusedSimpArgs false
variable {p:Prop}
theorem dM (h:p:=by
 clear hr
 refine ah (hK _ _ ⟨⟩) ?_
 intro hHeld
 clear hK K
 refine tM 9 14 ?_
 exact eM):p:=h
theorem dN (h:p:=by
 clear hr
 refine ah (hK _ _ ⟨⟩) ?_
 intro hHeld
 clear hK K
 refine tM 9 14 ?_
 refine rq1 10 (fun K hK=>?_)
 obtain ⟨gB,W,hg,hW,hM⟩:=hM.uJ
 go_simp
 refine ah (hK _ _ ⟨⟩) ?_
 intro hHeld
 clear hK K
 rw [←hg,←hW]
 clear hg hW
 exact eM):p:=h
theorem dO (h:p:=by
 refine rq1 2 (fun K hK=>?_)
 obtain ⟨aQ,cQ,W,hr,hM⟩:=hM.xf cap hn (HRd _ hM.below)
 refine jV (by kernel_rfl) (some 7) (.tmp 5) (.tmp 6) 27 _ _ _ rfl rfl rfl rfl rfl hr ?_
 exact dM):p:=h
theorem dQ (h:p:=by
 refine rq2 2 8 (fun K hK=>?_) (fun K hK=>?_)
 ·
  obtain ⟨aQ,cQ,W,hr,hM⟩:=hM.xf cap hn (HRd _ hM.below)
  refine jV (by kernel_rfl) (some 7) (.tmp 5) (.tmp 6) 27 _ _ _ rfl rfl rfl rfl rfl hr ?_
  exact fe
 obtain ⟨gS,W,hr,hM⟩:=hM.AX hn
 refine jr (by kernel_rfl) (some 13) (.tmp 12) 44 _ _ rfl rfl rfl hr ?_
 clear hr
 refine ah (hK _ _ ⟨⟩) ?_
 intro hHeld
 clear hK K
 exact dO):p:=h
theorem dR (h:p:=by
 refine rq2 2 5 (fun K hK=>?_) (fun K hK=>?_)
 ·
  obtain ⟨aQ,cQ,W,hr,hM⟩:=hM.xf cap hn (HRd _ hM.below)
  refine jV (by kernel_rfl) (some 7) (.tmp 5) (.tmp 6) 27 _ _ _ rfl rfl rfl rfl rfl hr ?_
  exact fg
 obtain ⟨gD,W,hr,hM⟩:=hM.yA hn
 refine jr (by kernel_rfl) (some 10) (.tmp 9) 27 _ _ rfl rfl rfl hr ?_
 clear hr
 refine ah (hK _ _ ⟨⟩) ?_
 intro hHeld
 clear hK K
 exact dO):p:=h
theorem dS (h:p:=by
 refine rq2 2 10 (fun K hK=>?_) (fun K hK=>?_)
 ·
  obtain ⟨aQ,cQ,W,hr,hM⟩:=hM.xf cap hn (HRd _ hM.below)
  refine jV (by kernel_rfl) (some 7) (.tmp 5) (.tmp 6) 27 _ _ _ rfl rfl rfl rfl rfl hr ?_
  exact dN
 obtain ⟨gB,W,hg,hW,hM⟩:=hM.uJ
 exact fa):p:=h
theorem dT (h:p:=by
 go_simp
 refine ah (hK _ _ ⟨⟩) ?_
 intro hHeld
 clear hK K
 rw [←hg,←hW]
 clear hg hW
 refine wpAnyH_ready (rs:=[2,5,8]) (by kernel_rfl) (by simp) ?_
 refine AllReadyH.cons rfl (fun K hK=>?_) (AllReadyH.cons rfl (fun K hK=>?_) (AllReadyH.cons rfl (fun K hK=>?_) AllReadyH.nil))
 ·
  obtain ⟨aQ,cQ,W,hr,hM⟩:=hM.xf cap hn (HRd _ hM.below)
  refine jV (by kernel_rfl) (some 7) (.tmp 5) (.tmp 6) 27 _ _ _ rfl rfl rfl rfl rfl hr ?_
  clear hr
  refine ah (hK _ _ ⟨⟩) ?_
  intro hHeld
  clear hK K
  exact eH
 ·
  obtain ⟨gD,W,hr,hM⟩:=hM.yA hn
  refine jr (by kernel_rfl) (some 10) (.tmp 9) 27 _ _ rfl rfl rfl hr ?_
  clear hr
  refine ah (hK _ _ ⟨⟩) ?_
  intro hHeld
  clear hK K
  exact dQ
 obtain ⟨gS,W,hr,hM⟩:=hM.AX hn
 refine jr (by kernel_rfl) (some 13) (.tmp 12) 44 _ _ rfl rfl rfl hr ?_
 clear hr
 refine ah (hK _ _ ⟨⟩) ?_
 intro hHeld
 clear hK K
 exact dR):p:=h
theorem dV (h:p:=by
 refine wpAnyH_ready (rs:=[2,8,10]) (by kernel_rfl) (by simp) ?_
 refine AllReadyH.cons rfl (fun K hK=>?_) (AllReadyH.cons rfl (fun K hK=>?_) (AllReadyH.cons rfl (fun K hK=>?_) AllReadyH.nil))
 ·
  obtain ⟨aQ,cQ,W,hr,hM⟩:=hM.xf cap hn (HRd _ hM.below)
  refine jV (by kernel_rfl) (some 7) (.tmp 5) (.tmp 6) 27 _ _ _ rfl rfl rfl rfl rfl hr ?_
  exact eI
 ·
  obtain ⟨gS,W,hr,hM⟩:=hM.AX hn
  refine jr (by kernel_rfl) (some 13) (.tmp 12) 44 _ _ rfl rfl rfl hr ?_
  exact fc
 obtain ⟨gB,W,hg,hW,hM⟩:=hM.uJ
 exact eO):p:=h
theorem dW (h:p:=by
 refine wpAnyH_ready (rs:=[2,5,10]) (by kernel_rfl) (by simp) ?_
 refine AllReadyH.cons rfl (fun K hK=>?_) (AllReadyH.cons rfl (fun K hK=>?_) (AllReadyH.cons rfl (fun K hK=>?_) AllReadyH.nil))
 ·
  obtain ⟨aQ,cQ,W,hr,hM⟩:=hM.xf cap hn (HRd _ hM.below)
  refine jV (by kernel_rfl) (some 7) (.tmp 5) (.tmp 6) 27 _ _ _ rfl rfl rfl rfl rfl hr ?_
  exact eJ
 ·
  obtain ⟨gD,W,hr,hM⟩:=hM.yA hn
  refine jr (by kernel_rfl) (some 10) (.tmp 9) 27 _ _ rfl rfl rfl hr ?_
  exact fc
 obtain ⟨gB,W,hg,hW,hM⟩:=hM.uJ
 exact eR):p:=h
theorem dX (h:p:=by
 refine rq1 0 (fun K hK=>?_)
 obtain ⟨gE,W,hg,hW,hM⟩:=hM.Eg
 exact fa):p:=h
theorem dY (h:p:=by
 clear hr
 refine ah (hK _ _ ⟨⟩) ?_
 intro hHeld
 clear hK K
 refine rq2 0 10 (fun K hK=>?_) (fun K hK=>?_)
 ·
  obtain ⟨gE,W,hg,hW,hM⟩:=hM.Eg
  go_simp
  refine ah (hK _ _ ⟨⟩) ?_
  intro hHeld
  clear hK K
  rw [←hg,←hW]
  clear hg hW
  exact dS
 obtain ⟨gB,W,hg,hW,hM⟩:=hM.uJ
 go_simp
 refine ah (hK _ _ ⟨⟩) ?_
 intro hHeld
 clear hK K
 rw [←hg,←hW]
 clear hg hW
 exact dX):p:=h
theorem dZ (h:p:=by
 refine rq2 0 8 (fun K hK=>?_) (fun K hK=>?_)
 ·
  obtain ⟨gE,W,hg,hW,hM⟩:=hM.Eg
  exact eO
 obtain ⟨gS,W,hr,hM⟩:=hM.AX hn
 refine jr (by kernel_rfl) (some 13) (.tmp 12) 44 _ _ rfl rfl rfl hr ?_
 clear hr
 refine ah (hK _ _ ⟨⟩) ?_
 intro hHeld
 clear hK K
 exact dX):p:=h
theorem ef (h:p:=by
 refine rq2 0 5 (fun K hK=>?_) (fun K hK=>?_)
 ·
  obtain ⟨gE,W,hg,hW,hM⟩:=hM.Eg
  exact eR
 obtain ⟨gD,W,hr,hM⟩:=hM.yA hn
 refine jr (by kernel_rfl) (some 10) (.tmp 9) 27 _ _ rfl rfl rfl hr ?_
 clear hr
 refine ah (hK _ _ ⟨⟩) ?_
 intro hHeld
 clear hK K
 exact dX):p:=h
theorem eh (h:p:=by
 refine rq1 8 (fun K hK=>?_)
 obtain ⟨gS,W,hr,hM⟩:=hM.AX hn
 refine jr (by kernel_rfl) (some 13) (.tmp 12) 44 _ _ rfl rfl rfl hr ?_
 exact dM):p:=h
theorem eG (h:p:=by
 refine rq1 5 (fun K hK=>?_)
 obtain ⟨gD,W,hr,hM⟩:=hM.yA hn
 refine jr (by kernel_rfl) (some 10) (.tmp 9) 27 _ _ rfl rfl rfl hr ?_
 exact dM):p:=h
theorem eH (h:p:=by
 refine rq2 5 8 (fun K hK=>?_) (fun K hK=>?_)
 ·
  obtain ⟨gD,W,hr,hM⟩:=hM.yA hn
  refine jr (by kernel_rfl) (some 10) (.tmp 9) 27 _ _ rfl rfl rfl hr ?_
  exact fe
 obtain ⟨gS,W,hr,hM⟩:=hM.AX hn
 refine jr (by kernel_rfl) (some 13) (.tmp 12) 44 _ _ rfl rfl rfl hr ?_
 exact fg):p:=h
theorem eI (h:p:=by
 clear hr
 refine ah (hK _ _ ⟨⟩) ?_
 intro hHeld
 clear hK K
 refine rq2 8 10 (fun K hK=>?_) (fun K hK=>?_)
 ·
  obtain ⟨gS,W,hr,hM⟩:=hM.AX hn
  refine jr (by kernel_rfl) (some 13) (.tmp 12) 44 _ _ rfl rfl rfl hr ?_
  exact dN
 obtain ⟨gB,W,hg,hW,hM⟩:=hM.uJ
 go_simp
 refine ah (hK _ _ ⟨⟩) ?_
 intro hHeld
 clear hK K
 rw [←hg,←hW]
 clear hg hW
 exact eh):p:=h
theorem eJ (h:p:=by
 clear hr
 refine ah (hK _ _ ⟨⟩) ?_
 intro hHeld
 clear hK K
 refine rq2 5 10 (fun K hK=>?_) (fun K hK=>?_)
 ·
  obtain ⟨gD,W,hr,hM⟩:=hM.yA hn
  refine jr (by kernel_rfl) (some 10) (.tmp 9) 27 _ _ rfl rfl rfl hr ?_
  exact dN
 obtain ⟨gB,W,hg,hW,hM⟩:=hM.uJ
 go_simp
 refine ah (hK _ _ ⟨⟩) ?_
 intro hHeld
 clear hK K
 rw [←hg,←hW]
 clear hg hW
 exact eG):p:=h
theorem eM (h:p:=by
 have cB:=iv (hM.b gB rfl).2
 have fB:=iF (hM.b gB rfl).2
 unfold rS at cB
 refine rq1 11 (fun K hK=>?_)
 go_simp
 refine ah (hK _ _ ⟨⟩) ?_
 intro hHeld
 clear hK K
 refine dnq ?_
 exact ⟨rfl,aQ,cQ,gD,gS,gB,gE,W,hM,rfl,rfl⟩):p:=h
theorem eO (h:p:=by
 go_simp
 refine ah (hK _ _ ⟨⟩) ?_
 intro hHeld
 clear hK K
 rw [←hg,←hW]
 clear hg hW
 exact dQ):p:=h
theorem eR (h:p:=by
 go_simp
 refine ah (hK _ _ ⟨⟩) ?_
 intro hHeld
 clear hK K
 rw [←hg,←hW]
 clear hg hW
 exact dR):p:=h
theorem fa (h:p:=by
 go_simp
 refine ah (hK _ _ ⟨⟩) ?_
 intro hHeld
 clear hK K
 rw [←hg,←hW]
 clear hg hW
 exact dO):p:=h
theorem fc (h:p:=by
 clear hr
 refine ah (hK _ _ ⟨⟩) ?_
 intro hHeld
 clear hK K
 exact dS):p:=h
theorem fe (h:p:=by
 clear hr
 refine ah (hK _ _ ⟨⟩) ?_
 intro hHeld
 clear hK K
 exact eh):p:=h
theorem fg (h:p:=by
 clear hr
 refine ah (hK _ _ ⟨⟩) ?_
 intro hHeld
 clear hK K
 exact eG):p:=h
set_option maxHeartbeats 9000000 in
theorem vv (g q n cap:Nat) (f:Nat→Int) (w:World) (hn:n≤1048576) (h:iX w (some ⟨g,q,none⟩) n fun i=>.int .i64 (f i)) (ok:Bool) (hok:ok=true↔(vF n f none 0 0 0).Ok) :
  Calls Tryz.prog 84 #[.slice (some ⟨g,q,none⟩) n cap] w fun e w'=>∃ R,e=.returned (.tuple #[.agg R.cells,.bool ok])∧jx w' w.heap.size R∧Below w.heap.size w w'∧Alike (Gv n f ok) R:=by
 have hB0:Below w.heap.size w (w.alloc (.cells ae 46)):=(Below.refl _ _).alloc (Nat.le_refl _) _
 have HRd:Hid (∀ W,Below (w.alloc (.cells ae 46)).heap.size (w.alloc (.cells ae 46)) W→iX W (some ⟨g,q,none⟩) n fun i=>.int .i64 (f i)):=fun W hb=>h.up (hB0.trans (hb.mono hB0.size))
 have HO:Hid (∀ aQ cQ gD gS,ok=true↔(vF n f aQ cQ gD gS).Ok):=fun _ _ _ _=>hok.trans E6
 have HB0:=aa hB0
 have HBx:Hid ((w.alloc (.cells ae 46)).heap[w.heap.size]?=some (.cells ae 46 (0,0))):=iy _ _
 have HSz:Hid ((w.alloc (.cells ae 46)).heap.size=w.heap.size+1):=by rw [Hid];simp
 clear hB0 h hok
 go_enter Tryz.func84,Tryz.ntmps84
 go_wp2_with fail
 refine wp_mono (Q:=fun e a' W=>e=.normal∧∃ (aQ:Option Addr) (cQ gD gS gB gE:Nat) (W':World),Mk n f (w.alloc (.cells ae 46)) W' none (some aQ) (some gD) (some gS) (some gB)∧a'=⟨#[.slice (some ⟨g,q,none⟩) n cap,undef,.pointer (some ⟨w.heap.size,0,none⟩),.bool false,.pointer (some ⟨gB,0,none⟩),.slice (some ⟨gE,0,none⟩) 0 0,.slice (some ⟨g,q,none⟩) n cap,.slice aQ n cQ,.slice (some ⟨g,q,none⟩) n cap,.int .i64 n,.slice (some ⟨gD,0,none⟩) n n,.slice (some ⟨g,q,none⟩) n cap,.int .i64 n,.slice (some ⟨gS,0,none⟩) n n,.agg #[.slice aQ n cQ,.slice (some ⟨gD,0,none⟩) n n,.int .i64 0,.bool true,.slice (some ⟨gS,0,none⟩) n n],undef,undef,undef,undef,undef],[]⟩∧W=uf W' gB (.slice aQ n cQ) (.slice (some ⟨gD,0,none⟩) n n) (.int .i64 0) (.bool true) (.slice (some ⟨gS,0,none⟩) n n)) ?_ ?_
 ·
  have hM:Mk n f (w.alloc (.cells ae 46)) (w.alloc (.cells ae 46)).drew none none none none none:=Mk.start ((Below.refl _ _).drew)
  refine wp_region_held_drew (S:=fun _=>True) (by kernel_rfl) True.intro (fun hHeld=>?_)
  generalize hW:(w.alloc (.cells ae 46)).drew=W at hM ⊢
  clear hW
  refine tM 1 6 ?_
  refine tM 3 8 ?_
  refine tM 4 9 ?_
  refine tM 6 11 ?_
  refine tM 7 12 ?_
  refine wpAnyH_ready (rs:=[0,5,8,10]) (by kernel_rfl) (by simp) ?_
  refine AllReadyH.cons rfl (fun K hK=>?_) (AllReadyH.cons rfl (fun K hK=>?_) (AllReadyH.cons rfl (fun K hK=>?_) (AllReadyH.cons rfl (fun K hK=>?_) AllReadyH.nil)))
  ·
   obtain ⟨gE,W,hg,hW,hM⟩:=hM.Eg
   go_simp
   refine ah (hK _ _ ⟨⟩) ?_
   intro hHeld
   clear hK K
   rw [←hg,←hW]
   clear hg hW
   refine wpAnyH_ready (rs:=[2,5,8,10]) (by kernel_rfl) (by simp) ?_
   refine AllReadyH.cons rfl (fun K hK=>?_) (AllReadyH.cons rfl (fun K hK=>?_) (AllReadyH.cons rfl (fun K hK=>?_) (AllReadyH.cons rfl (fun K hK=>?_) AllReadyH.nil)))
   ·
    obtain ⟨aQ,cQ,W,hr,hM⟩:=hM.xf cap hn (HRd _ hM.below)
    refine jV (by kernel_rfl) (some 7) (.tmp 5) (.tmp 6) 27 _ _ _ rfl rfl rfl rfl rfl hr ?_
    clear hr
    refine ah (hK _ _ ⟨⟩) ?_
    intro hHeld
    clear hK K
    refine wpAnyH_ready (rs:=[5,8,10]) (by kernel_rfl) (by simp) ?_
    refine AllReadyH.cons rfl (fun K hK=>?_) (AllReadyH.cons rfl (fun K hK=>?_) (AllReadyH.cons rfl (fun K hK=>?_) AllReadyH.nil))
    ·
     obtain ⟨gD,W,hr,hM⟩:=hM.yA hn
     refine jr (by kernel_rfl) (some 10) (.tmp 9) 27 _ _ rfl rfl rfl hr ?_
     exact eI
    ·
     obtain ⟨gS,W,hr,hM⟩:=hM.AX hn
     refine jr (by kernel_rfl) (some 13) (.tmp 12) 44 _ _ rfl rfl rfl hr ?_
     exact eJ
    obtain ⟨gB,W,hg,hW,hM⟩:=hM.uJ
    go_simp
    refine ah (hK _ _ ⟨⟩) ?_
    intro hHeld
    clear hK K
    rw [←hg,←hW]
    clear hg hW
    exact eH
   ·
    obtain ⟨gD,W,hr,hM⟩:=hM.yA hn
    refine jr (by kernel_rfl) (some 10) (.tmp 9) 27 _ _ rfl rfl rfl hr ?_
    clear hr
    refine ah (hK _ _ ⟨⟩) ?_
    intro hHeld
    clear hK K
    exact dV
   ·
    obtain ⟨gS,W,hr,hM⟩:=hM.AX hn
    refine jr (by kernel_rfl) (some 13) (.tmp 12) 44 _ _ rfl rfl rfl hr ?_
    clear hr
    refine ah (hK _ _ ⟨⟩) ?_
    intro hHeld
    clear hK K
    exact dW
   obtain ⟨gB,W,hg,hW,hM⟩:=hM.uJ
   exact dT
  ·
   obtain ⟨gD,W,hr,hM⟩:=hM.yA hn
   refine jr (by kernel_rfl) (some 10) (.tmp 9) 27 _ _ rfl rfl rfl hr ?_
   clear hr
   refine ah (hK _ _ ⟨⟩) ?_
   intro hHeld
   clear hK K
   refine wpAnyH_ready (rs:=[0,8,10]) (by kernel_rfl) (by simp) ?_
   refine AllReadyH.cons rfl (fun K hK=>?_) (AllReadyH.cons rfl (fun K hK=>?_) (AllReadyH.cons rfl (fun K hK=>?_) AllReadyH.nil))
   ·
    obtain ⟨gE,W,hg,hW,hM⟩:=hM.Eg
    go_simp
    refine ah (hK _ _ ⟨⟩) ?_
    intro hHeld
    clear hK K
    rw [←hg,←hW]
    clear hg hW
    exact dV
   ·
    obtain ⟨gS,W,hr,hM⟩:=hM.AX hn
    refine jr (by kernel_rfl) (some 13) (.tmp 12) 44 _ _ rfl rfl rfl hr ?_
    exact dY
   obtain ⟨gB,W,hg,hW,hM⟩:=hM.uJ
   go_simp
   refine ah (hK _ _ ⟨⟩) ?_
   intro hHeld
   clear hK K
   rw [←hg,←hW]
   clear hg hW
   exact dZ
  ·
   obtain ⟨gS,W,hr,hM⟩:=hM.AX hn
   refine jr (by kernel_rfl) (some 13) (.tmp 12) 44 _ _ rfl rfl rfl hr ?_
   clear hr
   refine ah (hK _ _ ⟨⟩) ?_
   intro hHeld
   clear hK K
   refine wpAnyH_ready (rs:=[0,5,10]) (by kernel_rfl) (by simp) ?_
   refine AllReadyH.cons rfl (fun K hK=>?_) (AllReadyH.cons rfl (fun K hK=>?_) (AllReadyH.cons rfl (fun K hK=>?_) AllReadyH.nil))
   ·
    obtain ⟨gE,W,hg,hW,hM⟩:=hM.Eg
    go_simp
    refine ah (hK _ _ ⟨⟩) ?_
    intro hHeld
    clear hK K
    rw [←hg,←hW]
    clear hg hW
    exact dW
   ·
    obtain ⟨gD,W,hr,hM⟩:=hM.yA hn
    refine jr (by kernel_rfl) (some 10) (.tmp 9) 27 _ _ rfl rfl rfl hr ?_
    exact dY
   obtain ⟨gB,W,hg,hW,hM⟩:=hM.uJ
   go_simp
   refine ah (hK _ _ ⟨⟩) ?_
   intro hHeld
   clear hK K
   rw [←hg,←hW]
   clear hg hW
   exact ef
  obtain ⟨gB,W,hg,hW,hM⟩:=hM.uJ
  go_simp
  refine ah (hK _ _ ⟨⟩) ?_
  intro hHeld
  clear hK K
  rw [←hg,←hW]
  clear hg hW
  refine wpAnyH_ready (rs:=[0,5,8]) (by kernel_rfl) (by simp) ?_
  refine AllReadyH.cons rfl (fun K hK=>?_) (AllReadyH.cons rfl (fun K hK=>?_) (AllReadyH.cons rfl (fun K hK=>?_) AllReadyH.nil))
  ·
   obtain ⟨gE,W,hg,hW,hM⟩:=hM.Eg
   exact dT
  ·
   obtain ⟨gD,W,hr,hM⟩:=hM.yA hn
   refine jr (by kernel_rfl) (some 10) (.tmp 9) 27 _ _ rfl rfl rfl hr ?_
   clear hr
   refine ah (hK _ _ ⟨⟩) ?_
   intro hHeld
   clear hK K
   exact dZ
  obtain ⟨gS,W,hr,hM⟩:=hM.AX hn
  refine jr (by kernel_rfl) (some 13) (.tmp 12) 44 _ _ rfl rfl rfl hr ?_
  clear hr
  refine ah (hK _ _ ⟨⟩) ?_
  intro hHeld
  clear hK K
  exact ef
 rintro e a' W ⟨rfl,aQ,cQ,gD,gS,gB,gE,W',hM,rfl,rfl⟩
 have hMd:=hM.made cQ
 clear hM
 generalize uf W' gB (.slice aQ n cQ) (.slice (some ⟨gD,0,none⟩) n n) (.int .i64 0) (.bool true) (.slice (some ⟨gS,0,none⟩) n n)=W1 at hMd ⊢
 have cB:=iv hMd.b
 go_wp2_with fail
 refine (rZ (vF n f aQ cQ gD gS) _ (DJ hn) hMd.own.rd ok (HO _ _ _ _)).mono ?_
 rintro e W2 ⟨rfl,hb2⟩
 have hOwn:=hMd.own.up hb2
 have hBB:=(hb2.block gB (iw hMd.b)).trans hMd.b
 have hBelow:=hMd.below.trans (hb2.mono hMd.below.size)
 have hBox:=(hBelow.block w.heap.size (by rw [HSz.out];omega)).trans HBx.out
 have hlo:=hMd.lo
 rw [HSz.out] at hlo hOwn
 have HBw:=aa (HB0.trans (hBelow.mono HB0.size))
 have HOw:=aa hOwn
 have cB2:=iv hBB
 have cX:=iv hBox
 have fX:=iF hBox
 clear hMd hb2 cB hBB hBelow hOwn
 cases ok
 ·
  go_wp2_with fail
  have ht:=kI W2 w.heap.size (.slice none 0 0) (.slice none 0 0) (.int .i64 0) (.bool false) (.slice none 0 0)
  have cF:=iv (mS hBox (.slice none 0 0) (.slice none 0 0) (.int .i64 0) (.bool false) (.slice none 0 0))
  have hBf:=HBw.trans (ht.below HBw.size (fun x hx=>by simp at hx;omega))
  unfold uf at cF hBf
  exact bodyPost_ret (v:=.tuple #[.agg zR.cells,.bool false]) (by simp [results,Tryz.results84,go_sem,cF,zR,Rnd.cells]) rfl ⟨zR,rfl,FR _ _,hBf,Alike.refl _⟩
 go_wp2_with fail
 have ht:=kI W2 w.heap.size (.slice aQ n cQ) (.slice (some ⟨gD,0,none⟩) n n) (.int .i64 0) (.bool true) (.slice (some ⟨gS,0,none⟩) n n)
 have cF:=iv (mS hBox (.slice aQ n cQ) (.slice (some ⟨gD,0,none⟩) n n) (.int .i64 0) (.bool true) (.slice (some ⟨gS,0,none⟩) n n))
 have hBf:=HBw.trans (ht.below HBw.size (fun x hx=>by simp at hx;omega))
 have hOf:=(HOw.jE ht (fun x hx=>by simp at hx;omega)).mono (Nat.le_succ _)
 unfold uf at cF hBf hOf
 exact bodyPost_ret (v:=.tuple #[.agg (vF n f aQ cQ gD gS).cells,.bool true]) (by simp [results,Tryz.results84,go_sem,cF,vF,Rnd.cells]) rfl ⟨vF n f aQ cQ gD gS,rfl,hOf,hBf,⟨rfl,rfl,rfl,rfl,rfl,rfl,rfl,rfl,rfl⟩⟩
