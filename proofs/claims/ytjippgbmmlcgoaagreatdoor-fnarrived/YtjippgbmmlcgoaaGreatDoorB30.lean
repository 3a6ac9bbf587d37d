import Derived.Test.YtjippgbmmlcgoaaGreatDoorB19
namespace Go.Proofs.YtjippgbmmlcgoaaGreatDoor
set_option maxRecDepth 100000
open Go.RowKit
set_option linter.unusedVariables false
set_option linter.unusedSimpArgs false
variable {p:Prop}
theorem dK (h:p:=by
 clear hr
 refine ah (hK _ _ ⟨⟩) ?_
 intro hHeld
 clear hK K
 refine tM 9 14 ?_
 exact eG):p:=h
theorem dL (h:p:=by
 clear hr
 refine ah (hK _ _ ⟨⟩) ?_
 intro hHeld
 clear hK K
 refine tM 9 14 ?_
 refine rq1 10 (fun K hK=>?_)
 obtain ⟨gB,W,hg,hW,hM⟩:=hM.tS
 go_simp
 refine ah (hK _ _ ⟨⟩) ?_
 intro hHeld
 clear hK K
 rw [←hg,←hW]
 clear hg hW
 exact eG):p:=h
theorem dM (h:p:=by
 refine rq1 2 (fun K hK=>?_)
 obtain ⟨aQ,cQ,W,hr,hM⟩:=hM.wC cap hn (HRd _ hM.below)
 refine jz (by kernel_rfl) (some 7) (.tmp 5) (.tmp 6) 27 _ _ _ rfl rfl rfl rfl rfl hr ?_
 exact dK):p:=h
theorem dN (h:p:=by
 refine rq2 2 8 (fun K hK=>?_) (fun K hK=>?_)
 ·
  obtain ⟨aQ,cQ,W,hr,hM⟩:=hM.wC cap hn (HRd _ hM.below)
  refine jz (by kernel_rfl) (some 7) (.tmp 5) (.tmp 6) 27 _ _ _ rfl rfl rfl rfl rfl hr ?_
  exact eO
 obtain ⟨gS,W,hr,hM⟩:=hM.AH hn
 refine jf (by kernel_rfl) (some 13) (.tmp 12) 43 _ _ rfl rfl rfl hr ?_
 clear hr
 refine ah (hK _ _ ⟨⟩) ?_
 intro hHeld
 clear hK K
 exact dM):p:=h
theorem dO (h:p:=by
 refine rq2 2 5 (fun K hK=>?_) (fun K hK=>?_)
 ·
  obtain ⟨aQ,cQ,W,hr,hM⟩:=hM.wC cap hn (HRd _ hM.below)
  refine jz (by kernel_rfl) (some 7) (.tmp 5) (.tmp 6) 27 _ _ _ rfl rfl rfl rfl rfl hr ?_
  exact eR
 obtain ⟨gD,W,hr,hM⟩:=hM.xU hn
 refine jf (by kernel_rfl) (some 10) (.tmp 9) 27 _ _ rfl rfl rfl hr ?_
 clear hr
 refine ah (hK _ _ ⟨⟩) ?_
 intro hHeld
 clear hK K
 exact dM):p:=h
theorem dQ (h:p:=by
 refine rq2 2 10 (fun K hK=>?_) (fun K hK=>?_)
 ·
  obtain ⟨aQ,cQ,W,hr,hM⟩:=hM.wC cap hn (HRd _ hM.below)
  refine jz (by kernel_rfl) (some 7) (.tmp 5) (.tmp 6) 27 _ _ _ rfl rfl rfl rfl rfl hr ?_
  exact dL
 obtain ⟨gB,W,hg,hW,hM⟩:=hM.tS
 exact eJ):p:=h
theorem dR (h:p:=by
 go_simp
 refine ah (hK _ _ ⟨⟩) ?_
 intro hHeld
 clear hK K
 rw [←hg,←hW]
 clear hg hW
 refine wpAnyH_ready (rs:=[2,5,8]) (by kernel_rfl) (by simp) ?_
 refine AllReadyH.cons rfl (fun K hK=>?_) (AllReadyH.cons rfl (fun K hK=>?_) (AllReadyH.cons rfl (fun K hK=>?_) AllReadyH.nil))
 ·
  obtain ⟨aQ,cQ,W,hr,hM⟩:=hM.wC cap hn (HRd _ hM.below)
  refine jz (by kernel_rfl) (some 7) (.tmp 5) (.tmp 6) 27 _ _ _ rfl rfl rfl rfl rfl hr ?_
  clear hr
  refine ah (hK _ _ ⟨⟩) ?_
  intro hHeld
  clear hK K
  exact eh
 ·
  obtain ⟨gD,W,hr,hM⟩:=hM.xU hn
  refine jf (by kernel_rfl) (some 10) (.tmp 9) 27 _ _ rfl rfl rfl hr ?_
  clear hr
  refine ah (hK _ _ ⟨⟩) ?_
  intro hHeld
  clear hK K
  exact dN
 obtain ⟨gS,W,hr,hM⟩:=hM.AH hn
 refine jf (by kernel_rfl) (some 13) (.tmp 12) 43 _ _ rfl rfl rfl hr ?_
 clear hr
 refine ah (hK _ _ ⟨⟩) ?_
 intro hHeld
 clear hK K
 exact dO):p:=h
theorem dS (h:p:=by
 refine wpAnyH_ready (rs:=[2,8,10]) (by kernel_rfl) (by simp) ?_
 refine AllReadyH.cons rfl (fun K hK=>?_) (AllReadyH.cons rfl (fun K hK=>?_) (AllReadyH.cons rfl (fun K hK=>?_) AllReadyH.nil))
 ·
  obtain ⟨aQ,cQ,W,hr,hM⟩:=hM.wC cap hn (HRd _ hM.below)
  refine jz (by kernel_rfl) (some 7) (.tmp 5) (.tmp 6) 27 _ _ _ rfl rfl rfl rfl rfl hr ?_
  exact ew
 ·
  obtain ⟨gS,W,hr,hM⟩:=hM.AH hn
  refine jf (by kernel_rfl) (some 13) (.tmp 12) 43 _ _ rfl rfl rfl hr ?_
  exact eM
 obtain ⟨gB,W,hg,hW,hM⟩:=hM.tS
 exact eH):p:=h
theorem dT (h:p:=by
 refine wpAnyH_ready (rs:=[2,5,10]) (by kernel_rfl) (by simp) ?_
 refine AllReadyH.cons rfl (fun K hK=>?_) (AllReadyH.cons rfl (fun K hK=>?_) (AllReadyH.cons rfl (fun K hK=>?_) AllReadyH.nil))
 ·
  obtain ⟨aQ,cQ,W,hr,hM⟩:=hM.wC cap hn (HRd _ hM.below)
  refine jz (by kernel_rfl) (some 7) (.tmp 5) (.tmp 6) 27 _ _ _ rfl rfl rfl rfl rfl hr ?_
  exact eD
 ·
  obtain ⟨gD,W,hr,hM⟩:=hM.xU hn
  refine jf (by kernel_rfl) (some 10) (.tmp 9) 27 _ _ rfl rfl rfl hr ?_
  exact eM
 obtain ⟨gB,W,hg,hW,hM⟩:=hM.tS
 exact eI):p:=h
theorem dV (h:p:=by
 refine rq1 0 (fun K hK=>?_)
 obtain ⟨gE,W,hg,hW,hM⟩:=hM.D6
 exact eJ):p:=h
theorem dW (h:p:=by
 clear hr
 refine ah (hK _ _ ⟨⟩) ?_
 intro hHeld
 clear hK K
 refine rq2 0 10 (fun K hK=>?_) (fun K hK=>?_)
 ·
  obtain ⟨gE,W,hg,hW,hM⟩:=hM.D6
  go_simp
  refine ah (hK _ _ ⟨⟩) ?_
  intro hHeld
  clear hK K
  rw [←hg,←hW]
  clear hg hW
  exact dQ
 obtain ⟨gB,W,hg,hW,hM⟩:=hM.tS
 go_simp
 refine ah (hK _ _ ⟨⟩) ?_
 intro hHeld
 clear hK K
 rw [←hg,←hW]
 clear hg hW
 exact dV):p:=h
theorem dX (h:p:=by
 refine rq2 0 8 (fun K hK=>?_) (fun K hK=>?_)
 ·
  obtain ⟨gE,W,hg,hW,hM⟩:=hM.D6
  exact eH
 obtain ⟨gS,W,hr,hM⟩:=hM.AH hn
 refine jf (by kernel_rfl) (some 13) (.tmp 12) 43 _ _ rfl rfl rfl hr ?_
 clear hr
 refine ah (hK _ _ ⟨⟩) ?_
 intro hHeld
 clear hK K
 exact dV):p:=h
theorem dY (h:p:=by
 refine rq2 0 5 (fun K hK=>?_) (fun K hK=>?_)
 ·
  obtain ⟨gE,W,hg,hW,hM⟩:=hM.D6
  exact eI
 obtain ⟨gD,W,hr,hM⟩:=hM.xU hn
 refine jf (by kernel_rfl) (some 10) (.tmp 9) 27 _ _ rfl rfl rfl hr ?_
 clear hr
 refine ah (hK _ _ ⟨⟩) ?_
 intro hHeld
 clear hK K
 exact dV):p:=h
theorem dZ (h:p:=by
 refine rq1 8 (fun K hK=>?_)
 obtain ⟨gS,W,hr,hM⟩:=hM.AH hn
 refine jf (by kernel_rfl) (some 13) (.tmp 12) 43 _ _ rfl rfl rfl hr ?_
 exact dK):p:=h
theorem ef (h:p:=by
 refine rq1 5 (fun K hK=>?_)
 obtain ⟨gD,W,hr,hM⟩:=hM.xU hn
 refine jf (by kernel_rfl) (some 10) (.tmp 9) 27 _ _ rfl rfl rfl hr ?_
 exact dK):p:=h
theorem eh (h:p:=by
 refine rq2 5 8 (fun K hK=>?_) (fun K hK=>?_)
 ·
  obtain ⟨gD,W,hr,hM⟩:=hM.xU hn
  refine jf (by kernel_rfl) (some 10) (.tmp 9) 27 _ _ rfl rfl rfl hr ?_
  exact eO
 obtain ⟨gS,W,hr,hM⟩:=hM.AH hn
 refine jf (by kernel_rfl) (some 13) (.tmp 12) 43 _ _ rfl rfl rfl hr ?_
 exact eR):p:=h
theorem ew (h:p:=by
 clear hr
 refine ah (hK _ _ ⟨⟩) ?_
 intro hHeld
 clear hK K
 refine rq2 8 10 (fun K hK=>?_) (fun K hK=>?_)
 ·
  obtain ⟨gS,W,hr,hM⟩:=hM.AH hn
  refine jf (by kernel_rfl) (some 13) (.tmp 12) 43 _ _ rfl rfl rfl hr ?_
  exact dL
 obtain ⟨gB,W,hg,hW,hM⟩:=hM.tS
 go_simp
 refine ah (hK _ _ ⟨⟩) ?_
 intro hHeld
 clear hK K
 rw [←hg,←hW]
 clear hg hW
 exact dZ):p:=h
theorem eD (h:p:=by
 clear hr
 refine ah (hK _ _ ⟨⟩) ?_
 intro hHeld
 clear hK K
 refine rq2 5 10 (fun K hK=>?_) (fun K hK=>?_)
 ·
  obtain ⟨gD,W,hr,hM⟩:=hM.xU hn
  refine jf (by kernel_rfl) (some 10) (.tmp 9) 27 _ _ rfl rfl rfl hr ?_
  exact dL
 obtain ⟨gB,W,hg,hW,hM⟩:=hM.tS
 go_simp
 refine ah (hK _ _ ⟨⟩) ?_
 intro hHeld
 clear hK K
 rw [←hg,←hW]
 clear hg hW
 exact ef):p:=h
theorem eG (h:p:=by
 have cB:=ie (hM.b gB rfl).2
 have fB:=ix (hM.b gB rfl).2
 unfold qT at cB
 refine rq1 11 (fun K hK=>?_)
 go_simp
 refine ah (hK _ _ ⟨⟩) ?_
 intro hHeld
 clear hK K
 refine dnq ?_
 exact ⟨rfl,aQ,cQ,gD,gS,gB,gE,W,hM,rfl,rfl⟩):p:=h
theorem eH (h:p:=by
 go_simp
 refine ah (hK _ _ ⟨⟩) ?_
 intro hHeld
 clear hK K
 rw [←hg,←hW]
 clear hg hW
 exact dN):p:=h
theorem eI (h:p:=by
 go_simp
 refine ah (hK _ _ ⟨⟩) ?_
 intro hHeld
 clear hK K
 rw [←hg,←hW]
 clear hg hW
 exact dO):p:=h
theorem eJ (h:p:=by
 go_simp
 refine ah (hK _ _ ⟨⟩) ?_
 intro hHeld
 clear hK K
 rw [←hg,←hW]
 clear hg hW
 exact dM):p:=h
theorem eM (h:p:=by
 clear hr
 refine ah (hK _ _ ⟨⟩) ?_
 intro hHeld
 clear hK K
 exact dQ):p:=h
theorem eO (h:p:=by
 clear hr
 refine ah (hK _ _ ⟨⟩) ?_
 intro hHeld
 clear hK K
 exact dZ):p:=h
theorem eR (h:p:=by
 clear hr
 refine ah (hK _ _ ⟨⟩) ?_
 intro hHeld
 clear hK K
 exact ef):p:=h
set_option maxHeartbeats 9000000 in
theorem uM (g q n cap:Nat) (f:Nat→Int) (w:World) (hn:n≤1048576) (h:iP w (some ⟨g,q,none⟩) n fun i=>.int .i64 (f i)) (ok:Bool) (hok:ok=true↔(ub n f none 0 0 0).Ok) :
  Calls Tryz.prog 77 #[.slice (some ⟨g,q,none⟩) n cap] w fun e w'=>∃ R,e=.returned (.tuple #[.agg R.cells,.bool ok])∧jy w' w.heap.size R∧Below w.heap.size w w'∧Alike (Gq n f ok) R:=by
 have hB0:Below w.heap.size w (w.alloc (.cells ae 45)):=(Below.refl _ _).alloc (Nat.le_refl _) _
 have HRd:Hid (∀ W,Below (w.alloc (.cells ae 45)).heap.size (w.alloc (.cells ae 45)) W→iP W (some ⟨g,q,none⟩) n fun i=>.int .i64 (f i)):=fun W hb=>h.up (hB0.trans (hb.mono hB0.size))
 have HO:Hid (∀ aQ cQ gD gS,ok=true↔(ub n f aQ cQ gD gS).Ok):=fun _ _ _ _=>hok.trans ET
 have HB0:=aa hB0
 have HBx:Hid ((w.alloc (.cells ae 45)).heap[w.heap.size]?=some (.cells ae 45 (0,0))):=im _ _
 have HSz:Hid ((w.alloc (.cells ae 45)).heap.size=w.heap.size+1):=by rw [Hid];simp
 clear hB0 h hok
 go_enter Tryz.func77,Tryz.ntmps77
 go_wp2_with fail
 refine wp_mono (Q:=fun e a' W=>e=.normal∧∃ (aQ:Option Addr) (cQ gD gS gB gE:Nat) (W':World),Mk n f (w.alloc (.cells ae 45)) W' none (some aQ) (some gD) (some gS) (some gB)∧a'=⟨#[.slice (some ⟨g,q,none⟩) n cap,undef,.pointer (some ⟨w.heap.size,0,none⟩),.bool false,.pointer (some ⟨gB,0,none⟩),.slice (some ⟨gE,0,none⟩) 0 0,.slice (some ⟨g,q,none⟩) n cap,.slice aQ n cQ,.slice (some ⟨g,q,none⟩) n cap,.int .i64 n,.slice (some ⟨gD,0,none⟩) n n,.slice (some ⟨g,q,none⟩) n cap,.int .i64 n,.slice (some ⟨gS,0,none⟩) n n,.agg #[.slice aQ n cQ,.slice (some ⟨gD,0,none⟩) n n,.int .i64 0,.bool true,.slice (some ⟨gS,0,none⟩) n n],undef,undef,undef,undef,undef],[]⟩∧W=sg W' gB (.slice aQ n cQ) (.slice (some ⟨gD,0,none⟩) n n) (.int .i64 0) (.bool true) (.slice (some ⟨gS,0,none⟩) n n)) ?_ ?_
 ·
  have hM:Mk n f (w.alloc (.cells ae 45)) (w.alloc (.cells ae 45)).drew none none none none none:=Mk.start ((Below.refl _ _).drew)
  refine wp_region_held_drew (S:=fun _=>True) (by kernel_rfl) True.intro (fun hHeld=>?_)
  generalize hW:(w.alloc (.cells ae 45)).drew=W at hM ⊢
  clear hW
  refine tM 1 6 ?_
  refine tM 3 8 ?_
  refine tM 4 9 ?_
  refine tM 6 11 ?_
  refine tM 7 12 ?_
  refine wpAnyH_ready (rs:=[0,5,8,10]) (by kernel_rfl) (by simp) ?_
  refine AllReadyH.cons rfl (fun K hK=>?_) (AllReadyH.cons rfl (fun K hK=>?_) (AllReadyH.cons rfl (fun K hK=>?_) (AllReadyH.cons rfl (fun K hK=>?_) AllReadyH.nil)))
  ·
   obtain ⟨gE,W,hg,hW,hM⟩:=hM.D6
   go_simp
   refine ah (hK _ _ ⟨⟩) ?_
   intro hHeld
   clear hK K
   rw [←hg,←hW]
   clear hg hW
   refine wpAnyH_ready (rs:=[2,5,8,10]) (by kernel_rfl) (by simp) ?_
   refine AllReadyH.cons rfl (fun K hK=>?_) (AllReadyH.cons rfl (fun K hK=>?_) (AllReadyH.cons rfl (fun K hK=>?_) (AllReadyH.cons rfl (fun K hK=>?_) AllReadyH.nil)))
   ·
    obtain ⟨aQ,cQ,W,hr,hM⟩:=hM.wC cap hn (HRd _ hM.below)
    refine jz (by kernel_rfl) (some 7) (.tmp 5) (.tmp 6) 27 _ _ _ rfl rfl rfl rfl rfl hr ?_
    clear hr
    refine ah (hK _ _ ⟨⟩) ?_
    intro hHeld
    clear hK K
    refine wpAnyH_ready (rs:=[5,8,10]) (by kernel_rfl) (by simp) ?_
    refine AllReadyH.cons rfl (fun K hK=>?_) (AllReadyH.cons rfl (fun K hK=>?_) (AllReadyH.cons rfl (fun K hK=>?_) AllReadyH.nil))
    ·
     obtain ⟨gD,W,hr,hM⟩:=hM.xU hn
     refine jf (by kernel_rfl) (some 10) (.tmp 9) 27 _ _ rfl rfl rfl hr ?_
     exact ew
    ·
     obtain ⟨gS,W,hr,hM⟩:=hM.AH hn
     refine jf (by kernel_rfl) (some 13) (.tmp 12) 43 _ _ rfl rfl rfl hr ?_
     exact eD
    obtain ⟨gB,W,hg,hW,hM⟩:=hM.tS
    go_simp
    refine ah (hK _ _ ⟨⟩) ?_
    intro hHeld
    clear hK K
    rw [←hg,←hW]
    clear hg hW
    exact eh
   ·
    obtain ⟨gD,W,hr,hM⟩:=hM.xU hn
    refine jf (by kernel_rfl) (some 10) (.tmp 9) 27 _ _ rfl rfl rfl hr ?_
    clear hr
    refine ah (hK _ _ ⟨⟩) ?_
    intro hHeld
    clear hK K
    exact dS
   ·
    obtain ⟨gS,W,hr,hM⟩:=hM.AH hn
    refine jf (by kernel_rfl) (some 13) (.tmp 12) 43 _ _ rfl rfl rfl hr ?_
    clear hr
    refine ah (hK _ _ ⟨⟩) ?_
    intro hHeld
    clear hK K
    exact dT
   obtain ⟨gB,W,hg,hW,hM⟩:=hM.tS
   exact dR
  ·
   obtain ⟨gD,W,hr,hM⟩:=hM.xU hn
   refine jf (by kernel_rfl) (some 10) (.tmp 9) 27 _ _ rfl rfl rfl hr ?_
   clear hr
   refine ah (hK _ _ ⟨⟩) ?_
   intro hHeld
   clear hK K
   refine wpAnyH_ready (rs:=[0,8,10]) (by kernel_rfl) (by simp) ?_
   refine AllReadyH.cons rfl (fun K hK=>?_) (AllReadyH.cons rfl (fun K hK=>?_) (AllReadyH.cons rfl (fun K hK=>?_) AllReadyH.nil))
   ·
    obtain ⟨gE,W,hg,hW,hM⟩:=hM.D6
    go_simp
    refine ah (hK _ _ ⟨⟩) ?_
    intro hHeld
    clear hK K
    rw [←hg,←hW]
    clear hg hW
    exact dS
   ·
    obtain ⟨gS,W,hr,hM⟩:=hM.AH hn
    refine jf (by kernel_rfl) (some 13) (.tmp 12) 43 _ _ rfl rfl rfl hr ?_
    exact dW
   obtain ⟨gB,W,hg,hW,hM⟩:=hM.tS
   go_simp
   refine ah (hK _ _ ⟨⟩) ?_
   intro hHeld
   clear hK K
   rw [←hg,←hW]
   clear hg hW
   exact dX
  ·
   obtain ⟨gS,W,hr,hM⟩:=hM.AH hn
   refine jf (by kernel_rfl) (some 13) (.tmp 12) 43 _ _ rfl rfl rfl hr ?_
   clear hr
   refine ah (hK _ _ ⟨⟩) ?_
   intro hHeld
   clear hK K
   refine wpAnyH_ready (rs:=[0,5,10]) (by kernel_rfl) (by simp) ?_
   refine AllReadyH.cons rfl (fun K hK=>?_) (AllReadyH.cons rfl (fun K hK=>?_) (AllReadyH.cons rfl (fun K hK=>?_) AllReadyH.nil))
   ·
    obtain ⟨gE,W,hg,hW,hM⟩:=hM.D6
    go_simp
    refine ah (hK _ _ ⟨⟩) ?_
    intro hHeld
    clear hK K
    rw [←hg,←hW]
    clear hg hW
    exact dT
   ·
    obtain ⟨gD,W,hr,hM⟩:=hM.xU hn
    refine jf (by kernel_rfl) (some 10) (.tmp 9) 27 _ _ rfl rfl rfl hr ?_
    exact dW
   obtain ⟨gB,W,hg,hW,hM⟩:=hM.tS
   go_simp
   refine ah (hK _ _ ⟨⟩) ?_
   intro hHeld
   clear hK K
   rw [←hg,←hW]
   clear hg hW
   exact dY
  obtain ⟨gB,W,hg,hW,hM⟩:=hM.tS
  go_simp
  refine ah (hK _ _ ⟨⟩) ?_
  intro hHeld
  clear hK K
  rw [←hg,←hW]
  clear hg hW
  refine wpAnyH_ready (rs:=[0,5,8]) (by kernel_rfl) (by simp) ?_
  refine AllReadyH.cons rfl (fun K hK=>?_) (AllReadyH.cons rfl (fun K hK=>?_) (AllReadyH.cons rfl (fun K hK=>?_) AllReadyH.nil))
  ·
   obtain ⟨gE,W,hg,hW,hM⟩:=hM.D6
   exact dR
  ·
   obtain ⟨gD,W,hr,hM⟩:=hM.xU hn
   refine jf (by kernel_rfl) (some 10) (.tmp 9) 27 _ _ rfl rfl rfl hr ?_
   clear hr
   refine ah (hK _ _ ⟨⟩) ?_
   intro hHeld
   clear hK K
   exact dX
  obtain ⟨gS,W,hr,hM⟩:=hM.AH hn
  refine jf (by kernel_rfl) (some 13) (.tmp 12) 43 _ _ rfl rfl rfl hr ?_
  clear hr
  refine ah (hK _ _ ⟨⟩) ?_
  intro hHeld
  clear hK K
  exact dY
 rintro e a' W ⟨rfl,aQ,cQ,gD,gS,gB,gE,W',hM,rfl,rfl⟩
 have hMd:=hM.made cQ
 clear hM
 generalize sg W' gB (.slice aQ n cQ) (.slice (some ⟨gD,0,none⟩) n n) (.int .i64 0) (.bool true) (.slice (some ⟨gS,0,none⟩) n n)=W1 at hMd ⊢
 have cB:=ie hMd.b
 go_wp2_with fail
 refine (qY (ub n f aQ cQ gD gS) _ (Dj hn) hMd.own.rd ok (HO _ _ _ _)).mono ?_
 rintro e W2 ⟨rfl,hb2⟩
 have hOwn:=hMd.own.up hb2
 have hBB:=(hb2.block gB (ig hMd.b)).trans hMd.b
 have hBelow:=hMd.below.trans (hb2.mono hMd.below.size)
 have hBox:=(hBelow.block w.heap.size (by rw [HSz.out];omega)).trans HBx.out
 have hlo:=hMd.lo
 rw [HSz.out] at hlo hOwn
 have HBw:=aa (HB0.trans (hBelow.mono HB0.size))
 have HOw:=aa hOwn
 have cB2:=ie hBB
 have cX:=ie hBox
 have fX:=ix hBox
 clear hMd hb2 cB hBB hBelow hOwn
 cases ok
 ·
  go_wp2_with fail
  have ht:=jv W2 w.heap.size (.slice none 0 0) (.slice none 0 0) (.int .i64 0) (.bool false) (.slice none 0 0)
  have cF:=ie (ln hBox (.slice none 0 0) (.slice none 0 0) (.int .i64 0) (.bool false) (.slice none 0 0))
  have hBf:=HBw.trans (ht.below HBw.size (fun x hx=>by simp at hx;omega))
  unfold sg at cF hBf
  exact bodyPost_ret (v:=.tuple #[.agg zR.cells,.bool false]) (by simp [results,Tryz.results77,go_sem,cF,zR,Rnd.cells]) rfl ⟨zR,rfl,D0 _ _,hBf,Alike.refl _⟩
 go_wp2_with fail
 have ht:=jv W2 w.heap.size (.slice aQ n cQ) (.slice (some ⟨gD,0,none⟩) n n) (.int .i64 0) (.bool true) (.slice (some ⟨gS,0,none⟩) n n)
 have cF:=ie (ln hBox (.slice aQ n cQ) (.slice (some ⟨gD,0,none⟩) n n) (.int .i64 0) (.bool true) (.slice (some ⟨gS,0,none⟩) n n))
 have hBf:=HBw.trans (ht.below HBw.size (fun x hx=>by simp at hx;omega))
 have hOf:=(HOw.kk ht (fun x hx=>by simp at hx;omega)).mono (Nat.le_succ _)
 unfold sg at cF hBf hOf
 exact bodyPost_ret (v:=.tuple #[.agg (ub n f aQ cQ gD gS).cells,.bool true]) (by simp [results,Tryz.results77,go_sem,cF,ub,Rnd.cells]) rfl ⟨ub n f aQ cQ gD gS,rfl,hOf,hBf,⟨rfl,rfl,rfl,rfl,rfl,rfl,rfl,rfl,rfl⟩⟩
