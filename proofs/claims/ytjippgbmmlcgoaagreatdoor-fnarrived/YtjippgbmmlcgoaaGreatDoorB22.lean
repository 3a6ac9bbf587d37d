import Derived.Test.YtjippgbmmlcgoaaGreatDoorB21
namespace Go.Proofs.YtjippgbmmlcgoaaGreatDoor
set_option maxRecDepth 100000
open Go.RowKit
set_option linter.unusedVariables false
set_option linter.unusedSimpArgs false
variable {p:Prop}
theorem Hn (h:p:=by
 refine rq1 10 (fun K hK=>?_)
 refine jz (by kernel_rfl) (some 96) (.tmp 89) (.tmp 95) 27 _ _ _ rfl rfl rfl rfl rfl hrun ?_
 refine ah (hK _ _ cgz) ?_
 intro hHeld
 clear hK K
 refine tQ 11 97 ?_
 refine rq1 12 (fun K hK=>?_)
 go_simp
 try rw [eVf]
 refine ah (hK _ _ cgf) ?_
 intro hHeld
 clear hK K
 refine dnq ?_
 clear hHeld cgy cga cgz csy csa csz fsz hrun eVf
 by_cases hone:L1 tn=1
 ·
  have HN1:Hid (L1 tn=1):=hone
  have hone2:L1 tn-1=0:=by omega
  have hRf:=HRf hone
  rw [hone2] at csf
  have hgD2:(w.heap.size+2)≤gD:=by
   rcases hRf.own.d with h0 | ⟨g,hg,h9,hr⟩
   ·
    have h3:nD1=0:=h0
    omega
   cases hg
   exact h9
  obtain ⟨cdf,fdf⟩:(∃ vd,Vf.cell? ⟨gD,tn,none⟩=some (.int .i64 vd))∧Vf.frozen? ⟨gD,tn,none⟩=false:=by
   rcases hRf.own.d with h0 | ⟨g,hg,h9,hr⟩
   ·
    have h3:nD1=0:=h0
    omega
   cases hg
   exact ⟨⟨_,hr.at tn (show tn<nD1 by omega)⟩,hr.free tn⟩
  obtain ⟨vd,cdf⟩:=cdf
  have hR3:=hRf.def (c:=tn) (show tn<nD1 by omega) 0
  have hB3:=HBf.trans (((Touch.refl [gD] Vf).set (g:=gD) (by simp) tn (.int .i64 0)).below (lh HBf.out) (fun x hx=>by simp at hx;subst hx;exact hgD2))
  obtain ⟨Vg,hVg⟩:∃ Vg,Vg=Vf.setCell ⟨gD,tn,none⟩ (.int .i64 0):=⟨_,rfl⟩
  rw [←hVg] at hR3 hB3
  have eVg:Vf.setCell ⟨gD,tn,none⟩ (.int .i64 0)=Vg:=hVg.symm
  have cgg:=ie hR3.box
  dsimp only [Rnd.cells,Rnd.iV,Rnd.cut] at cgg
  have HR3:Hid (Rep Vg (w.heap.size+2) gb gD (Rnd.iV (Rnd.cut (Rnd.iV ⟨some ⟨gq,0,none⟩,nQ,cQ1,q1,some ⟨gD,0,none⟩,nD1,cD1,dg,(tn:Int),false,some ⟨gS,0,none⟩,nS1,cS1,A1,L1,C1,z1⟩ tn (dg tn-z1 tn 0)) tn a' c') tn 0) (Rnd.iV (Rnd.cut (Rnd.iV ⟨some ⟨gq,0,none⟩,nQ,cQ1,q1,some ⟨gD,0,none⟩,nD1,cD1,dg,(tn:Int),false,some ⟨gS,0,none⟩,nS1,cS1,A1,L1,C1,z1⟩ tn (dg tn-z1 tn 0)) tn a' c') tn 0)):=hR3
  have HB3:Hid (Below (w.heap.size+2) ((w.alloc (.cells #[.slice aQ nQ cQ,.slice aD nD cD,.int .i64 turn,.bool fresh,.slice aS j cS] 45)).alloc (.cells ae 45)) Vg):=hB3
  clear hRf hgD2 hR3 hB3 hVg hone
  go_wp2_with fail
  refine (yU (Rnd.iV (Rnd.cut (Rnd.iV ⟨some ⟨gq,0,none⟩,nQ,cQ1,q1,some ⟨gD,0,none⟩,nD1,cD1,dg,(tn:Int),false,some ⟨gS,0,none⟩,nS1,cS1,A1,L1,C1,z1⟩ tn (dg tn-z1 tn 0)) tn a' c') tn 0) _ HO.n HO.t).mono ?_
  rintro e w' ⟨rfl,hb⟩
  have hup:=HR3.up hb
  have hr4:=hup.turn
  have hB4:Below (w.heap.size+2) ((w.alloc (.cells #[.slice aQ nQ cQ,.slice aD nD cD,.int .i64 turn,.bool fresh,.slice aS j cS] 45)).alloc (.cells ae 45)) (w'.setRow gb (iU (Rnd.iV (Rnd.cut (Rnd.iV ⟨some ⟨gq,0,none⟩,nQ,cQ1,q1,some ⟨gD,0,none⟩,nD1,cD1,dg,(tn:Int),false,some ⟨gS,0,none⟩,nS1,cS1,A1,L1,C1,z1⟩ tn (dg tn-z1 tn 0)) tn a' c') tn 0)).cells):=(ri HB3 hb).trans ((jK w' gb (iU (Rnd.iV (Rnd.cut (Rnd.iV ⟨some ⟨gq,0,none⟩,nQ,cQ1,q1,some ⟨gD,0,none⟩,nD1,cD1,dg,(tn:Int),false,some ⟨gS,0,none⟩,nS1,cS1,A1,L1,C1,z1⟩ tn (dg tn-z1 tn 0)) tn a' c') tn 0)).cells).below (by have:=lh HB3.out;have:=hb.size;omega) (fun x hx=>by simp at hx;subst hx;exact Hgb.out))
  have HKk:Hid (w'.heap[gb]?=some (.cells (Rnd.cells (Rnd.iV (Rnd.cut (Rnd.iV ⟨some ⟨gq,0,none⟩,nQ,cQ1,q1,some ⟨gD,0,none⟩,nD1,cD1,dg,(tn:Int),false,some ⟨gS,0,none⟩,nS1,cS1,A1,L1,C1,z1⟩ tn (dg tn-z1 tn 0)) tn a' c') tn 0)) 45 (0,0))):=hup.box
  obtain ⟨Vh,hVh⟩:∃ Vh,Vh=w'.setRow gb (iU (Rnd.iV (Rnd.cut (Rnd.iV ⟨some ⟨gq,0,none⟩,nQ,cQ1,q1,some ⟨gD,0,none⟩,nD1,cD1,dg,(tn:Int),false,some ⟨gS,0,none⟩,nS1,cS1,A1,L1,C1,z1⟩ tn (dg tn-z1 tn 0)) tn a' c') tn 0)).cells:=⟨_,rfl⟩
  rw [←hVh] at hr4 hB4
  have eVh:w'.setRow gb (iU (Rnd.iV (Rnd.cut (Rnd.iV ⟨some ⟨gq,0,none⟩,nQ,cQ1,q1,some ⟨gD,0,none⟩,nD1,cD1,dg,(tn:Int),false,some ⟨gS,0,none⟩,nS1,cS1,A1,L1,C1,z1⟩ tn (dg tn-z1 tn 0)) tn a' c') tn 0)).cells=Vh:=hVh.symm
  have cgh:=ie hr4.box
  have HR4:Hid (Rep Vh (w.heap.size+2) gb gD (iU (Rnd.iV (Rnd.cut (Rnd.iV ⟨some ⟨gq,0,none⟩,nQ,cQ1,q1,some ⟨gD,0,none⟩,nD1,cD1,dg,(tn:Int),false,some ⟨gS,0,none⟩,nS1,cS1,A1,L1,C1,z1⟩ tn (dg tn-z1 tn 0)) tn a' c') tn 0)) (iU (Rnd.iV (Rnd.cut (Rnd.iV ⟨some ⟨gq,0,none⟩,nQ,cQ1,q1,some ⟨gD,0,none⟩,nD1,cD1,dg,(tn:Int),false,some ⟨gS,0,none⟩,nS1,cS1,A1,L1,C1,z1⟩ tn (dg tn-z1 tn 0)) tn a' c') tn 0))):=hr4
  have HB4:Hid (Below (w.heap.size+2) ((w.alloc (.cells #[.slice aQ nQ cQ,.slice aD nD cD,.int .i64 turn,.bool fresh,.slice aS j cS] 45)).alloc (.cells ae 45)) Vh):=hB4
  dsimp only [Rnd.cells,iU,Rnd.iV,Rnd.cut] at cgh
  clear hup hr4 hB4 hVh hb cgg csf cgf eVg cdf fdf
  have kOut:=EM HB4.out
  have ht:=jK Vh (w.heap.size+1) (Rnd.cells (iU (Rnd.iV (Rnd.cut (Rnd.iV ⟨some ⟨gq,0,none⟩,nQ,cQ1,q1,some ⟨gD,0,none⟩,nD1,cD1,dg,(tn:Int),false,some ⟨gS,0,none⟩,nS1,cS1,A1,L1,C1,z1⟩ tn (dg tn-z1 tn 0)) tn a' c') tn 0)))
  have cF:=ie (py kOut (cs:=Rnd.cells (iU (Rnd.iV (Rnd.cut (Rnd.iV ⟨some ⟨gq,0,none⟩,nQ,cQ1,q1,some ⟨gD,0,none⟩,nD1,cD1,dg,(tn:Int),false,some ⟨gS,0,none⟩,nS1,cS1,A1,L1,C1,z1⟩ tn (dg tn-z1 tn 0)) tn a' c') tn 0))))
  have hBfin:Below w.heap.size w (Vh.setRow (w.heap.size+1) (Rnd.cells (iU (Rnd.iV (Rnd.cut (Rnd.iV ⟨some ⟨gq,0,none⟩,nQ,cQ1,q1,some ⟨gD,0,none⟩,nD1,cD1,dg,(tn:Int),false,some ⟨gS,0,none⟩,nS1,cS1,A1,L1,C1,z1⟩ tn (dg tn-z1 tn 0)) tn a' c') tn 0)))):=(pw HB4.out).trans (ht.below (by have:=lh HB4.out;omega) (fun x hx=>by simp at hx;omega))
  have hOfin:=(HR4.own.kk ht (fun x hx=>by simp at hx;omega)).mono (show w.heap.size≤(w.heap.size+2) by omega)
  have HKo:Hid (Vh.heap[w.heap.size+1]?=some (.cells ae 45 (0,0))):=kOut
  obtain ⟨Vo,hVo⟩:∃ Vo,Vo=Vh.setRow (w.heap.size+1) (Rnd.cells (iU (Rnd.iV (Rnd.cut (Rnd.iV ⟨some ⟨gq,0,none⟩,nQ,cQ1,q1,some ⟨gD,0,none⟩,nD1,cD1,dg,(tn:Int),false,some ⟨gS,0,none⟩,nS1,cS1,A1,L1,C1,z1⟩ tn (dg tn-z1 tn 0)) tn a' c') tn 0))):=⟨_,rfl⟩
  have eVo:Vh.setRow (w.heap.size+1) (Rnd.cells (iU (Rnd.iV (Rnd.cut (Rnd.iV ⟨some ⟨gq,0,none⟩,nQ,cQ1,q1,some ⟨gD,0,none⟩,nD1,cD1,dg,(tn:Int),false,some ⟨gS,0,none⟩,nS1,cS1,A1,L1,C1,z1⟩ tn (dg tn-z1 tn 0)) tn a' c') tn 0)))=Vo:=hVo.symm
  rw [←hVo] at hBfin hOfin cF
  have HBfin:Hid (Below w.heap.size w Vo):=hBfin
  have HOfin:Hid (jy Vo w.heap.size (iU (Rnd.iV (Rnd.cut (Rnd.iV ⟨some ⟨gq,0,none⟩,nQ,cQ1,q1,some ⟨gD,0,none⟩,nD1,cD1,dg,(tn:Int),false,some ⟨gS,0,none⟩,nS1,cS1,A1,L1,C1,z1⟩ tn (dg tn-z1 tn 0)) tn a' c') tn 0))):=hOfin
  have HcF:Hid (∀ o,Vo.cell? ⟨w.heap.size+1,o,none⟩=(Rnd.cells (iU (Rnd.iV (Rnd.cut (Rnd.iV ⟨some ⟨gq,0,none⟩,nQ,cQ1,q1,some ⟨gD,0,none⟩,nD1,cD1,dg,(tn:Int),false,some ⟨gS,0,none⟩,nS1,cS1,A1,L1,C1,z1⟩ tn (dg tn-z1 tn 0)) tn a' c') tn 0)))[o]?):=cF
  have HeVo:Hid (Vh.setRow (w.heap.size+1) (Rnd.cells (iU (Rnd.iV (Rnd.cut (Rnd.iV ⟨some ⟨gq,0,none⟩,nQ,cQ1,q1,some ⟨gD,0,none⟩,nD1,cD1,dg,(tn:Int),false,some ⟨gS,0,none⟩,nS1,cS1,A1,L1,C1,z1⟩ tn (dg tn-z1 tn 0)) tn a' c') tn 0)))=Vo):=eVo
  clear kOut ht cF hBfin hOfin hVo eVo
  go_wp2_with (first | refine mg rfl (.tmp 7) (.tmp 110) rfl gb rfl (iU (Rnd.iV (Rnd.cut (Rnd.iV ⟨some ⟨gq,0,none⟩,nQ,cQ1,q1,some ⟨gD,0,none⟩,nD1,cD1,dg,(tn:Int),false,some ⟨gS,0,none⟩,nS1,cS1,A1,L1,C1,z1⟩ tn (dg tn-z1 tn 0)) tn a' c') tn 0)).cells rfl (Rnd.cells (Rnd.iV (Rnd.cut (Rnd.iV ⟨some ⟨gq,0,none⟩,nQ,cQ1,q1,some ⟨gD,0,none⟩,nD1,cD1,dg,(tn:Int),false,some ⟨gS,0,none⟩,nS1,cS1,A1,L1,C1,z1⟩ tn (dg tn-z1 tn 0)) tn a' c') tn 0)) HKk.out rfl rfl (Rnd.nc _) (eVh▸?_) | refine mg rfl (.tmp 2) (.tmp 111) rfl (w.heap.size+1) rfl (Rnd.cells (iU (Rnd.iV (Rnd.cut (Rnd.iV ⟨some ⟨gq,0,none⟩,nQ,cQ1,q1,some ⟨gD,0,none⟩,nD1,cD1,dg,(tn:Int),false,some ⟨gS,0,none⟩,nS1,cS1,A1,L1,C1,z1⟩ tn (dg tn-z1 tn 0)) tn a' c') tn 0))) rfl ae HKo.out rfl rfl (Rnd.nc _) (HeVo.out▸?_))
  have cF:=HcF.out
  exact bodyPost_ret (v:=.tuple #[.agg (Rnd.cells (iU (Rnd.iV (Rnd.cut (Rnd.iV ⟨some ⟨gq,0,none⟩,nQ,cQ1,q1,some ⟨gD,0,none⟩,nD1,cD1,dg,(tn:Int),false,some ⟨gS,0,none⟩,nS1,cS1,A1,L1,C1,z1⟩ tn (dg tn-z1 tn 0)) tn a' c') tn 0))),.int .i64 (tn:Int),.int .i64 (z1 tn 0)]) (by simp [results,Tryz.results112,go_sem,cF,Rnd.cells]) rfl ⟨(iU (Rnd.iV (Rnd.cut (Rnd.iV ⟨some ⟨gq,0,none⟩,nQ,cQ1,q1,some ⟨gD,0,none⟩,nD1,cD1,dg,(tn:Int),false,some ⟨gS,0,none⟩,nS1,cS1,A1,L1,C1,z1⟩ tn (dg tn-z1 tn 0)) tn a' c') tn 0)),rfl,HOfin,HBfin,HA.trans (HR2.out▸zT HNc HN1 a' c'),HR4.cap⟩
 have hone2:¬ L1 tn-1=0:=by omega
 have HN1:Hid (L1 tn≠1):=hone
 clear hone
 have kOut:=EM HBf.out
 have ht:=jK Vf (w.heap.size+1) (Rnd.cells (Rnd.cut (Rnd.iV ⟨some ⟨gq,0,none⟩,nQ,cQ1,q1,some ⟨gD,0,none⟩,nD1,cD1,dg,(tn:Int),false,some ⟨gS,0,none⟩,nS1,cS1,A1,L1,C1,z1⟩ tn (dg tn-z1 tn 0)) tn a' c'))
 have cF:=ie (py kOut (cs:=Rnd.cells (Rnd.cut (Rnd.iV ⟨some ⟨gq,0,none⟩,nQ,cQ1,q1,some ⟨gD,0,none⟩,nD1,cD1,dg,(tn:Int),false,some ⟨gS,0,none⟩,nS1,cS1,A1,L1,C1,z1⟩ tn (dg tn-z1 tn 0)) tn a' c')))
 have hBfin:Below w.heap.size w (Vf.setRow (w.heap.size+1) (Rnd.cells (Rnd.cut (Rnd.iV ⟨some ⟨gq,0,none⟩,nQ,cQ1,q1,some ⟨gD,0,none⟩,nD1,cD1,dg,(tn:Int),false,some ⟨gS,0,none⟩,nS1,cS1,A1,L1,C1,z1⟩ tn (dg tn-z1 tn 0)) tn a' c'))):=(pw HBf.out).trans (ht.below (by have:=lh HBf.out;omega) (fun x hx=>by simp at hx;omega))
 have hOfin:=(HOf.kk ht (fun x hx=>by simp at hx;omega)).mono (show w.heap.size≤(w.heap.size+2) by omega)
 have HKo:Hid (Vf.heap[w.heap.size+1]?=some (.cells ae 45 (0,0))):=kOut
 obtain ⟨Vo,hVo⟩:∃ Vo,Vo=Vf.setRow (w.heap.size+1) (Rnd.cells (Rnd.cut (Rnd.iV ⟨some ⟨gq,0,none⟩,nQ,cQ1,q1,some ⟨gD,0,none⟩,nD1,cD1,dg,(tn:Int),false,some ⟨gS,0,none⟩,nS1,cS1,A1,L1,C1,z1⟩ tn (dg tn-z1 tn 0)) tn a' c')):=⟨_,rfl⟩
 have eVo:Vf.setRow (w.heap.size+1) (Rnd.cells (Rnd.cut (Rnd.iV ⟨some ⟨gq,0,none⟩,nQ,cQ1,q1,some ⟨gD,0,none⟩,nD1,cD1,dg,(tn:Int),false,some ⟨gS,0,none⟩,nS1,cS1,A1,L1,C1,z1⟩ tn (dg tn-z1 tn 0)) tn a' c'))=Vo:=hVo.symm
 rw [←hVo] at hBfin hOfin cF
 have HBfin:Hid (Below w.heap.size w Vo):=hBfin
 have HOfin:Hid (jy Vo w.heap.size (Rnd.cut (Rnd.iV ⟨some ⟨gq,0,none⟩,nQ,cQ1,q1,some ⟨gD,0,none⟩,nD1,cD1,dg,(tn:Int),false,some ⟨gS,0,none⟩,nS1,cS1,A1,L1,C1,z1⟩ tn (dg tn-z1 tn 0)) tn a' c')):=hOfin
 have HcF:Hid (∀ o,Vo.cell? ⟨w.heap.size+1,o,none⟩=(Rnd.cells (Rnd.cut (Rnd.iV ⟨some ⟨gq,0,none⟩,nQ,cQ1,q1,some ⟨gD,0,none⟩,nD1,cD1,dg,(tn:Int),false,some ⟨gS,0,none⟩,nS1,cS1,A1,L1,C1,z1⟩ tn (dg tn-z1 tn 0)) tn a' c'))[o]?):=cF
 have HeVo:Hid (Vf.setRow (w.heap.size+1) (Rnd.cells (Rnd.cut (Rnd.iV ⟨some ⟨gq,0,none⟩,nQ,cQ1,q1,some ⟨gD,0,none⟩,nD1,cD1,dg,(tn:Int),false,some ⟨gS,0,none⟩,nS1,cS1,A1,L1,C1,z1⟩ tn (dg tn-z1 tn 0)) tn a' c'))=Vo):=eVo
 clear kOut ht cF hBfin hOfin hVo eVo
 go_wp2_with (refine mg rfl (.tmp 2) (.tmp 111) rfl (w.heap.size+1) rfl (Rnd.cells (Rnd.cut (Rnd.iV ⟨some ⟨gq,0,none⟩,nQ,cQ1,q1,some ⟨gD,0,none⟩,nD1,cD1,dg,(tn:Int),false,some ⟨gS,0,none⟩,nS1,cS1,A1,L1,C1,z1⟩ tn (dg tn-z1 tn 0)) tn a' c')) rfl ae HKo.out rfl rfl (Rnd.nc _) (HeVo.out▸?_))
 have cF:=HcF.out
 exact bodyPost_ret (v:=.tuple #[.agg (Rnd.cells (Rnd.cut (Rnd.iV ⟨some ⟨gq,0,none⟩,nQ,cQ1,q1,some ⟨gD,0,none⟩,nD1,cD1,dg,(tn:Int),false,some ⟨gS,0,none⟩,nS1,cS1,A1,L1,C1,z1⟩ tn (dg tn-z1 tn 0)) tn a' c')),.int .i64 (tn:Int),.int .i64 (z1 tn 0)]) (by simp [results,Tryz.results112,go_sem,cF,Rnd.cells]) rfl ⟨(Rnd.cut (Rnd.iV ⟨some ⟨gq,0,none⟩,nQ,cQ1,q1,some ⟨gD,0,none⟩,nD1,cD1,dg,(tn:Int),false,some ⟨gS,0,none⟩,nS1,cS1,A1,L1,C1,z1⟩ tn (dg tn-z1 tn 0)) tn a' c'),rfl,HOfin,HBfin,HA.trans (HR2.out▸zu HNc HN1 a' c'),HCf⟩):p:=h
theorem Ho (h:p:=by
 have hLk:L1 tn≤1000:=(HO.c tn (by show tn<nQ;omega)).2.1.1
 have hCp:L1 tn≤C1 tn:=HR.cap tn (by show tn<nS1;omega)
 obtain ⟨qz,hqz,hq⟩:∃ qz,(if C1 tn=1 then some (⟨gz,0,none⟩:Addr) else some ⟨gz,1,none⟩)=some ⟨gz,qz,none⟩∧(qz=1∨L1 tn=1):=by
  by_cases hC:C1 tn=1
  ·
   exact ⟨0,by rw [if_pos hC],.inr (by omega)⟩
  exact ⟨1,by rw [if_neg hC],.inl rfl⟩
 have Hqz:Hid ((if C1 tn=1 then some (⟨gz,0,none⟩:Addr) else some ⟨gz,1,none⟩)=some ⟨gz,qz,none⟩):=hqz
 have hRe:=HRg.up ((Below.refl Wg.heap.size Wg).drew)
 have hBe:=HBg.drew
 obtain ⟨Ve,hVe⟩:∃ Ve,Ve=Wg.drew:=⟨_,rfl⟩
 rw [←hVe] at hRe hBe
 obtain ⟨hgD2,fde⟩:(w.heap.size+2)≤gD∧Ve.frozen? ⟨gD,tn,none⟩=false:=by
  rcases hRe.own.d with h0 | ⟨g,hg,h9,hr⟩
  ·
   have h3:nD1=0:=h0
   omega
  cases hg
  exact ⟨h9,hr.free tn⟩
 have cde:Ve.cell? ⟨gD,tn,none⟩=some (.int .i64 (dg tn)):=by
  obtain ⟨g,o,e,hc⟩:=hRe.own.rd.d tn (by show tn<nD1;omega)
  exact dk
 have hRx:=hRe.def (c:=tn) (show tn<nD1 by omega) (dg tn-z1 tn 0)
 have hBx:=hBe.trans (((Touch.refl [gD] Ve).set (g:=gD) (by simp) tn (.int .i64 (dg tn-z1 tn 0))).below (lh hBe) (fun x hx=>by simp at hx;subst hx;exact hgD2))
 obtain ⟨Vx,hVx⟩:∃ Vx,Vx=Ve.setCell ⟨gD,tn,none⟩ (.int .i64 (dg tn-z1 tn 0)):=⟨_,rfl⟩
 rw [←hVx] at hRx hBx
 have cge:=ie hRe.box
 have cgx:=ie hRx.box
 dsimp only [Rnd.cells,Rnd.iV] at cge cgx
 have hRy:=hRx.up ((Below.refl Vx.heap.size Vx).drew)
 have hBy:=hBx.drew
 obtain ⟨Vy,hVy⟩:∃ Vy,Vy=Vx.drew:=⟨_,rfl⟩
 rw [←hVy] at hRy hBy
 obtain ⟨a',c',Vz,hrun,hcut⟩:=hRy.cut (c:=tn) (gS:=gS) (gz:=gz) (show tn<nS1 by omega) Hz hLk (lh hBy) rfl HeA (C1 tn-1) qz hq
 dsimp only [Rnd.iV] at hrun
 have cgy:=ie hRy.box
 have cga:=ie ((((Below.refl Vy.heap.size Vy).alloc (Nat.le_refl _) (.cells #[] 2)).block _ (ig hRy.box)).trans hRy.box)
 have cgz:=ie hcut.box
 have cgf:=ie hcut.after
 dsimp only [Rnd.cells,Rnd.iV] at cgy cga cgz cgf
 have csy:Vy.cell? ⟨gS,tn,none⟩=some (.slice (some ⟨gz,0,none⟩) (L1 tn) (C1 tn)):=by
  obtain ⟨g,o,e,hc⟩:=hRy.own.rd.s tn (by show tn<nS1;omega)
  cases e
  rw [Nat.zero_add] at hc
  have hc2:Vy.cell? ⟨gS,tn,none⟩=some (.slice (A1 tn) (L1 tn) (C1 tn)):=hc
  rw [HeA.out] at hc2
  exact hc2
 have csa:(Vy.alloc (.cells #[] 2)).cell? ⟨gS,tn,none⟩=some (.slice (some ⟨gz,0,none⟩) (L1 tn) (C1 tn)):=by
  rw [←csy]
  exact ((Below.refl Vy.heap.size Vy).alloc (Nat.le_refl _) (.cells #[] 2)).cell (p:=⟨gS,tn,none⟩) (kQ csy)
 have csz:Vz.cell? ⟨gS,tn,none⟩=some (.slice (A1 tn) (L1 tn) (C1 tn)):=hcut.row.at tn (show tn<nS1 by omega)
 have fsz:=hcut.row.free tn
 obtain ⟨Vf,hVf⟩:∃ Vf,Vf=Vz.setCell ⟨gS,tn,none⟩ (.slice a' (L1 tn-1) c'):=⟨_,rfl⟩
 rw [←hVf] at cgf
 have csf:Vf.cell? ⟨gS,tn,none⟩=some (.slice a' (L1 tn-1) c'):=by
  obtain ⟨g,o,e,hc⟩:=hcut.own.rd.s tn (show tn<nS1 by omega)
  have e2:some (⟨gS,0,none⟩:Addr)=some ⟨g,o,none⟩:=e
  cases e2
  rw [Nat.zero_add] at hc
  have hc2:(Vz.setCell ⟨gS,tn,none⟩ (.slice a' (L1 tn-1) c')).cell? ⟨gS,tn,none⟩=some (.slice (if tn=tn then a' else A1 tn) (oY L1 tn (L1 tn-1) tn) (if tn=tn then c' else C1 tn)):=hc
  rw [if_pos rfl,if_pos rfl,jE] at hc2
  rw [hVf]
  exact hc2
 have hOf:=hcut.own
 have hBf:=hBy.trans hcut.below
 have HCf:Hid (∀ i,i<nS1→_):=hcut.capR HRg.cap
 have hRf:L1 tn=1→_:=fun h9=>hcut.rep h9 rfl HRg.cap
 dsimp only [Rnd.iV] at hOf hBf hRf
 rw [←hVf] at hOf hBf hRf
 have HOf:Hid (jy Vf (w.heap.size+2) (Rnd.cut (Rnd.iV ⟨some ⟨gq,0,none⟩,nQ,cQ1,q1,some ⟨gD,0,none⟩,nD1,cD1,dg,(tn:Int),false,some ⟨gS,0,none⟩,nS1,cS1,A1,L1,C1,z1⟩ tn (dg tn-z1 tn 0)) tn a' c')):=hOf
 have HBf:Hid (Below (w.heap.size+2) ((w.alloc (.cells #[.slice aQ nQ cQ,.slice aD nD cD,.int .i64 turn,.bool fresh,.slice aS j cS] 45)).alloc (.cells ae 45)) Vf):=hBf
 have HRf:Hid (L1 tn=1→Rep Vf (w.heap.size+2) gb gD (Rnd.cut (Rnd.iV ⟨some ⟨gq,0,none⟩,nQ,cQ1,q1,some ⟨gD,0,none⟩,nD1,cD1,dg,(tn:Int),false,some ⟨gS,0,none⟩,nS1,cS1,A1,L1,C1,z1⟩ tn (dg tn-z1 tn 0)) tn a' c') (Rnd.cut (Rnd.iV ⟨some ⟨gq,0,none⟩,nQ,cQ1,q1,some ⟨gD,0,none⟩,nD1,cD1,dg,(tn:Int),false,some ⟨gS,0,none⟩,nS1,cS1,A1,L1,C1,z1⟩ tn (dg tn-z1 tn 0)) tn a' c')):=hRf
 have HNc:Hid (Rnd.now ⟨some ⟨gq,0,none⟩,nQ,cQ1,q1,some ⟨gD,0,none⟩,nD1,cD1,dg,(tn:Int),false,some ⟨gS,0,none⟩,nS1,cS1,A1,L1,C1,z1⟩=tn):=HN.out
 clear hOf hBf hRf
 have HCut:Hid (Cut (Rnd.iV ⟨some ⟨gq,0,none⟩,nQ,cQ1,q1,some ⟨gD,0,none⟩,nD1,cD1,dg,(tn:Int),false,some ⟨gS,0,none⟩,nS1,cS1,A1,L1,C1,z1⟩ tn (dg tn-z1 tn 0)) (w.heap.size+2) gb gD Vy Vz tn gS a' c'):=hcut
 have eVx:Ve.setCell ⟨gD,tn,none⟩ (.int .i64 (dg tn-z1 tn 0))=Vx:=hVx.symm
 have eVf:Vz.setCell ⟨gS,tn,none⟩ (.slice a' (L1 tn-1) c')=Vf:=hVf.symm
 have HVe:Hid (Ve=Wg.drew):=hVe
 have HVy:Hid (Vy=Vx.drew):=hVy
 have HBy:Hid (Below (w.heap.size+2) ((w.alloc (.cells #[.slice aQ nQ cQ,.slice aD nD cD,.int .i64 turn,.bool fresh,.slice aS j cS] 45)).alloc (.cells ae 45)) Vy):=hBy
 clear hVe hVx hVy hVf hcut hRe hBe hRx hBx hRy hBy hgD2 hLk hCp hqz hq
 go_wp2_with fail
 refine wp_region_held_drew (S:=fun w'=>∀ o,w'.cell? ⟨gb,o,none⟩=(#[.slice (some ⟨gq,0,none⟩) nQ cQ1,.slice (some ⟨gD,0,none⟩) nD1 cD1,.int .i64 (tn:Int),.bool false,.slice (some ⟨gS,0,none⟩) nS1 cS1]:Array Value)[o]?) (by kernel_rfl) (by rw [←HVe.out];exact cge) (fun hHeld=>?_)
 rw [←HVe.out] at hHeld ⊢
 refine t0 ?_
 iterate 6 refine tN ?_
 refine tQ 8 83 ?_
 refine rq1 7 (fun K hK=>?_)
 go_simp
 refine ah (hK _ _ cge) ?_
 intro hHeld
 clear hK K
 refine tQ 9 84 ?_
 refine tQ 10 85 ?_
 refine rq1 11 (fun K hK=>?_)
 go_simp
 try rw [eVx]
 refine ah (hK _ _ cgx) ?_
 intro hHeld
 clear hK K
 refine dnq ?_
 clear hHeld cge cde fde cgx hw1 eVx cgg fgg csg czg cdg
 go_wp2_with fail
 refine wp_region_held_drew (S:=fun w'=>∀ o,w'.cell? ⟨gb,o,none⟩=(#[.slice (some ⟨gq,0,none⟩) nQ cQ1,.slice (some ⟨gD,0,none⟩) nD1 cD1,.int .i64 (tn:Int),.bool false,.slice (some ⟨gS,0,none⟩) nS1 cS1]:Array Value)[o]?) (by kernel_rfl) (by rw [←HVy.out];exact cgy) (fun hHeld=>?_)
 rw [←HVy.out] at hHeld ⊢
 refine t0 ?_
 iterate 2 refine tN ?_
 refine tQ 4 90 ?_
 refine tQ 5 91 ?_
 refine tQ 6 92 ?_
 refine tQ 7 93 ?_
 refine rq2 3 8 (fun K hK=>?_) (fun K hK=>?_)
 ·
  go_simp
  refine ah (hK _ _ cga) ?_
  intro hHeld
  clear hK K
  refine rq1 8 (fun K hK=>?_)
  go_simp
  refine ah (hK _ _ cga) ?_
  intro hHeld
  clear hK K
  refine tC 9 95 (v:=.slice (some ⟨gz,qz,none⟩) (L1 tn-1) (C1 tn-1)) ?_ ?_
  · exact dp
  try simp only [Act.put,PZ]
  exact Hn
 go_simp
 refine ah (hK _ _ cgy) ?_
 intro hHeld
 clear hK K
 refine tC 9 95 (v:=.slice (some ⟨gz,qz,none⟩) (L1 tn-1) (C1 tn-1)) ?_ ?_
 · exact dp
 try simp only [Act.put,PZ]
 refine rq1 3 (fun K hK=>?_)
 go_simp
 refine ah (hK _ _ cga) ?_
 intro hHeld
 clear hK K
 exact Hn):p:=h
theorem dj (h:p:=by
 try dsimp only [Act.put]
 go_roundw
 case rel =>
  obtain ⟨k2,rfl,hp2⟩:=HP.CY (by rw [HN.out];exact Hz.out) Hcmp.out
  rw [HG.out] at hp2
  exact ⟨k2,_,R2,hp2,HA,HOt,rfl,HL,HR2,HBn⟩
 have e1:=HR2.left (c0:=c0) Hc0 HO.d
 have e2:=HR.left (c0:=c0) Hc0 HO.d
 have e3:=zS HO (c:=c0) Hc0 (by rw [HN.out];exact Hz.out) Hcmp.out
 show ve nQ gb gD c0 _<ve nQ gb gD c0 wr
 have e4:ve nQ gb gD c0 wr=_:=e2
 rw [e4]
 rw [HG.out] at e3
 exact Nat.lt_of_le_of_lt (Nat.le_of_eq e1) e3):p:=h
theorem dk (h:p:=by
 cases e
 rw [Nat.zero_add] at hc
 exact hc):p:=h
theorem dm (h:p:=by
 rw [Hid,←HG.out]
 refine qA HOg (fun _=>?_)
 rw [jP]
 have h1:=Hcmp.out
 have h2:=Hzr.out
 rw [HN.out] at h1 ⊢
 omega):p:=h
theorem dn (h:p:=by
 rw [HeA.out] at hz9
 obtain ⟨g,o,e,hc⟩:=hz9 0 (by omega)
 cases e
 exact hc):p:=h
theorem dp (h:p:=by
 intro wx hSw
 have h9:=C5 gz qz (L1 tn) (C1 tn) wx Hz Hqz.out
 clear hSw
 go_simp
 first | done | exact Hqz.out):p:=h
set_option maxHeartbeats 9000000 in
theorem wS (R:Rnd) (w:World) (hs:R.Small) (h:mN w R) (ho:R.Ok) (c0:Nat) (hc0:c0<R.nQ) (hl0:R.L c0≠0) (k:Nat) (R':Rnd) (x:Nat) (s:Int) (hp:lu k R R' x s) :
  Calls Tryz.prog 112 #[.agg R.cells] w fun e w'=>∃ M,e=.returned (.tuple #[.agg M.cells,.int .i64 x,.int .i64 s])∧jy w' w.heap.size M∧Below w.heap.size w w'∧Alike R' M∧∀ i,i<M.nS→M.L i≤M.C i:=by
 obtain ⟨aQ,nQ,cQ,q,aD,nD,cD,d,turn,fresh,aS,nS,cS,A,L,C,z⟩:=R
 have HO:Hid (Rnd.Ok ⟨aQ,nQ,cQ,q,aD,nD,cD,d,turn,fresh,aS,nS,cS,A,L,C,z⟩):=ho
 have HSm:Hid (Rnd.Small ⟨aQ,nQ,cQ,q,aD,nD,cD,d,turn,fresh,aS,nS,cS,A,L,C,z⟩):=hs
 have HRd:Hid (mN w ⟨aQ,nQ,cQ,q,aD,nD,cD,d,turn,fresh,aS,nS,cS,A,L,C,z⟩):=h
 have HP:Hid (lu k ⟨aQ,nQ,cQ,q,aD,nD,cD,d,turn,fresh,aS,nS,cS,A,L,C,z⟩ R' x s):=hp
 have hsS:nS≤1048576:=hs.s
 have HnS:Hid (nS=nQ):=ho.s
 have HC0:Hid (c0<nQ∧L c0≠0):=⟨hc0,hl0⟩
 have HRow:Hid (iP w aS nS fun i=>.slice (A i) (L i) (C i)):=h.s
 have HLm:Hid (∀ i,i<nS→L i≤1048576):=hs.l
 have hB:Below (w.heap.size+2) ((w.alloc (.cells #[.slice aQ nQ cQ,.slice aD nD cD,.int .i64 turn,.bool fresh,.slice aS nS cS] 45)).alloc (.cells ae 45)) ((w.alloc (.cells #[.slice aQ nQ cQ,.slice aD nD cD,.int .i64 turn,.bool fresh,.slice aS nS cS] 45)).alloc (.cells ae 45)):=Below.refl _ _
 have cb:=Cu hB
 clear hs h ho hp hc0 hl0
 unfold Rnd.cells
 dsimp only
 go_enter Tryz.func112,Tryz.ntmps112
 go_wp2_with fail
 go_loop [5,6] (fun bv i=>∃ (j:Nat) (b:Bool),j≤nS∧i=.int .i64 j∧bv=.bool b∧(b=true↔∃ i,i<j∧L i≠0)) (fun _ i=>nS-(intOf i).toNat)
 case atStart=>exact ⟨0,false,Nat.zero_le _,rfl,rfl,by simp⟩
 obtain ⟨j,b,hj,rfl,rfl,hb⟩:=hrel
 have HBb:Hid (b=true↔∃ i,i<j∧L i≠0):=hb
 clear hb
 by_cases hlt:j<nS
 ·
  have hlt':(j:Int)<nS:=by omega
  obtain ⟨g,o,rfl,s1⟩:=(HRow.up (pw hB)) j hlt
  dsimp only at s1
  have hLj:=HLm j hlt
  cases b
  ·
   have HBn:Hid (decide (0<L j)=true↔∃ i,i<j+1∧L i≠0):=by
    rw [Hid,decide_eq_true_eq]
    constructor
    ·
     intro h0
     exact ⟨j,by omega,by omega⟩
    rintro ⟨i,hi,hl⟩
    by_cases e:i=j
    ·
     subst e;omega
    exact absurd (HBb.2 ⟨i,by omega,hl⟩) (by simp)
   clear HBb
   go_wp2_with fail
   go_round
   case rel=>exact ⟨j+1,_,by omega,by go_num,rfl,HBn.out⟩
   case measure=>simp [intOf];omega
  have HBn:Hid (true=true↔∃ i,i<j+1∧L i≠0):=by
   refine ⟨fun _=>?_,fun _=>rfl⟩
   obtain ⟨i,hi,hl⟩:=HBb.1 rfl
   exact ⟨i,by omega,hl⟩
  clear HBb
  go_wp2_with fail
  go_round
  case rel=>exact ⟨j+1,true,by omega,by go_num,rfl,HBn.out⟩
  case measure=>simp [intOf];omega
 obtain rfl:j=nS:=by omega
 obtain rfl:b=true:=HBb.2 ⟨c0,by have:=HC0.1;have:=HnS.out;omega,HC0.2⟩
 have hjj:¬ ((j:Nat):Int)<((j:Nat):Int):=by omega
 clear HBb
 go_wp2_with fail
 refine (lz ⟨aQ,nQ,cQ,q,aD,nD,cD,d,turn,fresh,aS,j,cS,A,L,C,z⟩ _ HSm (HRd.up (pw hB))).mono ?_
 rintro e w3 ⟨aq,cq,ad,cd,av,cv,A2,C2,rfl,hOw,hb⟩
 replace hB:=ri hB hb
 have hnq:nD=nQ:=HO.d
 have hn1:=HO.n
 have hdv:=hOw.own.d
 obtain ⟨gD,rfl⟩:∃ gD,ad=some ⟨gD,0,none⟩:=by
  rcases hdv with h0 | ⟨g,hg,_⟩
  ·
   have:nD=0:=h0
   dsimp only at hn1
   omega
  exact ⟨g,hg⟩
 have hB3:=hB
 have hA:=(Below.refl w3.heap.size w3).alloc (Nat.le_refl _) (.cells #[.slice aq nQ cq,.slice (some ⟨gD,0,none⟩) nD cd,.int .i64 turn,.bool fresh,.slice av j cv] 45)
 have kb:=im w3 (.cells #[.slice aq nQ cq,.slice (some ⟨gD,0,none⟩) nD cd,.int .i64 turn,.bool fresh,.slice av j cv] 45)
 have hOw2:=hOw.own.up hA
 replace hB:=ri hB hA
 have hcap:∀ i,i<j→L i≤C2 i:=fun i hi=>by
  rcases (hOw.z i hi).2 with ⟨e,h0⟩ | ⟨g,cap,cur,e,hg,hbk,hnc,_⟩
  ·
   have h0':L i=0:=h0
   omega
  injection e with e1 e2 e3
  have e3':C2 i=cap:=e3
  have hnc':L i≤cap:=hnc
  omega
 clear hb hA hOw hdv hnq hn1
 dsimp only [Rnd.cells,Rnd.cp2]
 go_wp2_with fail
 generalize w3.alloc (.cells #[.slice aq nQ cq,.slice (some ⟨gD,0,none⟩) nD cd,.int .i64 turn,.bool fresh,.slice av j cv] 45)=w4 at *
 have hgb:w.heap.size+2≤w3.heap.size:=by have:=lh hB3;omega
 clear hB3
 generalize w3.heap.size=gb at *
 have hbase:((w.alloc (.cells #[.slice aQ nQ cQ,.slice aD nD cD,.int .i64 turn,.bool fresh,.slice aS j cS] 45)).alloc (.cells ae 45)).heap.size=w.heap.size+2:=by simp
 have hrep:Rep w4 (w.heap.size+2) gb gD (Rnd.cp2 ⟨aQ,nQ,cQ,q,aD,nD,cD,d,turn,fresh,aS,j,cS,A,L,C,z⟩ aq cq (some ⟨gD,0,none⟩) cd av cv A2 C2) (Rnd.cp2 ⟨aQ,nQ,cQ,q,aD,nD,cD,d,turn,fresh,aS,j,cS,A,L,C,z⟩ aq cq (some ⟨gD,0,none⟩) cd av cv A2 C2):=⟨kb,hOw2.mono (by omega),Alike.refl _,rfl,hcap⟩
 obtain ⟨R2,hp2,ha2⟩:=HP.vN (B:=(Rnd.cp2 ⟨aQ,nQ,cQ,q,aD,nD,cD,d,turn,fresh,aS,j,cS,A,L,C,z⟩ aq cq (some ⟨gD,0,none⟩) cd av cv A2 C2)) ⟨rfl,rfl,rfl,rfl,rfl,rfl,rfl,rfl,rfl⟩
 have hok2:Rnd.Ok (Rnd.cp2 ⟨aQ,nQ,cQ,q,aD,nD,cD,d,turn,fresh,aS,j,cS,A,L,C,z⟩ aq cq (some ⟨gD,0,none⟩) cd av cv A2 C2):=⟨HO.n,HO.d,HO.s,HO.t,HO.c⟩
 have hst:∃ (k:Nat) (cur R2:Rnd),lu k cur R2 x s∧Alike R' R2∧cur.Ok∧cur.nQ=nQ∧cur.L c0≠0∧Rep w4 (w.heap.size+2) gb gD cur cur∧Below (w.heap.size+2) ((w.alloc (.cells #[.slice aQ nQ cQ,.slice aD nD cD,.int .i64 turn,.bool fresh,.slice aS j cS] 45)).alloc (.cells ae 45)) w4:=⟨k,_,R2,hp2,ha2,hok2,rfl,HC0.2,hrep,hB⟩
 have hc0n:=HC0.1
 have Hc0:Hid (c0<nQ):=hc0n
 have Hgb:Hid (w.heap.size+2≤gb):=hgb
 clear hcap hbase hrep hp2 ha2 R2 hok2 kb hOw2 hB HP HO HSm HRd HC0 HRow HLm HnS hc0n hgb
 go_loopw [8] (fun _ wr=>∃ (k:Nat) (cur R2:Rnd),lu k cur R2 x s∧Alike R' R2∧cur.Ok∧cur.nQ=nQ∧cur.L c0≠0∧Rep wr (w.heap.size+2) gb gD cur cur∧Below (w.heap.size+2) ((w.alloc (.cells #[.slice aQ nQ cQ,.slice aD nD cD,.int .i64 turn,.bool fresh,.slice aS j cS] 45)).alloc (.cells ae 45)) wr) (fun _ wr=>ve nQ gb gD c0 wr)
 case atStart=>exact hst
 obtain ⟨k1,cur,R2,hp,ha,hok,hn,hl,hrep,hBr⟩:=hrel
 obtain ⟨aQ1,nQ1,cQ1,q1,aD1,nD1,cD1,d1,t1,f1,aS1,nS1,cS1,A1,L1,C1,z1⟩:=cur
 obtain rfl:aD1=some ⟨gD,0,none⟩:=hrep.ad
 obtain ⟨gS,rfl⟩:∃ gS,aS1=some ⟨gS,0,none⟩:=by
  rcases hrep.own.s with h0 | ⟨g,hg,_⟩
  ·
   have h1:nS1=nQ1:=hok.s
   have h2:=hok.n.1
   have h3:nS1=0:=h0
   dsimp only at h2
   omega
  exact ⟨g,hg⟩
 obtain ⟨tn,rfl⟩:∃ tn:Nat,t1=(tn:Int):=⟨t1.toNat,by have h1:0≤t1:=hok.t.1;omega⟩
 obtain ⟨gq,rfl⟩:∃ gq,aQ1=some ⟨gq,0,none⟩:=by
  rcases hrep.own.q with h0 | ⟨g,hg,_⟩
  ·
   have h2:=hok.n.1
   have h3:nQ1=0:=h0
   dsimp only at h2
   omega
  exact ⟨g,hg⟩
 obtain rfl:nQ=nQ1:=hn.symm
 have htQ:(tn:Int)<nQ:=hok.t.2
 have htS:(tn:Int)<nS1:=by have h1:nS1=nQ:=hok.s;omega
 have htD:(tn:Int)<nD1:=by have h1:nD1=nQ:=hok.d;omega
 have cg:=ie hrep.box
 unfold Rnd.cells at cg
 dsimp only at cg
 have cs:wr.cell? ⟨gS,tn,none⟩=some (.slice (A1 tn) (L1 tn) (C1 tn)):=by
  obtain ⟨g,o,e,hc⟩:=hrep.own.rd.s tn (by show tn<nS1;omega)
  exact dk
 have hnow:Rnd.now ⟨some ⟨gq,0,none⟩,nQ,cQ1,q1,some ⟨gD,0,none⟩,nD1,cD1,d1,(tn:Int),f1,some ⟨gS,0,none⟩,nS1,cS1,A1,L1,C1,z1⟩=tn:=by show ((tn:Int)).toNat=tn;omega
 have HP:Hid (lu k1 ⟨some ⟨gq,0,none⟩,nQ,cQ1,q1,some ⟨gD,0,none⟩,nD1,cD1,d1,(tn:Int),f1,some ⟨gS,0,none⟩,nS1,cS1,A1,L1,C1,z1⟩ R2 x s):=hp
 have HA:Hid (Alike R' R2):=ha
 have HO:Hid (Rnd.Ok ⟨some ⟨gq,0,none⟩,nQ,cQ1,q1,some ⟨gD,0,none⟩,nD1,cD1,d1,(tn:Int),f1,some ⟨gS,0,none⟩,nS1,cS1,A1,L1,C1,z1⟩):=hok
 have HL:Hid (L1 c0≠0):=hl
 have HR:Hid (Rep wr (w.heap.size+2) gb gD ⟨some ⟨gq,0,none⟩,nQ,cQ1,q1,some ⟨gD,0,none⟩,nD1,cD1,d1,(tn:Int),f1,some ⟨gS,0,none⟩,nS1,cS1,A1,L1,C1,z1⟩ ⟨some ⟨gq,0,none⟩,nQ,cQ1,q1,some ⟨gD,0,none⟩,nD1,cD1,d1,(tn:Int),f1,some ⟨gS,0,none⟩,nS1,cS1,A1,L1,C1,z1⟩):=hrep
 have HN:Hid (Rnd.now ⟨some ⟨gq,0,none⟩,nQ,cQ1,q1,some ⟨gD,0,none⟩,nD1,cD1,d1,(tn:Int),f1,some ⟨gS,0,none⟩,nS1,cS1,A1,L1,C1,z1⟩=tn):=hnow
 have HBr:Hid (Below (w.heap.size+2) ((w.alloc (.cells #[.slice aQ nQ cQ,.slice aD nD cD,.int .i64 turn,.bool fresh,.slice aS j cS] 45)).alloc (.cells ae 45)) wr):=hBr
 clear hp ha hok hl hrep hnow hBr hst
 by_cases hL0:L1 tn=0
 ·
  have Hz:Hid (L1 tn=0):=hL0
  have HOt:Hid (Rnd.Ok (iU ⟨some ⟨gq,0,none⟩,nQ,cQ1,q1,some ⟨gD,0,none⟩,nD1,cD1,d1,(tn:Int),f1,some ⟨gS,0,none⟩,nS1,cS1,A1,L1,C1,z1⟩)):=qA HO (fun h9=>absurd (by rw [HN.out];exact Hz.out) h9)
  have HRx:=HR
  have HBx:=HBr
  go_wp2_with fail
  refine (qK ⟨some ⟨gq,0,none⟩,nQ,cQ1,q1,some ⟨gD,0,none⟩,nD1,cD1,d1,(tn:Int),f1,some ⟨gS,0,none⟩,nS1,cS1,A1,L1,C1,z1⟩ _ HO).mono ?_
  rintro e w' ⟨rfl,hb⟩
  clear hL0 cs cg
  have hup:=HRx.up hb
  have hr2:=hup.turn
  have hkk:=hup.box
  have hBn:Below (w.heap.size+2) ((w.alloc (.cells #[.slice aQ nQ cQ,.slice aD nD cD,.int .i64 turn,.bool fresh,.slice aS j cS] 45)).alloc (.cells ae 45)) (w'.setRow gb (iU ⟨some ⟨gq,0,none⟩,nQ,cQ1,q1,some ⟨gD,0,none⟩,nD1,cD1,d1,(tn:Int),f1,some ⟨gS,0,none⟩,nS1,cS1,A1,L1,C1,z1⟩).cells):=(ri HBx hb).trans ((jK w' gb (iU ⟨some ⟨gq,0,none⟩,nQ,cQ1,q1,some ⟨gD,0,none⟩,nD1,cD1,d1,(tn:Int),f1,some ⟨gS,0,none⟩,nS1,cS1,A1,L1,C1,z1⟩).cells).below (by have:=lh HBx.out;have:=hb.size;omega) (fun x hx=>by simp at hx;subst hx;exact Hgb.out))
  have HBn:Hid (Below (w.heap.size+2) ((w.alloc (.cells #[.slice aQ nQ cQ,.slice aD nD cD,.int .i64 turn,.bool fresh,.slice aS j cS] 45)).alloc (.cells ae 45)) (w'.setRow gb (iU ⟨some ⟨gq,0,none⟩,nQ,cQ1,q1,some ⟨gD,0,none⟩,nD1,cD1,d1,(tn:Int),f1,some ⟨gS,0,none⟩,nS1,cS1,A1,L1,C1,z1⟩).cells)):=hBn
  have HR2:Hid (Rep (w'.setRow gb (iU ⟨some ⟨gq,0,none⟩,nQ,cQ1,q1,some ⟨gD,0,none⟩,nD1,cD1,d1,(tn:Int),f1,some ⟨gS,0,none⟩,nS1,cS1,A1,L1,C1,z1⟩).cells) (w.heap.size+2) gb gD (iU ⟨some ⟨gq,0,none⟩,nQ,cQ1,q1,some ⟨gD,0,none⟩,nD1,cD1,d1,(tn:Int),f1,some ⟨gS,0,none⟩,nS1,cS1,A1,L1,C1,z1⟩) (iU ⟨some ⟨gq,0,none⟩,nQ,cQ1,q1,some ⟨gD,0,none⟩,nD1,cD1,d1,(tn:Int),f1,some ⟨gS,0,none⟩,nS1,cS1,A1,L1,C1,z1⟩)):=hr2
  have HKk:Hid (w'.heap[gb]?=some (.cells (Rnd.cells ⟨some ⟨gq,0,none⟩,nQ,cQ1,q1,some ⟨gD,0,none⟩,nD1,cD1,d1,(tn:Int),f1,some ⟨gS,0,none⟩,nS1,cS1,A1,L1,C1,z1⟩) 45 (0,0))):=hkk
  clear hup hr2 hkk hBn hb
  go_wp2_with (refine mg rfl (.tmp 7) (.tmp 40) rfl gb rfl (iU ⟨some ⟨gq,0,none⟩,nQ,cQ1,q1,some ⟨gD,0,none⟩,nD1,cD1,d1,(tn:Int),f1,some ⟨gS,0,none⟩,nS1,cS1,A1,L1,C1,z1⟩).cells rfl (Rnd.cells ⟨some ⟨gq,0,none⟩,nQ,cQ1,q1,some ⟨gD,0,none⟩,nD1,cD1,d1,(tn:Int),f1,some ⟨gS,0,none⟩,nS1,cS1,A1,L1,C1,z1⟩) HKk.out rfl rfl (Rnd.nc _) ?_)
  try dsimp only [Act.put]
  go_roundw
  case rel =>
   obtain ⟨k2,rfl,hp2⟩:=HP.ED (by rw [HN.out];exact Hz.out)
   exact ⟨k2,_,R2,hp2,HA,HOt,rfl,HL,HR2,HBn⟩
  have e1:=HR2.left (c0:=c0) Hc0 HO.d
  have e2:=HR.left (c0:=c0) Hc0 HO.d
  have e3:=Bq HO (c:=c0) Hc0 HL (by rw [HN.out];exact Hz.out)
  show ve nQ gb gD c0 _<ve nQ gb gD c0 wr
  have e4:ve nQ gb gD c0 wr=_:=e2
  rw [e4]
  exact Nat.lt_of_le_of_lt (Nat.le_of_eq e1) e3
 obtain ⟨gz,eA⟩:∃ gz,A1 tn=some ⟨gz,0,none⟩:=by
  rcases HR.own.z tn (by show tn<nS1;omega) with h0 | ⟨g,hg,_⟩
  ·
   exact absurd h0 hL0
  exact ⟨g,hg⟩
 have HeA:Hid (A1 tn=some ⟨gz,0,none⟩):=eA
 have Hz:Hid (L1 tn≠0):=hL0
 rw [eA] at cs
 have hL1:(0:Int)<(L1 tn:Int):=by omega
 have hL2:((L1 tn:Int) == 0)=false:=by simp;omega
 have hcl:=HO.c tn (by show tn<nQ;omega)
 have hzr:1≤z1 tn 0∧z1 tn 0≤5:=hcl.2.1.2 0 (by show 0<L1 tn;omega)
 have hqr:1≤q1 tn∧q1 tn≤10:=hcl.1
 have hdr:0≤d1 tn∧d1 tn<15:=by
  have h9:=hcl.2.2
  unfold ry at h9
  rw [if_neg (show ¬ L1 tn=0 from hL0)] at h9
  have h10:(if Rnd.begun ⟨some ⟨gq,0,none⟩,nQ,cQ1,q1,some ⟨gD,0,none⟩,nD1,cD1,d1,(tn:Int),f1,some ⟨gS,0,none⟩,nS1,cS1,A1,L1,C1,z1⟩ tn=true then q1 tn else 0)≤10:=by split <;> omega
  dsimp only at h9
  exact ⟨h9.1,by omega⟩
 have Hzr:Hid (1≤z1 tn 0∧z1 tn 0≤5):=hzr
 have HOg:Hid (Rnd.Ok (iJ ⟨some ⟨gq,0,none⟩,nQ,cQ1,q1,some ⟨gD,0,none⟩,nD1,cD1,d1,(tn:Int),f1,some ⟨gS,0,none⟩,nS1,cS1,A1,L1,C1,z1⟩)):=qh HO (by rw [HN.out];exact Hz.out)
 clear hcl hzr eA
 cases f1
 ·
  have HG:Hid (iJ ⟨some ⟨gq,0,none⟩,nQ,cQ1,q1,some ⟨gD,0,none⟩,nD1,cD1,d1,(tn:Int),false,some ⟨gS,0,none⟩,nS1,cS1,A1,L1,C1,z1⟩=⟨some ⟨gq,0,none⟩,nQ,cQ1,q1,some ⟨gD,0,none⟩,nD1,cD1,d1,(tn:Int),false,some ⟨gS,0,none⟩,nS1,cS1,A1,L1,C1,z1⟩):=rfl
  have hw1:IntKind.i64.wrap (d1 tn-z1 tn 0)=d1 tn-z1 tn 0:=ur _ (by have:=Hzr.out;omega) (by have:=Hzr.out;omega)
  clear hdr hqr hL0
  have HRg:=HR
  have HBg:=HBr
  have crg:=HRg.own.rd
  have cgg:=ie HRg.box
  have fgg:=ix HRg.box
  unfold Rnd.cells at cgg
  dsimp only at cgg
  have csg:wr.cell? ⟨gS,tn,none⟩=some (.slice (some ⟨gz,0,none⟩) (L1 tn) (C1 tn)):=by
   obtain ⟨g,o,e,hc⟩:=crg.s tn (by show tn<nS1;omega)
   cases e
   rw [Nat.zero_add] at hc
   have hc2:wr.cell? ⟨gS,tn,none⟩=some (.slice (A1 tn) (L1 tn) (C1 tn)):=hc
   rw [HeA.out] at hc2
   exact hc2
  have czg:wr.cell? ⟨gz,0,none⟩=some (.int .i64 (z1 tn 0)):=by
   have hz9:iP wr (A1 tn) (L1 tn) fun j=>.int .i64 (z1 tn j):=crg.z tn (by show tn<nS1;omega)
   exact dn
  have cdg:wr.cell? ⟨gD,tn,none⟩=some (.int .i64 (d1 tn)):=by
   obtain ⟨g,o,e,hc⟩:=crg.d tn (by show tn<nD1;omega)
   exact dk
  clear crg
  by_cases hcmp:d1 tn<z1 tn 0
  ·
   have Hcmp:Hid ((iJ ⟨some ⟨gq,0,none⟩,nQ,cQ1,q1,some ⟨gD,0,none⟩,nD1,cD1,d1,(tn:Int),false,some ⟨gS,0,none⟩,nS1,cS1,A1,L1,C1,z1⟩).d (Rnd.now ⟨some ⟨gq,0,none⟩,nQ,cQ1,q1,some ⟨gD,0,none⟩,nD1,cD1,d1,(tn:Int),false,some ⟨gS,0,none⟩,nS1,cS1,A1,L1,C1,z1⟩)<z1 (Rnd.now ⟨some ⟨gq,0,none⟩,nQ,cQ1,q1,some ⟨gD,0,none⟩,nD1,cD1,d1,(tn:Int),false,some ⟨gS,0,none⟩,nS1,cS1,A1,L1,C1,z1⟩) 0):=by
    rw [Hid,HG.out,HN.out]
    exact hcmp
   have HOt:Hid (Rnd.Ok (iU ⟨some ⟨gq,0,none⟩,nQ,cQ1,q1,some ⟨gD,0,none⟩,nD1,cD1,d1,(tn:Int),false,some ⟨gS,0,none⟩,nS1,cS1,A1,L1,C1,z1⟩)):=dm
   have HRx:=HRg
   have HBx:=HBg
   have HOc:Hid (Rnd.Ok ⟨some ⟨gq,0,none⟩,nQ,cQ1,q1,some ⟨gD,0,none⟩,nD1,cD1,d1,(tn:Int),false,some ⟨gS,0,none⟩,nS1,cS1,A1,L1,C1,z1⟩):=by rw [Hid,←HG.out];exact HOg.out
   go_wp2_with fail
   refine (qK ⟨some ⟨gq,0,none⟩,nQ,cQ1,q1,some ⟨gD,0,none⟩,nD1,cD1,d1,(tn:Int),false,some ⟨gS,0,none⟩,nS1,cS1,A1,L1,C1,z1⟩ _ HOc).mono ?_
   rintro e w' ⟨rfl,hb⟩
   clear hcmp csg czg cdg cgg fgg hw1
   have hup:=HRx.up hb
   have hr2:=hup.turn
   have hkk:=hup.box
   have hBn:Below (w.heap.size+2) ((w.alloc (.cells #[.slice aQ nQ cQ,.slice aD nD cD,.int .i64 turn,.bool fresh,.slice aS j cS] 45)).alloc (.cells ae 45)) (w'.setRow gb (iU ⟨some ⟨gq,0,none⟩,nQ,cQ1,q1,some ⟨gD,0,none⟩,nD1,cD1,d1,(tn:Int),false,some ⟨gS,0,none⟩,nS1,cS1,A1,L1,C1,z1⟩).cells):=(ri HBx hb).trans ((jK w' gb (iU ⟨some ⟨gq,0,none⟩,nQ,cQ1,q1,some ⟨gD,0,none⟩,nD1,cD1,d1,(tn:Int),false,some ⟨gS,0,none⟩,nS1,cS1,A1,L1,C1,z1⟩).cells).below (by have:=lh HBx.out;have:=hb.size;omega) (fun x hx=>by simp at hx;subst hx;exact Hgb.out))
   have HBn:Hid (Below (w.heap.size+2) ((w.alloc (.cells #[.slice aQ nQ cQ,.slice aD nD cD,.int .i64 turn,.bool fresh,.slice aS j cS] 45)).alloc (.cells ae 45)) (w'.setRow gb (iU ⟨some ⟨gq,0,none⟩,nQ,cQ1,q1,some ⟨gD,0,none⟩,nD1,cD1,d1,(tn:Int),false,some ⟨gS,0,none⟩,nS1,cS1,A1,L1,C1,z1⟩).cells)):=hBn
   have HR2:Hid (Rep (w'.setRow gb (iU ⟨some ⟨gq,0,none⟩,nQ,cQ1,q1,some ⟨gD,0,none⟩,nD1,cD1,d1,(tn:Int),false,some ⟨gS,0,none⟩,nS1,cS1,A1,L1,C1,z1⟩).cells) (w.heap.size+2) gb gD (iU ⟨some ⟨gq,0,none⟩,nQ,cQ1,q1,some ⟨gD,0,none⟩,nD1,cD1,d1,(tn:Int),false,some ⟨gS,0,none⟩,nS1,cS1,A1,L1,C1,z1⟩) (iU ⟨some ⟨gq,0,none⟩,nQ,cQ1,q1,some ⟨gD,0,none⟩,nD1,cD1,d1,(tn:Int),false,some ⟨gS,0,none⟩,nS1,cS1,A1,L1,C1,z1⟩)):=hr2
   have HKk:Hid (w'.heap[gb]?=some (.cells (Rnd.cells ⟨some ⟨gq,0,none⟩,nQ,cQ1,q1,some ⟨gD,0,none⟩,nD1,cD1,d1,(tn:Int),false,some ⟨gS,0,none⟩,nS1,cS1,A1,L1,C1,z1⟩) 45 (0,0))):=hkk
   clear hup hr2 hkk hBn hb
   go_wp2_with (refine mg rfl (.tmp 7) (.tmp 74) rfl gb rfl (iU ⟨some ⟨gq,0,none⟩,nQ,cQ1,q1,some ⟨gD,0,none⟩,nD1,cD1,d1,(tn:Int),false,some ⟨gS,0,none⟩,nS1,cS1,A1,L1,C1,z1⟩).cells rfl (Rnd.cells ⟨some ⟨gq,0,none⟩,nQ,cQ1,q1,some ⟨gD,0,none⟩,nD1,cD1,d1,(tn:Int),false,some ⟨gS,0,none⟩,nS1,cS1,A1,L1,C1,z1⟩) HKk.out rfl rfl (Rnd.nc _) ?_)
   exact dj
  have HX:Hid (R2=mT ⟨some ⟨gq,0,none⟩,nQ,cQ1,q1,some ⟨gD,0,none⟩,nD1,cD1,d1,(tn:Int),false,some ⟨gS,0,none⟩,nS1,cS1,A1,L1,C1,z1⟩∧x=tn∧s=z1 tn 0):=by
   have h9:=HP.AY (by rw [HN.out];exact Hz.out) (by
    rw [HG.out,HN.out]
    show z1 tn 0≤d1 tn
    omega)
   rw [HG.out,HN.out] at h9
   exact h9
  obtain ⟨hR2,hx9,rfl⟩:=HX.out
  have hx8:tn=x:=hx9.symm
  clear HX hx9
  subst hx8
  have HR2:Hid (R2=mT ⟨some ⟨gq,0,none⟩,nQ,cQ1,q1,some ⟨gD,0,none⟩,nD1,cD1,d1,(tn:Int),false,some ⟨gS,0,none⟩,nS1,cS1,A1,L1,C1,z1⟩):=hR2
  clear hR2 HP
  have Hcmp:Hid (z1 (Rnd.now ⟨some ⟨gq,0,none⟩,nQ,cQ1,q1,some ⟨gD,0,none⟩,nD1,cD1,d1,(tn:Int),false,some ⟨gS,0,none⟩,nS1,cS1,A1,L1,C1,z1⟩) 0≤(iJ ⟨some ⟨gq,0,none⟩,nQ,cQ1,q1,some ⟨gD,0,none⟩,nD1,cD1,d1,(tn:Int),false,some ⟨gS,0,none⟩,nS1,cS1,A1,L1,C1,z1⟩).d (Rnd.now ⟨some ⟨gq,0,none⟩,nQ,cQ1,q1,some ⟨gD,0,none⟩,nD1,cD1,d1,(tn:Int),false,some ⟨gS,0,none⟩,nS1,cS1,A1,L1,C1,z1⟩)):=by
   rw [Hid,HG.out,HN.out]
   show z1 tn 0≤d1 tn
   omega
  obtain ⟨dg,hdg⟩:∃ dg,dg=d1:=⟨_,rfl⟩
  obtain ⟨Wg,hWg⟩:∃ Wg,Wg=wr:=⟨_,rfl⟩
  subst hdg hWg
  exact Ho
 have hw0:IntKind.i64.wrap (d1 tn+q1 tn)=d1 tn+q1 tn:=ur _ (by omega) (by omega)
 obtain ⟨dg,hdg⟩:∃ dg,dg=qU d1 tn (d1 tn+q1 tn):=⟨_,rfl⟩
 have edg:dg tn=d1 tn+q1 tn:=by rw [hdg,mS]
 have hw1:IntKind.i64.wrap (dg tn-z1 tn 0)=dg tn-z1 tn 0:=ur _ (by have:=Hzr.out;omega) (by have:=Hzr.out;omega)
 have HG:Hid (iJ ⟨some ⟨gq,0,none⟩,nQ,cQ1,q1,some ⟨gD,0,none⟩,nD1,cD1,d1,(tn:Int),true,some ⟨gS,0,none⟩,nS1,cS1,A1,L1,C1,z1⟩=⟨some ⟨gq,0,none⟩,nQ,cQ1,q1,some ⟨gD,0,none⟩,nD1,cD1,dg,(tn:Int),false,some ⟨gS,0,none⟩,nS1,cS1,A1,L1,C1,z1⟩):=by
  rw [Hid,hdg]
  rfl
 have hRd:=HR.up ((Below.refl wr.heap.size wr).drew)
 have hBd:=HBr.drew
 obtain ⟨Wd,hWd⟩:∃ Wd,Wd=wr.drew:=⟨_,rfl⟩
 rw [←hWd] at hRd hBd
 have hgD2:(w.heap.size+2)≤gD:=by
  rcases hRd.own.d with h0 | ⟨g,hg,h9,_⟩
  ·
   have h3:nD1=0:=h0
   omega
  cases hg
  exact h9
 have hsz:(w.heap.size+2)≤Wd.heap.size:=lh hBd
 have hRx:=hRd.def (c:=tn) (show tn<nD1 by omega) (d1 tn+q1 tn)
 have hBx:=hBd.trans (((Touch.refl [gD] Wd).set (g:=gD) (by simp) tn (.int .i64 (d1 tn+q1 tn))).below hsz (fun x hx=>by simp at hx;subst hx;exact hgD2))
 have crd:=hRd.own.rd
 have crx:=hRx.own.rd
 obtain ⟨Wx,hWx⟩:∃ Wx,Wx=Wd.setCell ⟨gD,tn,none⟩ (.int .i64 (d1 tn+q1 tn)):=⟨_,rfl⟩
 rw [←hWx] at hRx hBx crx
 have hRg:=hRx.begun
 have hBg:=hBx.trans (((Touch.refl [gb] Wx).set (g:=gb) (by simp) 3 (.bool false)).below (lh hBx) (fun x hx=>by simp at hx;subst hx;exact Hgb.out))
 obtain ⟨Wg,hWg⟩:∃ Wg,Wg=Wx.setCell ⟨gb,3,none⟩ (.bool false):=⟨_,rfl⟩
 rw [←hWg] at hRg hBg
 unfold Rnd.iV at hRx hRg crx
 dsimp only at hRx hRg crx
 rw [←hdg] at hRx hRg crx
 have HRg:Hid (Rep Wg (w.heap.size+2) gb gD ⟨some ⟨gq,0,none⟩,nQ,cQ1,q1,some ⟨gD,0,none⟩,nD1,cD1,dg,(tn:Int),false,some ⟨gS,0,none⟩,nS1,cS1,A1,L1,C1,z1⟩ ⟨some ⟨gq,0,none⟩,nQ,cQ1,q1,some ⟨gD,0,none⟩,nD1,cD1,dg,(tn:Int),false,some ⟨gS,0,none⟩,nS1,cS1,A1,L1,C1,z1⟩):=hRg
 have HBg:Hid (Below (w.heap.size+2) ((w.alloc (.cells #[.slice aQ nQ cQ,.slice aD nD cD,.int .i64 turn,.bool fresh,.slice aS j cS] 45)).alloc (.cells ae 45)) Wg):=hBg
 have cgd:=ie hRd.box
 have cgx:=ie hRx.box
 have fgx:=ix hRx.box
 unfold Rnd.cells at cgd cgx
 dsimp only at cgd cgx
 have cqd:Wd.cell? ⟨gq,tn,none⟩=some (.int .i64 (q1 tn)):=by
  obtain ⟨g,o,e,hc⟩:=crd.q tn (by show tn<nQ;omega)
  exact dk
 have cqx:Wx.cell? ⟨gq,tn,none⟩=some (.int .i64 (q1 tn)):=by
  obtain ⟨g,o,e,hc⟩:=crx.q tn (by show tn<nQ;omega)
  exact dk
 have cdd:Wd.cell? ⟨gD,tn,none⟩=some (.int .i64 (d1 tn)):=by
  obtain ⟨g,o,e,hc⟩:=crd.d tn (by show tn<nD1;omega)
  exact dk
 have fdd:Wd.frozen? ⟨gD,tn,none⟩=false:=by
  rcases hRd.own.d with h0 | ⟨g,hg,h9,hr⟩
  ·
   have h3:nD1=0:=h0
   omega
  cases hg
  exact hr.free tn
 have eWx:Wd.setCell ⟨gD,tn,none⟩ (.int .i64 (d1 tn+q1 tn))=Wx:=hWx.symm
 have eWg:Wx.setCell ⟨gb,3,none⟩ (.bool false)=Wg:=hWg.symm
 have Hdg:Hid (dg=qU d1 tn (d1 tn+q1 tn)):=hdg
 have HWd:Hid (Wd=wr.drew):=hWd
 clear hRd hBd hgD2 hsz hRx hBx hRg hBg crd crx hWx hWg hdg edg hdr hqr hL0 hWd
 go_wp2_with fail
 refine wp_region_held_drew (S:=fun w'=>(∀ o,w'.cell? ⟨gb,o,none⟩=(#[.slice (some ⟨gq,0,none⟩) nQ cQ1,.slice (some ⟨gD,0,none⟩) nD1 cD1,.int .i64 (tn:Int),.bool true,.slice (some ⟨gS,0,none⟩) nS1 cS1]:Array Value)[o]?)∧w'.cell? ⟨gq,tn,none⟩=some (.int .i64 (q1 tn))) (by kernel_rfl) (by rw [←HWd.out];exact ⟨cgd,cqd⟩) (fun hHeld=>?_)
 rw [←HWd.out] at hHeld ⊢
 refine t0 ?_
 iterate 6 refine tN ?_
 refine tQ 8 51 ?_
 refine tQ 9 52 ?_
 refine tQ 10 53 ?_
 refine tQ 11 54 ?_
 refine tQ 12 55 ?_
 refine rq1 7 (fun K hK=>?_)
 go_simp
 refine ah (hK _ _ ⟨cgd,cqd⟩) ?_
 intro hHeld
 clear hK K
 refine tQ 13 56 ?_
 refine tQ 14 57 ?_
 refine rq1 15 (fun K hK=>?_)
 go_simp
 try rw [eWx]
 refine ah (hK _ _ ⟨cgx,cqx⟩) ?_
 intro hHeld
 clear hK K
 refine dnq ?_
 clear hHeld cgd cqd cdd fdd cqx hw0 cg cs
 have crg:=HRg.own.rd
 have cgg:=ie HRg.box
 have fgg:=ix HRg.box
 unfold Rnd.cells at cgg
 dsimp only at cgg
 have csg:Wg.cell? ⟨gS,tn,none⟩=some (.slice (some ⟨gz,0,none⟩) (L1 tn) (C1 tn)):=by
  obtain ⟨g,o,e,hc⟩:=crg.s tn (by show tn<nS1;omega)
  cases e
  rw [Nat.zero_add] at hc
  have hc2:Wg.cell? ⟨gS,tn,none⟩=some (.slice (A1 tn) (L1 tn) (C1 tn)):=hc
  rw [HeA.out] at hc2
  exact hc2
 have czg:Wg.cell? ⟨gz,0,none⟩=some (.int .i64 (z1 tn 0)):=by
  have hz9:iP Wg (A1 tn) (L1 tn) fun j=>.int .i64 (z1 tn j):=crg.z tn (by show tn<nS1;omega)
  exact dn
 have cdg:Wg.cell? ⟨gD,tn,none⟩=some (.int .i64 (dg tn)):=by
  obtain ⟨g,o,e,hc⟩:=crg.d tn (by show tn<nD1;omega)
  exact dk
 clear crg
 by_cases hcmp:dg tn<z1 tn 0
 ·
  have Hcmp:Hid ((iJ ⟨some ⟨gq,0,none⟩,nQ,cQ1,q1,some ⟨gD,0,none⟩,nD1,cD1,d1,(tn:Int),true,some ⟨gS,0,none⟩,nS1,cS1,A1,L1,C1,z1⟩).d (Rnd.now ⟨some ⟨gq,0,none⟩,nQ,cQ1,q1,some ⟨gD,0,none⟩,nD1,cD1,d1,(tn:Int),true,some ⟨gS,0,none⟩,nS1,cS1,A1,L1,C1,z1⟩)<z1 (Rnd.now ⟨some ⟨gq,0,none⟩,nQ,cQ1,q1,some ⟨gD,0,none⟩,nD1,cD1,d1,(tn:Int),true,some ⟨gS,0,none⟩,nS1,cS1,A1,L1,C1,z1⟩) 0):=by
   rw [Hid,HG.out,HN.out]
   exact hcmp
  have HOt:Hid (Rnd.Ok (iU ⟨some ⟨gq,0,none⟩,nQ,cQ1,q1,some ⟨gD,0,none⟩,nD1,cD1,dg,(tn:Int),false,some ⟨gS,0,none⟩,nS1,cS1,A1,L1,C1,z1⟩)):=dm
  have HRx:=HRg
  have HBx:=HBg
  have HOc:Hid (Rnd.Ok ⟨some ⟨gq,0,none⟩,nQ,cQ1,q1,some ⟨gD,0,none⟩,nD1,cD1,dg,(tn:Int),false,some ⟨gS,0,none⟩,nS1,cS1,A1,L1,C1,z1⟩):=by rw [Hid,←HG.out];exact HOg.out
  go_wp2_with fail
  refine (qK ⟨some ⟨gq,0,none⟩,nQ,cQ1,q1,some ⟨gD,0,none⟩,nD1,cD1,dg,(tn:Int),false,some ⟨gS,0,none⟩,nS1,cS1,A1,L1,C1,z1⟩ _ HOc).mono ?_
  rintro e w' ⟨rfl,hb⟩
  clear hcmp csg czg cdg cgg fgg hw1
  have hup:=HRx.up hb
  have hr2:=hup.turn
  have hkk:=hup.box
  have hBn:Below (w.heap.size+2) ((w.alloc (.cells #[.slice aQ nQ cQ,.slice aD nD cD,.int .i64 turn,.bool fresh,.slice aS j cS] 45)).alloc (.cells ae 45)) (w'.setRow gb (iU ⟨some ⟨gq,0,none⟩,nQ,cQ1,q1,some ⟨gD,0,none⟩,nD1,cD1,dg,(tn:Int),false,some ⟨gS,0,none⟩,nS1,cS1,A1,L1,C1,z1⟩).cells):=(ri HBx hb).trans ((jK w' gb (iU ⟨some ⟨gq,0,none⟩,nQ,cQ1,q1,some ⟨gD,0,none⟩,nD1,cD1,dg,(tn:Int),false,some ⟨gS,0,none⟩,nS1,cS1,A1,L1,C1,z1⟩).cells).below (by have:=lh HBx.out;have:=hb.size;omega) (fun x hx=>by simp at hx;subst hx;exact Hgb.out))
  have HBn:Hid (Below (w.heap.size+2) ((w.alloc (.cells #[.slice aQ nQ cQ,.slice aD nD cD,.int .i64 turn,.bool fresh,.slice aS j cS] 45)).alloc (.cells ae 45)) (w'.setRow gb (iU ⟨some ⟨gq,0,none⟩,nQ,cQ1,q1,some ⟨gD,0,none⟩,nD1,cD1,dg,(tn:Int),false,some ⟨gS,0,none⟩,nS1,cS1,A1,L1,C1,z1⟩).cells)):=hBn
  have HR2:Hid (Rep (w'.setRow gb (iU ⟨some ⟨gq,0,none⟩,nQ,cQ1,q1,some ⟨gD,0,none⟩,nD1,cD1,dg,(tn:Int),false,some ⟨gS,0,none⟩,nS1,cS1,A1,L1,C1,z1⟩).cells) (w.heap.size+2) gb gD (iU ⟨some ⟨gq,0,none⟩,nQ,cQ1,q1,some ⟨gD,0,none⟩,nD1,cD1,dg,(tn:Int),false,some ⟨gS,0,none⟩,nS1,cS1,A1,L1,C1,z1⟩) (iU ⟨some ⟨gq,0,none⟩,nQ,cQ1,q1,some ⟨gD,0,none⟩,nD1,cD1,dg,(tn:Int),false,some ⟨gS,0,none⟩,nS1,cS1,A1,L1,C1,z1⟩)):=hr2
  have HKk:Hid (w'.heap[gb]?=some (.cells (Rnd.cells ⟨some ⟨gq,0,none⟩,nQ,cQ1,q1,some ⟨gD,0,none⟩,nD1,cD1,dg,(tn:Int),false,some ⟨gS,0,none⟩,nS1,cS1,A1,L1,C1,z1⟩) 45 (0,0))):=hkk
  clear hup hr2 hkk hBn hb
  go_wp2_with (refine mg rfl (.tmp 7) (.tmp 74) rfl gb rfl (iU ⟨some ⟨gq,0,none⟩,nQ,cQ1,q1,some ⟨gD,0,none⟩,nD1,cD1,dg,(tn:Int),false,some ⟨gS,0,none⟩,nS1,cS1,A1,L1,C1,z1⟩).cells rfl (Rnd.cells ⟨some ⟨gq,0,none⟩,nQ,cQ1,q1,some ⟨gD,0,none⟩,nD1,cD1,dg,(tn:Int),false,some ⟨gS,0,none⟩,nS1,cS1,A1,L1,C1,z1⟩) HKk.out rfl rfl (Rnd.nc _) ?_)
  exact dj
 have HX:Hid (R2=mT ⟨some ⟨gq,0,none⟩,nQ,cQ1,q1,some ⟨gD,0,none⟩,nD1,cD1,dg,(tn:Int),false,some ⟨gS,0,none⟩,nS1,cS1,A1,L1,C1,z1⟩∧x=tn∧s=z1 tn 0):=by
  have h9:=HP.AY (by rw [HN.out];exact Hz.out) (by
   rw [HG.out,HN.out]
   show z1 tn 0≤dg tn
   omega)
  rw [HG.out,HN.out] at h9
  exact h9
 obtain ⟨hR2,hx9,rfl⟩:=HX.out
 have hx8:tn=x:=hx9.symm
 clear HX hx9
 subst hx8
 have HR2:Hid (R2=mT ⟨some ⟨gq,0,none⟩,nQ,cQ1,q1,some ⟨gD,0,none⟩,nD1,cD1,dg,(tn:Int),false,some ⟨gS,0,none⟩,nS1,cS1,A1,L1,C1,z1⟩):=hR2
 clear hR2 HP
 have Hcmp:Hid (z1 (Rnd.now ⟨some ⟨gq,0,none⟩,nQ,cQ1,q1,some ⟨gD,0,none⟩,nD1,cD1,d1,(tn:Int),true,some ⟨gS,0,none⟩,nS1,cS1,A1,L1,C1,z1⟩) 0≤(iJ ⟨some ⟨gq,0,none⟩,nQ,cQ1,q1,some ⟨gD,0,none⟩,nD1,cD1,d1,(tn:Int),true,some ⟨gS,0,none⟩,nS1,cS1,A1,L1,C1,z1⟩).d (Rnd.now ⟨some ⟨gq,0,none⟩,nQ,cQ1,q1,some ⟨gD,0,none⟩,nD1,cD1,d1,(tn:Int),true,some ⟨gS,0,none⟩,nS1,cS1,A1,L1,C1,z1⟩)):=by
  rw [Hid,HG.out,HN.out]
  show z1 tn 0≤dg tn
  omega
 exact Ho
