import Derived.Test.YtfcfpkibceepgaaGreatS20
namespace Go.Proofs.YtfcfpkibceepgaaGreat
set_option maxRecDepth 100000
set_option maxHeartbeats 8000000
open Go.RowKit
set_option linter.unusedVariables false
set_option linter.unusedSimpArgs false
theorem dm {p:Prop} (h:p:=by
 have eQ:((X.gw c (X.d c-X.z c 0))).aQ=some ⟨gq,oq,none⟩:=HQ.out
 have eF:((X.gw c (X.d c-X.z c 0))).fresh=false:=HF.out
 have eT:((X.gw c (X.d c-X.z c 0))).turn=(c:Int):=HTu.out
 rw [←eQ,←eF,←eT]
 exact h9):p:=h
theorem dn {p:Prop} (h:p:=by
 have HAl:Hid (Alike (jG X) (gv (((X.gw c (X.d c-X.z c 0)).cut c (some ⟨gz,o',none⟩) (X.C c-1)).gw c 0))):=qE HNo.out h1 _ _
 clear h1
 go_wp2_with fail
 refine (nt _ base top gb gD gS _ HR4.out hn.2 HOk.out.t).mono ?_
 rintro e V5 ⟨⟨v,rfl⟩,hR5,hT5⟩
 go_wp2_with fail
 go_ret2
 exact ⟨.inr ⟨hsh',rfl,_,HAl.out,hR5⟩,HT4.out.trans (hT5.mono (fun x hx=>by simp at hx;simp [hx]))⟩):p:=h
theorem dp {p:Prop} (h:p:=by
 rw [←eV1]
 have kf:∀ o,(V0.setCell ⟨gD,c,none⟩ (.int .i64 (X0.d c+X0.q c))).cell? ⟨gb.g,o,none⟩=V0.cell? ⟨gb.g,o,none⟩:=fun o=>World.cell?_setCell_far _ _ _ _ (fun e=>hne.1 e.symm)
 exact ⟨(kf _).trans cb0.1,(kf _).trans cb0.2.1,(kf _).trans cb0.2.2.1,(kf _).trans cb0.2.2.2.1,(kf _).trans cb0.2.2.2.2⟩):p:=h
theorem dq {p:Prop} (h:p:=by
 have h1':(((X.L c-1:Nat):Int) == 0)=false:=by simp;have:=HL.out;omega
 have HAl:Hid (Alike (jG X) ((X.gw c (X.d c-X.z c 0)).cut c (some ⟨gz,o',none⟩) (X.C c-1))):=qn HNo.out h1 _ _
 clear h1
 go_wp2_with fail
 go_ret2
 exact ⟨.inr ⟨hsh',rfl,_,HAl.out,HR3.out⟩,HT3.out⟩):p:=h
theorem dt {p:Prop} (h:p:=by
 rw [HR3.out.cs hcq]
 show some (Value.slice (if c=c then _ else X.A c) (jT X.L c (X.L c-1) c) (if c=c then _ else X.C c))=_
 rw [if_pos rfl,if_pos rfl,iH]):p:=h
theorem du {p:Prop} (h:p:=by
 rw [HV.out.cs hcq]
 show some (Value.slice (X.A c) (X.L c) (X.C c))=_
 rw [HA.out]):p:=h
theorem iy.cq {w:World} {base top:Nat} {gb:oN} {gD gS:Nat} {X:Rnd} (h:iy w base top gb gD gS X) {c:Nat} (hc:c<X.nQ):∃ g o,X.aQ=some ⟨g,o,none⟩∧w.cell? ⟨g,o+c,none⟩=some (.int .i64 (X.q c)):=h.own.rd.q c hc
theorem iy.cz {w:World} {base top:Nat} {gb:oN} {gD gS:Nat} {X:Rnd} (h:iy w base top gb gD gS X) {c:Nat} (hc:c<X.nQ) {gz oz:Nat} (hA:X.A c=some ⟨gz,oz,none⟩) (hL:X.L c≠0):w.cell? ⟨gz,oz,none⟩=some (.int .i64 (X.z c 0)):=by
 have:=h.pos
 obtain ⟨g,o,e,hz⟩:=h.own.rd.z c (by omega) 0 (by omega)
 rw [hA] at e
 cases e
 exact hz
theorem iy.az {w:World} {base top:Nat} {gb:oN} {gD gS:Nat} {X:Rnd} (h:iy w base top gb gD gS X) {c:Nat} (hc:c<X.nQ) (hL:X.L c≠0):∃ gz oz,X.A c=some ⟨gz,oz,none⟩:=by
 have:=h.pos
 obtain ⟨g,o,e,hz⟩:=h.own.rd.z c (by omega) 0 (by omega)
 exact ⟨g,o,e⟩
theorem nc (gz oz o' L C:Nat) (w:World) (hL:L≠0) (ho:o'=if C=1 then oz else oz+1) :
  (Instr.slice 25 (.slice (some ⟨gz,oz,none⟩) L C) (some (.int .i64 1)) none none).run Tryz.prog w=.ok (.slice (some ⟨gz,o',none⟩) (L-1) (C-1)) w:=by
 have h1:(1:Int)≤(L:Int):=by omega
 subst ho
 by_cases hC:C=1
 ·
  simp [go_sem,h1,hC]
 simp [go_sem,h1,hC]
theorem vf (X:Rnd) (base top:Nat) (gb:oN) (gD gS c:Nat) (w:World) (h:iy w base top gb gD gS X) (hc:c<X.nQ) (hn:X.nQ≤4) (hL:X.L c=0) :
  Calls Tryz.prog 151 #[.pointer (some ⟨gb.g,gb.o,none⟩),.int .i64 (c:Int)] w fun e w'=>e=.returned (.tuple #[.int .i64 0,.bool false])∧w=w':=by
 have cb:=h.cb
 have cs:=h.cs hc
 rw [hL] at cs
 have hc':(c:Int)<X.nQ:=by omega
 clear hL h
 go_enter Tryz.func151,Tryz.ntmps151
 go_wp2_with fail
 go_ret2
 exact ⟨rfl,rfl⟩
def nz (X:Rnd) (base top:Nat) (gb:oN) (gD gS c:Nat) (w:World) (e:Ending) (w':World):Prop :=
 ((fS X).d c<X.z c 0∧e=.returned (.tuple #[.int .i64 0,.bool false])∧iy w' base top gb gD gS (fS X) ∨
  X.z c 0≤(fS X).d c∧e=.returned (.tuple #[.int .i64 (X.z c 0),.bool true])∧∃ X',Alike (jG (fS X)) X'∧iy w' base top gb gD gS X')∧Touch [gb.g,gD,gS] w w'
theorem xr (X:Rnd) (base top:Nat) (gb:oN) (gD gS c:Nat) (w:World) (h:iy w base top gb gD gS X) (hok:X.Ok) (hc:X.now=c) (ht:X.turn=(c:Int)) (hL:X.L c≠0) (hf:X.fresh=false) :
  Calls Tryz.prog 151 #[.pointer (some ⟨gb.g,gb.o,none⟩),.int .i64 (c:Int)] w (nz X base top gb gD gS c w):=by
 have hg:fS X=X:=by unfold fS;rw [if_neg (by rw [hf];simp)]
 have hcq:c<X.nQ:=by rw [←hc];exact hok.lM
 have HC:=hok.c c hcq
 have hn:=hok.n
 unfold nz
 rw [hg]
 obtain ⟨gz,oz,hA⟩:=h.az hcq hL
 obtain ⟨gq,oq,hQ,cq⟩:=h.cq hcq
 have HR:Hid (iy w base top gb gD gS X):=h
 have cb:=h.cb
 have cs:=h.cs hcq
 have cd:=h.cd hcq
 have cz:=h.cz hcq hA hL
 have fd:=h.Ao.1.free c
 rw [hA] at cs
 rw [hQ,hf,ht] at cb
 have hc':(c:Int)<X.nQ:=by omega
 have hLn:((X.L c:Int) == 0)=false:=by simp;exact hL
 have hLp:(0:Int)<X.L c:=by omega
 have hsz:=HC.2.1.2 0 (by omega)
 have hdd:=HC.2.2
 unfold n7 at hdd
 rw [if_neg hL] at hdd
 have hd0:0≤X.d c:=hdd.1
 have hd1:X.d c≤20:=by
  have h1:=hdd.2
  have h2:=HC.1.2
  split at h1 <;> omega
 have HL:Hid (X.L c≠0):=hL
 have HOk:Hid X.Ok:=hok
 have HA:Hid (X.A c=some ⟨gz,oz,none⟩):=hA
 have HF:Hid (X.fresh=false):=hf
 have HTu:Hid (X.turn=(c:Int)):=ht
 have HNo:Hid (X.now=c):=hc
 have HQ:Hid (X.aQ=some ⟨gq,oq,none⟩):=hQ
 clear hdd HC hok hL hA hf ht hc hQ h hg
 by_cases hsh:X.d c<X.z c 0
 ·
  go_enter Tryz.func151,Tryz.ntmps151
  go_wp2_with fail
  go_ret2
  exact ⟨.inl ⟨hsh,rfl,HR.out⟩,Touch.refl _ _⟩
 have hsh':X.z c 0≤X.d c:=by omega
 have hwr:IntKind.i64.wrap (X.d c-X.z c 0)=X.d c-X.z c 0:=nB _ (by omega) (by omega)
 obtain ⟨W2,eW2⟩:∃ W2,w.setCell ⟨gD,c,none⟩ (.int .i64 (X.d c-X.z c 0))=W2:=⟨_,rfl⟩
 have HR2:Hid (iy W2 base top gb gD gS (X.gw c (X.d c-X.z c 0))):=by rw [Hid,←eW2];exact HR.out.def hcq _
 have HT2:Hid (Touch [gb.g,gD,gS] w W2):=by rw [Hid,←eW2];exact (Touch.refl _ _).set (by simp) c _
 have HV:Hid (iy W2.drew base top gb gD gS (X.gw c (X.d c-X.z c 0))):=HR2.out.up ((Below.refl _ _).drew)
 have HTV:Hid (Touch [gb.g,gD,gS] w W2.drew):=HT2.out.trans (Touch.gY ((Below.refl _ _).drew))
 have cbV:(W2.drew.cell? ⟨gb.g,gb.o,none⟩=some (.slice (some ⟨gq,oq,none⟩) X.nQ X.cQ)∧W2.drew.cell? ⟨gb.g,gb.o+1,none⟩=some (.slice (some ⟨gD,0,none⟩) X.nQ X.cD)∧W2.drew.cell? ⟨gb.g,gb.o+2,none⟩=some (.int .i64 (c:Int))∧W2.drew.cell? ⟨gb.g,gb.o+3,none⟩=some (.bool false)∧W2.drew.cell? ⟨gb.g,gb.o+4,none⟩=some (.slice (some ⟨gS,0,none⟩) X.nQ X.cS)):=by
  have h9:=HV.out.cb
  exact dm
 have csV:W2.drew.cell? ⟨gS,c,none⟩=some (.slice (some ⟨gz,oz,none⟩) (X.L c) (X.C c)):=du
 have fsV:=HV.out.BN.1.free c
 obtain ⟨o',ho'⟩:∃ o':Nat,o'=if X.C c=1 then oz else oz+1:=⟨_,rfl⟩
 have HRC:Hid (∀ wx,(Instr.slice 25 (.slice (some ⟨gz,oz,none⟩) (X.L c) (X.C c)) (some (.int .i64 1)) none none).run Tryz.prog wx=.ok (.slice (some ⟨gz,o',none⟩) (X.L c-1) (X.C c-1)) wx):=fun wx=>nc gz oz o' (X.L c) (X.C c) wx HL.out ho'
 have HR3:Hid (iy (W2.drew.setCell ⟨gS,c,none⟩ (.slice (some ⟨gz,o',none⟩) (X.L c-1) (X.C c-1))) base top gb gD gS ((X.gw c (X.d c-X.z c 0)).cut c (some ⟨gz,o',none⟩) (X.C c-1))):=HV.out.cut hcq HA.out HL.out (fun hC=>by rw [ho'];exact if_neg hC)
 clear ho'
 go_enter Tryz.func151,Tryz.ntmps151
 go_wp2_with fail
 clear eW2 cb cs cd cz fd cq hwr
 refine wp_region_held_drew (S:=fun w'=>(w'.cell? ⟨gb.g,gb.o,none⟩=some (.slice (some ⟨gq,oq,none⟩) X.nQ X.cQ)∧w'.cell? ⟨gb.g,gb.o+1,none⟩=some (.slice (some ⟨gD,0,none⟩) X.nQ X.cD)∧w'.cell? ⟨gb.g,gb.o+2,none⟩=some (.int .i64 (c:Int))∧w'.cell? ⟨gb.g,gb.o+3,none⟩=some (.bool false)∧w'.cell? ⟨gb.g,gb.o+4,none⟩=some (.slice (some ⟨gS,0,none⟩) X.nQ X.cS))) (by kernel_rfl) cbV (fun hHeld=>?_)
 generalize W2.drew=V at *
 refine t0 ?_
 iterate 10 refine tN ?_
 refine rq1 11 (fun K hK=>?_)
 go_simp
 refine hK.out _ _ cbV (fun hHeld=>?_)
 clear hK K
 try simp only [Act.put,PZ]
 refine tC 12 79 (v:=.slice (some ⟨gz,o',none⟩) (X.L c-1) (X.C c-1)) ?_ ?_
 ·
  intro wx hSw
  have hrc:=HRC.out wx
  go_simp
 try simp only [Act.put,PZ]
 refine tN ?_
 obtain ⟨V3,eV3⟩:∃ V3,V.setCell ⟨gS,c,none⟩ (.slice (some ⟨gz,o',none⟩) (X.L c-1) (X.C c-1))=V3:=⟨_,rfl⟩
 rw [eV3] at HR3
 have HT3:Hid (Touch [gb.g,gD,gS] w V3):=by rw [Hid,←eV3];exact HTV.out.set (by simp) c _
 have cbS:(V3.cell? ⟨gb.g,gb.o,none⟩=some (.slice (some ⟨gq,oq,none⟩) X.nQ X.cQ)∧V3.cell? ⟨gb.g,gb.o+1,none⟩=some (.slice (some ⟨gD,0,none⟩) X.nQ X.cD)∧V3.cell? ⟨gb.g,gb.o+2,none⟩=some (.int .i64 (c:Int))∧V3.cell? ⟨gb.g,gb.o+3,none⟩=some (.bool false)∧V3.cell? ⟨gb.g,gb.o+4,none⟩=some (.slice (some ⟨gS,0,none⟩) X.nQ X.cS)):=by
  have h9:=HR3.out.cb
  exact dm
 have csS:V3.cell? ⟨gS,c,none⟩=some (.slice (some ⟨gz,o',none⟩) (X.L c-1) (X.C c-1)):=dt
 have fdS:=HR3.out.Ao.1.free c
 have cdS:=HR3.out.cd hcq
 refine rq1 14 (fun K hK=>?_)
 go_simp
 refine hK.out _ _ cbS (fun hHeld=>?_)
 clear hK K
 try simp only [Act.put,PZ]
 refine dnq ?_
 clear hHeld csV fsV eV3
 by_cases h1:X.L c=1
 ·
  have h1':(((X.L c-1:Nat):Int) == 0)=true:=by simp;omega
  obtain ⟨V4,eV4⟩:∃ V4,V3.setCell ⟨gD,c,none⟩ (.int .i64 0)=V4:=⟨_,rfl⟩
  have HR4:Hid (iy V4 base top gb gD gS (((X.gw c (X.d c-X.z c 0)).cut c (some ⟨gz,o',none⟩) (X.C c-1)).gw c 0)):=by rw [Hid,←eV4];exact HR3.out.def hcq _
  have HT4:Hid (Touch [gb.g,gD,gS] w V4):=by rw [Hid,←eV4];exact HT3.out.set (by simp) c _
  exact dn
 exact dq
theorem tb (X0:Rnd) (base top:Nat) (gb:oN) (gD gS c:Nat) (w0:World) (h0:iy w0 base top gb gD gS X0) (hok0:X0.Ok) (hc0:X0.now=c) (ht0:X0.turn=(c:Int)) (hL0:X0.L c≠0) (hf0:X0.fresh=true) :
  Calls Tryz.prog 151 #[.pointer (some ⟨gb.g,gb.o,none⟩),.int .i64 (c:Int)] w0 (nz X0 base top gb gD gS c w0):=by
 have hcq0:c<X0.nQ:=by rw [←hc0];exact hok0.lM
 have hg:fS X0={ X0.gw c (X0.d c+X0.q c) with fresh:=false }:=by
  unfold fS
  rw [if_pos hf0,hc0]
  rfl
 have hok:(fS X0).Ok:=lv hok0 (by rw [hc0];exact hL0)
 have hV0:=h0.up (w':=w0.drew) ((Below.refl _ _).drew)
 obtain ⟨V1,eV1⟩:∃ V1,w0.drew.setCell ⟨gD,c,none⟩ (.int .i64 (X0.d c+X0.q c))=V1:=⟨_,rfl⟩
 have hV1:iy V1 base top gb gD gS (X0.gw c (X0.d c+X0.q c)):=by rw [←eV1];exact hV0.def hcq0 _
 obtain ⟨w,ew⟩:∃ w,V1.setCell ⟨gb.g,gb.o+3,none⟩ (.bool false)=w:=⟨_,rfl⟩
 have h:iy w base top gb gD gS (fS X0):=by
  rw [←ew,hg]
  exact hV1.Ah 3 _ (by omega) rfl rfl
 have HT0:Hid (Touch [gb.g,gD,gS] w0 w):=by
  rw [Hid,←ew,←eV1]
  exact ((Touch.gY ((Below.refl _ _).drew)).set (by simp) c _).set (by simp) (gb.o+3) _
 have HC0:=hok0.c c hcq0
 have hdd0:=HC0.2.2
 unfold n7 at hdd0
 rw [if_neg hL0,lG hf0] at hdd0
 simp only [Bool.false_eq_true,if_false] at hdd0
 have hq0:=HC0.1
 obtain ⟨gq0,oq0,hQ0,cq0⟩:=hV0.cq hcq0
 have cb0:=hV0.cb
 have cs0:=h0.cs hcq0
 have cbw:=h0.cb
 have cd0:=hV0.cd hcq0
 have fd0:=hV0.Ao.1.free c
 have fb1:=fX hV1.box (gb.o+3)
 have cb1:V1.cell? ⟨gb.g,gb.o+3,none⟩=some (.bool X0.fresh):=hV1.cb.2.2.2.1
 rw [hQ0,hf0,ht0] at cb0 cbw
 have hLn0:((X0.L c:Int) == 0)=false:=by simp;exact hL0
 have hc':(c:Int)<X0.nQ:=by omega
 have hwr0:IntKind.i64.wrap (X0.d c+X0.q c)=X0.d c+X0.q c:=nB _ (by omega) (by omega)
 have HP:Hid (nz X0 base top gb gD gS c w0=fun e w'=>((fS X0).d c<(fS X0).z c 0∧e=.returned (.tuple #[.int .i64 0,.bool false])∧iy w' base top gb gD gS (fS X0) ∨
  (fS X0).z c 0≤(fS X0).d c∧e=.returned (.tuple #[.int .i64 ((fS X0).z c 0),.bool true])∧∃ X',Alike (jG (fS X0)) X'∧iy w' base top gb gD gS X')∧Touch [gb.g,gD,gS] w0 w'):=by
  rw [Hid,oV];rfl
 rw [HP.out]
 have ht:(fS X0).turn=(c:Int):=by rw [m5];exact ht0
 have hc:(fS X0).now=c:=by rw [iB];exact hc0
 have hL:(fS X0).L c≠0:=by rw [lx];exact hL0
 have hf:(fS X0).fresh=false:=oB X0
 have hAA:(fS X0).A=X0.A:=by rw [hg];rfl
 have hnn:(fS X0).nQ=X0.nQ:=iC X0
 have HX0:Hid (X0.L c=(fS X0).L c):=by rw [Hid,lx]
 have HCQ:Hid (V1.cell? ⟨gq0,oq0+c,none⟩=some (.int .i64 (X0.q c))):=by
  obtain ⟨g9,o9,e9,c9⟩:=hV1.cq hcq0
  have e8:X0.aQ=some ⟨g9,o9,none⟩:=e9
  rw [hQ0] at e8
  cases e8
  exact c9
 have hne:=h0.ne
 generalize fS X0=X at *
 clear hg hAA HP h0 hV0 hV1 hok0 hL0 HC0
 have hcq:c<X.nQ:=by rw [hnn];exact hcq0
 have HC:=hok.c c hcq
 have hn:=hok.n
 obtain ⟨gz,oz,hA⟩:=h.az hcq hL
 obtain ⟨gq,oq,hQ,cq⟩:=h.cq hcq
 have HR:Hid (iy w base top gb gD gS X):=h
 have cb:=h.cb
 have cs:=h.cs hcq
 have cd:=h.cd hcq
 have cz:=h.cz hcq hA hL
 have fd:=h.Ao.1.free c
 rw [hA] at cs
 rw [hQ,hf,ht] at cb
 have hc'':(c:Int)<X.nQ:=by omega
 have hLn:((X.L c:Int) == 0)=false:=by simp;exact hL
 have hLp:(0:Int)<X.L c:=by omega
 have hsz:=HC.2.1.2 0 (by omega)
 have hdd:=HC.2.2
 unfold n7 at hdd
 rw [if_neg hL] at hdd
 have hd0:0≤X.d c:=hdd.1
 have hd1:X.d c≤20:=by
  have h1:=hdd.2
  have h2:=HC.1.2
  split at h1 <;> omega
 have HL:Hid (X.L c≠0):=hL
 have HOk:Hid X.Ok:=hok
 have HA:Hid (X.A c=some ⟨gz,oz,none⟩):=hA
 have HF:Hid (X.fresh=false):=hf
 have HTu:Hid (X.turn=(c:Int)):=ht
 have HNo:Hid (X.now=c):=hc
 have HQ:Hid (X.aQ=some ⟨gq,oq,none⟩):=hQ
 clear hdd HC hok hL hA hf ht hc hQ h
 by_cases hsh:X.d c<X.z c 0
 ·
  go_enter Tryz.func151,Tryz.ntmps151
  go_wp2_with fail
  clear cs0 cbw hLn0
  refine wp_region_held_drew (S:=fun w'=>(w'.cell? ⟨gb.g,gb.o,none⟩=some (.slice (some ⟨gq0,oq0,none⟩) X0.nQ X0.cQ)∧w'.cell? ⟨gb.g,gb.o+1,none⟩=some (.slice (some ⟨gD,0,none⟩) X0.nQ X0.cD)∧w'.cell? ⟨gb.g,gb.o+2,none⟩=some (.int .i64 (c:Int))∧w'.cell? ⟨gb.g,gb.o+3,none⟩=some (.bool true)∧w'.cell? ⟨gb.g,gb.o+4,none⟩=some (.slice (some ⟨gS,0,none⟩) X0.nQ X0.cS))∧w'.cell? ⟨gq0,oq0+c,none⟩=some (.int .i64 (X0.q c))) (by kernel_rfl) ⟨cb0,cq0⟩ (fun hHeld=>?_)
  generalize w0.drew=V0 at *
  refine t0 ?_
  iterate 5 refine tN ?_
  refine tQ 7 27 ?_
  refine tQ 8 28 ?_
  refine tQ 9 29 ?_
  refine tQ 10 30 ?_
  refine tQ 11 31 ?_
  refine tQ 12 32 ?_
  refine tQ 13 33 ?_
  refine rq1 6 (fun K hK=>?_)
  go_simp
  refine hK.out _ _ ⟨cb0,cq0⟩ (fun hHeld=>?_)
  clear hK K
  try simp only [Act.put,PZ]
  refine tQ 14 34 ?_
  refine tQ 15 35 ?_
  have cb2:(V1.cell? ⟨gb.g,gb.o,none⟩=some (.slice (some ⟨gq0,oq0,none⟩) X0.nQ X0.cQ)∧V1.cell? ⟨gb.g,gb.o+1,none⟩=some (.slice (some ⟨gD,0,none⟩) X0.nQ X0.cD)∧V1.cell? ⟨gb.g,gb.o+2,none⟩=some (.int .i64 (c:Int))∧V1.cell? ⟨gb.g,gb.o+3,none⟩=some (.bool true)∧V1.cell? ⟨gb.g,gb.o+4,none⟩=some (.slice (some ⟨gS,0,none⟩) X0.nQ X0.cS)):=dp
  have cq2:V1.cell? ⟨gq0,oq0+c,none⟩=some (.int .i64 (X0.q c)):=HCQ.out
  refine rq1 16 (fun K hK=>?_)
  go_simp
  refine hK.out _ _ ⟨cb2,cq2⟩ (fun hHeld=>?_)
  clear hK K
  try simp only [Act.put,PZ]
  refine dnq ?_
  clear hHeld cb0 cq0 cd0 fd0 eV1
  go_wp2_with fail
  clear ew cb1 fb1 cb2 cq2
  go_ret2
  exact ⟨.inl ⟨hsh,rfl,HR.out⟩,HT0.out⟩
 have hsh':X.z c 0≤X.d c:=by omega
 have hwr:IntKind.i64.wrap (X.d c-X.z c 0)=X.d c-X.z c 0:=nB _ (by omega) (by omega)
 obtain ⟨W2,eW2⟩:∃ W2,w.setCell ⟨gD,c,none⟩ (.int .i64 (X.d c-X.z c 0))=W2:=⟨_,rfl⟩
 have HR2:Hid (iy W2 base top gb gD gS (X.gw c (X.d c-X.z c 0))):=by rw [Hid,←eW2];exact HR.out.def hcq _
 have HT2:Hid (Touch [gb.g,gD,gS] w0 W2):=by rw [Hid,←eW2];exact HT0.out.set (by simp) c _
 have HV:Hid (iy W2.drew base top gb gD gS (X.gw c (X.d c-X.z c 0))):=HR2.out.up ((Below.refl _ _).drew)
 have HTV:Hid (Touch [gb.g,gD,gS] w0 W2.drew):=HT2.out.trans (Touch.gY ((Below.refl _ _).drew))
 have cbV:(W2.drew.cell? ⟨gb.g,gb.o,none⟩=some (.slice (some ⟨gq,oq,none⟩) X.nQ X.cQ)∧W2.drew.cell? ⟨gb.g,gb.o+1,none⟩=some (.slice (some ⟨gD,0,none⟩) X.nQ X.cD)∧W2.drew.cell? ⟨gb.g,gb.o+2,none⟩=some (.int .i64 (c:Int))∧W2.drew.cell? ⟨gb.g,gb.o+3,none⟩=some (.bool false)∧W2.drew.cell? ⟨gb.g,gb.o+4,none⟩=some (.slice (some ⟨gS,0,none⟩) X.nQ X.cS)):=by
  have h9:=HV.out.cb
  exact dm
 have csV:W2.drew.cell? ⟨gS,c,none⟩=some (.slice (some ⟨gz,oz,none⟩) (X.L c) (X.C c)):=du
 have fsV:=HV.out.BN.1.free c
 obtain ⟨o',ho'⟩:∃ o':Nat,o'=if X.C c=1 then oz else oz+1:=⟨_,rfl⟩
 have HRC:Hid (∀ wx,(Instr.slice 25 (.slice (some ⟨gz,oz,none⟩) (X.L c) (X.C c)) (some (.int .i64 1)) none none).run Tryz.prog wx=.ok (.slice (some ⟨gz,o',none⟩) (X.L c-1) (X.C c-1)) wx):=fun wx=>nc gz oz o' (X.L c) (X.C c) wx HL.out ho'
 have HR3:Hid (iy (W2.drew.setCell ⟨gS,c,none⟩ (.slice (some ⟨gz,o',none⟩) (X.L c-1) (X.C c-1))) base top gb gD gS ((X.gw c (X.d c-X.z c 0)).cut c (some ⟨gz,o',none⟩) (X.C c-1))):=HV.out.cut hcq HA.out HL.out (fun hC=>by rw [ho'];exact if_neg hC)
 clear ho'
 go_enter Tryz.func151,Tryz.ntmps151
 go_wp2_with fail
 clear cs0 cbw hLn0
 refine wp_region_held_drew (S:=fun w'=>(w'.cell? ⟨gb.g,gb.o,none⟩=some (.slice (some ⟨gq0,oq0,none⟩) X0.nQ X0.cQ)∧w'.cell? ⟨gb.g,gb.o+1,none⟩=some (.slice (some ⟨gD,0,none⟩) X0.nQ X0.cD)∧w'.cell? ⟨gb.g,gb.o+2,none⟩=some (.int .i64 (c:Int))∧w'.cell? ⟨gb.g,gb.o+3,none⟩=some (.bool true)∧w'.cell? ⟨gb.g,gb.o+4,none⟩=some (.slice (some ⟨gS,0,none⟩) X0.nQ X0.cS))∧w'.cell? ⟨gq0,oq0+c,none⟩=some (.int .i64 (X0.q c))) (by kernel_rfl) ⟨cb0,cq0⟩ (fun hHeld=>?_)
 generalize w0.drew=V0 at *
 refine t0 ?_
 iterate 5 refine tN ?_
 refine tQ 7 27 ?_
 refine tQ 8 28 ?_
 refine tQ 9 29 ?_
 refine tQ 10 30 ?_
 refine tQ 11 31 ?_
 refine tQ 12 32 ?_
 refine tQ 13 33 ?_
 refine rq1 6 (fun K hK=>?_)
 go_simp
 refine hK.out _ _ ⟨cb0,cq0⟩ (fun hHeld=>?_)
 clear hK K
 try simp only [Act.put,PZ]
 refine tQ 14 34 ?_
 refine tQ 15 35 ?_
 have cb2:(V1.cell? ⟨gb.g,gb.o,none⟩=some (.slice (some ⟨gq0,oq0,none⟩) X0.nQ X0.cQ)∧V1.cell? ⟨gb.g,gb.o+1,none⟩=some (.slice (some ⟨gD,0,none⟩) X0.nQ X0.cD)∧V1.cell? ⟨gb.g,gb.o+2,none⟩=some (.int .i64 (c:Int))∧V1.cell? ⟨gb.g,gb.o+3,none⟩=some (.bool true)∧V1.cell? ⟨gb.g,gb.o+4,none⟩=some (.slice (some ⟨gS,0,none⟩) X0.nQ X0.cS)):=dp
 have cq2:V1.cell? ⟨gq0,oq0+c,none⟩=some (.int .i64 (X0.q c)):=HCQ.out
 refine rq1 16 (fun K hK=>?_)
 go_simp
 refine hK.out _ _ ⟨cb2,cq2⟩ (fun hHeld=>?_)
 clear hK K
 try simp only [Act.put,PZ]
 refine dnq ?_
 clear hHeld cb0 cq0 cd0 fd0 eV1
 go_wp2_with fail
 clear ew cb1 fb1 cb2 cq2
 clear eW2 cb cs cd cz fd cq hwr
 refine wp_region_held_drew (S:=fun w'=>(w'.cell? ⟨gb.g,gb.o,none⟩=some (.slice (some ⟨gq,oq,none⟩) X.nQ X.cQ)∧w'.cell? ⟨gb.g,gb.o+1,none⟩=some (.slice (some ⟨gD,0,none⟩) X.nQ X.cD)∧w'.cell? ⟨gb.g,gb.o+2,none⟩=some (.int .i64 (c:Int))∧w'.cell? ⟨gb.g,gb.o+3,none⟩=some (.bool false)∧w'.cell? ⟨gb.g,gb.o+4,none⟩=some (.slice (some ⟨gS,0,none⟩) X.nQ X.cS))) (by kernel_rfl) cbV (fun hHeld=>?_)
 generalize W2.drew=V at *
 refine t0 ?_
 iterate 10 refine tN ?_
 refine rq1 11 (fun K hK=>?_)
 go_simp
 refine hK.out _ _ cbV (fun hHeld=>?_)
 clear hK K
 try simp only [Act.put,PZ]
 refine tC 12 79 (v:=.slice (some ⟨gz,o',none⟩) (X.L c-1) (X.C c-1)) ?_ ?_
 ·
  intro wx hSw
  have hrc:=HRC.out wx
  go_simp
 try simp only [Act.put,PZ]
 refine tN ?_
 obtain ⟨V3,eV3⟩:∃ V3,V.setCell ⟨gS,c,none⟩ (.slice (some ⟨gz,o',none⟩) (X.L c-1) (X.C c-1))=V3:=⟨_,rfl⟩
 rw [eV3] at HR3
 have HT3:Hid (Touch [gb.g,gD,gS] w0 V3):=by rw [Hid,←eV3];exact HTV.out.set (by simp) c _
 have cbS:(V3.cell? ⟨gb.g,gb.o,none⟩=some (.slice (some ⟨gq,oq,none⟩) X.nQ X.cQ)∧V3.cell? ⟨gb.g,gb.o+1,none⟩=some (.slice (some ⟨gD,0,none⟩) X.nQ X.cD)∧V3.cell? ⟨gb.g,gb.o+2,none⟩=some (.int .i64 (c:Int))∧V3.cell? ⟨gb.g,gb.o+3,none⟩=some (.bool false)∧V3.cell? ⟨gb.g,gb.o+4,none⟩=some (.slice (some ⟨gS,0,none⟩) X.nQ X.cS)):=by
  have h9:=HR3.out.cb
  exact dm
 have csS:V3.cell? ⟨gS,c,none⟩=some (.slice (some ⟨gz,o',none⟩) (X.L c-1) (X.C c-1)):=dt
 have fdS:=HR3.out.Ao.1.free c
 have cdS:=HR3.out.cd hcq
 refine rq1 14 (fun K hK=>?_)
 go_simp
 refine hK.out _ _ cbS (fun hHeld=>?_)
 clear hK K
 try simp only [Act.put,PZ]
 refine dnq ?_
 clear hHeld csV fsV eV3
 by_cases h1:X.L c=1
 ·
  have h1':(((X.L c-1:Nat):Int) == 0)=true:=by simp;omega
  obtain ⟨V4,eV4⟩:∃ V4,V3.setCell ⟨gD,c,none⟩ (.int .i64 0)=V4:=⟨_,rfl⟩
  have HR4:Hid (iy V4 base top gb gD gS (((X.gw c (X.d c-X.z c 0)).cut c (some ⟨gz,o',none⟩) (X.C c-1)).gw c 0)):=by rw [Hid,←eV4];exact HR3.out.def hcq _
  have HT4:Hid (Touch [gb.g,gD,gS] w0 V4):=by rw [Hid,←eV4];exact HT3.out.set (by simp) c _
  exact dn
 exact dq
theorem qw (X:Rnd) (base top:Nat) (gb:oN) (gD gS c:Nat) (w:World) (h:iy w base top gb gD gS X) (hok:X.Ok) (hc:X.now=c) (ht:X.turn=(c:Int)) (hL:X.L c≠0) :
  Calls Tryz.prog 151 #[.pointer (some ⟨gb.g,gb.o,none⟩),.int .i64 (c:Int)] w (nz X base top gb gD gS c w):=by
 cases hf:X.fresh
 ·
  exact xr X base top gb gD gS c w h hok hc ht hL hf
 exact tb X base top gb gD gS c w h hok hc ht hL hf
open Go.RowKit Go.Shelf
attribute [local go_sem] Oper.semAt_some
theorem kd (R:Rnd) (w:World) (hf:R.Fit) (h:iY w R) (hpD:R.nQ≤R.nD) (hpS:R.nQ≤R.nS) (b:Bool) (hb:b=true↔∃ i,i<R.nQ∧R.L i≠0) :
  Calls Tryz.prog 160 #[.agg R.cells] w fun e w'=>e=.returned (.bool b)∧Below w.heap.size w w':=by
 have HR:Hid (iY w R):=h
 have HB:Hid (b=true↔∃ i,i<R.nQ∧R.L i≠0):=hb
 have HFit:Hid R.Fit:=hf
 have HD:Hid (R.nQ≤R.nD):=hpD
 have HS:Hid (R.nQ≤R.nS):=hpS
 clear h hb hf hpD hpS
 refine (callsIn_wide (n:=8)).1 ?_
 refine callsIn_of_wp_marks Tryz.func160 rfl trivial ?_ rfl
 simp only [Tryz.ntmps160,List.size_toArray,List.length_cons,List.length_nil,Nat.reduceAdd,Nat.reduceSub,Array.replicate_succ,Array.replicate_zero,List.push_toArray,List.append_toArray,List.nil_append,List.cons_append]
 have f33:Fence.wide.fn 148:=trivial
 unfold Rnd.cells
 have B1:Below w.heap.size w ((w.alloc (.cells #[.slice R.aQ R.nQ R.cQ,.slice R.aD R.nD R.cD,.int .i64 R.turn,.bool R.fresh,.slice R.aS R.nS R.cS] 100)).alloc (.cells #[.bool false] 4)):=((Below.refl _ _).alloc (Nat.le_refl _) _).alloc (by simp) _
 have HK:Hid (((w.alloc (.cells #[.slice R.aQ R.nQ R.cQ,.slice R.aD R.nD R.cD,.int .i64 R.turn,.bool R.fresh,.slice R.aS R.nS R.cS] 100)).alloc (.cells #[.bool false] 4)).heap[w.heap.size+1]?=some (.cells #[.bool false] 4 (0,0))):=by
  have:=fL (w.alloc (.cells #[.slice R.aQ R.nQ R.cQ,.slice R.aD R.nD R.cD,.int .i64 R.turn,.bool R.fresh,.slice R.aS R.nS R.cS] 100)) (.cells #[.bool false] 4)
  simpa [Hid] using this
 gi_wp2_with (gi_at_call 148;refine (callsIn_wide.2 (pL R _)).mono ?_;rintro e w2 ⟨rfl,rfl⟩)
 have eS:((w.alloc (.cells #[.slice R.aQ R.nQ R.cQ,.slice R.aD R.nD R.cD,.int .i64 R.turn,.bool R.fresh,.slice R.aS R.nS R.cS] 100)).alloc (.cells #[.bool false] 4)).heap.size=w.heap.size+1+1:=by simp
 generalize (w.alloc (.cells #[.slice R.aQ R.nQ R.cQ,.slice R.aD R.nD R.cD,.int .i64 R.turn,.bool R.fresh,.slice R.aS R.nS R.cS] 100)).alloc (.cells #[.bool false] 4)=w1 at *
 rw [←eS]
 clear eS
 have kR1:=HK.out
 have hBt:ye (w1.alloc (.cells R.cells 100)) w1.heap.size R:=⟨fun o=>fG (fL w1 (.cells R.cells 100)) o,HR.out.up (B1.alloc B1.size _)⟩
 have hcBx:w1.heap.size<(w1.alloc (.cells R.cells 100)).heap.size:=by simp
 have hTl:∀ W,Below (w1.alloc (.cells R.cells 100)).heap.size (w1.alloc (.cells R.cells 100)) W→ye W w1.heap.size R:=fun W hW =>
  ⟨fun o=>(hW.cell (p:=⟨w1.heap.size,o,none⟩) hcBx).trans (hBt.box o),hBt.rd.up hW⟩
 have hw1:=B1.size
 have hlR:=fH kR1
 have hsW:w.heap.size≤(w1.alloc (.cells R.cells 100)).heap.size:=by simp;omega
 have hcr:w1.cell? ⟨w.heap.size+1,0,none⟩=some (.bool false):=fG kR1 0
 have hfr:w1.frozen? ⟨w.heap.size+1,0,none⟩=false:=fX kR1 0
 have hold:∀ (j:Nat) o,j<w1.heap.size→(w1.alloc (.cells R.cells 100)).cell? ⟨j,o,none⟩=w1.cell? ⟨j,o,none⟩:=fun j o hj=>World.cell?_of_block (w:=w1) (a:=⟨j,o,none⟩) (gg _ hj)
 have holdf:(w1.alloc (.cells R.cells 100)).frozen? ⟨w.heap.size+1,0,none⟩=false:=(World.frozen?_of_block (w:=w1) (a:=⟨w.heap.size+1,0,none⟩) (gg _ hlR)).trans hfr
 refine wpIn_rangeFunc_ownH rfl (by omega) (gf:=156) (lb:=#[.pointer (some ⟨w1.heap.size,0,none⟩)]) rfl trivial (enters_of Tryz.func156 (by kernel_rfl) rfl)
  (nr Fence.wide _ trivial rfl (by omega) R HFit.out HD.out HS.out w1.heap.size (w1.alloc (.cells R.cells 100)) hBt hTl) belowK_t (belowK_b (Nat.le_refl _)) (Below.refl _ _) (fun _=>rfl)
  (fun pre W=>(∀ x∈pre,R.L x.1=0)∧W.cell? ⟨w.heap.size+1,0,none⟩=some (.bool false)∧W.frozen? ⟨w.heap.size+1,0,none⟩=false∧(w1.alloc (.cells R.cells 100)).heap.size≤W.heap.size∧Below w.heap.size w W)
  (fun c pre W=>c=.ret∧(∃ x∈pre,R.L x.1≠0)∧W.cell? ⟨w.heap.size+1,0,none⟩=some (.bool true)∧Below w.heap.size w W)
  (fun s A B row hs hg hr=>⟨hs.1,cell_kept hs.2.1 hg (fun r e=>(hr r e).2),(frozen_kept hs.2.1 hg (fun r e=>(hr r e).2)).trans hs.2.2.1,Nat.le_trans hs.2.2.2.1 hg.size,hs.2.2.2.2.grown hg hs.2.2.2.2.size (fun k e=>Nat.le_trans hsW (hr k e).1)⟩)
  (fun c s A B row hs hg hr=>⟨hs.1,hs.2.1,cell_kept hs.2.2.1 hg (fun r e=>(hr r e).2),hs.2.2.2.grown hg hs.2.2.2.size (fun k e=>Nat.le_trans hsW (hr k e).1)⟩)
  ⟨fun x hx=>by simp at hx,(hold _ _ hlR).trans hcr,holdf,Nat.le_refl _,B1.alloc hw1 _⟩
  (fun x a' W=>∃ Bx,w.heap.size+1<Bx∧W.cell? ⟨Bx,2,none⟩=some (.slice (R.A x.1) (R.L x.1) (R.C x.1))∧a'={ tmps:=#[.agg #[.slice R.aQ R.nQ R.cQ,.slice R.aD R.nD R.cD,.int .i64 R.turn,.bool R.fresh,.slice R.aS R.nS R.cS],.pointer (some ⟨w.heap.size,0,none⟩),.pointer (some ⟨w.heap.size+1,0,none⟩),undef,.pointer (some ⟨Bx,0,none⟩),.agg #[.slice R.aQ R.nQ R.cQ,.slice R.aD R.nD R.cD,.int .i64 R.turn,.bool R.fresh,.slice R.aS R.nS R.cS],.func (.func 156) #[] #[.pointer (some ⟨w1.heap.size,0,none⟩)],.int .i64 ((x.1:Nat):Int),.agg #[.int .i64 (R.q x.1),.int .i64 (R.d x.1),.slice (R.A x.1) (R.L x.1) (R.C x.1)],undef,undef,undef,undef],defers:=[] })
  (fun x a' s A B row hs hg hr=>by
   obtain ⟨Bx,b1,c3,e⟩:=hs
   exact ⟨Bx,b1,cell_kept c3 hg (fun r e=>(hr r e).2),e⟩)
  ?assign ?body ?done ?stop
 case assign =>
  rintro l pre x W K ⟨i1,i4,i5,i6,i7⟩ hK
  have hcn:=fG (fL W (.cells #[.int .i64 (R.q x.1),.int .i64 (R.d x.1),.slice (R.A x.1) (R.L x.1) (R.C x.1)] 196))
  have HI:Hid (∀ ob,(W.alloc ob).cell? ⟨w.heap.size+1,0,none⟩=some (.bool false)∧(W.alloc ob).frozen? ⟨w.heap.size+1,0,none⟩=false∧Below w.heap.size w (W.alloc ob)):=fun ob =>
   ⟨cell_kept i4 (World.grownBy_alloc W ob none) (fun r e=>by cases e),(frozen_kept i4 (World.grownBy_alloc W ob none) (fun r e=>by cases e)).trans i5,i7.alloc i7.size _⟩
  have hlt:w.heap.size+1<W.heap.size:=by simp at i6;omega
  unfold Db
  gi_wp2
  exact hK _ _ ((KeepsOthers.alloc _ _).from _) ((Below.refl _ W).alloc i6 _) ⟨i1,(HI.out _).1,(HI.out _).2.1,by simp at i6 ⊢;omega,(HI.out _).2.2⟩ ⟨W.heap.size,hlt,hcn 2,rfl⟩
 case body =>
  rintro l pre x a' W hl ⟨r,hr⟩ ⟨i1,i4,i5,i6,i7⟩ ⟨Bx,hBx,x2,rfl⟩ hlt
  clear hTl hBt hold holdf hcr hfr
  by_cases h0:R.L x.1=0
  ·
   have h0':¬ (0:Int)<((R.L x.1:Nat):Int):=by omega
   have H0:Hid (R.L x.1=0):=h0
   have HP:Hid (∀ y∈pre++[x],R.L y.1=0):=fun y hy=>by
    rcases List.mem_append.1 hy with hy | hy
    ·
     exact i1 y hy
    simp at hy;rw [hy];exact H0.out
   clear h0
   gi_wp2
   exact ⟨KeepsFrom.refl _ _,Below.refl _ _,by have hk:=HP.out;simpa using hk,i4,i5,by simpa using i6,i7⟩
  have h0':(0:Int)<((R.L x.1:Nat):Int):=by omega
  have H0:Hid (R.L x.1≠0):=h0
  clear h0
  gi_wp2
  exact ⟨(KeepsOthers.setCell _ _ _).from _,rfl,⟨x,by simp,H0.out⟩,World.cell?_setCell_same' _ _ _ (by rw [i4];rfl),i7.setCell (by show _≤_+1;omega) _⟩
 case done =>
  rintro D xs W hD rfl ⟨i1,i4,i5,i6,i7⟩ hK
  have HE:Hid (b=false):=by
   rw [Hid,Bool.eq_false_iff]
   intro e
   obtain ⟨i,hi,hne⟩:=HB.out.1 e
   exact hne (i1 ⟨i,hi⟩ (qN _ _ _ i hi))
  have hK':=(KeepsOthers.setCell W ⟨w.heap.size+1,0,none⟩ (.bool false)).same D _ hK rfl
  have hc5:=cell_kept (World.cell?_setCell_same' W ⟨w.heap.size+1,0,none⟩ (.bool false) (by rw [i4];rfl)) (grownBy_putObj' _ D (.deferred none)) (fun r e=>by cases e;exact ⟨_,hK',rfl⟩)
  have hBe:Below w.heap.size w ((W.setCell ⟨w.heap.size+1,0,none⟩ (.bool false)).putObj D (.deferred none)):=(i7.setCell (p:=⟨w.heap.size+1,0,none⟩) (by show _≤_+1;omega) _).trans (belowK_b (w:=w) (Nat.le_refl _) _ D _ _ (Nat.le_trans hsW hD) hK' rfl rfl)
  clear hTl hBt hold holdf hcr hfr
  gi_wp2
  refine ⟨by simp,.inl ⟨_,_,rfl,run_takeDeferred hK',?_⟩⟩
  exact ⟨.bool false,by simp [results,Tryz.results160,go_sem,hc5],fQ HE.out.symm,hBe⟩
 rintro D c pre W hD hSp ⟨rfl,⟨x,hx,hn⟩,i4,i7⟩ hK
 have HE:Hid (b=true):=HB.out.2 ⟨x.1,x.2,hn⟩
 have hc5:=cell_kept i4 (grownBy_putObj' _ D (.deferred none)) (fun r e=>by cases e;exact ⟨_,hK,rfl⟩)
 have hBe:Below w.heap.size w (W.putObj D (.deferred none)):=i7.trans (belowK_b (w:=w) (Nat.le_refl _) _ D _ _ (Nat.le_trans hsW hD) hK rfl rfl)
 clear hTl hBt hold holdf hcr hfr
 gi_wp2
 refine ⟨by simp,.inl ⟨_,_,rfl,run_takeDeferred hK,?_⟩⟩
 exact ⟨.bool true,by simp [results,Tryz.results160,go_sem,hc5],fQ HE.out.symm,hBe⟩
section
variable {F : Fence} {n : Nat} {P : Program}
def pU (fn:FuncId) (tmps:Array Value) (ps:Array Tmp) (assign body:Code) (D:Nat) (st:LoopState) (pe:Option Code):Loop :=
 { state:=st,pending:=pe,fn,tmps,params:=ps,assign,body,defers:=D }
theorem kG {g:Operand} {ps:Array Tmp} {assign body:Code} {Q:Exit→Act→World→Prop} {a:Act} {w:World}
  (hro:F.round=none) (h1:1≤n) {gf:Nat} {lb:Array Value} (hg:a.eval g=.func (.func gf) #[] lb) (hFg:F.fn gf) (eg:∀ args w,(callFunc gf args).run P w=.ok (.enter gf args) w)
  (Dn:World→Prop) (Lf:Code→World→Prop)
  (hit:∀ fn,F.fn fn→∀ rc,rc=pU fn a.tmps ps assign body w.heap.size→CallsIn F (n-1) P gf (#[.func (.yield (w.heap.size+1)) #[] #[]]++lb) ((w.alloc (.deferred (some []))).alloc (.loop (rc .ready none)))
   fun e W2=>(∃ v,e=.returned v)∧((Dn W2∧W2.heap[w.heap.size+1]?=some (.loop (rc .ready none)))∨∃ c,Lf c W2∧W2.heap[w.heap.size+1]?=some (.loop (rc .done (some c)))))
  (hdone:∀ W o,Dn W→Q .normal { a with defers:={ target:=.collected w.heap.size,args:=#[] } :: a.defers } (W.putObj (w.heap.size+1) o))
  (hstop:∀ c W o,Lf c W→c.wpIn F n P Q { a with defers:={ target:=.collected w.heap.size,args:=#[] } :: a.defers } (W.putObj (w.heap.size+1) o)) :
  (Code.rangeFunc g ps assign body).wpIn F n P Q a w:=by
 refine wpIn_rangeFunc ?_
 intro fn hfn
 rw [hro]
 have hi:=hit fn hfn _ rfl
 refine ⟨w.heap.size+1,[{ target:=.collected w.heap.size,args:=#[] }],(w.alloc (.deferred (some []))).alloc (.loop (pU fn a.tmps ps assign body w.heap.size .ready none)),{ target:=.fn (.func gf) lb,args:=#[.func (.yield (w.heap.size+1)) #[] #[]] },(w.alloc (.deferred (some []))).alloc (.loop (pU fn a.tmps ps assign body w.heap.size .ready none)),gf,
  #[.func (.yield (w.heap.size+1)) #[] #[]]++lb,(w.alloc (.deferred (some []))).alloc (.loop (pU fn a.tmps ps assign body w.heap.size .ready none)),?_,?_,?_,?_,fun _=>h1,?_⟩
 ·
  exact run_enterLoop_outer _ _ _ _ _
 ·
  simp only [resolve,hg]
  simp [go_sem]
 ·
  intro f' hf';simp [Target.leads] at hf';subst hf';exact hFg
 ·
  simp [invoke,go_sem,eg]
 refine hi.mono ?_
 rintro e W2 ⟨⟨v,rfl⟩,(⟨hD,hl⟩ | ⟨c,hL,hl⟩)⟩
 ·
  exact ⟨none,_,run_endLoop (P:=P) hl (by simp [pU]),hdone _ _ hD⟩
 exact ⟨some c,_,run_endLoop (P:=P) hl (by simp [pU]),hstop c _ _ hL⟩
def BO (l:Nat) (rc:LoopState→Option Code→Loop) (R:Ending→World→Prop):Exit→Act→World→Prop
 | .normal,_,w=>w.heap[l]?=some (.loop (rc .busy none))∧R (.returned (.bool true)) (w.putObj l (.loop (rc .ready none)))
 | .ret,_,w=>w.heap[l]?=some (.loop (rc .busy none))∧R (.returned (.bool false)) (w.putObj l (.loop (rc .done (some .ret))))
 | _,_,_=>False
theorem Av {fn:FuncId} {tmps:Array Value} {ps:Array Tmp} {assign body:Code} {D l:Nat} {W:World} {args:Array Value} (hF:F.fn fn) (hl:W.heap[l]?=some (.loop (pU fn tmps ps assign body D .ready none))) (hs:args.size=ps.size) (R:Ending→World→Prop)
  (h:assign.wpIn (F.inRound l) n P (Exit.then (fun a₁ w₁=>w₁.heap[l]?=some (.loop (pU fn tmps ps assign body D .ready none))∧body.wpIn (F.inRound l) n P (BO l (pU fn tmps ps assign body D) R) a₁ (w₁.putObj l (.loop (pU fn tmps ps assign body D .busy none)))) (fun _ _ _=>False))
   { tmps:=(ps.zip args).foldl (fun t (p,v)=>t.setIfInBounds p v) tmps,defers:=[] } W) :
  (Instr.yield l args).run P W=.ok (.round l fn ((ps.zip args).foldl (fun t (p,v)=>t.setIfInBounds p v) tmps) assign body) W∧RoundIn F n P l fn ((ps.zip args).foldl (fun t (p,v)=>t.setIfInBounds p v) tmps) assign body W R:=by
 refine ⟨run_yield (P:=P) (args:=args) hl hs,roundIn_of_wpIn hF (wpIn_mono h ?_)⟩
 rintro e a1 w1 hp
 cases e with
 | normal =>
  obtain ⟨hl1,hb⟩:=hp
  refine ⟨_,run_beginRound hl1 rfl,wpIn_mono hb ?_⟩
  rintro e2 a2 w2 hp2
  cases e2 with
  | normal=>exact ⟨_,_,run_endRound (P:=P) none hp2.1,hp2.2⟩
  | ret=>exact ⟨_,_,run_endRound (P:=P) (some .ret) hp2.1,hp2.2⟩
  | exit id=>exact hp2.elim
  | goto t=>exact hp2.elim
  | panic ch=>exact hp2.elim
  | outgrown=>exact hp2.elim
 | exit id=>exact hp.elim
 | goto t=>exact hp.elim
 | ret=>exact hp.elim
 | panic ch=>exact hp.elim
 | outgrown=>exact hp.elim
end
attribute [local go_sem] Oper.semAt_some
def zj (n:Nat) (gb:oN) (gD c0:Nat) (wr:World):Nat :=
 (5-intOf ((wr.cell? ⟨gD,c0,none⟩).getD undef)).toNat*n +
  (if (intOf ((wr.cell? ⟨gb.g,gb.o+2,none⟩).getD undef)).toNat=c0 then (if BA (wr.cell? ⟨gb.g,gb.o+3,none⟩)=true then 0 else n) else (c0+n-(intOf ((wr.cell? ⟨gb.g,gb.o+2,none⟩).getD undef)).toNat) % n)
structure PkI (w W1:World) (l base top:Nat) (gb:oN) (gD gS:Nat) (X:Rnd) (wr:World):Prop where
 rep:iy wr base top gb gD gS X
 new:∀ k,w.heap.size≤k→k<W1.heap.size→k≠l→wr.heap[k]?=W1.heap[k]?
 iU:Touch [gb.g,gD,gS] w wr
 size:W1.heap.size≤wr.heap.size
theorem iy.lts {w:World} {base top:Nat} {gb:oN} {gD gS:Nat} {X:Rnd} (h:iy w base top gb gD gS X):gb.g<w.heap.size∧gD<w.heap.size∧gS<w.heap.size:=⟨fH h.box,h.Ao.1.lt,h.BN.1.lt⟩
section
variable {w W1 wr wr' : World} {l base top : Nat} {gb : oN} {gD gS : Nat} {X X' : Rnd}
theorem PkI.up (h:PkI w W1 l base top gb gD gS X wr) (hb:Below wr.heap.size wr wr'):PkI w W1 l base top gb gD gS X wr' :=
 ⟨h.rep.up hb,fun k h1 h2 h3=>(hb.block k (by have:=h.size;omega)).trans (h.new k h1 h2 h3),h.iU.trans (Touch.gY hb),by have:=h.size;have:=hb.size;omega⟩
theorem BW {k:Nat} (hl:gb.g<w.heap.size∧gD<w.heap.size∧gS<w.heap.size) (hk:w.heap.size≤k):k∉[gb.g,gD,gS]:=fun hx=>by
 simp at hx
 omega
theorem PkI.next (h:PkI w W1 l base top gb gD gS X wr) (hl:gb.g<w.heap.size∧gD<w.heap.size∧gS<w.heap.size) (hR:iy wr' base top gb gD gS X') (ht:Touch [gb.g,gD,gS] wr wr'):PkI w W1 l base top gb gD gS X' wr' :=
 ⟨hR,fun k h1 h2 h3=>(ht.block k (by have:=h.size;omega) (BW hl h1)).trans (h.new k h1 h2 h3),h.iU.trans ht,by have:=h.size;have:=ht.size;omega⟩
theorem l3 (wr:World) (l:Nat) (o:Obj):Touch [l] wr (wr.putObj l o):=⟨rfl,rfl,rfl,by simp,fun k _ hn=>World.putObj_heap_other (fun e=>hn (by simp [e]))⟩
theorem iy.put {lo:Obj} (h:iy wr base top gb gD gS X) (hl:wr.heap[l]?=some lo) (hc:lo.isCells=false) (o:Obj):iy (wr.putObj l o) base top gb gD gS X:=by
 have ht:=l3 wr l o
 have hno:∀ arr t f,wr.heap[l]?≠some (.cells arr t f):=fun arr t f e=>by
  rw [hl] at e
  cases e
  simp [Obj.isCells] at hc
 exact ⟨(ht.block _ (fH h.box) (fun hx=>by simp at hx;subst hx;exact hno _ _ _ h.box)).trans h.box,h.own.wF ht (fun g hg arr=>by simp at hg;subst hg;exact ⟨hno _ _ _,hno _ _ _⟩),h.ad,h.as_,h.cap,h.pos,h.hi,h.inn⟩
theorem PkI.put {lo:Obj} (h:PkI w W1 l base top gb gD gS X wr) (hl:wr.heap[l]?=some lo) (hc:lo.isCells=false) (hw:w.heap.size≤l) (o:Obj):PkI w W1 l base top gb gD gS X (wr.putObj l o) :=
 ⟨h.rep.put hl hc o,fun k h1 h2 h3=>(World.putObj_heap_other h3).trans (h.new k h1 h2 h3),⟨h.iU.os,h.iU.tape,h.iU.output,by have:=h.iU.size;simpa using this,fun k hk hn=>(World.putObj_heap_other (by omega)).trans (h.iU.block k hk hn)⟩,by have:=h.size;simpa using this⟩
theorem iy.left (h:iy wr base top gb gD gS X) {c0:Nat} (hc:c0<X.nQ):zj X.nQ gb gD c0 wr=l9 X c0:=by
 have b:=h.cb
 have c2:wr.cell? ⟨gb.g,gb.o+2,none⟩=some (.int .i64 X.turn):=b.2.2.1
 have c3:wr.cell? ⟨gb.g,gb.o+3,none⟩=some (.bool X.fresh):=b.2.2.2.1
 unfold zj l9 wX Rnd.now
 rw [c2,c3,h.cd hc]
 rfl
theorem Bs (h:X.Ok):X.Fit:=by
 have hn:=h.n
 refine ⟨by unfold maxLen;omega,by rw [h.d];unfold maxLen;omega,by rw [h.s];unfold maxLen;omega,fun i hi=>?_⟩
 have:=(h.c i (by rw [h.s] at hi;exact hi)).2.1.1
 unfold maxLen
 omega
theorem lp {o:Obj} {b i:Nat} {l:Nat} (h:b≠l):(wr.putObj l o).cell? ⟨b,i,none⟩=wr.cell? ⟨b,i,none⟩:=World.cell?_of_block (w:=wr) (a:=⟨b,i,none⟩) (World.putObj_heap_other h)
end
theorem wE (g o:Nat) (w:World) :
  Calls Tryz.prog 150 #[.pointer (some ⟨g,o,none⟩)] w fun e w'=>e=.returned (.func (.func 159) #[] #[.pointer (some ⟨w.heap.size,0,none⟩)])∧w'=w.alloc (.cells #[.pointer (some ⟨g,o,none⟩)] 184):=by
 go_enter Tryz.func150,Tryz.ntmps150
 go_wp2_with fail
 go_ret
 exact ⟨rfl,rfl⟩
structure PkL (w:World) (base top:Nat) (gb:oN) (gD gS:Nat) (X1:Rnd) (c:Nat) (s:Int) (D:Nat) (W:World):Prop where
 ex:∃ X',Alike X1 X'∧iy W base top gb gD gS X'
 iU:Touch [gb.g,gD,gS] w W
 r2:W.heap[w.heap.size+1]?=some (.cells #[.int .i64 (c:Int)] 2 (0,0))
 r3:W.heap[w.heap.size+2]?=some (.cells #[.int .i64 s] 2 (0,0))
 d:W.heap[D]?=some (.deferred (some []))
theorem PkL.put {w W:World} {base top:Nat} {gb:oN} {gD gS:Nat} {X1:Rnd} {c:Nat} {s:Int} {D l:Nat} {lo:Obj} (h:PkL w base top gb gD gS X1 c s D W) (hl:W.heap[l]?=some lo) (hc:lo.isCells=false) (hw:w.heap.size+2<l) (hD:l≠D) (o:Obj):PkL w base top gb gD gS X1 c s D (W.putObj l o):=by
 obtain ⟨X',ha,hr⟩:=h.ex
 exact ⟨⟨X',ha,hr.put hl hc o⟩,⟨h.iU.os,h.iU.tape,h.iU.output,by have:=h.iU.size;simpa using this,fun k hk hn=>(World.putObj_heap_other (by omega)).trans (h.iU.block k hk hn)⟩,(World.putObj_heap_other (by omega)).trans h.r2,(World.putObj_heap_other (by omega)).trans h.r3,(World.putObj_heap_other (fun e=>hD e.symm)).trans h.d⟩
theorem ta (X:Rnd) (base top:Nat) (gb:oN) (gD gS c:Nat) (w:World) (h:iy w base top gb gD gS X) (hok:X.Ok) (hc:X.now=c) (ht:X.turn=(c:Int)) (hL:X.L c≠0) (hd:(fS X).d c<X.z c 0) :
  Calls Tryz.prog 151 #[.pointer (some ⟨gb.g,gb.o,none⟩),.int .i64 (c:Int)] w fun e w'=>e=.returned (.tuple #[.int .i64 0,.bool false])∧iy w' base top gb gD gS (fS X)∧Touch [gb.g,gD,gS] w w':=by
 refine (qw X base top gb gD gS c w h hok hc ht hL).mono ?_
 rintro e w' ⟨(⟨_,rfl,hR⟩ | ⟨h1,_⟩),hT⟩
 ·
  exact ⟨rfl,hR,hT⟩
 omega
theorem ve (X:Rnd) (base top:Nat) (gb:oN) (gD gS c:Nat) (w:World) (h:iy w base top gb gD gS X) (hok:X.Ok) (hc:X.now=c) (ht:X.turn=(c:Int)) (hL:X.L c≠0) (hd:X.z c 0≤(fS X).d c) :
  Calls Tryz.prog 151 #[.pointer (some ⟨gb.g,gb.o,none⟩),.int .i64 (c:Int)] w fun e w'=>e=.returned (.tuple #[.int .i64 (X.z c 0),.bool true])∧(∃ X',Alike (jG (fS X)) X'∧iy w' base top gb gD gS X')∧Touch [gb.g,gD,gS] w w':=by
 refine (qw X base top gb gD gS c w h hok hc ht hL).mono ?_
 rintro e w' ⟨(⟨h1,_⟩ | ⟨_,rfl,hR⟩),hT⟩
 ·
  omega
 exact ⟨rfl,hR,hT⟩
theorem four {w:World} {o1 o2 o3 o4:Obj}:((((w.alloc o1).alloc o2).alloc o3).alloc o4).heap[w.heap.size]?=some o1∧((((w.alloc o1).alloc o2).alloc o3).alloc o4).heap[w.heap.size+1]?=some o2∧((((w.alloc o1).alloc o2).alloc o3).alloc o4).heap[w.heap.size+1+1]?=some o3∧((((w.alloc o1).alloc o2).alloc o3).alloc o4).heap[w.heap.size+1+1+1]?=some o4 ∧
  ((((w.alloc o1).alloc o2).alloc o3).alloc o4).heap.size=w.heap.size+4∧Below w.heap.size w ((((w.alloc o1).alloc o2).alloc o3).alloc o4):=by
 have e1:(w.alloc o1).heap.size=w.heap.size+1:=by simp
 have e2:((w.alloc o1).alloc o2).heap.size=w.heap.size+1+1:=by simp
 have e3:(((w.alloc o1).alloc o2).alloc o3).heap.size=w.heap.size+1+1+1:=by simp
 refine ⟨?_,?_,?_,?_,by simp,((((Below.refl _ _).alloc (Nat.le_refl _) _).alloc (by omega) _).alloc (by omega) _).alloc (by omega) _⟩
 ·
  rw [gg _ (by omega),gg _ (by omega),gg _ (by omega),fL]
 ·
  rw [gg _ (by omega),gg _ (by omega),←e1,fL]
 ·
  rw [gg _ (by omega),←e2,fL]
 rw [←e3,fL]
def YR (w W1:World) (l base top:Nat) (gb:oN) (gD gS c0:Nat) (rc:LoopState→Option Code→Loop) (X1:Rnd) (c:Nat) (s:Int) (D:Nat) (X:Rnd) (e:Ending) (W':World):Prop :=
 (e=.returned (.bool true)∧W'.heap[l]?=some (.loop (rc .ready none))∧∃ Y k2,PkI w W1 l base top gb gD gS Y W'∧Y.nQ=X.nQ∧Y.L=X.L∧(0≤Y.turn∧Y.turn<Y.nQ)∧(gv Y).Ok∧iP k2 (gv Y) X1 c s∧l9 (gv Y) c0<l9 X c0) ∨
 (e=.returned (.bool false)∧W'.heap[l]?=some (.loop (rc .done (some .ret)))∧PkL w base top gb gD gS X1 c s D W')
theorem AO (X0:Rnd) (base top:Nat) (gb:oN) (gD gS c0:Nat) (w:World) (htop:top≤w.heap.size) (h:iy w base top gb gD gS X0) (hok:X0.Ok) (hc0:c0<X0.nQ) (hl0:X0.L c0≠0) (k0:Nat) (X1:Rnd) (c:Nat) (s:Int) (hp:iP k0 X0 X1 c s) :
  Calls Tryz.prog 138 #[.pointer (some ⟨gb.g,gb.o,none⟩)] w fun e w'=>e=.returned (.tuple #[.int .i64 (c:Int),.int .i64 s])∧(∃ X',Alike X1 X'∧iy w' base top gb gD gS X')∧Touch [gb.g,gD,gS] w w':=by
 have HR:Hid (iy w base top gb gD gS X0):=h
 have HOk:Hid X0.Ok:=hok
 have HP:Hid (iP k0 X0 X1 c s):=hp
 have HL0:Hid (X0.L c0≠0):=hl0
 have HC0:Hid (c0<X0.nQ):=hc0
 have HLt:Hid (gb.g<w.heap.size∧gD<w.heap.size∧gS<w.heap.size):=h.lts
 have HTop:Hid (top≤w.heap.size):=htop
 clear h hok hp hl0 hc0 htop
 refine (callsIn_wide (n:=8)).1 ?_
 refine callsIn_of_wp_marks Tryz.func138 rfl trivial ?_ rfl
 simp only [Tryz.ntmps138,List.size_toArray,List.length_cons,List.length_nil,Nat.reduceAdd,Nat.reduceSub,Array.replicate_succ,Array.replicate_zero,List.push_toArray,List.append_toArray,List.nil_append,List.cons_append]
 have f33:Fence.wide.fn 150:=trivial
 gi_wp2_with (gi_at_call 150;refine (callsIn_wide.2 (wE gb.g gb.o _)).mono ?_;rintro e w2 ⟨rfl,rfl⟩)
 obtain ⟨q1,q2,q3,q4,q5,qb⟩:=four (w:=w) (o1:=.cells #[.pointer (some ⟨gb.g,gb.o,none⟩)] 184) (o2:=.cells #[.int .i64 0] 2) (o3:=.cells #[.int .i64 0] 2) (o4:=.cells #[.pointer (some ⟨gb.g,gb.o,none⟩)] 184)
 generalize (((w.alloc (.cells #[.pointer (some ⟨gb.g,gb.o,none⟩)] 184)).alloc (.cells #[.int .i64 0] 2)).alloc (.cells #[.int .i64 0] 2)).alloc (.cells #[.pointer (some ⟨gb.g,gb.o,none⟩)] 184)=w0 at *
 have HQ:Hid (w0.heap[w.heap.size]?=some (.cells #[.pointer (some ⟨gb.g,gb.o,none⟩)] 184 (0,0))∧w0.heap[w.heap.size+1]?=some (.cells #[.int .i64 0] 2 (0,0))∧w0.heap[w.heap.size+1+1]?=some (.cells #[.int .i64 0] 2 (0,0))∧w0.heap[w.heap.size+1+1+1]?=some (.cells #[.pointer (some ⟨gb.g,gb.o,none⟩)] 184 (0,0))∧w0.heap.size=w.heap.size+4∧Below w.heap.size w w0):=⟨q1,q2,q3,q4,q5,qb⟩
 clear q1 q2 q3 q4 q5 qb
 refine kG rfl (by omega) (gf:=159) (lb:=#[.pointer (some ⟨w.heap.size+1+1+1,0,none⟩)]) rfl trivial (enters_of Tryz.func159 (by kernel_rfl) rfl) (fun _=>False) (fun c' W=>c'=.ret∧(∃ lo,W.heap[w0.heap.size+1]?=some lo∧lo.isCells=false)∧PkL w base top gb gD gS X1 c s w0.heap.size W) ?it (fun W o h=>h.elim) ?stop
 case stop =>
  rintro c' W o ⟨rfl,⟨lo,hlo,hlc⟩,hPL⟩
  have hq5:=HQ.out.2.2.2.2.1
  have hP2:=hPL.put hlo hlc (by omega) (by omega) o
  generalize W.putObj (w0.heap.size+1) o=W2 at *
  have hK:=hP2.d
  have hP3:=hP2
  obtain ⟨⟨X',hA,hR⟩,hT,hr2,hr3,_⟩:=hP3
  have hR3:=hR.put hK rfl (.deferred none)
  have hD2:w.heap.size+2<w0.heap.size:=by omega
  have hc2:(W2.putObj w0.heap.size (.deferred none)).cell? ⟨w.heap.size+1,0,none⟩=some (.int .i64 (c:Int)):=(lp (by omega)).trans (fG hr2 0)
  have hc3:(W2.putObj w0.heap.size (.deferred none)).cell? ⟨w.heap.size+1+1,0,none⟩=some (.int .i64 s):=(lp (by omega)).trans (fG hr3 0)
  have hT2:Touch [gb.g,gD,gS] w (W2.putObj w0.heap.size (.deferred none)):=⟨hT.os,hT.tape,hT.output,by have:=hT.size;simpa using this,fun k hk hn=>(World.putObj_heap_other (by omega)).trans (hT.block k hk hn)⟩
  gi_wp2
  refine ⟨by simp,.inl ⟨_,_,rfl,run_takeDeferred hK,?_⟩⟩
  exact ⟨.tuple #[.int .i64 (c:Int),.int .i64 s],by simp [results,Tryz.results138,go_sem,hc2,hc3],rfl,⟨X',hA,hR3⟩,hT2⟩
 intro fn hfn rc hrc
 obtain ⟨W1,hW1⟩:∃ W1,(w0.alloc (.deferred (some []))).alloc (.loop (rc .ready none))=W1:=⟨_,rfl⟩
 obtain ⟨l,hl⟩:∃ l,l=w0.heap.size+1:=⟨_,rfl⟩
 have hq5:=HQ.out.2.2.2.2.1
 have e1:(w0.alloc (.deferred (some []))).heap.size=w0.heap.size+1:=by simp
 have HW:Hid (W1.heap[l]?=some (.loop (rc .ready none))∧W1.heap[w0.heap.size]?=some (.deferred (some []))∧W1.heap.size=w0.heap.size+2∧(∀ k,k<w0.heap.size→W1.heap[k]?=w0.heap[k]?)):=by
  rw [Hid,←hW1,hl]
  refine ⟨?_,?_,by simp,fun k hk=>?_⟩
  ·
   rw [←e1,fL]
  ·
   rw [gg _ (by omega),fL]
  rw [gg _ (by omega),gg _ hk]
 have HI0:Hid (PkI w W1 l base top gb gD gS X0 W1):=by
  have hb:Below w0.heap.size w0 W1:=by rw [←hW1];exact ((Below.refl _ _).alloc (Nat.le_refl _) _).alloc (by omega) _
  have hbw:Below w.heap.size w W1:=HQ.out.2.2.2.2.2.trans (hb.mono (by omega))
  exact ⟨HR.out.up hbw,fun k _ _ _=>rfl,Touch.gY hbw,Nat.le_refl _⟩
 have HB:Hid (∀ X wr,PkI w W1 l base top gb gD gS X wr→wr.heap[w.heap.size]?=some (.cells #[.pointer (some ⟨gb.g,gb.o,none⟩)] 184 (0,0))∧wr.heap[w.heap.size+1]?=some (.cells #[.int .i64 0] 2 (0,0))∧wr.heap[w.heap.size+1+1]?=some (.cells #[.int .i64 0] 2 (0,0))∧wr.heap[w.heap.size+1+1+1]?=some (.cells #[.pointer (some ⟨gb.g,gb.o,none⟩)] 184 (0,0))∧wr.heap[w0.heap.size]?=some (.deferred (some []))):=fun X wr hI=>by
  obtain ⟨a1,a2,a3,a4⟩:=HW.out
  refine ⟨?_,?_,?_,?_,?_⟩
  ·
   rw [hI.new _ (by omega) (by omega) (by omega),a4 _ (by omega)];exact HQ.out.1
  ·
   rw [hI.new _ (by omega) (by omega) (by omega),a4 _ (by omega)];exact HQ.out.2.1
  ·
   rw [hI.new _ (by omega) (by omega) (by omega),a4 _ (by omega)];exact HQ.out.2.2.1
  ·
   rw [hI.new _ (by omega) (by omega) (by omega),a4 _ (by omega)];exact HQ.out.2.2.2.1
  rw [hI.new _ (by omega) (by omega) (by omega)];exact a2
 have HY:Hid (∀ (X:Rnd) (k:Nat) (W:World),PkI w W1 l base top gb gD gS X W→W.heap[l]?=some (.loop (rc .ready none))→X.Ok→iP k X X1 c s→c0<X.nQ→X.L c0≠0 →
   ∃ tm asg bod,(Instr.yield l #[.int .i64 X.turn]).run Tryz.prog W=.ok (.round l fn tm asg bod) W∧RoundIn Fence.wide 6 Tryz.prog l fn tm asg bod W (YR w W1 l base top gb gD gS c0 rc X1 c s w0.heap.size X)):=by
  intro X k W hI hlr hO hPk hcq hL
  refine ⟨_,_,_,Av (n:=6) trivial (by rw [←hrc];exact hlr) rfl _ ?_⟩
  rw [←hrc]
  obtain ⟨tn,htn⟩:=Int.eq_ofNat_of_zero_le hO.t.1
  have hnow:X.now=tn:=by unfold Rnd.now;omega
  rw [htn]
  have hn4:X.nQ≤4:=hO.n.2
  have hcn:tn<X.nQ:=by have:=hO.t.2;omega
  have hwl:w.heap.size+2<l:=by omega
  have hltl:l<W.heap.size:=(Array.getElem?_eq_some_iff.1 hlr).1
  have hIb:=hI.put hlr rfl (by omega) (.loop (rc .busy none))
  have hlb:(W.putObj l (.loop (rc .busy none))).heap[l]?=some (.loop (rc .busy none)):=World.putObj_heap_same hltl
  have HHl:Hid (W.heap[l]?=some (.loop (rc .ready none))):=hlr
  have HD0:Hid (l≠w0.heap.size):=by rw [Hid];omega
  have f38:Fence.wide.fn 151:=trivial
  clear hrc hlr hI hl hq5 e1 hW1
  gi_wp2
  refine ⟨HHl.out,?_⟩
  clear HHl hltl
  generalize W.putObj l (.loop (rc .busy none))=Wb at *
  obtain ⟨kb1,kb2,kb3,kb4,kb5⟩:=HB.out X Wb hIb
  have HIb:Hid (PkI w W1 l base top gb gD gS X Wb):=hIb
  have HLb:Hid (Wb.heap[l]?=some (.loop (rc .busy none))):=hlb
  have HK2:Hid (Wb.heap[w.heap.size+1]?=some (.cells #[.int .i64 0] 2 (0,0))):=kb2
  have HK3:Hid (Wb.heap[w.heap.size+1+1]?=some (.cells #[.int .i64 0] 2 (0,0))):=kb3
  have HK5:Hid (Wb.heap[w0.heap.size]?=some (.deferred (some []))):=kb5
  have cbp:=fG kb1 0
  have HOx:Hid X.Ok:=hO
  have HTn:Hid (X.turn=(tn:Int)):=htn
  have HNow:Hid (X.now=tn):=hnow
  have HLx:Hid (X.L c0≠0):=hL
  have hltb:l<Wb.heap.size:=(Array.getElem?_eq_some_iff.1 hlb).1
  clear hIb hlb kb1 kb2 kb3 kb4 kb5 hO htn hnow hL
  by_cases hn0:X.L tn=0
  ·
   obtain ⟨k2,rfl,hPk2⟩:=hPk.yD (by rw [HNow.out];exact hn0)
   have HE:Hid (YR w W1 l base top gb gD gS c0 rc X1 c s w0.heap.size X (.returned (.bool true)) (Wb.putObj l (.loop (rc .ready none)))) :=
    .inl ⟨rfl,World.putObj_heap_same hltb,X,k2,HIb.out.put HLb.out rfl (by omega) _,rfl,rfl,HOx.out.t,lZ HOx.out (fun hne=>absurd (by rw [HNow.out];exact hn0) hne),hPk2,tt HOx.out hcq HLx.out (by rw [HNow.out];exact hn0)⟩
   have HN0:Hid (X.L tn=0):=hn0
   clear hn0 hPk hPk2
   gi_wp2_with (gi_at_call 151;refine (CallsIn.inRound l (callsIn_wide.2 (vf X base top gb gD gS tn Wb HIb.out.rep hcn hn4 HN0.out))).mono ?_;rintro e W2 ⟨rfl,rfl⟩)
   exact ⟨HLb.out,HE.out⟩
  by_cases hsh:(fS X).d tn<X.z tn 0
  ·
   obtain ⟨k2,rfl,hPk2⟩:=hPk.wL (by rw [HNow.out];exact hn0) (by rw [HNow.out];exact hsh)
   have HN0:Hid (X.L tn≠0):=hn0
   have HSh:Hid ((fS X).d tn<X.z tn 0):=hsh
   have HPk2:Hid (iP k2 (gv (fS X)) X1 c s):=hPk2
   clear hn0 hsh hPk hPk2
   gi_wp2_with (gi_at_call 151;refine (CallsIn.inRound l (callsIn_wide.2 (ta X base top gb gD gS tn Wb HIb.out.rep HOx.out HNow.out HTn.out HN0.out HSh.out))).mono ?_;rintro e W2 ⟨rfl,hR2,hT2⟩)
   have hI2:=HIb.out.next HLt.out hR2 hT2
   have hl2:W2.heap[l]?=some (.loop (rc .busy none)):=(hT2.block l hltb (BW HLt.out (by omega))).trans HLb.out
   have hz5:=(HOx.out.c tn hcn).2.1.2 0 (by have:=HN0.out;omega)
   refine ⟨hl2,.inl ⟨rfl,World.putObj_heap_same (Array.getElem?_eq_some_iff.1 hl2).1,fS X,k2,hI2.put hl2 rfl (by omega) _,iC X,lx X,by rw [m5,iC];exact HOx.out.t,lZ (lv HOx.out (by rw [HNow.out];exact HN0.out)) (fun _=>?_),HPk2.out,qD HOx.out hcq (by rw [HNow.out];exact HN0.out) (by rw [HNow.out];exact HSh.out)⟩⟩
   rw [iB,HNow.out]
   have:=HSh.out
   omega
  have hle:X.z tn 0≤(fS X).d tn:=by omega
  obtain ⟨eX,ec,es⟩:=hPk.uX (by rw [HNow.out];exact hn0) (by rw [HNow.out];exact hle)
  rw [HNow.out] at ec es
  have HX1:Hid (X1=jG (fS X)):=eX
  have Hc:Hid (c=tn):=ec
  have Hs:Hid (s=X.z tn 0):=es
  have HN0:Hid (X.L tn≠0):=hn0
  have HLe:Hid (X.z tn 0≤(fS X).d tn):=hle
  clear hn0 hsh hPk eX ec es hle
  gi_wp2_with (gi_at_call 151;refine (CallsIn.inRound l (callsIn_wide.2 (ve X base top gb gD gS tn Wb HIb.out.rep HOx.out HNow.out HTn.out HN0.out HLe.out))).mono ?_;rintro e W2 ⟨rfl,hex,hT2⟩;have kk2:=(hT2.block _ (fH HK2.out) (BW HLt.out (by omega))).trans HK2.out;have kk3:=(hT2.block _ (fH HK3.out) (BW HLt.out (by omega))).trans HK3.out;have cc2:=fG kk2;have ff2:=fX kk2;have cc3:=fG kk3;have ff3:=fX kk3)
  have hl2:W2.heap[l]?=some (.loop (rc .busy none)):=(hT2.block l hltb (BW HLt.out (by omega))).trans HLb.out
  have hd2:W2.heap[w0.heap.size]?=some (.deferred (some [])):=(hT2.block _ (Array.getElem?_eq_some_iff.1 HK5.out).1 (BW HLt.out (by have:=HQ.out.2.2.2.2.1;omega))).trans HK5.out
  have hz0:w0.heap.size=w.heap.size+4:=HQ.out.2.2.2.2.1
  have hT3:Touch [w.heap.size+1,w.heap.size+1+1] W2 ((W2.setCell ⟨w.heap.size+1,0,none⟩ (.int .i64 (tn:Int))).setCell ⟨w.heap.size+1+1,0,none⟩ (.int .i64 (X.z tn 0))):=((Touch.refl _ _).set (by simp) 0 _).set (by simp) 0 _
  have hb2:=(fO (i:=0) (show w.heap.size+1≠w.heap.size+1+1 by omega) (.int .i64 (X.z tn 0))).trans (gj (i:=0) kk2 (.int .i64 (tn:Int)))
  have hb3:=gj (i:=0) ((fO (i:=0) (show w.heap.size+1+1≠w.heap.size+1 by omega) (.int .i64 (tn:Int))).trans kk3) (.int .i64 (X.z tn 0))
  have hT4:=HIb.out.iU.trans hT2
  generalize (W2.setCell ⟨w.heap.size+1,0,none⟩ (.int .i64 (tn:Int))).setCell ⟨w.heap.size+1+1,0,none⟩ (.int .i64 (X.z tn 0))=W3 at *
  have hl3:W3.heap[l]?=some (.loop (rc .busy none)):=(hT3.block l (Array.getElem?_eq_some_iff.1 hl2).1 (by simp;omega)).trans hl2
  have hd3:=(hT3.block w0.heap.size (Array.getElem?_eq_some_iff.1 hd2).1 (by simp;omega)).trans hd2
  obtain ⟨X',hA,hR'⟩:=hex
  have hR3:=hR'.Az hT3 (fun x hx=>by have:=HTop.out;simp at hx;omega)
  have hT5:Touch [gb.g,gD,gS] w W3:=⟨hT3.os.trans hT4.os,hT3.tape.trans hT4.tape,hT3.output.trans hT4.output,Nat.le_trans hT4.size hT3.size,fun k hk hn=>(hT3.block k (by have:=hT4.size;omega) (by simp;omega)).trans (hT4.block k hk hn)⟩
  have hPL:PkL w base top gb gD gS X1 c s w0.heap.size W3:=⟨⟨X',by rw [HX1.out];exact hA,hR3⟩,hT5,by rw [Hc.out];exact hb2,by rw [Hs.out];exact hb3,hd3⟩
  exact ⟨hl3,.inr ⟨rfl,World.putObj_heap_same (Array.getElem?_eq_some_iff.1 hl3).1,hPL.put hl3 rfl hwl HD0.out _⟩⟩
 rw [hW1,←hl]
 have hwl:w.heap.size+2<l:=by omega
 have HHl:Hid (∃ lo,l=lo):=⟨_,rfl⟩
 have HD9:Hid (∀ W,PkL w base top gb gD gS X1 c s w0.heap.size W→W.heap[l]?=some (.loop (rc .done (some .ret)))→(fun c' W=>c'=.ret∧(∃ lo,W.heap[l]?=some lo∧lo.isCells=false)∧PkL w base top gb gD gS X1 c s w0.heap.size W) Code.ret W):=fun W hP hl9=>⟨rfl,⟨_,hl9,rfl⟩,hP⟩
 have HW1:Hid (W1.heap[l]?=some (.loop (rc .ready none))):=HW.out.1
 have f43:Fence.wide.fn 160:=trivial
 have f44:Fence.wide.fn 161:=trivial
 have HLx:Hid (w.heap.size≤l):=by rw [Hid];omega
 clear hrc hl hq5 e1 hW1 HHl HW f33
 refine callsIn_of_wp Tryz.func159 rfl trivial ?_ rfl
 simp only [Tryz.ntmps159,List.size_toArray,List.length_cons,List.length_nil,Nat.reduceAdd,Nat.reduceSub,Array.replicate_succ,Array.replicate_zero,List.push_toArray,List.append_toArray,List.nil_append,List.cons_append]
 gi_wp2
 gi_loopw [3] (fun _ wr=>∃ (X:Rnd) (k:Nat),PkI w W1 l base top gb gD gS X wr∧wr.heap[l]?=some (.loop (rc .ready none))∧X.Ok∧iP k X X1 c s∧X.nQ=X0.nQ∧X.L c0≠0) (fun _ wr=>zj X0.nQ gb gD c0 wr)
 case atStart=>exact ⟨X0,k0,HI0.out,HW1.out,HOk.out,HP.out,rfl,HL0.out⟩
 obtain ⟨X,k,hI,hlr,hO,hPk,hnq,hL⟩:=hrel
 have HI:Hid (PkI w W1 l base top gb gD gS X wr):=hI
 have HLr:Hid (wr.heap[l]?=some (.loop (rc .ready none))):=hlr
 have HO:Hid X.Ok:=hO
 have HPk:Hid (iP k X X1 c s):=hPk
 have HNq:Hid (X.nQ=X0.nQ):=hnq
 have HL:Hid (X.L c0≠0):=hL
 have HCq:Hid (c0<X.nQ):=by rw [Hid,hnq];exact HC0.out
 have cb:=hI.rep.cx
 have cc4:=fG (HB.out X wr hI).2.2.2.1 0
 have HBt:Hid (true=true↔∃ i,i<X.nQ∧X.L i≠0):=⟨fun _=>⟨c0,HCq.out,HL.out⟩,fun _=>rfl⟩
 clear hI hlr hO hPk hnq hL
 gi_wp2_with (gi_at_call 160;refine (callsIn_wide.2 (kd X wr (Bs HO.out) HI.out.rep.own.rd (by rw [HO.out.d];exact Nat.le_refl _) (by rw [HO.out.s];exact Nat.le_refl _) true HBt.out)).mono ?_;rintro e w2 ⟨rfl,hb⟩;have hI2:=HI.out.up hb;have hl2:w2.heap[l]?=some (.loop (rc .ready none)):=(hb.block l (Array.getElem?_eq_some_iff.1 HLr.out).1).trans HLr.out;have cb2:=hI2.rep.cx;have cc42:=fG (HB.out X w2 hI2).2.2.2.1 0;obtain ⟨tm,asg,bod,hy,hR⟩:=HY.out X k w2 hI2 hl2 HO.out HPk.out HCq.out HL.out;clear hb hI2 hl2 cb cc4)
 refine hR.mono ?_
 clear hR hy cb2 cc42
 rintro e W' (⟨rfl,hlW,Y,k2,hIY,hYq,hYL,hYt,hTo,hPk2,hlt⟩ | ⟨rfl,hlW,hPL⟩)
 ·
  have cc5:=fG (HB.out Y W' hIY).2.2.2.1 0
  have HIY:Hid (PkI w W1 l base top gb gD gS Y W'):=hIY
  have HlW:Hid (W'.heap[l]?=some (.loop (rc .ready none))):=hlW
  have HYq:Hid (Y.nQ=X.nQ):=hYq
  have HYL:Hid (Y.L=X.L):=hYL
  have HTo:Hid (gv Y).Ok:=hTo
  have HPk2:Hid (iP k2 (gv Y) X1 c s):=hPk2
  have Hlt:Hid (l9 (gv Y) c0<l9 X c0):=hlt
  have HYt:Hid (0≤Y.turn∧Y.turn<Y.nQ):=hYt
  clear hIY hlW hYq hYL hTo hPk2 hlt hYt
  gi_wp2_with (gi_at_call 161;refine (callsIn_wide.2 (nt Y base top gb gD gS W' HIY.out.rep (by rw [HYq.out];exact HO.out.n.2) HYt.out)).mono ?_;rintro e W5 ⟨⟨v,rfl⟩,hR5,hT5⟩)
  have hT6:Touch [gb.g,gD,gS] W' W5:=hT5.mono (fun x hx=>by simp at hx;simp [hx])
  have hI5:=HIY.out.next HLt.out hR5 hT6
  have hl5:W5.heap[l]?=some (.loop (rc .ready none)):=(hT6.block l (Array.getElem?_eq_some_iff.1 HlW.out).1 (BW HLt.out HLx.out)).trans HlW.out
  have hq5:(gv Y).nQ=X0.nQ:=by show Y.nQ=_;rw [HYq.out,HNq.out]
  have hm1:=hI5.rep.left (c0:=c0) (by rw [hq5];exact HC0.out)
  have hm2:=HI.out.rep.left (c0:=c0) HCq.out
  rw [hq5] at hm1
  rw [HNq.out] at hm2
  have HQ5:Hid ((gv Y).nQ=X0.nQ):=hq5
  have HM1:Hid (zj X0.nQ gb gD c0 W5=l9 (gv Y) c0):=hm1
  have HM2:Hid (zj X0.nQ gb gD c0 wr=l9 X c0):=hm2
  clear hq5 hm1 hm2
  go_roundw
  case rel=>exact ⟨gv Y,k2,hI5,hl5,HTo.out,HPk2.out,HQ5.out,by show Y.L c0≠0;rw [HYL.out];exact HL.out⟩
  case measure=>rw [HM1.out,HM2.out];exact Hlt.out
 gi_wp2
 go_end0
 exact ⟨⟨_,rfl⟩,.inr ⟨.ret,⟨rfl,⟨_,hlW,rfl⟩,hPL⟩,hlW⟩⟩
end Go.Proofs.YtfcfpkibceepgaaGreat
