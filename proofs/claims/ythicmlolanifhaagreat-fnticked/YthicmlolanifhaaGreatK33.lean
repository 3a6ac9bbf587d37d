import Derived.Test.YthicmlolanifhaaGreatK32
namespace Go.Proofs.YthicmlolanifhaaGreat
set_option maxRecDepth 100000
set_option maxHeartbeats 9000000
open Go.RowKit
set_option linter.unusedVariables false
set_option linter.unusedSimpArgs false
theorem fu {p:Prop} (h:p:=by
 go_simp
 refine hK.out _ _ q1 (fun hHeld=>?_)
 clear hK K
 try simp only [Act.put,PZ]
 refine rq1 10 (fun K hK=>?_)
 refine jy (by kernel_rfl) (some 20) (.tmp 17) (.tmp 19) 27 _ _ _ rfl rfl rfl rfl rfl hrun ?_
 refine hK.out _ _ q2 (fun hHeld=>?_)
 clear hK K
 try simp only [Act.put,PZ]
 refine tC 11 21 (v:=?_) ?_ ?_
 rotate_left
 · exact aI
 try simp only [Act.put,PZ]
 refine rq1 12 (fun K hK=>?_)
 go_simp
 refine hK.out _ _ q3 (fun hHeld=>?_)
 clear hK K
 try simp only [Act.put,PZ]
 refine dnq ?_
 rw [←HW6.out]
 clear q0 q1 q2 q3 hHeld rS4 rS4' cS5 fS5
 go_wp2_with fail
 have ht:=jX W6 (w.heap.size+1) (.slice aq nQ cq) (.slice ad nD cd) (.int .i64 turn) (.bool fresh) (.slice (some ⟨gS,0,none⟩) nS cv)
 have cF:=gM (l8 kB6 (.slice aq nQ cq) (.slice ad nD cd) (.int .i64 turn) (.bool fresh) (.slice (some ⟨gS,0,none⟩) nS cv))
 have hBf:=HB6.out.trans (ht.below HB6.out.size (fun x hx=>by simp at hx;omega))
 have hOf:=(HOw.out.jm ht (fun x hx=>by simp at hx;omega)).mono hbw
 unfold sf at cF hBf hOf
 exact bodyPost_ret (v:=.agg ((Rnd.cp2 ⟨aQ,nQ,cQ,q,aD,nD,cD,d,turn,fresh,aS,nS,cS,A,L,C,z⟩ aq cq ad cd (some ⟨gS,0,none⟩) cv A' C').push k s a' c').cells) (by simp [results,Tryz.results121,go_sem,cF,Rnd.cp2,Rnd.push,Rnd.cells]) rfl ⟨_,rfl,hOf,hBf,HAl.out⟩):p:=h
theorem fv {p:Prop} (h:p:=by
 refine rq1 9 (fun K hK=>?_)
 go_simp
 refine (vX S.C S.N i x.p x.cl _ HOk.out.n (HR.out.n.up HX.out.s.bel) hiU (by have:=HFr.out.cl;omega) (by have:=HFr.out.cl;omega) ok HOB.out).mono ?_
 rintro e XM ⟨M,rfl,oM,hbM,aM⟩
 replace HX:Hid (SaS w XM gS S Q1 x):=HX.out.up hbM
 have hTM:=And.intro HX.out.a HX.out.s.fr
 have HM9:Hid (iG XM w.heap.size M∧(∀ y∈iU M.aU M.nU,V5.heap.size≤y)∧iA (oI (kW S.N i x.p x.cl) ok) M):=⟨oM.mono (by omega),fun y hy=>by have:=(oM.u.blk y hy).1;omega,aM⟩
 replace HG:Hid (XM.heap[g8]?=some (.cells #[.slice none 0 0,.int .i64 0,.slice none 0 0] 30 (0,0))∧w.heap.size≤g8):=⟨(hbM.block _ (gO HG.out.1)).trans HG.out.1,HG.out.2⟩
 clear oM aM hbM
 go_wp2_with fail
 refine hK.out _ _ hTM (fun hHeld=>?_)
 clear hK K
 try simp only [Act.put,PZ]
 refine tQ 10 61 ?_
 refine tQ 11 72 ?_
 refine tQ 12 73 ?_
 exact fF):p:=h
theorem fw {p:Prop} (h:p:=by
 have HLq:Hid (∀ j,j<17→X.cell? ⟨gS,0+j,none⟩=Q.cells[j]?):=fun j _=>by rw [Nat.zero_add];exact gM HX.out.s.box j
 have HDz:Hid (X.heap[w.heap.size+1+1]?=some (.cells zSw 34 (0,0))):=HX.out.z
 go_wp2_with (first | refine gY rfl 34 17 _ Tryz.underlying34 rfl ij (.tmp 8) rfl gS 0 rfl Q.cells rfl HLq.out ?_ | refine gW rfl 34 (.tmp 6) (.tmp 28) rfl (w.heap.size+1+1) 0 rfl (.agg Q.cells) rfl 17 rfl 34 _ HDz.out ij (Nat.le_of_ble_eq_true rfl) (Swg.lx _) ?_)
 exact yy):p:=h
theorem fx {p:Prop} (h:p:=by
 go_wp2_with (refine gW rfl 2 (.tmp 122) (.tmp 121) rfl gp 2 rfl (.int .i64 (((mH dst (i:Int) k:Nat):Int)+1)) rfl 1 rfl 50 _ HPB.out tq (Nat.le_of_ble_eq_true rfl) (by simp [Value.cells,Value.oneCell']) ?_)
 intro X5 hP
 exact EC):p:=h
theorem fy {p:Prop} (h:p:=by
 go_wp2_with (refine gW rfl 2 (.tmp 88) (.tmp 87) rfl gS 16 rfl (.int .i64 (min 1000000000 (Q1.lst+1))) rfl 1 rfl 34 _ HBx.out tq (Nat.le_of_ble_eq_true rfl) (by simp [Value.cells,Value.oneCell']) ?_)
 intro X9 hP
 exact Dw):p:=h
theorem fA {p:Prop} (h:p:=by
 go_wp2_with (refine gW rfl 2 (.tmp 93) (.tmp 92) rfl gS 15 rfl (.int .i64 (min 1000000000 (Q1.dr+1))) rfl 1 rfl 34 _ HBx.out tq (Nat.le_of_ble_eq_true rfl) (by simp [Value.cells,Value.oneCell']) ?_)
 intro X9 hP
 exact Dx):p:=h
theorem fD {p:Prop} (h:p:=by
 have:S.nx=1000000000:=by
  by_cases h:S.nx=1000000000
  ·
   exact h
  exact absurd ⟨rfl,h⟩ hdrop
 simp [this]):p:=h
theorem fE {p:Prop} (h:p:=by
 go_wp2_with fail
 go_roundw
 case rel=>exact ⟨k+1,L,by omega,by go_num,HN2⟩
 case measure=>simp [intOf];omega):p:=h
theorem fF {p:Prop} (h:p:=by
 refine rq1 14 (fun K hK=>?_)
 refine jP (by kernel_rfl) none rfl 30 (.tmp 10) (.tmp 72) rfl g8 0 rfl (.agg M.cells) rfl 3 rfl 30 _ HG.out.1 uP (Nat.le_of_ble_eq_true rfl) (by simp [Value.cells,Value.oneCell',Cnt.cells]) ?_
 intro X9 hP9
 replace hP9:Put _ X9 g8 M.cells 30:=hP9.cast rfl
 exact Dv):p:=h
theorem Aw (R:Rnd) (k:Nat) (s:Int) (w:World) (hs:R.Small) (h:j4 w R) (hk:k<R.nS) (hL:R.L k≤1000) :
  Calls Tryz.prog 121 #[.agg R.cells,.int .i64 k,.int .i64 s] w fun e w'=>∃ R',e=.returned (.agg R'.cells)∧jw w' w.heap.size R'∧Below w.heap.size w w'∧Alike (R.push k s none 0) R':=by
 obtain ⟨aQ,nQ,cQ,q,aD,nD,cD,d,turn,fresh,aS,nS,cS,A,L,C,z⟩:=R
 have HR:Hid (j4 w ⟨aQ,nQ,cQ,q,aD,nD,cD,d,turn,fresh,aS,nS,cS,A,L,C,z⟩):=h
 have HS:Hid (Rnd.Small ⟨aQ,nQ,cQ,q,aD,nD,cD,d,turn,fresh,aS,nS,cS,A,L,C,z⟩):=hs
 dsimp only at hk hL
 have hk':(k:Int)<nS:=by omega
 have hnS:(nS:Int)≤1048576:=by have:nS≤1048576:=hs.s;omega
 clear h hs
 have HA:Hid (∀ A B,Below w.heap.size w ((w.alloc A).alloc B)):=fun A B=>((Below.refl _ _).alloc (Nat.le_refl _) _).alloc (by simp) _
 have e2:∀ A B,((w.alloc A).alloc B).heap.size=w.heap.size+1+1:=fun A B=>by simp
 dsimp only [Rnd.cells]
 go_enter Tryz.func121,Tryz.ntmps121
 go_wp2_with fail
 refine (lg ⟨aQ,nQ,cQ,q,aD,nD,cD,d,turn,fresh,aS,nS,cS,A,L,C,z⟩ _ HS.out (HR.out.up (HA.out _ _))).mono ?_
 rintro e w3 ⟨aq,cq,ad,cd,av,cv,A',C',rfl,hZ,hb3⟩
 obtain ⟨kA,kB3,B3,z3⟩:=vo hb3
 rw [e2] at hZ
 clear hb3 HA kA e2
 obtain ⟨gS,rfl⟩:∃ gS,av=some ⟨gS,0,none⟩:=by
  rcases hZ.own.s with h0 | ⟨g,hg,_,_⟩
  ·
   exact absurd hk (by rw [show nS=0 from h0];omega)
  exact ⟨g,hg⟩
 have hX:Below w3.heap.size w3 (w3.alloc (.cells #[.slice aq nQ cq,.slice ad nD cd,.int .i64 turn,.bool fresh,.slice (some ⟨gS,0,none⟩) nS cv] 46)).drew:=((Below.refl _ _).alloc (Nat.le_refl _) _).drew
 have kT:=gV w3 (.cells #[.slice aq nQ cq,.slice ad nD cd,.int .i64 turn,.bool fresh,.slice (some ⟨gS,0,none⟩) nS cv] 46)
 have kT4:(w3.alloc (.cells #[.slice aq nQ cq,.slice ad nD cd,.int .i64 turn,.bool fresh,.slice (some ⟨gS,0,none⟩) nS cv] 46)).drew.heap[w3.heap.size]?=_:=kT
 have kB4:=(hX.block _ (gO kB3)).trans kB3
 have hZ4:=hZ.up hX
 have B4:=B3.trans (hX.mono B3.size)
 clear hX kT kB3 hZ B3
 simp only [Rnd.cp2,Rnd.cells]
 go_wp2_with fail
 generalize (w3.alloc (.cells #[.slice aq nQ cq,.slice ad nD cd,.int .i64 turn,.bool fresh,.slice (some ⟨gS,0,none⟩) nS cv] 46))=Wx at *
 have hbw:w.heap.size≤w.heap.size+1+1:=by omega
 have hz4:w.heap.size+1+1≤Wx.drew.heap.size:=by have:=gO kT4;omega
 obtain ⟨W4,hW4⟩:∃ W4,W4=Wx.drew:=⟨_,rfl⟩
 rw [←hW4] at kT4 kB4 hZ4 B4 hz4
 obtain ⟨a',c',W5,hrun,hP⟩:=hZ4.EE (c:=k) (gS:=gS) hk hL hz4 rfl s
 dsimp only [Rnd.cp2] at hrun
 have hrow:w.heap.size+1+1≤gS∧iD gS 27 nS (fun i=>.slice (A' i) (L i) (C' i)) nS W4:=by
  rcases hZ4.own.s with h0 | ⟨g,hg,hbg,hr⟩
  ·
   exact absurd hk (by rw [show nS=0 from h0];omega)
  cases hg
  exact ⟨hbg,hr⟩
 obtain ⟨hgS,hr4⟩:=hrow
 have hAl:=(Below.refl W4.heap.size W4).alloc (Nat.le_refl _) (.cells #[.int .i64 s] 2)
 have rS4:=hr4.at k hk
 have rS4':=(hr4.jB (hAl.block _ hr4.lt)).at k hk
 have hne:w3.heap.size≠gS:=fun e=>by
  obtain ⟨arr,hx,_⟩:=hr4
  rw [←e,kT4] at hx
  simp at hx
 have q0:W4.cell? ⟨w3.heap.size,4,none⟩=some (.slice (some ⟨gS,0,none⟩) nS cv):=gM kT4 4
 have q1:(W4.alloc (.cells #[.int .i64 s] 2)).cell? ⟨w3.heap.size,4,none⟩=some (.slice (some ⟨gS,0,none⟩) nS cv):=gM ((hAl.block _ (gO kT4)).trans kT4) 4
 have kT5:=hP.box _ _ _ (by decide) kT4
 have q2:W5.cell? ⟨w3.heap.size,4,none⟩=some (.slice (some ⟨gS,0,none⟩) nS cv):=gM kT5 4
 have kT6:=(ie (w:=W5) (g:=gS) (i:=k) hne (.slice a' (L k+1) c')).trans kT5
 have q3:(W5.setCell ⟨gS,k,none⟩ (.slice a' (L k+1) c')).cell? ⟨w3.heap.size,4,none⟩=some (.slice (some ⟨gS,0,none⟩) nS cv):=gM kT6 4
 have cS5:=hP.row.at k hk
 have fS5:=hP.row.free k
 dsimp only [Rnd.cp2] at cS5 rS4 rS4'
 obtain ⟨W6,hW6⟩:∃ W6,W6=W5.setCell ⟨gS,k,none⟩ (.slice a' (L k+1) c'):=⟨_,rfl⟩
 have HOw:Hid (jw W6 (w.heap.size+1+1) ((Rnd.cp2 ⟨aQ,nQ,cQ,q,aD,nD,cD,d,turn,fresh,aS,nS,cS,A,L,C,z⟩ aq cq ad cd (some ⟨gS,0,none⟩) cv A' C').push k s a' c')):=by rw [Hid,hW6];exact hP.oz
 have hB6:Below (w.heap.size+1+1) W4 W6:=by rw [hW6];exact hP.below
 have kB6:=(hB6.block _ (show w.heap.size+1<w.heap.size+1+1 by omega)).trans kB4
 have HB6:Hid (Below w.heap.size w W6):=B4.trans (hB6.mono hbw)
 rw [←hW6] at kT6
 have cT6:=gM kT6
 have cB6:=gM kB6
 have fB6:=ic kB6
 have HAl:Hid (Alike (Rnd.push ⟨aQ,nQ,cQ,q,aD,nD,cD,d,turn,fresh,aS,nS,cS,A,L,C,z⟩ k s none 0) ((Rnd.cp2 ⟨aQ,nQ,cQ,q,aD,nD,cD,d,turn,fresh,aS,nS,cS,A,L,C,z⟩ aq cq ad cd (some ⟨gS,0,none⟩) cv A' C').push k s a' c')):=⟨rfl,rfl,rfl,rfl,rfl,rfl,rfl,rfl,rfl⟩
 have HW6:Hid (W6=W5.setCell ⟨gS,k,none⟩ (.slice a' (L k+1) c')):=hW6
 clear hP hB6 hZ4 hr4 hAl kT5 B4 kB4 hW6
 refine wp_region_held_drew (S:=fun w'=>w'.cell? ⟨w3.heap.size,4,none⟩=some (.slice (some ⟨gS,0,none⟩) nS cv)) (by kernel_rfl) (by rw [←hW4];exact q0) (fun hHeld=>?_)
 rw [←hW4] at hHeld ⊢
 clear hW4 kT4
 refine tC 0 10 (v:=?_) ?_ ?_
 rotate_left
 · exact aI
 try simp only [Act.put,PZ]
 refine tC 1 11 (v:=?_) ?_ ?_
 rotate_left
 · exact aI
 try simp only [Act.put,PZ]
 refine tC 2 12 (v:=?_) ?_ ?_
 rotate_left
 · exact aI
 try simp only [Act.put,PZ]
 refine tC 3 13 (v:=?_) ?_ ?_
 rotate_left
 · exact aI
 try simp only [Act.put,PZ]
 refine tC 4 14 (v:=?_) ?_ ?_
 rotate_left
 · exact aI
 try simp only [Act.put,PZ]
 refine tC 5 15 (v:=?_) ?_ ?_
 rotate_left
 · exact aI
 try simp only [Act.put,PZ]
 refine tC 6 16 (v:=?_) ?_ ?_
 rotate_left
 · exact aI
 try simp only [Act.put,PZ]
 refine tC 8 18 (v:=?_) ?_ ?_
 rotate_left
 · exact aI
 try simp only [Act.put,PZ]
 refine rq2 7 9 (fun K hK=>?_) (fun K hK=>?_)
 ·
  go_simp
  refine hK.out _ _ q0 (fun hHeld=>?_)
  clear hK K
  try simp only [Act.put,PZ]
  refine rq1 9 (fun K hK=>?_)
  exact fu
 go_simp
 refine hK.out _ _ q1 (fun hHeld=>?_)
 clear hK K
 try simp only [Act.put,PZ]
 refine rq1 7 (fun K hK=>?_)
 exact fu
theorem vX (C:Cfg) (N:Cnt) (i:Nat) (prio y:Int) (w:World) (hN:Cnt.Ok C N) (h:lJ w N) (hi:i<N.nU) (hy1:-5≤y) (hy2:y≤5) (ok:Bool) (hok:ok=true↔Cnt.Ok C (kW N i prio y)) :
  Calls Tryz.prog 70 #[.agg C.cells,.agg N.cells,.int .i64 (i:Int),.int .i64 prio,.int .i64 y] w fun e w'=>∃ M:Cnt,e=.returned (.tuple #[.agg M.cells,.bool ok])∧iG w' w.heap.size M∧Below w.heap.size w w'∧iA (oI (kW N i prio y) ok) M:=by
 by_cases hp:prio=2
 ·
  subst hp
  rw [nX] at hok ⊢
  exact ph C N i y w hN h hi hy1 hy2 ok hok
 rw [mF hp] at hok ⊢
 exact pj C N i prio hp y w hN h hy1 hy2 ok hok
structure SaS (w W:World) (gS:Nat) (S Q:Swg) (x:Pkt):Prop where
 s:AdS w W w.heap.size gS (w.heap.size+1) Q x
 a:W.heap[w.heap.size]?=some (.cells S.cells 34 (0,0))
 z:W.heap[w.heap.size+1+1]?=some (.cells zSw 34 (0,0))
 lt:w.heap.size+1+1<gS
theorem SaS.up {w W W':World} {gS:Nat} {S Q:Swg} {x:Pkt} (h:SaS w W gS S Q x) (hb:Below W.heap.size W W'):SaS w W' gS S Q x :=
 ⟨h.s.up hb,(hb.block _ (gO h.a)).trans h.a,(hb.block _ (gO h.z)).trans h.z,h.lt⟩
theorem SaS.put {w W W':World} {gS:Nat} {S Q Q':Swg} {x:Pkt} (h:SaS w W gS S Q x) (hP:Put W W' gS Q'.cells 34) (ho:ir W w.heap.size Q'):SaS w W' gS S Q' x :=
 ⟨h.s.put hP ho,(hP.to.block _ (gO h.a) (by have:=h.lt;simp;omega)).trans h.a,(hP.to.block _ (gO h.z) (by have:=h.lt;simp;omega)).trans h.z,h.lt⟩
theorem yy {p:Prop} (h:p:=by
  intro X9 hP
  replace hP:Put X X9 (w.heap.size+1+1) Q.cells 34:=hP.cast rfl
  have HK:Hid (X9.heap[w.heap.size+1+1]?=some (.cells Q.cells 34 (0,0))):=hP.blk
  have HFF:Hid (ir X9 w.heap.size Q∧Below w.heap.size w X9):=⟨HX.out.s.own.off HX.out.z hP.to,HX.out.s.bel.trans (hP.to.below HX.out.s.bel.size (fun y hy=>by simp at hy;omega))⟩
  clear hP
  go_wp2_with fail
  rw [HC.out.1]
  exact bodyPost_ret (jI Tryz.results85 17 _ Tryz.underlying34 rfl ij _ _ (w.heap.size+1+1) Q.cells rfl 34 HK.out rfl _ rfl) rfl ⟨Q,rfl,HC.out.2,HFF.out.1,HFF.out.2⟩):p:=h
structure SaC (w W:World) (gS:Nat) (S Q:Swg) (x:Pkt) (i:Nat) (ok:Bool) (g8:Nat) (M:Cnt):Prop where
 s:SaS w W gS S Q x
 k:W.heap[g8]?=some (.cells M.cells 30 (0,0))
 own:∀ y∈iU M.aU M.nU,∀ j,j<Q.nL→y∉(Q.L j).jO
 cn:iG W w.heap.size M
 al:iA (oI (kW S.N i x.p x.cl) ok) M
theorem SaS.E0 {w W W':World} {gS g:Nat} {S Q:Swg} {x:Pkt} {cs:Array Value} (h:SaS w W gS S Q x) (hg:W.heap[g]?=some (.cells cs 30 (0,0))) (hto:Touch [g] W W') (hb:w.heap.size≤g):SaS w W' gS S Q x :=
 ⟨h.s.E0 hg rfl hto hb,(hto.block _ (gO h.a) (by simpa using iK h.a hg (by decide))).trans h.a,(hto.block _ (gO h.z) (by simpa using iK h.z hg (by decide))).trans h.z,h.lt⟩
theorem Dv {p:Prop} (h:p:=by
  have HN:Hid (SaC w X9 gS S Q1 x i ok g8 M):=by
   refine ⟨HX.out.E0 HG.out.1 hP9.to HG.out.2,hP9.blk,fun y hy j hj hz=>?_,HM9.out.1.E0 HG.out.1 hP9.to,HM9.out.2.2⟩
   have h1:=HM9.out.2.1 y hy
   have h2:=HLo.out j hj y hz
   omega
  have hT9:=And.intro HN.out.s.a HN.out.s.s.fr
  refine hK.out _ _ hT9 (fun hHeld=>?_)
  clear hK K
  try simp only [Act.put,PZ]
  refine tQ 15 11 ?_
  refine dnq ?_
  clear hP9 hT9 hHeld HX HG HM9
  go_wp2_with fail
  go_meet
  case rel=>exact ⟨g8,M,rfl,rfl,HN⟩):p:=h
theorem Dw {p:Prop} (h:p:=by
  have eL:Q1.oK x.p={ Q1 with lst:=min 1000000000 (Q1.lst+1) }:=by unfold Swg.oK;rw [if_pos HP2.out,Int.min_comm]
  replace hP:Put wc X9 gS (Q1.oK x.p).cells 34:=hP.cast (by rw [eL];rfl)
  have HX9:Hid (SaS w X9 gS S (Q1.oK x.p) x):=HC.out.s.put hP (HC.out.s.s.own.oK _)
  have HC9:Hid (code=3∧hG S' (Q1.oK x.p)):=⟨HC3.out.1,by rw [HC3.out.2];exact HA1.out.oK _⟩
  clear hP eL c15 c16 c8 c3 HBx HC HA1 HE1 hd1 hd2 w1 w2
  obtain ⟨Q9,eQ9⟩:∃ Q9,Q1.oK x.p=Q9:=⟨_,rfl⟩
  rw [eQ9] at HX9 HC9
  clear eQ9
  generalize X9=X at *
  generalize Q9=Q at *
  have HX:=HX9
  have HC:=HC9
  have HLq:Hid (∀ j,j<17→X.cell? ⟨gS,0+j,none⟩=Q.cells[j]?):=fun j _=>by rw [Nat.zero_add];exact gM HX.out.s.box j
  have HDz:Hid (X.heap[w.heap.size+1+1]?=some (.cells zSw 34 (0,0))):=HX.out.z
  go_wp2_with (first | refine gY rfl 34 17 _ Tryz.underlying34 rfl ij (.tmp 8) rfl gS 0 rfl Q.cells rfl HLq.out ?_ | refine gW rfl 34 (.tmp 6) (.tmp 94) rfl (w.heap.size+1+1) 0 rfl (.agg Q.cells) rfl 17 rfl 34 _ HDz.out ij (Nat.le_of_ble_eq_true rfl) (Swg.lx _) ?_)
  exact yy):p:=h
theorem Dx {p:Prop} (h:p:=by
  have eL:Q1.oK x.p={ Q1 with dr:=min 1000000000 (Q1.dr+1) }:=by unfold Swg.oK;rw [if_neg HP2.out,Int.min_comm]
  replace hP:Put wc X9 gS (Q1.oK x.p).cells 34:=hP.cast (by rw [eL];rfl)
  have HX9:Hid (SaS w X9 gS S (Q1.oK x.p) x):=HC.out.s.put hP (HC.out.s.s.own.oK _)
  have HC9:Hid (code=3∧hG S' (Q1.oK x.p)):=⟨HC3.out.1,by rw [HC3.out.2];exact HA1.out.oK _⟩
  clear hP eL c15 c16 c8 c3 HBx HC HA1 HE1 hd1 hd2 w1 w2
  obtain ⟨Q9,eQ9⟩:∃ Q9,Q1.oK x.p=Q9:=⟨_,rfl⟩
  rw [eQ9] at HX9 HC9
  clear eQ9
  generalize X9=X at *
  generalize Q9=Q at *
  have HX:=HX9
  have HC:=HC9
  have HLq:Hid (∀ j,j<17→X.cell? ⟨gS,0+j,none⟩=Q.cells[j]?):=fun j _=>by rw [Nat.zero_add];exact gM HX.out.s.box j
  have HDz:Hid (X.heap[w.heap.size+1+1]?=some (.cells zSw 34 (0,0))):=HX.out.z
  go_wp2_with (first | refine gY rfl 34 17 _ Tryz.underlying34 rfl ij (.tmp 8) rfl gS 0 rfl Q.cells rfl HLq.out ?_ | refine gW rfl 34 (.tmp 6) (.tmp 94) rfl (w.heap.size+1+1) 0 rfl (.agg Q.cells) rfl 17 rfl 34 _ HDz.out ij (Nat.le_of_ble_eq_true rfl) (Swg.lx _) ?_)
  exact yy):p:=h
structure SaE (w W:World) (gS gp:Nat) (S P B:Swg) (x y:Pkt):Prop where
 own:ir W w.heap.size P
 box:W.heap[gS]?=some (.cells B.cells 34 (0,0))
 pk:W.heap[gp]?=some (.cells y.cells 50 (0,0))
 bel:Below w.heap.size w W
 fr:W.heap[w.heap.size+1]?=some (.cells x.frc 43 (0,0))
 a:W.heap[w.heap.size]?=some (.cells S.cells 34 (0,0))
 z:W.heap[w.heap.size+1+1]?=some (.cells zSw 34 (0,0))
 lt:w.heap.size+1+1<gS
theorem SaE.put {w W W':World} {gS gp:Nat} {S P B B':Swg} {x y:Pkt} (h:SaE w W gS gp S P B x y) (hP:Put W W' gS B'.cells 34):SaE w W' gS gp S P B' x y :=
 have far:∀ {q:Nat} {cs:Array Value} {t:TypeId},W.heap[q]?=some (.cells cs t (0,0))→q≠gS→W'.heap[q]?=some (.cells cs t (0,0)):=fun k hne=>(hP.to.block _ (gO k) (by simpa using hne)).trans k
 have l:=h.lt
 ⟨h.own.off h.box hP.to,hP.blk,far h.pk (iK h.pk h.box (by decide)),h.bel.trans (hP.to.below h.bel.size (fun q hq=>by simp at hq;omega)),far h.fr (iK h.fr h.box (by decide)),far h.a (by omega),far h.z (by omega),h.lt⟩
theorem BS {p:Prop} (h:p:=by
  refine iV (fun w'=>w'.heap[gS]?=some (.cells Q1.cells 34 (0,0))∧w'.heap[gL]?=some (.cells (lay cur (k*8) l.cells) 48 (0,0))∧w'.heap[gp]?=some (.cells y.more.cells 50 (0,0))) 15 (by kernel_rfl) ?_
  have hd:Below X5.heap.size X5 X5.drew:=(Below.refl _ _).drew
  replace HW:Hid (X5.drew.heap[gL]?=some (.cells (lay cur (k*8) l.cells) 48 (0,0))∧X5.drew.heap[gp]?=some (.cells y.more.cells 50 (0,0))∧iw X5.drew w.heap.size l∧Touch [gp] wr X5.drew∧X5.drew.heap.size=wr.heap.size∧X5.drew.heap[gS]?=some (.cells Q1.cells 34 (0,0))∧X5.drew.heap[w.heap.size+1]?=some (.cells x.frc 43 (0,0))) :=
   ⟨(hd.block _ (gO HW.out.1)).trans HW.out.1,(hd.block _ (gO HW.out.2.1)).trans HW.out.2.1,HW.out.2.2.1.up hd,HW.out.2.2.2.1.trans (Touch.iT hd),HW.out.2.2.2.2.1,(hd.block _ (gO HW.out.2.2.2.2.2.1)).trans HW.out.2.2.2.2.2.1,(hd.block _ (gO HW.out.2.2.2.2.2.2)).trans HW.out.2.2.2.2.2.2⟩
  clear hd
  generalize X5.drew=V at *
  have Hcs:Hid (∀ wx:World,wx.heap[gS]?=some (.cells Q1.cells 34 (0,0))∧wx.heap[gL]?=some (.cells (lay cur (k*8) l.cells) 48 (0,0))∧wx.heap[gp]?=some (.cells y.more.cells 50 (0,0))→wx.cell? ⟨gS,14,none⟩=some (.slice (some ⟨gL,0,none⟩) S.nL Q1.cL)∧wx.cell? ⟨gL,k*8+1,none⟩=some (.slice l.aT l.nT l.cT)∧wx.cell? ⟨gp,0,none⟩=some (.int .i64 y.id)) :=
   fun wx h=>⟨by rw [←HgL.out,←HnQ.out];exact gM h.1 14,(gM h.2.1 _).trans (jh (cs:=l.cells) HKL.out.2.1 1 (by show 1<8;omega)),gM h.2.2 0⟩
  have hT0:=And.intro HW.out.2.2.2.2.2.1 (And.intro HW.out.1 HW.out.2.1)
  refine tE 0 126 hT0 ?_
  refine tEX 1 127 hT0 ?_
  refine tE 2 128 hT0 ?_
  refine tE 3 129 hT0 ?_
  refine tEX 4 130 hT0 ?_
  refine tE 5 131 hT0 ?_
  refine tE 6 132 hT0 ?_
  refine tE 7 133 hT0 ?_
  refine tEX 8 134 hT0 ?_
  refine tE 9 135 hT0 ?_
  refine tEX 10 136 hT0 ?_
  obtain ⟨g1,c1,X2,hr1,hoi,ht,hg⟩:=Bf HW.out.2.2.1.t HnT.out (by rw [HW.out.2.2.2.2.1];exact HL.out.bel.size) y.id
  have nt:∀ {b:Nat} {cs:Array Value} {t:TypeId},2≠t→V.heap[b]?=some (.cells cs t (0,0))→b∉ix l.aT:=fun hne hb=>OG.lF (t:=2) (sz:=1) HW.out.2.2.1.t hne hb
  have hT1:(V.alloc (.cells #[.int .i64 y.id] 2)).heap[gS]?=some (.cells Q1.cells 34 (0,0))∧(V.alloc (.cells #[.int .i64 y.id] 2)).heap[gL]?=some (.cells (lay cur (k*8) l.cells) 48 (0,0))∧(V.alloc (.cells #[.int .i64 y.id] 2)).heap[gp]?=some (.cells y.more.cells 50 (0,0)):=⟨(iv _ (gO hT0.1)).trans hT0.1,(iv _ (gO hT0.2.1)).trans hT0.2.1,(iv _ (gO hT0.2.2)).trans hT0.2.2⟩
  have hT2:X2.heap[gS]?=some (.cells Q1.cells 34 (0,0))∧X2.heap[gL]?=some (.cells (lay cur (k*8) l.cells) 48 (0,0))∧X2.heap[gp]?=some (.cells y.more.cells 50 (0,0)):=⟨(ht.block _ (gO hT0.1) (nt (by decide) hT0.1)).trans hT0.1,(ht.block _ (gO hT0.2.1) (nt (by decide) hT0.2.1)).trans hT0.2.1,(ht.block _ (gO hT0.2.2) (nt (by decide) hT0.2.2)).trans hT0.2.2⟩
  have HA:Hid (OI X2 w.heap.size (some ⟨g1,0,none⟩) (l.nT+1) c1 (jN l.nT y.id l.t)∧Touch (ix l.aT) V X2∧(g1∈ix l.aT∨V.heap.size≤g1)):=⟨hoi,ht,hg⟩
  have HR1:Hid ((Builtin.append_ #[27,27] 27 #[.slice l.aT l.nT l.cT,.slice (some ⟨V.heap.size,0,none⟩) 1 1]).run Tryz.prog (V.alloc (.cells #[.int .i64 y.id] 2))=.ok (.slice (some ⟨g1,0,none⟩) (l.nT+1) c1) X2):=hr1
  clear hoi ht hg hr1 nt
  refine gT (rs:=[11]) (by kernel_rfl) (by simp) ?_
  refine gR.cons rfl (fun K hK=>?_) gR.nil
  go_simp
  refine hK.out _ _ hT1 ?_
  clear hK K
  try simp only [Act.put,PZ]
  clear hT1
  refine gT (rs:=[12]) (by kernel_rfl) (by simp) ?_
  refine gR.cons rfl (fun K hK=>?_) gR.nil
  refine k9 (by kernel_rfl) (some 138) rfl (.tmp 134) (.tmp 137) 27 _ _ _ rfl rfl rfl rfl HR1.out ?_
  refine hK.out _ _ hT2 ?_
  clear hK K
  try simp only [Act.put,PZ]
  clear HR1 hT0
  refine gT (rs:=[13]) (by kernel_rfl) (by simp) ?_
  refine gR.cons rfl (fun K hK=>?_) gR.nil
  go_simp
  refine hK.out _ _ hT2 ?_
  clear hK K
  try simp only [Act.put,PZ]
  refine tE 14 140 hT2 ?_
  refine gT (rs:=[15]) (by kernel_rfl) (by simp) ?_
  refine gR.last rfl (fun K hK=>?_)
  have hz:(lay cur (k*8) l.cells).size=cur.size:=js (cs:=l.cells) HKL.out.2.1
  have hkf:=HKL.out.2.1
  refine jP (by kernel_rfl) none rfl 27 (.tmp 140) (.tmp 138) rfl gL (k*8+1) rfl (.slice (some ⟨g1,0,none⟩) (l.nT+1) c1) rfl 1 rfl 48 _ hT2.2.1 CY (by omega) (by simp [Value.cells,Value.oneCell']) ?_
  intro X3 hP
  refine hK.out _ _ ?_
  clear hK K
  try simp only [Act.put,PZ]
  refine iH (by kernel_rfl) ?_ _
  have eL:lay (lay cur (k*8) l.cells) (k*8+1) #[.slice (some ⟨g1,0,none⟩) (l.nT+1) c1]=lay cur (k*8) (l.pP y.id (some ⟨g1,0,none⟩) c1).cells:=by
   rw [←layT l y.id]
   exact uE (a:=l.cells) HKL.out.2.1 (by show 1+1≤8;omega)
  replace hP:Put X2 X3 gL (lay cur (k*8) (l.pP y.id (some ⟨g1,0,none⟩) c1).cells) 48:=hP.cast eL
  have hne:gL≠gp:=iK hT2.2.1 hT2.2.2 (by decide)
  have HN2:Hid (SaL w X3 gS gp g8 S Q1 M x i dst (k+1) (fun j=>if j=k then l.pP y.id (some ⟨g1,0,none⟩) c1 else L j)):=by
   have zV:=HW.out.2.2.2.2.1
   have q1:=HW.out.2.2.1.pP HA.out.1 HA.out.2.1 HA.out.2.2
   refine HL.out.next hb hlt HnQ.out HgL.out HPk.out.1 HPk.out.2 HKL.out.2.2 (by rw [HY.out];exact (hP.to.block gp (gO hT2.2.2) (by simpa using fun e=>hne e.symm)).trans hT2.2.2) (by rw [Hel.out];have q:=Bv (l:=l) (id:=y.id) (cl:=x.cl) HP2.out (some ⟨g1,0,none⟩) c1;rw [HYi.out] at q ⊢;exact q) ?_
   rw [Hel.out]
   refine ⟨hP.blk,q1.box hT2.2.1 (by decide) (by decide) hP.to,?_,fun x hx=>.inl hx,gp :: gL :: ix l.aT,?_,fun x hx=>?_⟩
   ·
    have q2:=Dh (l:=l) (id:=y.id) (c:=c1) HA.out.2.2
    rw [zV] at q2
    exact q2
   ·
    exact ((HW.out.2.2.2.1.mono (fun x hx=>by simp at hx;simp [hx])).trans (HA.out.2.1.mono (fun x hx=>by simp [hx]))).trans (hP.to.mono (fun x hx=>by simp at hx;simp [hx]))
   simp only [List.mem_cons] at hx
   rcases hx with e | e | e
   ·
    exact .inr (.inl e)
   ·
    exact .inl e
   exact .inr (.inr (.inl (iw.inT e)))
  clear hP eL hT2 HA HW hz hkf hne HL HKL Hal Hcs HPB
  go_wp2_with fail
  go_roundw
  case rel=>exact ⟨k+1,_,by omega,by go_num,HN2⟩
  case measure=>simp [intOf];omega):p:=h
theorem Dy {p:Prop} (h:p:=by
  obtain ⟨gu,ucur,eU,kU,zU,cU⟩:=HW.out.2.2.1.u.at0 (by omega)
  refine iV (fun w'=>w'.heap[gS]?=some (.cells Q1.cells 34 (0,0))∧w'.heap[gL]?=some (.cells (lay cur (k*8) l.cells) 48 (0,0))∧w'.heap[gu]?=some (.cells ucur 27 (0,0))∧w'.heap[gp]?=some (.cells y.more.cells 50 (0,0))∧w'.heap[w.heap.size+1]?=some (.cells x.frc 43 (0,0))) 23 (by kernel_rfl) ?_
  have hd:Below X5.heap.size X5 X5.drew:=(Below.refl _ _).drew
  replace HW:Hid (X5.drew.heap[gL]?=some (.cells (lay cur (k*8) l.cells) 48 (0,0))∧X5.drew.heap[gp]?=some (.cells y.more.cells 50 (0,0))∧iw X5.drew w.heap.size l∧Touch [gp] wr X5.drew∧X5.drew.heap.size=wr.heap.size∧X5.drew.heap[gS]?=some (.cells Q1.cells 34 (0,0))∧X5.drew.heap[w.heap.size+1]?=some (.cells x.frc 43 (0,0))) :=
   ⟨(hd.block _ (gO HW.out.1)).trans HW.out.1,(hd.block _ (gO HW.out.2.1)).trans HW.out.2.1,HW.out.2.2.1.up hd,HW.out.2.2.2.1.trans (Touch.iT hd),HW.out.2.2.2.2.1,(hd.block _ (gO HW.out.2.2.2.2.2.1)).trans HW.out.2.2.2.2.2.1,(hd.block _ (gO HW.out.2.2.2.2.2.2)).trans HW.out.2.2.2.2.2.2⟩
  have HU:Hid (l.aU=some ⟨gu,0,none⟩∧l.nU*1≤ucur.size∧X5.drew.heap[gu]?=some (.cells ucur 27 (0,0))):=⟨eU,zU,(hd.block _ (gO kU)).trans kU⟩
  clear hd kU zU
  generalize X5.drew=V at *
  have Hcs:Hid (∀ wx:World,wx.heap[gS]?=some (.cells Q1.cells 34 (0,0))∧wx.heap[gL]?=some (.cells (lay cur (k*8) l.cells) 48 (0,0))∧wx.heap[gu]?=some (.cells ucur 27 (0,0))∧wx.heap[gp]?=some (.cells y.more.cells 50 (0,0))∧wx.heap[w.heap.size+1]?=some (.cells x.frc 43 (0,0))→wx.cell? ⟨gS,14,none⟩=some (.slice (some ⟨gL,0,none⟩) S.nL Q1.cL)∧wx.cell? ⟨gL,k*8+2,none⟩=some (.slice (some ⟨gu,0,none⟩) l.nU l.cU)∧wx.cell? ⟨gu,c,none⟩=some (.slice (l.uA c) (l.uL c) (l.uC c))∧wx.cell? ⟨gp,0,none⟩=some (.int .i64 y.id)∧wx.cell? ⟨w.heap.size+1,3,none⟩=some (.int .i64 (c:Int))) :=
   fun wx h=>⟨by rw [←HgL.out,←HnQ.out];exact gM h.1 14,by rw [←eU];exact (gM h.2.1 _).trans (jh (cs:=l.cells) HKL.out.2.1 2 (by show 2<8;omega)),(gM h.2.2.1 _).trans ((cU c (by omega)).trans (pg _ _ _ _ _ hcU)),gM h.2.2.2.1 0,by rw [←HCc.out.1];exact gM h.2.2.2.2 3⟩
  clear eU cU
  have hT0:=And.intro HW.out.2.2.2.2.2.1 (And.intro HW.out.1 (And.intro HU.out.2.2 (And.intro HW.out.2.1 HW.out.2.2.2.2.2.2)))
  refine tE 0 141 hT0 ?_
  refine tEX 1 142 hT0 ?_
  refine tE 2 143 hT0 ?_
  refine tE 3 144 hT0 ?_
  refine tE 4 145 hT0 ?_
  refine tEX 5 146 hT0 ?_
  refine tE 6 147 hT0 ?_
  refine tEX 7 148 hT0 ?_
  refine tE 8 149 hT0 ?_
  refine tEX 9 150 hT0 ?_
  refine tE 10 151 hT0 ?_
  refine tE 11 152 hT0 ?_
  refine tE 12 153 hT0 ?_
  refine tEX 13 154 hT0 ?_
  refine tE 14 155 hT0 ?_
  refine tEX 15 156 hT0 ?_
  refine tE 16 157 hT0 ?_
  refine tEX 17 158 hT0 ?_
  refine tE 18 159 hT0 ?_
  refine tEX 19 160 hT0 ?_
  obtain ⟨g1,c1,X2,hr1,hoi,ht,hg⟩:=Bf (HW.out.2.2.1.z c hcU) HuL.out (by rw [HW.out.2.2.2.2.1];exact HL.out.bel.size) y.id
  have nt:∀ {b:Nat} {cs:Array Value} {t:TypeId},2≠t→V.heap[b]?=some (.cells cs t (0,0))→b∉ix (l.uA c):=fun hne hb=>OG.lF (t:=2) (sz:=1) (HW.out.2.2.1.z c hcU) hne hb
  have hT1:(V.alloc (.cells #[.int .i64 y.id] 2)).heap[gS]?=some (.cells Q1.cells 34 (0,0))∧(V.alloc (.cells #[.int .i64 y.id] 2)).heap[gL]?=some (.cells (lay cur (k*8) l.cells) 48 (0,0))∧(V.alloc (.cells #[.int .i64 y.id] 2)).heap[gu]?=some (.cells ucur 27 (0,0))∧(V.alloc (.cells #[.int .i64 y.id] 2)).heap[gp]?=some (.cells y.more.cells 50 (0,0))∧(V.alloc (.cells #[.int .i64 y.id] 2)).heap[w.heap.size+1]?=some (.cells x.frc 43 (0,0)):=⟨(iv _ (gO hT0.1)).trans hT0.1,(iv _ (gO hT0.2.1)).trans hT0.2.1,(iv _ (gO hT0.2.2.1)).trans hT0.2.2.1,(iv _ (gO hT0.2.2.2.1)).trans hT0.2.2.2.1,(iv _ (gO hT0.2.2.2.2)).trans hT0.2.2.2.2⟩
  have hT2:X2.heap[gS]?=some (.cells Q1.cells 34 (0,0))∧X2.heap[gL]?=some (.cells (lay cur (k*8) l.cells) 48 (0,0))∧X2.heap[gu]?=some (.cells ucur 27 (0,0))∧X2.heap[gp]?=some (.cells y.more.cells 50 (0,0))∧X2.heap[w.heap.size+1]?=some (.cells x.frc 43 (0,0)):=⟨(ht.block _ (gO hT0.1) (nt (by decide) hT0.1)).trans hT0.1,(ht.block _ (gO hT0.2.1) (nt (by decide) hT0.2.1)).trans hT0.2.1,(ht.block _ (gO hT0.2.2.1) (nt (by decide) hT0.2.2.1)).trans hT0.2.2.1,(ht.block _ (gO hT0.2.2.2.1) (nt (by decide) hT0.2.2.2.1)).trans hT0.2.2.2.1,(ht.block _ (gO hT0.2.2.2.2) (nt (by decide) hT0.2.2.2.2)).trans hT0.2.2.2.2⟩
  have HA:Hid (OI X2 w.heap.size (some ⟨g1,0,none⟩) (l.uL c+1) c1 (jN (l.uL c) y.id (l.uz c))∧Touch (ix (l.uA c)) V X2∧(g1∈ix (l.uA c)∨V.heap.size≤g1)):=⟨hoi,ht,hg⟩
  have HR1:Hid ((Builtin.append_ #[27,27] 27 #[.slice (l.uA c) (l.uL c) (l.uC c),.slice (some ⟨V.heap.size,0,none⟩) 1 1]).run Tryz.prog (V.alloc (.cells #[.int .i64 y.id] 2))=.ok (.slice (some ⟨g1,0,none⟩) (l.uL c+1) c1) X2):=hr1
  clear hoi ht hg hr1 nt
  refine gT (rs:=[20]) (by kernel_rfl) (by simp) ?_
  refine gR.cons rfl (fun K hK=>?_) gR.nil
  go_simp
  refine hK.out _ _ hT1 ?_
  clear hK K
  try simp only [Act.put,PZ]
  clear hT1
  refine gT (rs:=[21]) (by kernel_rfl) (by simp) ?_
  refine gR.cons rfl (fun K hK=>?_) gR.nil
  refine k9 (by kernel_rfl) (some 162) rfl (.tmp 158) (.tmp 161) 27 _ _ _ rfl rfl rfl rfl HR1.out ?_
  refine hK.out _ _ hT2 ?_
  clear hK K
  try simp only [Act.put,PZ]
  clear HR1 hT0
  refine tE 22 163 hT2 ?_
  refine gT (rs:=[23]) (by kernel_rfl) (by simp) ?_
  refine gR.last rfl (fun K hK=>?_)
  refine jP (by kernel_rfl) none rfl 27 (.tmp 163) (.tmp 162) rfl gu c rfl (.slice (some ⟨g1,0,none⟩) (l.uL c+1) c1) rfl 1 rfl 27 _ hT2.2.2.1 CY (by have:=HU.out.2.1;omega) (by simp [Value.cells,Value.oneCell']) ?_
  intro X3 hP
  refine hK.out _ _ ?_
  clear hK K
  try simp only [Act.put,PZ]
  refine iH (by kernel_rfl) ?_ _
  have far:∀ {y:Nat} {cs:Array Value} {t:TypeId},X2.heap[y]?=some (.cells cs t (0,0))→t≠27→X3.heap[y]?=some (.cells cs t (0,0)):=fun ky hne=>(hP.to.block _ (gO ky) (by simpa using iK ky hT2.2.2.1 hne)).trans ky
  have HW3:Hid (X3.heap[gL]?=some (.cells (lay cur (k*8) l.cells) 48 (0,0))∧X3.heap[gp]?=some (.cells y.more.cells 50 (0,0))∧iw X3 w.heap.size (l.oW c y.id (some ⟨g1,0,none⟩) c1)∧Touch (gp :: gu :: ix (l.uA c)) wr X3∧wr.heap.size≤X3.heap.size∧X3.heap[gS]?=some (.cells Q1.cells 34 (0,0))∧X3.heap[w.heap.size+1]?=some (.cells x.frc 43 (0,0))):=by
   have tt:Touch (gp :: gu :: ix (l.uA c)) wr X3:=((HW.out.2.2.2.1.mono (fun x hx=>by simp at hx;simp [hx])).trans (HA.out.2.1.mono (fun x hx=>by simp [hx]))).trans (hP.to.mono (fun x hx=>by simp at hx;simp [hx]))
   exact ⟨far hT2.2.1 (by decide),far hT2.2.2.2.1 (by decide),HW.out.2.2.1.oW hcU HU.out.1 HA.out.1 HA.out.2.1 HA.out.2.2 hT2.2.2.1 hP,tt,tt.size,far hT2.1 (by decide),far hT2.2.2.2.2 (by decide)⟩
  have HZ3:Hid ((∀ x∈(l.oW c y.id (some ⟨g1,0,none⟩) c1).jO,x∈l.jO∨wr.heap.size≤x)∧gu∈l.nu):=by
   refine ⟨?_,List.mem_append_left _ (by rw [HU.out.1];simp [ix])⟩
   have q2:=DE (l:=l) (id:=y.id) (c:=c1) hcU HA.out.2.2
   rw [HW.out.2.2.2.2.1] at q2
   exact q2
  clear hP hT2 HA HW HU Hcs far
  go_wp2_with fail
  refine iV (fun w'=>w'.heap[gS]?=some (.cells Q1.cells 34 (0,0))∧w'.heap[gL]?=some (.cells (lay cur (k*8) l.cells) 48 (0,0))∧w'.heap[w.heap.size+1]?=some (.cells x.frc 43 (0,0))) 16 (by kernel_rfl) ?_
  have hd:Below X3.heap.size X3 X3.drew:=(Below.refl _ _).drew
  replace HW3:Hid (X3.drew.heap[gL]?=some (.cells (lay cur (k*8) l.cells) 48 (0,0))∧X3.drew.heap[gp]?=some (.cells y.more.cells 50 (0,0))∧iw X3.drew w.heap.size (l.oW c y.id (some ⟨g1,0,none⟩) c1)∧Touch (gp :: gu :: ix (l.uA c)) wr X3.drew∧wr.heap.size≤X3.drew.heap.size∧X3.drew.heap[gS]?=some (.cells Q1.cells 34 (0,0))∧X3.drew.heap[w.heap.size+1]?=some (.cells x.frc 43 (0,0))) :=
   ⟨(hd.block _ (gO HW3.out.1)).trans HW3.out.1,(hd.block _ (gO HW3.out.2.1)).trans HW3.out.2.1,HW3.out.2.2.1.up hd,HW3.out.2.2.2.1.trans (Touch.iT hd),Nat.le_trans HW3.out.2.2.2.2.1 hd.size,(hd.block _ (gO HW3.out.2.2.2.2.2.1)).trans HW3.out.2.2.2.2.2.1,(hd.block _ (gO HW3.out.2.2.2.2.2.2)).trans HW3.out.2.2.2.2.2.2⟩
  clear hd
  generalize X3.drew=V3 at *
  have Hcs:Hid (∀ wx:World,wx.heap[gS]?=some (.cells Q1.cells 34 (0,0))∧wx.heap[gL]?=some (.cells (lay cur (k*8) l.cells) 48 (0,0))∧wx.heap[w.heap.size+1]?=some (.cells x.frc 43 (0,0))→wx.cell? ⟨gS,14,none⟩=some (.slice (some ⟨gL,0,none⟩) S.nL Q1.cL)∧wx.cell? ⟨w.heap.size+1,3,none⟩=some (.int .i64 (c:Int))) :=
   fun wx h=>⟨by rw [←HgL.out,←HnQ.out];exact gM h.1 14,by rw [←HCc.out.1];exact gM h.2.2 3⟩
  have hT0:=And.intro HW3.out.2.2.2.2.2.1 (And.intro HW3.out.1 HW3.out.2.2.2.2.2.2)
  refine tE 0 164 hT0 ?_
  refine tEX 1 165 hT0 ?_
  refine tE 2 166 hT0 ?_
  refine tE 3 167 hT0 ?_
  refine tEX 4 168 hT0 ?_
  refine tE 5 169 hT0 ?_
  refine tE 6 170 hT0 ?_
  refine tE 7 171 hT0 ?_
  refine ka (i:=8) (some 172) (v:=.agg l.R.cells) (fun wx hSw=>jn 46 5 _ Tryz.underlying46 rfl AE (.tmp 171) rfl gL (k*8+3) rfl l.R.cells rfl (fun j hj=>by
   rw [Nat.add_assoc,gM hSw.2.1]
   rw [jh (cs:=l.cells) HKL.out.2.1 (3+j) (by show 3+j<8;omega)]
   rcases j with _ | _ | _ | _ | _ | j
   ·
    rfl
   ·
    rfl
   ·
    rfl
   ·
    rfl
   ·
    rfl
   ·
    omega)) hT0 ?_
  try simp only [Act.put,PZ]
  refine tE 9 173 hT0 ?_
  refine tEX 10 174 hT0 ?_
  refine ka (i:=11) (some 175) (v:=.agg x.frc) (fun wx hSw=>jn 43 5 _ Tryz.underlying43 rfl mm (.tmp 5) rfl (w.heap.size+1) 0 rfl x.frc rfl (wu hSw.2.2)) hT0 ?_
  try simp only [Act.put,PZ]
  refine gT (rs:=[12]) (by kernel_rfl) (by simp) ?_
  refine gR.cons rfl (fun K hK=>?_) gR.nil
  go_simp
  unfold Pkt.frc
  refine (ja x.k x.d x.s x.p x.b _ HFr.out.le).mono ?_
  rintro e Y4 ⟨rfl,hb4⟩
  have eCl:(((x.b.size:Int)+9+9) / 10)=x.cl:=rfl
  rw [eCl]
  clear eCl
  have HB4:Hid (Below V3.heap.size V3 Y4):=hb4
  have hT4:Y4.heap[gS]?=some (.cells Q1.cells 34 (0,0))∧Y4.heap[gL]?=some (.cells (lay cur (k*8) l.cells) 48 (0,0))∧Y4.heap[w.heap.size+1]?=some (.cells x.frc 43 (0,0)):=⟨(hb4.block _ (gO hT0.1)).trans hT0.1,(hb4.block _ (gO hT0.2.1)).trans hT0.2.1,(hb4.block _ (gO hT0.2.2)).trans hT0.2.2⟩
  clear hb4 hT0
  go_wp2_with fail
  refine hK.out _ _ hT4 ?_
  clear hK K
  try simp only [Act.put,PZ]
  refine gT (rs:=[13]) (by kernel_rfl) (by simp) ?_
  refine gR.cons rfl (fun K hK=>?_) gR.nil
  go_simp
  refine (Aw l.R c x.cl _ HRs.out.1 (HW3.out.2.2.1.g.rd.r.up HB4.out) HRs.out.2.1 HRs.out.2.2).mono ?_
  rintro e Y5 ⟨R5,rfl,oR,hb5,aR⟩
  have HAl:Hid (Alike (l.R.push c x.cl none 0) R5):=aR
  have hT5:Y5.heap[gS]?=some (.cells Q1.cells 34 (0,0))∧Y5.heap[gL]?=some (.cells (lay cur (k*8) l.cells) 48 (0,0))∧Y5.heap[w.heap.size+1]?=some (.cells x.frc 43 (0,0)):=⟨(hb5.block _ (gO hT4.1)).trans hT4.1,(hb5.block _ (gO hT4.2.1)).trans hT4.2.1,(hb5.block _ (gO hT4.2.2)).trans hT4.2.2⟩
  have HP5:Hid (Y5.heap[gp]?=some (.cells y.more.cells 50 (0,0))):=by
   have bb:=HB4.out.trans (hb5.mono HB4.out.size)
   exact (bb.block _ (gO HW3.out.2.1)).trans HW3.out.2.1
  have HW5:Hid (iw Y5 w.heap.size { l.oW c y.id (some ⟨g1,0,none⟩) c1 with R:=R5 }∧(∀ x∈({ l.oW c y.id (some ⟨g1,0,none⟩) c1 with R:=R5 }:Lng).jO,x∈l.jO∨wr.heap.size≤x)∧(∀ x∈({ l.oW c y.id (some ⟨g1,0,none⟩) c1 with R:=R5 }:Lng).nu,x∈l.nu∨wr.heap.size≤x)∧Touch (gp :: gu :: ix (l.uA c)) wr Y5∧∀ x∈gp :: gL :: gu :: ix (l.uA c),x=gL∨x=gp∨x∈l.jO∨x∈l.nu):=by
   obtain ⟨_,_,q3,q4,q5,_,_⟩:=HW3.out
   obtain ⟨q6,q7⟩:=HZ3.out
   have bb:=HB4.out.trans (hb5.mono HB4.out.size)
   have z4:V3.heap.size≤Y4.heap.size:=HB4.out.size
   refine ⟨q3.tg bb z4 (Nat.le_trans HL.out.bel.size q5) oR,fun x hx=>?_,fun x hx=>?_,q4.trans (Touch.iT bb),fun x hx=>?_⟩
   ·
    rcases EI (w:=V3) (base:=w.heap.size) oR z4 x hx with e | e
    ·
     exact q6 x e
    exact .inr (Nat.le_trans q5 e)
   ·
    rcases EJ (w:=V3) (base:=w.heap.size) oR z4 x hx with e | e
    ·
     exact .inl e
    exact .inr (Nat.le_trans q5 e)
   simp only [List.mem_cons] at hx
   rcases hx with e | e | e | e
   ·
    exact .inr (.inl e)
   ·
    exact .inl e
   ·
    exact .inr (.inr (.inr (e▸q7)))
   exact .inr (.inr (.inl (iw.inU hcU e)))
  clear oR aR hb5 hT4 HB4 HW3 HZ3
  go_wp2_with fail
  refine hK.out _ _ hT5 ?_
  clear hK K
  try simp only [Act.put,PZ]
  have hz:(lay cur (k*8) l.cells).size=cur.size:=js (cs:=l.cells) HKL.out.2.1
  have hkf:=HKL.out.2.1
  refine gT (rs:=[14]) (by kernel_rfl) (by simp) ?_
  refine gR.cons rfl (fun K hK=>?_) gR.nil
  go_simp
  refine hK.out _ _ hT5 ?_
  clear hK K
  try simp only [Act.put,PZ]
  refine tE 15 179 hT5 ?_
  refine gT (rs:=[16]) (by kernel_rfl) (by simp) ?_
  refine gR.last rfl (fun K hK=>?_)
  refine jP (by kernel_rfl) none rfl 46 (.tmp 179) (.tmp 177) rfl gL (k*8+3) rfl (.agg R5.cells) rfl 5 rfl 48 _ hT5.2.1 AE (by omega) (by simp [Value.cells,Value.oneCell',Rnd.cells]) ?_
  intro X6 hP
  refine hK.out _ _ ?_
  clear hK K
  try simp only [Act.put,PZ]
  refine iH (by kernel_rfl) ?_ _
  have eL:lay (lay cur (k*8) l.cells) (k*8+3) R5.cells=lay cur (k*8) ({ l.oW c y.id (some ⟨g1,0,none⟩) c1 with R:=R5 }:Lng).cells:=by
   rw [←layR]
   exact uE (a:=l.cells) HKL.out.2.1 (by show 3+5≤8;omega)
  replace hP:Put Y5 X6 gL (lay cur (k*8) ({ l.oW c y.id (some ⟨g1,0,none⟩) c1 with R:=R5 }:Lng).cells) 48:=hP.cast eL
  have hne:gL≠gp:=iK hT5.2.1 HP5.out (by decide)
  have HN2:Hid (SaL w X6 gS gp g8 S Q1 M x i dst (k+1) (fun j=>if j=k then { l.oW c y.id (some ⟨g1,0,none⟩) c1 with R:=R5 } else L j)):=by
   obtain ⟨q1,q2,q3,q4,q5⟩:=HW5.out
   refine HL.out.next hb hlt HnQ.out HgL.out HPk.out.1 HPk.out.2 HKL.out.2.2 (by rw [HY.out];exact (hP.to.block gp (gO HP5.out) (by simpa using fun e=>hne e.symm)).trans HP5.out) (by rw [Hel.out];have q:=Bz (l:=l) (id:=y.id) HCc.out.1 HCc.out.2 (some ⟨g1,0,none⟩) c1 HAl.out;rw [HYi.out] at q ⊢;exact q) ?_
   rw [Hel.out]
   refine ⟨hP.blk,q1.box hT5.2.1 (by decide) (by decide) hP.to,q2,q3,gp :: gL :: gu :: ix (l.uA c),(q4.mono (fun x hx=>?_)).trans (hP.to.mono (fun x hx=>by simp at hx;simp [hx])),q5⟩
   simp only [List.mem_cons] at hx ⊢
   rcases hx with e | e | e
   ·
    exact .inl e
   ·
    exact .inr (.inr (.inl e))
   exact .inr (.inr (.inr e))
  clear hP eL hT5 HW5 hz hkf hne HL HKL Hal Hcs HPB
  go_wp2_with fail
  go_roundw
  case rel =>
   repeat apply Exists.intro
   refine ⟨?_,rfl⟩
   exact ⟨k+1,_,by omega,by go_num,HN2⟩
  case measure=>simp [intOf];omega):p:=h
theorem EC {p:Prop} (h:p:=by
  obtain ⟨y,ey⟩:∃ y,S.pkt i x (mH dst (i:Int) k)=y:=⟨_,rfl⟩
  have HY:Hid (S.pkt i x (mH dst (i:Int) k)=y):=ey
  have HYi:Hid (y.id=S.nx):=by rw [←ey];rfl
  have HO3:Hid (ke wr w.heap.size (some ⟨gL,0,none⟩) Q1.nL Q1.cL L):=by
   have h8:ke wr w.heap.size Q1.aL Q1.nL Q1.cL L:=HL.out.own.l
   rw [HgL.out] at h8
   exact h8
  obtain ⟨gL',cur,eg,hgb,kL,zL,lL,_⟩:=HO3.out.at (by rw [HnQ.out];omega)
  cases eg
  have hkQ:k<Q1.nL:=by rw [HnQ.out];exact hlt
  have Hal:Hid (iC (S.L k) (L k)):=by
   have h9:=HL.out.al k hlt
   unfold Swg.jG at h9
   rw [if_neg (fun h=>absurd h.1 (Nat.lt_irrefl _))] at h9
   exact h9
  have hol:=HO3.out.ls k hkQ
  have hll:=lL k hkQ
  obtain ⟨l,el⟩:∃ l,L k=l:=⟨_,rfl⟩
  have Hel:Hid (L k=l):=el
  have HKL:Hid (wr.heap[gL]?=some (.cells (lay cur (k*8) l.cells) 48 (0,0))∧k*8+8≤cur.size∧wr.heap[gL]?=some (.cells cur 48 (0,0))):=⟨by rw [←el,hll];exact kL,by omega,kL⟩
  rw [el] at hol Hal
  replace hP:Put wr X5 gp y.more.cells 50:=hP.cast (by rw [←ey];rfl)
  have far:∀ {y:Nat} {cs:Array Value} {t:TypeId},wr.heap[y]?=some (.cells cs t (0,0))→t≠50→X5.heap[y]?=some (.cells cs t (0,0)):=fun ky hne=>(hP.to.block _ (gO ky) (by simpa using iK ky HPB.out hne)).trans ky
  have HW:Hid (X5.heap[gL]?=some (.cells (lay cur (k*8) l.cells) 48 (0,0))∧X5.heap[gp]?=some (.cells y.more.cells 50 (0,0))∧iw X5 w.heap.size l∧Touch [gp] wr X5∧X5.heap.size=wr.heap.size∧X5.heap[gS]?=some (.cells Q1.cells 34 (0,0))∧X5.heap[w.heap.size+1]?=some (.cells x.frc 43 (0,0))):=⟨far HKL.out.1 (by decide),hP.blk,hol.box HPB.out (by decide) (by decide) hP.to,hP.to,hP.size,far HL.out.box (by decide),far HL.out.fr (by decide)⟩
  have c3:X5.cell? ⟨w.heap.size+1,3,none⟩=some (.int .i64 x.p):=gM HW.out.2.2.2.2.2.2 3
  clear hP far hol hll kL zL lL hgb el ey c2 hw2 c0 HO3
  by_cases hp2:x.p=2
  ·
   have HP2:Hid (x.p=2):=hp2
   have hp':(x.p == 2)=true:=by simp [hp2]
   have HnT:Hid (l.nT≤1048576):=by have h9:=(HOk.out.l k hlt).t.le HOk.out.k;have:=HOk.out.k.le;have e:=Hal.out.nT;rw [Hid];omega
   clear hp2
   go_wp2_with fail
   clear c3 hp'
   exact BS
  ·
   have hp':(x.p == 2)=false:=by simp [hp2]
   have hpr:=HFr.out.pr
   obtain ⟨c,hc⟩:∃ c:Nat,x.p=(c:Int):=⟨x.p.toNat,by omega⟩
   obtain ⟨hc2,hwp,hul⟩:=HOk.out.room hlt HFr.out hc hp2
   have HCc:Hid (x.p=(c:Int)∧x.p≠2):=⟨hc,hp2⟩
   have hnU:l.nU=2:=by have e:=Hal.out.nU;rw [e];exact (HOk.out.l k hlt).u
   have hcU:c<l.nU:=by omega
   have HuL:Hid (l.uL c≤1048576):=by have e:=Hal.out.l;rw [Hid,e];omega
   have HRs:Hid (l.R.Small∧c<l.R.nS∧l.R.L c≤1000):=by
    have hl:=HOk.out.l k hlt
    have e:=Hal.out.r
    refine ⟨(Hal.out.small (HS.out.ls k hlt)).r,by rw [e.nS,hl.r.s,hl.n];exact hc2,by rw [e.l,←(hl.z c hc2).2.1];exact hul⟩
   have hcL:(c:Int)<(l.nU:Int):=by omega
   have hnU2:0<l.nU:=by omega
   clear hc hp2 hwp hul hc2 hnU
   go_wp2_with fail
   clear c3 hp'
   exact Dy):p:=h
theorem uG (S S':Swg) (port:Int) (x:Pkt) (code:Int) (w:World) (hs:S.Small) (hr:jK w S) (hok:S.Ok) (hxb:x.b.size≤1048576) (hm:zu S S' port x code) :
  Calls Tryz.prog 85 #[.agg S.cells,.int .i64 port,.agg x.frc] w fun e w'=>∃ S2,e=.returned (.tuple #[.agg S2.cells,.int .i64 code])∧hG S' S2∧ir w' w.heap.size S2∧Below w.heap.size w w':=by
 have HM:Hid (zu S S' port x code):=hm
 have HR:Hid (jK w S):=hr
 have HS:Hid S.Small:=hs
 have HOk:Hid S.Ok:=hok
 obtain ⟨W,eW⟩:∃ W,((w.alloc (.cells S.cells 34)).alloc (.cells x.frc 43)).alloc (.cells #[.int .i64 0,.int .i64 0,.int .i64 0,.int .i64 0,.int .i64 0,.int .i64 0,.int .i64 0,.int .i64 0,.int .i64 0,.slice none 0 0,.slice none 0 0,.int .i64 0,.slice none 0 0,.slice none 0 0,.slice none 0 0,.int .i64 0,.int .i64 0] 34)=W:=⟨_,rfl⟩
 have HX:Hid (Thr w W S x):=by rw [←eW];exact Thr.start _ _ _
 have HL:Hid (∀ j,j<17→W.cell? ⟨w.heap.size,0+j,none⟩=S.cells[j]?):=fun j _=>by rw [Nat.zero_add];exact gM HX.out.a j
 obtain ⟨_,_,_,ht4,ht5⟩:=xT hok
 have hp4:=hok.n.c.num.p
 clear hs hr hok hm
 go_enter Tryz.func85,Tryz.ntmps85
 go_wp2_with (refine gY rfl 34 17 _ Tryz.underlying34 rfl ij (.tmp 3) rfl (w.heap.size) 0 rfl S.cells rfl HL.out ?_)
 clear eW HL
 have hW1:w.heap.size+2<W.heap.size:=gO HX.out.z
 refine (p8 S _ HS.out ht4 ht5 (HR.out.up HX.out.bel)).mono ?_
 rintro e w2 ⟨Q,rfl,aQ,oQ,hbl⟩
 replace HX:Hid (Thr w w2 S x):=HX.out.up hbl
 have hz2:=hbl.size
 have HQ:Hid (hG S Q∧ir w2 w.heap.size Q):=⟨aQ,oQ.mono (by omega)⟩
 clear aQ oQ hbl
 have HG:Hid ((w2.alloc (.cells #[.int .i64 0,.int .i64 0,.int .i64 0,.int .i64 0,.int .i64 0,.int .i64 0,.int .i64 0,.int .i64 0,.int .i64 0,.slice none 0 0,.slice none 0 0,.int .i64 0,.slice none 0 0,.slice none 0 0,.slice none 0 0,.int .i64 0,.int .i64 0] 34)).heap[w2.heap.size]?=some (.cells #[.int .i64 0,.int .i64 0,.int .i64 0,.int .i64 0,.int .i64 0,.int .i64 0,.int .i64 0,.int .i64 0,.int .i64 0,.slice none 0 0,.slice none 0 0,.int .i64 0,.slice none 0 0,.slice none 0 0,.slice none 0 0,.int .i64 0,.int .i64 0] 34 (0,0))):=gV _ _
 go_wp2_with (refine gW rfl 34 (.tmp 8) (.tmp 15) rfl (w2.heap.size) 0 rfl (.agg Q.cells) rfl 17 rfl 34 _ HG.out ij (Nat.le_of_ble_eq_true rfl) (Swg.lx _) ?_)
 intro X hP
 replace hP:Put _ X w2.heap.size Q.cells 34:=hP.cast rfl
 have hbl:Below w2.heap.size w2 X:=((Below.refl _ _).alloc (Nat.le_refl _) _).trans (hP.to.below (by simp) (fun y hy=>by simp at hy;omega))
 replace HX:Hid (SaS w X w2.heap.size S Q x):=by
  have h9:=HX.out.up hbl
  exact ⟨⟨hP.blk,h9.f,HQ.out.2.up hbl,h9.bel,by omega,by omega,Nat.le_refl _⟩,h9.a,h9.z,by omega⟩
 have HA:Hid (hG S Q):=HQ.out.1
 clear hP HG hbl HQ
 obtain ⟨gS,eN⟩:∃ g,w2.heap.size=g:=⟨_,rfl⟩
 rw [eN] at HX hz2 ⊢
 clear eN hz2 hW1
 have c0:X.cell? ⟨w.heap.size,0,none⟩=some (.int .i64 S.C.p):=gM HX.out.a 0
 have hw1:IntKind.i64.wrap (S.C.p-1)=S.C.p-1:=kY _ (by omega) (by omega)
 go_wp2_with fail
 clear c0 hw1
 refine (il _ _ _ _).mono ?_
 rintro e w' ⟨rfl,rfl⟩
 by_cases hport:0≤port∧port≤S.C.p-1
 rotate_left
 ·
  have hdec:decide (0≤port∧port≤S.C.p-1)=false:=by simp only [decide_eq_false_iff_not];exact hport
  have HC:Hid (code=2∧hG S' Q):=by
   rcases HM.out with ⟨h,_⟩ | ⟨_,_,h1,h2⟩ | ⟨_,_,i,rfl,hi,_⟩
   ·
    exact absurd HOk.out h
   ·
    exact ⟨h2,by rw [h1];exact HA.out⟩
   have:=HOk.out.nl
   exact absurd (by omega) hport
  rw [hdec]
  clear hport hdec
  generalize w'=X at *
  exact fw
 have hdec:decide (0≤port∧port≤S.C.p-1)=true:=by simp only [decide_eq_true_eq];exact hport
 have HPt:Hid (0≤port∧port≤S.C.p-1):=hport
 have HL2:Hid (∀ j,j<5→w'.cell? ⟨w.heap.size+1,0+j,none⟩=(#[.int .i64 x.k,.int .i64 x.d,.int .i64 x.s,.int .i64 x.p,.string x.b]:Array Value)[j]?):=wu HX.out.s.fr
 rw [hdec]
 clear hport hdec
 go_wp2_with (refine lR (by rfl) 43 5 _ Tryz.underlying43 rfl mm (.tmp 5) rfl (w.heap.size+1) 0 rfl #[.int .i64 x.k,.int .i64 x.d,.int .i64 x.s,.int .i64 x.p,.string x.b] rfl HL2.out ?_)
 clear HL2
 refine (ny x.k x.d x.s x.p x.b _ (by unfold maxLen;omega)).mono ?_
 rintro e X ⟨rfl,hbl⟩
 replace HX:Hid (SaS w X gS S Q x):=HX.out.up hbl
 clear hbl
 cases hfr:l4 x.k x.d x.s x.p x.b.size
 ·
  have HC:Hid (code=2∧hG S' Q):=by
   rcases HM.out with ⟨h,_⟩ | ⟨_,_,h1,h2⟩ | ⟨_,h,_⟩
   ·
    exact absurd HOk.out h
   ·
    exact ⟨h2,by rw [h1];exact HA.out⟩
   rw [hfr] at h;cases h
  clear hfr
  exact fw
 have HFrB:Hid (l4 x.k x.d x.s x.p x.b.size=true):=hfr
 obtain ⟨i,hpi,hi,hmm⟩:∃ i:Nat,port=(i:Int)∧i<S.nL∧((x.k≠1∧S'=S.stop i (decide (x.k=2))∧code=0)∨(x.k=1∧wO S S' i x code)):=by
  rcases HM.out with ⟨h,_⟩ | ⟨_,h,_⟩ | ⟨_,_,h⟩
  ·
   exact absurd HOk.out h
  ·
   exact absurd ⟨HPt.out,hfr⟩ h
  exact h
 subst hpi
 have HMM:Hid ((x.k≠1∧S'=S.stop i (decide (x.k=2))∧code=0)∨(x.k=1∧wO S S' i x code)):=hmm
 have hi':(i:Int)<(S.nL:Int):=by omega
 have c0:X.cell? ⟨w.heap.size+1,0,none⟩=some (.int .i64 x.k):=gM HX.out.s.fr 0
 clear hfr hmm HM HPt
 by_cases hk:x.k=1
 rotate_left
 ·
  have hk1:(x.k == 1)=false:=by simp [hk]
  have hk2:(x.k == 2)=decide (x.k=2):=rfl
  obtain ⟨b,eb⟩:∃ b,decide (x.k=2)=b:=⟨_,rfl⟩
  rw [eb] at hk2
  have HC0:Hid (code=0∧hG S' (Q.stop i b)):=by
   rcases HMM.out with ⟨_,h1,h2⟩ | ⟨h1,_⟩
   ·
    exact ⟨h2,by rw [h1,eb];exact HA.out.stop hi b⟩
   exact absurd h1 hk
  clear hk eb HMM
  have hiQ:i<Q.nL:=by rw [HA.out.nL];exact hi
  obtain ⟨gL,cur,eL,hgb,kL,zL,lL,_⟩:=HX.out.s.own.l.at (show 0<Q.nL by omega)
  have HKL:Hid (X.heap[gL]?=some (.cells cur 48 (0,0))∧i*8+8≤cur.size∧lay cur (i*8) (Q.L i).cells=cur∧Q.aL=some ⟨gL,0,none⟩∧w.heap.size≤gL):=⟨kL,by omega,lL i hiQ,eL,hgb⟩
  have c14:X.cell? ⟨gS,14,none⟩=some (.slice (some ⟨gL,0,none⟩) S.nL Q.cL):=by rw [←eL,←HA.out.nL];exact gM HX.out.s.box 14
  have hz1:i*8+1≤cur.size:=by omega
  clear kL zL lL eL hgb
  go_wp2_with (refine gW rfl 4 (.tmp 39) (.tmp 37) rfl gL (i*8) rfl (.bool b) rfl 1 rfl 48 _ HKL.out.1 D4 hz1 (by simp [Value.cells,Value.oneCell']) ?_)
  intro X4 hP
  replace hP:Put X X4 gL (lay cur (i*8) ({ Q.L i with st:=b }:Lng).cells) 48:=hP.cast (BH HKL.out.2.2.1 HKL.out.2.1 b)
  have far:∀ {y:Nat} {c:Array Value} {t:TypeId},X.heap[y]?=some (.cells c t (0,0))→t≠48→y∉[gL]:=fun k hne hy=>iK k HKL.out.1 hne (by simpa using hy)
  have HX4:Hid (SaS w X4 gS S (Q.stop i b) x) :=
   ⟨⟨(hP.to.block _ (gO HX.out.s.box) (far HX.out.s.box (by decide))).trans HX.out.s.box,(hP.to.block _ (gO HX.out.s.fr) (far HX.out.s.fr (by decide))).trans HX.out.s.fr,HX.out.s.own.stop hiQ HKL.out.2.2.2.1 HKL.out.1 hP,HX.out.s.bel.trans (hP.to.below HX.out.s.bel.size (fun y hy=>by simp at hy;rw [hy];exact HKL.out.2.2.2.2)),HX.out.s.le⟩,(hP.to.block _ (gO HX.out.a) (far HX.out.a (by decide))).trans HX.out.a,(hP.to.block _ (gO HX.out.z) (far HX.out.z (by decide))).trans HX.out.z,HX.out.lt⟩
  clear hP c14 c0 far HKL HX hk1 hk2
  obtain ⟨Q4,eQ4⟩:∃ Q4,Q.stop i b=Q4:=⟨_,rfl⟩
  rw [eQ4] at HX4 HC0
  clear eQ4 HA
  generalize X4=X at *
  generalize Q4=Q at *
  have HX:=HX4
  have HC:=HC0
  have HLq:Hid (∀ j,j<17→X.cell? ⟨gS,0+j,none⟩=Q.cells[j]?):=fun j _=>by rw [Nat.zero_add];exact gM HX.out.s.box j
  have HDz:Hid (X.heap[w.heap.size+1+1]?=some (.cells zSw 34 (0,0))):=HX.out.z
  go_wp2_with (first | refine gY rfl 34 17 _ Tryz.underlying34 rfl ij (.tmp 8) rfl gS 0 rfl Q.cells rfl HLq.out ?_ | refine gW rfl 34 (.tmp 6) (.tmp 40) rfl (w.heap.size+1+1) 0 rfl (.agg Q.cells) rfl 17 rfl 34 _ HDz.out ij (Nat.le_of_ble_eq_true rfl) (Swg.lx _) ?_)
  exact yy
 have hk1:(x.k == 1)=true:=by simp [hk]
 have HD:Hid (wO S S' i x code):=by
  rcases HMM.out with ⟨h1,_⟩ | ⟨_,h1⟩
  ·
   exact absurd hk h1
  exact h1
 have HFr:Hid x.nq:=⟨hk,HFrB.out⟩
 clear hk HMM HFrB
 have HAl:Hid (Q.lrL i x=S.lrL i x∧Q.now=S.now∧Q.nE=S.nE∧Q.e=S.e):=⟨HA.out.lrL _ _,HA.out.now,HA.out.nE,HA.out.e⟩
 have c9:X.cell? ⟨gS,9,none⟩=some (.slice Q.aE Q.nE Q.cE):=gM HX.out.s.box 9
 have c2:X.cell? ⟨w.heap.size+1,2,none⟩=some (.int .i64 x.s):=gM HX.out.s.fr 2
 have c7:X.cell? ⟨w.heap.size,7,none⟩=some (.int .i64 S.now):=gM HX.out.a 7
 go_wp2_with fail
 clear c9 c2 c7 c0 hk1
 refine (uJ Q.aE Q.nE Q.cE Q.e x.s (i:Int) S.now _ (by rw [HAl.out.2.2.1,HAl.out.2.2.2];exact HOk.out.seen.1) HX.out.s.own.g.e.g.C7).mono ?_
 rintro e X1 ⟨v,rfl,oA,hb1⟩
 have eA:jr (ig Q.nE Q.e) ⟨x.s,(i:Int),S.now⟩=Q.lrL i x:=by unfold Swg.lrL;rw [HAl.out.2.1]
 rw [eA] at oA
 obtain ⟨aE,cE,rfl,og⟩:=oA.ogW
 have HLq:Hid (ir X1 w.heap.size (Q.l3 i x aE cE)):=(HX.out.s.own.up hb1).l3 (og.mono HX.out.s.bel.size)
 replace HX:Hid (SaS w X1 gS S Q x):=HX.out.up hb1
 have HBx:Hid (X1.heap[gS]?=some (.cells Q.cells 34 (0,0))):=HX.out.s.box
 clear oA og hb1 eA
 go_wp2_with (refine gW rfl 26 (.tmp 49) (.tmp 48) rfl gS 9 rfl (.slice aE (Q.lrL i x).length cE) rfl 1 rfl 34 _ HBx.out wa (Nat.le_of_ble_eq_true rfl) (by simp [Value.cells,Value.oneCell']) ?_)
 intro X2 hP
 obtain ⟨Q1,eQ1⟩:∃ Q1,Q.l3 i x aE cE=Q1:=⟨_,rfl⟩
 replace hP:Put X1 X2 gS Q1.cells 34:=hP.cast (by rw [←eQ1];rfl)
 replace HX:Hid (SaS w X2 gS S Q1 x):=HX.out.put hP (by rw [←eQ1];exact HLq.out)
 have HA1:Hid (hG (S.l3 i x none 0) Q1):=by rw [←eQ1];exact HA.out.l3 _ _ _ _ _ _
 have HE1:Hid (Q1.aE=aE∧Q1.nE=(S.lrL i x).length∧Q1.cE=cE∧Q1.e=fun j=>(S.lrL i x).getD j default):=by rw [←eQ1,←HAl.out.1];exact ⟨rfl,rfl,rfl,rfl⟩
 clear hP HBx HLq eQ1 HA HAl
 have c9:X2.cell? ⟨gS,9,none⟩=some (.slice Q1.aE Q1.nE Q1.cE):=gM HX.out.s.box 9
 have c1:X2.cell? ⟨w.heap.size+1,1,none⟩=some (.int .i64 x.d):=gM HX.out.s.fr 1
 have c7:X2.cell? ⟨w.heap.size,7,none⟩=some (.int .i64 S.now):=gM HX.out.a 7
 go_wp2_with fail
 clear c9 c1 c7
 refine (w9 Q1.aE Q1.nE Q1.cE Q1.e x.d S.now (S.toP i x) _ (by have:=(HOk.out.DO hi HFr.out).1;rw [HE1.out.2.1];unfold maxLen;omega) HX.out.s.own.g.e.g.C7 (by rw [HE1.out.2.1,HE1.out.2.2.2];exact HOk.out.toR hi HFr.out)).mono ?_
 rintro e X3 ⟨rfl,hb2⟩
 replace HX:Hid (SaS w X3 gS S Q1 x):=HX.out.up hb2
 clear hb2
 obtain ⟨dst,ed⟩:∃ dst,S.toP i x=dst:=⟨_,rfl⟩
 have HDs:Hid (S.toP i x=dst):=ed
 rw [ed]
 clear ed
 by_cases hto:dst=(i:Int)
 ·
  have hto':(dst == (i:Int))=true:=by simp [hto]
  have HC:Hid (code=4∧hG S' Q1):=by
   rcases HD.out with ⟨h1,h2,h3⟩ | ⟨h1,_⟩ | ⟨h1,_⟩
   ·
    exact ⟨h3,by rw [h2];exact HA1.out⟩
   ·
    exact absurd (HDs.out.trans hto) h1
   exact absurd (HDs.out.trans hto) h1
  clear hto
  generalize X3=X at *
  clear HA1 HE1
  generalize Q1=Q at *
  have HLq:Hid (∀ j,j<17→X.cell? ⟨gS,0+j,none⟩=Q.cells[j]?):=fun j _=>by rw [Nat.zero_add];exact gM HX.out.s.box j
  have HDz:Hid (X.heap[w.heap.size+1+1]?=some (.cells zSw 34 (0,0))):=HX.out.z
  go_wp2_with (first | refine gY rfl 34 17 _ Tryz.underlying34 rfl ij (.tmp 8) rfl gS 0 rfl Q.cells rfl HLq.out ?_ | refine gW rfl 34 (.tmp 6) (.tmp 60) rfl (w.heap.size+1+1) 0 rfl (.agg Q.cells) rfl 17 rfl 34 _ HDz.out ij (Nat.le_of_ble_eq_true rfl) (Swg.lx _) ?_)
  exact yy
 have hto':(dst == (i:Int))=false:=by simp [hto]
 have HT:Hid (dst≠(i:Int)):=hto
 clear hto
 go_wp2_with fail
 clear hto'
 obtain ⟨ok,hok⟩:=rr (Cnt.Ok S.C (kW S.N i x.p x.cl))
 have HOB:Hid (ok=true↔Cnt.Ok S.C (kW S.N i x.p x.cl)):=hok
 clear hok
 have hiU:i<S.N.nU:=by have h1:=HOk.out.nl;have h2:=HOk.out.n.nU;omega
 go_cut [10,11] (fun s10 s11 wc=>∃ g8 M,s10=.pointer (some ⟨g8,0,none⟩)∧s11=.bool ok∧Hid (SaC w wc gS S Q1 x i ok g8 M))
 case first =>
  refine wp_region_held_drew (S:=fun w'=>w'.heap[w.heap.size]?=some (.cells S.cells 34 (0,0))∧w'.heap[w.heap.size+1]?=some (.cells x.frc 43 (0,0))) (by kernel_rfl) (by have h9:=HX.out.up ((Below.refl _ _).drew);exact ⟨h9.a,h9.s.fr⟩) (fun hHeld=>?_)
  replace HX:Hid (SaS w X3.drew gS S Q1 x):=HX.out.up ((Below.refl _ _).drew)
  generalize X3.drew=V5 at *
  have HLo:Hid (∀ j,j<Q1.nL→∀ y∈(Q1.L j).jO,y<V5.heap.size):=fun j hj y hy=>((HX.out.s.own.l.ls j hj).blk y hy).2
  have hle5:w.heap.size≤V5.heap.size:=HX.out.s.bel.size
  have Hcs:Hid (∀ wx:World,wx.heap[w.heap.size]?=some (.cells S.cells 34 (0,0))∧wx.heap[w.heap.size+1]?=some (.cells x.frc 43 (0,0))→wx.cell? ⟨w.heap.size+1,3,none⟩=some (.int .i64 x.p)):=fun wx h=>gM h.2 3
  refine tQ 0 62 ?_
  refine tC 1 63 (v:=.agg S.C.cells) (fun wx hSw=>jn 25 7 _ Tryz.underlying25 rfl D0 (.tmp 62) rfl w.heap.size 0 rfl S.C.cells rfl (EZ hSw.1)) ?_
  try simp only [Act.put,PZ]
  refine tQ 2 64 ?_
  refine tC 3 65 (v:=.agg S.N.cells) (fun wx hSw=>jn 30 3 _ Tryz.underlying30 rfl uP (.tmp 64) rfl w.heap.size 10 rfl S.N.cells rfl (EY hSw.1)) ?_
  try simp only [Act.put,PZ]
  refine tQ 4 66 ?_
  refine tQ 5 67 ?_
  refine tXq 6 68 ?_
  refine tC 7 69 (v:=.agg x.frc) (fun wx hSw=>jn 43 5 _ Tryz.underlying43 rfl mm (.tmp 5) rfl (w.heap.size+1) 0 rfl x.frc rfl (wu hSw.2)) ?_
  try simp only [Act.put,PZ]
  refine rq2 8 13 (fun K hK=>?_) (fun K hK=>?_)
  ·
   go_simp
   unfold Pkt.frc
   refine (ja x.k x.d x.s x.p x.b _ HFr.out.le).mono ?_
   rintro e XC ⟨rfl,hbC⟩
   have eCl:(((x.b.size:Int)+9+9) / 10)=x.cl:=rfl
   rw [eCl]
   replace HX:Hid (SaS w XC gS S Q1 x):=HX.out.up hbC
   have hzC:=hbC.size
   have hTC:=And.intro HX.out.a HX.out.s.fr
   clear hbC
   go_wp2_with fail
   refine hK.out _ _ hTC (fun hHeld=>?_)
   clear hK K
   try simp only [Act.put,PZ]
   refine rq2 9 13 (fun K hK=>?_) (fun K hK=>?_)
   ·
    go_simp
    refine (vX S.C S.N i x.p x.cl _ HOk.out.n (HR.out.n.up HX.out.s.bel) hiU (by have:=HFr.out.cl;omega) (by have:=HFr.out.cl;omega) ok HOB.out).mono ?_
    rintro e XM ⟨M,rfl,oM,hbM,aM⟩
    replace HX:Hid (SaS w XM gS S Q1 x):=HX.out.up hbM
    have hTM:=And.intro HX.out.a HX.out.s.fr
    have HM9:Hid (iG XM w.heap.size M∧(∀ y∈iU M.aU M.nU,V5.heap.size≤y)∧iA (oI (kW S.N i x.p x.cl) ok) M):=⟨oM.mono (by omega),fun y hy=>by have:=(oM.u.blk y hy).1;omega,aM⟩
    clear oM aM hTC
    go_wp2_with fail
    refine hK.out _ _ hTM (fun hHeld=>?_)
    clear hK K
    try simp only [Act.put,PZ]
    refine tQ 10 61 ?_
    refine tQ 11 72 ?_
    refine tQ 12 73 ?_
    refine rq1 13 (fun K hK=>?_)
    go_simp
    have hbA:=(Below.refl XM.heap.size XM).alloc (Nat.le_refl _) (.cells #[.slice none 0 0,.int .i64 0,.slice none 0 0] 30)
    have hzM:=hbM.size
    have HG:Hid ((XM.alloc (.cells #[.slice none 0 0,.int .i64 0,.slice none 0 0] 30)).heap[XM.heap.size]?=some (.cells #[.slice none 0 0,.int .i64 0,.slice none 0 0] 30 (0,0))∧w.heap.size≤XM.heap.size):=⟨gV _ _,by omega⟩
    replace HX:Hid (SaS w (XM.alloc (.cells #[.slice none 0 0,.int .i64 0,.slice none 0 0] 30)) gS S Q1 x):=HX.out.up hbA
    replace HM9:Hid (iG (XM.alloc (.cells #[.slice none 0 0,.int .i64 0,.slice none 0 0] 30)) w.heap.size M∧(∀ y∈iU M.aU M.nU,V5.heap.size≤y)∧iA (oI (kW S.N i x.p x.cl) ok) M):=⟨HM9.out.1.up hbA,HM9.out.2⟩
    have hTA:=And.intro HX.out.a HX.out.s.fr
    clear hbA hTM hbM hzM
    refine hK.out _ _ hTA (fun hHeld=>?_)
    clear hK K
    try simp only [Act.put,PZ]
    generalize XM.heap.size=g8 at *
    generalize XM.alloc (.cells #[.slice none 0 0,.int .i64 0,.slice none 0 0] 30)=XA at *
    exact fF
   go_simp
   have hbA:=(Below.refl XC.heap.size XC).alloc (Nat.le_refl _) (.cells #[.slice none 0 0,.int .i64 0,.slice none 0 0] 30)
   have HG:Hid ((XC.alloc (.cells #[.slice none 0 0,.int .i64 0,.slice none 0 0] 30)).heap[XC.heap.size]?=some (.cells #[.slice none 0 0,.int .i64 0,.slice none 0 0] 30 (0,0))∧w.heap.size≤XC.heap.size):=⟨gV _ _,by omega⟩
   replace HX:Hid (SaS w (XC.alloc (.cells #[.slice none 0 0,.int .i64 0,.slice none 0 0] 30)) gS S Q1 x):=HX.out.up hbA
   have hzA:=hbA.size
   have hTA:=And.intro HX.out.a HX.out.s.fr
   clear hbA
   refine hK.out _ _ hTA (fun hHeld=>?_)
   clear hK K
   try simp only [Act.put,PZ]
   generalize XC.heap.size=g8 at *
   generalize XC.alloc (.cells #[.slice none 0 0,.int .i64 0,.slice none 0 0] 30)=XA at *
   exact fv
  go_simp
  have hbA:=(Below.refl V5.heap.size V5).alloc (Nat.le_refl _) (.cells #[.slice none 0 0,.int .i64 0,.slice none 0 0] 30)
  obtain ⟨XA,eXA⟩:∃ XA,V5.alloc (.cells #[.slice none 0 0,.int .i64 0,.slice none 0 0] 30)=XA:=⟨_,rfl⟩
  obtain ⟨g8,eg8⟩:∃ g8,V5.heap.size=g8:=⟨_,rfl⟩
  have HG:Hid (XA.heap[g8]?=some (.cells #[.slice none 0 0,.int .i64 0,.slice none 0 0] 30 (0,0))∧w.heap.size≤g8):=by rw [←eXA,←eg8];exact ⟨gV _ _,hle5⟩
  rw [eXA] at hbA ⊢
  replace HX:Hid (SaS w XA gS S Q1 x):=HX.out.up hbA
  have hzA:=hbA.size
  have hTA:=And.intro HX.out.a HX.out.s.fr
  have hge:g8≤XA.heap.size:=by omega
  clear hbA eXA
  rw [eg8]
  refine hK.out _ _ hTA (fun hHeld=>?_)
  clear hK K
  try simp only [Act.put,PZ]
  refine rq1 8 (fun K hK=>?_)
  go_simp
  unfold Pkt.frc
  refine (ja x.k x.d x.s x.p x.b _ HFr.out.le).mono ?_
  rintro e XC ⟨rfl,hbC⟩
  have eCl:(((x.b.size:Int)+9+9) / 10)=x.cl:=rfl
  rw [eCl]
  replace HX:Hid (SaS w XC gS S Q1 x):=HX.out.up hbC
  have hzC:=hbC.size
  have hTC:=And.intro HX.out.a HX.out.s.fr
  replace HG:Hid (XC.heap[g8]?=some (.cells #[.slice none 0 0,.int .i64 0,.slice none 0 0] 30 (0,0))∧w.heap.size≤g8):=⟨(hbC.block _ (gO HG.out.1)).trans HG.out.1,HG.out.2⟩
  clear hbC
  go_wp2_with fail
  refine hK.out _ _ hTC (fun hHeld=>?_)
  clear hK K
  try simp only [Act.put,PZ]
  exact fv
 clear HX
 obtain ⟨g8,M,rfl,rfl,HC⟩:=hcut
 have c8:wc.cell? ⟨w.heap.size,8,none⟩=some (.int .i64 S.nx):=gM HC.out.s.a 8
 have c3:wc.cell? ⟨w.heap.size+1,3,none⟩=some (.int .i64 x.p):=gM HC.out.s.s.fr 3
 by_cases hdrop:ok=true∧S.nx≠1000000000
 rotate_left
 ·
  have HC3:Hid (code=3∧S'=(S.l3 i x none 0).oK x.p):=by
   rcases HD.out with ⟨h1,_⟩ | ⟨_,_,h3,h4⟩ | ⟨_,h2,h3,_⟩
   ·
    exact absurd (HDs.out.symm.trans h1) HT.out
   ·
    exact ⟨h4,h3⟩
   exact absurd ⟨HOB.out.2 h2,h3⟩ hdrop
  have c15:wc.cell? ⟨gS,15,none⟩=some (.int .i64 Q1.dr):=gM HC.out.s.s.box 15
  have c16:wc.cell? ⟨gS,16,none⟩=some (.int .i64 Q1.lst):=gM HC.out.s.s.box 16
  have hd1:0≤Q1.dr∧Q1.dr≤1000000000:=by rw [HA1.out.dr];exact HOk.out.nums.dr
  have hd2:0≤Q1.lst∧Q1.lst≤1000000000:=by rw [HA1.out.lst];exact HOk.out.nums.lst
  have w1:IntKind.i64.wrap (Q1.lst+1)=Q1.lst+1:=kY _ (by omega) (by omega)
  have w2:IntKind.i64.wrap (Q1.dr+1)=Q1.dr+1:=kY _ (by omega) (by omega)
  have HBx:Hid (wc.heap[gS]?=some (.cells Q1.cells 34 (0,0))):=HC.out.s.s.box
  by_cases hp2:x.p=2
  ·
   have hp':(x.p == 2)=true:=by simp [hp2]
   have HP2:Hid (x.p=2):=hp2
   clear hp2
   cases ok
   · exact fy
   have hnx':(S.nx == 1000000000)=true:=fD
   clear hdrop
   exact fy
  have hp':(x.p == 2)=false:=by simp [hp2]
  have HP2:Hid (x.p≠2):=hp2
  clear hp2
  cases ok
  · exact fA
  have hnx':(S.nx == 1000000000)=true:=fD
  clear hdrop
  exact fA
 obtain ⟨rfl,hnx⟩:=hdrop
 have HN:Hid (code=0∧S'=(S.l3 i x none 0).waits i x dst):=by
  rcases HD.out with ⟨h1,_⟩ | ⟨_,h2,_⟩ | ⟨_,_,_,h4,h5⟩
  ·
   exact absurd (HDs.out.symm.trans h1) HT.out
  ·
   exact absurd ⟨HOB.out.1 rfl,hnx⟩ h2
  exact ⟨h5,by rw [h4,HDs.out]⟩
 have HGe:Hid (-1≤dst):=by rw [←HDs.out];exact (HOk.out.FE hi HFr.out).1
 have hnx':(S.nx == 1000000000)=false:=by simp [hnx]
 have HLf:Hid (∀ j,j<5→wc.cell? ⟨w.heap.size+1,0+j,none⟩=(#[.int .i64 x.k,.int .i64 x.d,.int .i64 x.s,.int .i64 x.p,.string x.b]:Array Value)[j]?):=wu HC.out.s.s.fr
 have HGp:Hid ((wc.alloc (.cells #[.int .i64 0,.int .i64 0,.int .i64 0,.int .i64 0,.int .i64 0,.int .i64 0,.int .i64 0,.string ⟨#[]⟩] 50)).heap[wc.heap.size]?=some (.cells #[.int .i64 0,.int .i64 0,.int .i64 0,.int .i64 0,.int .i64 0,.int .i64 0,.int .i64 0,.string ⟨#[]⟩] 50 (0,0))):=gV _ _
 clear c3 hnx
 go_wp2_with (first | refine gY rfl 43 5 _ Tryz.underlying43 rfl mm (.tmp 5) rfl (w.heap.size+1) 0 rfl #[.int .i64 x.k,.int .i64 x.d,.int .i64 x.s,.int .i64 x.p,.string x.b] rfl HLf.out ?_ | refine gW rfl 50 (.tmp 12) (.tmp 99) rfl wc.heap.size 0 rfl (.agg #[.int .i64 S.nx,.int .i64 (i:Int),.int .i64 0,.int .i64 x.k,.int .i64 x.d,.int .i64 x.s,.int .i64 x.p,.string x.b]) rfl 8 rfl 50 _ HGp.out uN (Nat.le_of_ble_eq_true rfl) (by simp [Value.cells,Value.oneCell']) ?_)
 intro X4 hP
 replace hP:Put _ X4 wc.heap.size (S.pkt i x 0).cells 50:=hP.cast rfl
 have hb4:Below wc.heap.size wc X4:=((Below.refl _ _).alloc (Nat.le_refl _) _).trans (hP.to.below (by simp) (fun y hy=>by simp at hy;omega))
 have HPk:Hid (w.heap.size≤wc.heap.size∧wc.heap.size∉ix Q1.aK):=⟨HC.out.s.s.bel.size,fun hz=>by have h1:=(HC.out.s.s.own.k.blk _ hz).2;omega⟩
 have HL0:Hid (SaL w X4 gS wc.heap.size g8 S Q1 M x i dst 0 Q1.L):=by
  have h9:=HC.out.s.up hb4
  have hcn:=HC.out.cn.up hb4
  refine ⟨h9.s.box,⟨h9.s.own.e,hcn,h9.s.own.k,h9.s.own.l,fun y hy hz=>?_⟩,hP.blk,fun j hj=>?_,h9.s.bel,h9.s.fr,h9.a,h9.z,(hb4.block _ (gO HC.out.k)).trans HC.out.k⟩
  ·
   simp only [List.mem_flatMap,List.mem_range] at hz
   obtain ⟨j,hj,hz⟩:=hz
   exact HC.out.own y hy j hj hz
  unfold Swg.jG
  rw [if_neg (fun h=>absurd h.1 (Nat.not_lt_zero _))]
  exact HA1.out.l j hj
 have HAM:Hid (iA (kW S.N i x.p x.cl) M):=HC.out.al
 have HLt:Hid (w.heap.size+1+1<gS∧AdS w wc w.heap.size gS (w.heap.size+1) Q1 x):=⟨HC.out.s.lt,HC.out.s.s⟩
 have HnQ:Hid (Q1.nL=S.nL):=HA1.out.nL
 obtain ⟨gL,hgL⟩:∃ gL,Q1.aL=some ⟨gL,0,none⟩:=by
  obtain ⟨gL,_,e,_⟩:=HL0.out.own.l.at (show 0<Q1.nL by rw [HnQ.out];omega)
  exact ⟨gL,e⟩
 have HgL:Hid (Q1.aL=some ⟨gL,0,none⟩):=hgL
 clear hP hb4 hgL HLf HGp hnx' c8 HC
 generalize wc.heap.size=gp at *
 have hnL4:S.nL≤4:=by have:=HOk.out.nl;omega
 go_wp2_with fail
 go_loopw [13] (fun s wr=>∃ (k:Nat) (L:Nat→Lng),k≤S.nL∧s=.int .i64 k∧Hid (SaL w wr gS gp g8 S Q1 M x i dst k L)) (fun s _=>S.nL-(intOf s).toNat)
 case atStart=>exact ⟨0,Q1.L,Nat.zero_le _,rfl,HL0⟩
 clear HL0
 obtain ⟨k,L,hk,rfl,HL⟩:=hrel
 have c0:wr.cell? ⟨w.heap.size,0,none⟩=some (.int .i64 (S.nL:Int)):=by rw [HOk.out.nl];exact gM HL.out.a 0
 by_cases hlt:k<S.nL
 ·
  have hlt':(k:Int)<(S.nL:Int):=by omega
  by_cases h1:(k:Int)=(i:Int)
  ·
   have h1':((k:Int) == (i:Int))=true:=by simp [h1]
   have HN2:Hid (SaL w wr gS gp g8 S Q1 M x i dst (k+1) L):=HL.out.skip (yZ h1 HT.out)
   clear h1
   exact fE
  have h1':((k:Int) == (i:Int))=false:=by simp [h1]
  have c2:wr.cell? ⟨gp,2,none⟩=some (.int .i64 ((mH dst (i:Int) k:Nat):Int)):=gM HL.out.pk 2
  have hw2:IntKind.i64.wrap (((mH dst (i:Int) k:Nat):Int)+1)=((mH dst (i:Int) k:Nat):Int)+1:=kY _ (by omega) (by have:=A3 dst (i:Int) k;have:=HOk.out.nl;omega)
  have HPB:Hid (wr.heap[gp]?=some (.cells (S.pkt i x (mH dst (i:Int) k)).cells 50 (0,0))):=HL.out.pk
  by_cases h2:0≤dst
  ·
   by_cases h3:dst=(k:Int)
   ·
    have h3':(dst != (k:Int))=false:=by simp [h3]
    have hb:jx (k:Int) dst (i:Int)=true:=Az h2 h3
    clear h3 h1
    exact fx
   have h3':(dst != (k:Int))=true:=by simp [h3]
   have HN2:Hid (SaL w wr gS gp g8 S Q1 M x i dst (k+1) L):=HL.out.skip (y0 h2 h3)
   clear h3 h1 HPB c2 hw2
   exact fE
  have hb:jx (k:Int) dst (i:Int)=true:=AA (by have:=HGe.out;omega) h1
  clear h1
  exact fx
 obtain rfl:k=S.nL:=by omega
 have hlt':¬ (S.nL:Int)<(S.nL:Int):=by omega
 have HLd:Hid (∀ j,j<3→wr.cell? ⟨g8,0+j,none⟩=M.cells[j]?):=fun j _=>by rw [Nat.zero_add];exact gM HL.out.m j
 have HBx:Hid (wr.heap[gS]?=some (.cells Q1.cells 34 (0,0))):=HL.out.box
 go_wp2_with (first | refine gY rfl 30 3 _ Tryz.underlying30 rfl uP (.tmp 10) rfl g8 0 rfl M.cells rfl HLd.out ?_ | refine gW rfl 30 (.tmp 181) (.tmp 180) rfl gS 10 rfl (.agg M.cells) rfl 3 rfl 34 _ HBx.out uP (Nat.le_of_ble_eq_true rfl) (by simp [Value.cells,Value.oneCell',Cnt.cells]) ?_)
 intro Y0 hP
 obtain ⟨P,eP⟩:∃ P,({ Q1 with N:=M,L:=L }:Swg)=P:=⟨_,rfl⟩
 obtain ⟨y,ey⟩:∃ y,S.pkt i x (mH dst (i:Int) S.nL)=y:=⟨_,rfl⟩
 have HE:Hid (SaE w wr gS gp S P Q1 x y):=by rw [←eP,←ey];exact ⟨HL.out.own,HL.out.box,HL.out.pk,HL.out.bel,HL.out.fr,HL.out.a,HL.out.z,HLt.out.1⟩
 have HAl:Hid (∀ j,j<S.nL→iC (S.jG i dst x S.nL j) (P.L j)):=by rw [←eP];exact HL.out.al
 have HeP:Hid (({ Q1 with N:=M,L:=L }:Swg)=P):=eP
 have HeY:Hid (S.pkt i x (mH dst (i:Int) S.nL)=y):=ey
 replace hP:Put wr Y0 gS P.cells 34:=hP.cast (by rw [←eP];rfl)
 replace HE:Hid (SaE w Y0 gS gp S P P x y):=HE.out.put hP
 clear hP HBx HLd eP ey HL c0
 have c8:Y0.cell? ⟨w.heap.size,8,none⟩=some (.int .i64 S.nx):=gM HE.out.a 8
 have hw8:IntKind.i64.wrap (S.nx+1)=S.nx+1:=kY _ (by have:=HOk.out.nums.nx;omega) (by have:=HOk.out.nums.nx;omega)
 have HBx:Hid (Y0.heap[gS]?=some (.cells P.cells 34 (0,0))):=HE.out.box
 go_wp2_with (refine gW rfl 2 (.tmp 185) (.tmp 184) rfl gS 8 rfl (.int .i64 (S.nx+1)) rfl 1 rfl 34 _ HBx.out tq (Nat.le_of_ble_eq_true rfl) (by simp [Value.cells,Value.oneCell']) ?_)
 intro Y1 hP
 obtain ⟨P1,eP1⟩:∃ P1,({ P with nx:=S.nx+1 }:Swg)=P1:=⟨_,rfl⟩
 replace hP:Put Y0 Y1 gS P1.cells 34:=hP.cast (by rw [←eP1];rfl)
 replace HE:Hid (SaE w Y1 gS gp S P P1 x y):=HE.out.put hP
 have HeP1:Hid (({ P with nx:=S.nx+1 }:Swg)=P1):=eP1
 clear hP HBx c8 hw8
 have c13:Y1.cell? ⟨gS,13,none⟩=some (.slice P.aK P.nK P.cK):=by
  have h9:=gM HE.out.box 13
  rw [←eP1] at h9
  exact h9
 clear eP1
 have HLk:Hid (∀ j,j<8→Y1.cell? ⟨gp,0+j,none⟩=(#[.int .i64 y.id,.int .i64 y.inn,.int .i64 y.refs,.int .i64 y.k,.int .i64 y.d,.int .i64 y.s,.int .i64 y.p,.string y.b]:Array Value)[j]?):=fun j hj=>by rw [Nat.zero_add];exact gM HE.out.pk j
 obtain ⟨g1,c1,Y2,hr,hu,ht,hg⟩:=lI 31 50 _ 8 72 xx Tryz.underlying31 rfl (by decide) (by decide) HE.out.own.k (by rw [←HeP.out];show Q1.nK≤_;rw [HA1.out.nK];exact HS.out.k) HE.out.bel.size #[.int .i64 y.id,.int .i64 y.inn,.int .i64 y.refs,.int .i64 y.k,.int .i64 y.d,.int .i64 y.s,.int .i64 y.p,.string y.b] rfl (by simp [Value.oneCell'])
 have hkq:gp∉ix P.aK:=by rw [←HeP.out];exact HPk.out.2
 have HEk:Hid (SaE w Y2 gS gp S { P with aK:=some ⟨g1,0,none⟩,nK:=P.nK+1,cK:=c1,K:=fun j=>if j=P.nK then y else P.K j } P1 x y):=by
  have hE:=HE.out
  have far:∀ {q:Nat} {cs:Array Value} {t:TypeId},Y1.heap[q]?=some (.cells cs t (0,0))→t≠50→Y2.heap[q]?=some (.cells cs t (0,0)):=fun kq hne=>(ht.block _ (gO kq) (hE.own.k.lF (fun e=>hne e.symm) kq)).trans kq
  have hpk:oG (P.nK+1) (fun j=>if j=P.nK then y else P.K j)=oG P.nK P.K++y.cells.toList:=by
   rw [kJ,z6 (K:=fun j=>if j=P.nK then y else P.K j) (K':=P.K) (fun j hj=>if_neg (by omega)),if_pos rfl]
  exact ⟨hE.own.Fm hu ht hpk,far hE.box (by decide),(ht.block _ (gO hE.pk) hkq).trans hE.pk,hE.bel.trans (ht.below hE.bel.size (fun z hz=>(hE.own.k.blk z hz).1)),far hE.fr (by decide),far hE.a (by decide),far hE.z (by decide),hE.lt⟩
 have HBx:Hid (Y2.heap[gS]?=some (.cells P1.cells 34 (0,0))):=HEk.out.box
 clear hu ht hg HE hkq
 go_wp2_with (first | refine gY rfl 50 8 _ Tryz.underlying50 rfl uN (.tmp 12) rfl gp 0 rfl #[.int .i64 y.id,.int .i64 y.inn,.int .i64 y.refs,.int .i64 y.k,.int .i64 y.d,.int .i64 y.s,.int .i64 y.p,.string y.b] rfl HLk.out ?_ | (at_builtin;refine Lib.wpList_append_run _ rfl _ _ _ _ rfl _ _ rfl rfl _ _ hr ?_) | refine gW rfl 31 (.tmp 191) (.tmp 190) rfl gS 13 rfl (.slice (some ⟨g1,0,none⟩) (P.nK+1) c1) rfl 1 rfl 34 _ HBx.out DZ (Nat.le_of_ble_eq_true rfl) (by simp [Value.cells,Value.oneCell']) ?_)
 intro Y3 hP
 clear c13 HLk hr HBx
 obtain ⟨Q4,eQ4⟩:∃ Q4,({ P with nx:=S.nx+1,aK:=some ⟨g1,0,none⟩,nK:=P.nK+1,cK:=c1,K:=fun j=>if j=P.nK then y else P.K j }:Swg)=Q4:=⟨_,rfl⟩
 replace hP:Put Y2 Y3 gS Q4.cells 34:=hP.cast (by rw [←eQ4,←HeP1.out];rfl)
 have HX9:Hid (SaS w Y3 gS S Q4 x):=by
  have h9:=HEk.out.put hP
  have h8:=h9.own
  refine ⟨⟨h9.box,h9.fr,?_,h9.bel,HLt.out.2.le⟩,h9.a,h9.z,h9.lt⟩
  rw [←eQ4]
  exact ⟨h8.e,h8.n,h8.k,h8.l,h8.un⟩
 have HC9:Hid (code=0∧hG S' Q4):=by
  refine ⟨HN.out.1,?_⟩
  have hA:=HA1.out
  rw [HN.out.2,←eQ4,←HeP.out,←HeY.out]
  refine ⟨hA.c,hA.now,rfl,hA.nE,hA.e,HAM.out,by show Q1.nK+1=S.nK+1;rw [hA.nK];rfl,?_,hA.nL,fun j hj=>?_,hA.dr,hA.lst⟩
  ·
   show (fun j=>if j=Q1.nK then S.pkt i x (mH dst (i:Int) S.nL) else Q1.K j)=fun j=>if j=S.nK then S.pkt i x (mH dst (i:Int) S.nL) else S.K j
   rw [hA.nK,hA.k]
   rfl
  have h7:=HAl.out j hj
  rw [←HeP.out] at h7
  exact h7
 clear hP eQ4 HEk HeP HeP1 HeY HAl HN HAM HA1 HE1 HLt HnQ HgL HPk HGe
 generalize Y3=X at *
 generalize Q4=Q at *
 have HX:=HX9
 have HC:=HC9
 have HLq:Hid (∀ j,j<17→X.cell? ⟨gS,0+j,none⟩=Q.cells[j]?):=fun j _=>by rw [Nat.zero_add];exact gM HX.out.s.box j
 have HDz:Hid (X.heap[w.heap.size+1+1]?=some (.cells zSw 34 (0,0))):=HX.out.z
 go_wp2_with (first | refine gY rfl 34 17 _ Tryz.underlying34 rfl ij (.tmp 8) rfl gS 0 rfl Q.cells rfl HLq.out ?_ | refine gW rfl 34 (.tmp 6) (.tmp 192) rfl (w.heap.size+1+1) 0 rfl (.agg Q.cells) rfl 17 rfl 34 _ HDz.out ij (Nat.le_of_ble_eq_true rfl) (Swg.lx _) ?_)
 exact yy
section
variable {w w' : World} {base base' : Nat} {a : Option Addr} {n : Nat} {f : Nat → Int} {S : List Nat}
end
structure qJ where
 g:Nat
 o:Nat
 cur:Array Value
 t:TypeId
 fit:o+5≤cur.size
 n2:t≠2
 n3:t≠27
 B:Nat→Nat→Prop
section
variable {w w' : World} {base top : Nat} {gb : qJ} {gD gS : Nat} {X : Rnd}
end
theorem pn (gz oz o' L C:Nat) (w:World) (hL:L≠0) (ho:o'=if C=1 then oz else oz+1) :
  (Instr.slice 27 (.slice (some ⟨gz,oz,none⟩) L C) (some (.int .i64 1)) none none).run Tryz.prog w=.ok (.slice (some ⟨gz,o',none⟩) (L-1) (C-1)) w:=by
 have h1:(1:Int)≤(L:Int):=by omega
 subst ho
 by_cases hC:C=1
 ·
  simp [go_sem,h1,hC]
 simp [go_sem,h1,hC]
open Go.RowKit Go.Shelf
attribute [local go_sem] Oper.semAt_some
section
variable {F : Fence} {n : Nat} {P : Program}
end
attribute [local go_sem] Oper.semAt_some
section
variable {w W1 wr wr' : World} {l base top : Nat} {gb : qJ} {gD gS : Nat} {X X' : Rnd}
end
attribute [local go_sem] Oper.semAt_some
def pZ (oz c:Nat):Nat:=if c=1 then oz else oz+1
theorem VG.drop {t:TypeId} {w:World} {base gz oz n c:Nat} {f:Nat→Value} (h:VG t w base (some ⟨gz,oz,none⟩) n f) (hn:n≠0) (hc:n≤c):VG t w base (some ⟨gz,pZ oz c,none⟩) (n-1) (fun i=>f (i+1)):=by
 by_cases h1:n-1=0
 ·
  exact .inl h1
 rcases h with h | ⟨g,o,e,hb,arr,k1,k2,k3⟩
 ·
  exact absurd h hn
 cases e
 unfold pZ
 rw [if_neg (by omega)]
 refine .inr ⟨gz,oz+1,rfl,hb,arr,k1,by omega,fun i hi=>?_⟩
 have:=k3 (i+1) (by omega)
 rw [show oz+1+i=oz+(i+1) by omega]
 exact this
theorem jW {w:World} {x y:Nat} {a b:Array Value} {t t':TypeId} (hx:w.heap[x]?=some (.cells a t (0,0))) (hy:w.heap[y]?=some (.cells b t' (0,0))) (hne:t≠t'):x≠y:=by
 rintro rfl
 rw [hx] at hy
 simp at hy
 exact hne hy.2
theorem mA {f:Nat→List Nat}:∀ n,((List.range n).flatMap f).Nodup→∀ i k,i<n→k<n→i≠k→∀ x∈f i,x∉f k
 | 0,_,i,_,hi,_,_=>by omega
 | n+1,h,i,k,hi,hk,hne=>by
  rw [List.range_succ,List.flatMap_append] at h
  simp only [List.flatMap_cons,List.flatMap_nil,List.append_nil] at h
  obtain ⟨h1,h2,h3⟩:=List.nodup_append.1 h
  intro x hx hy
  by_cases ei:i=n
  ·
   subst ei
   exact h3 x (by simp only [List.mem_flatMap,List.mem_range];exact ⟨k,by omega,hy⟩) x hx rfl
  by_cases ek:k=n
  ·
   subst ek
   exact h3 x (by simp only [List.mem_flatMap,List.mem_range];exact ⟨i,by omega,hx⟩) x hy rfl
  exact mA n h1 i k (by omega) (by omega) hne x hx hy
def Swg.lane (S:Swg) (i:Nat) (l:Lng):Swg:={ S with L:=fun k=>if k=i then l else S.L k }
theorem ir.yQ {w:World} {base i:Nat} {S:Swg} (ho:ir w base S) (hi:i<S.nL):∃ gL cur,S.aL=some ⟨gL,0,none⟩∧base≤gL∧w.heap[gL]?=some (.cells cur 48 (0,0))∧S.nL*8≤cur.size∧∀ k,k<S.nL→∀ q,q<8→cur[k*8+q]?=(S.L k).cells[q]?:=by
 rcases ho.g.l with e | ⟨gL,e,hb,arr,k1,k2,k3⟩
 ·
  omega
 exact ⟨gL,arr,e,hb,k1,k2,fun k hk q hq=>(k3 (k*8+q) (by omega)).trans (lH S.L k q hq)⟩
def zPk:Pkt:=⟨0,0,0,0,0,0,0,⟨#[]⟩⟩
theorem run_cutLo (gk o n c k:Nat) (w:World) (hk:k<n) (hc:n≤c) :
  (Instr.slice 31 (.slice (some ⟨gk,o,none⟩) n c) (some (.int .i64 (k:Int))) none none).run Tryz.prog w=.ok (.slice (some ⟨gk,o+k*8,none⟩) (n-k) (c-k)) w:=by
 have h1:(k:Int)≤(n:Int):=by omega
 have h2:¬ c-k=0:=by omega
 have h3:(0:Int)≤(k:Int):=by omega
 have h4:(n:Int)≤(c:Int):=by omega
 have h5:¬ c=k:=by omega
 simp [go_sem,h1,h2,h3,h4,h5]
theorem zT (gk o n c k:Nat) (w:World) (hk:k≤n) (hc:n≤c) :
  (Instr.slice 31 (.slice (some ⟨gk,o,none⟩) n c) none (some (.int .i64 (k:Int))) none).run Tryz.prog w=.ok (.slice (some ⟨gk,o,none⟩) k c) w:=by
 have h1:(k:Int)≤(c:Int):=by omega
 have h3:(0:Int)≤(k:Int):=by omega
 simp [go_sem,h1,h3]
theorem Swg.Ok.vN {S:Swg} (h:S.Ok) (x:Int):∀ n,n≤S.nL→lr S.L x n≤3000*n
 | 0,_=>Nat.le_refl _
 | n+1,hn=>by
  have ih:=Swg.Ok.vN h x n (by omega)
  have hl:=h.l n (by omega)
  have hk:=h.k.le
  have ht:=hl.t.le h.k
  have h0:=(hl.z 0 (by omega)).1.le h.k
  have h1:=(hl.z 1 (by omega)).1.le h.k
  have o1:=qv (S.L n).t x (S.L n).nT
  have o2:=qv ((S.L n).uz 0) x ((S.L n).uL 0)
  have o3:=qv ((S.L n).uz 1) x ((S.L n).uL 1)
  have hu:qH (S.L n) x (S.L n).nU=0+occ ((S.L n).uz 0) x ((S.L n).uL 0)+occ ((S.L n).uz 1) x ((S.L n).uL 1):=by rw [hl.u];rfl
  show lr S.L x n+(occ (S.L n).t x (S.L n).nT+qH (S.L n) x (S.L n).nU)≤3000*(n+1)
  rw [hu]
  omega
theorem Swg.Ok.yC {S:Swg} (h:S.Ok) {j:Nat} (hj:j<S.nK):1≤(S.K j).refs∧(S.K j).refs≤3000*S.nL:=by
 obtain ⟨h1,h2⟩:=h.refs j hj
 have:=h.vN (S.K j).id S.nL (Nat.le_refl _)
 exact ⟨h1,by rw [h2];omega⟩
theorem qa:(Tryz.prog.info? 43).map (·.size)=some 5:=by kernel_rfl
theorem DC (K:Nat→Pkt) (j:Nat):rmK (j9 K j) j=rmK K j:=by
 funext i
 unfold rmK j9
 by_cases h:i<j
 ·
  rw [if_pos h,if_pos h,if_neg (by omega)]
 rw [if_neg h,if_neg h,if_neg (by omega)]
end Go.Proofs.YthicmlolanifhaaGreat
