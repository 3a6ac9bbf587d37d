import Derived.Test.YthicmlolanifhaaGreatV31
namespace Go.Proofs.YthicmlolanifhaaGreat
set_option maxRecDepth 100000
set_option maxHeartbeats 9000000
open Go.RowKit
set_option linter.unusedVariables false
set_option linter.unusedSimpArgs false
variable {gS:Nat} {x:Pkt} {p:Prop} {Q S:Swg} {W W' w:World}
theorem Ig (h:p:=by
 go_simp
 refine ah (hK _ _ q1) ?_
 intro hHeld
 clear hK K
 refine rq1 10 (fun K hK=>?_)
 refine jV (by kernel_rfl) (some 20) (.tmp 17) (.tmp 19) 27 _ _ _ rfl rfl rfl rfl rfl hrun ?_
 refine ah (hK _ _ q2) ?_
 intro hHeld
 clear hK K
 refine tC 11 21 (v:=?_) ?_ ?_
 rotate_left
 · exact ba
 try simp only [Act.put,PZ]
 refine rq1 12 (fun K hK=>?_)
 go_simp
 refine ah (hK _ _ q3) ?_
 intro hHeld
 clear hK K
 refine dnq ?_
 rw [←HW6.out]
 clear q0 q1 q2 q3 hHeld rS4 rS4' cS5 fS5
 go_wp2_with fail
 have ht:=kI W6 (w.heap.size+1) (.slice aq nQ cq) (.slice ad nD cd) (.int .i64 turn) (.bool fresh) (.slice (some (Hh gS 0)) nS cv)
 have cF:=iv (mS kB6 (.slice aq nQ cq) (.slice ad nD cd) (.int .i64 turn) (.bool fresh) (.slice (some (Hh gS 0)) nS cv))
 have hBf:=HB6.trans (ht.below HB6.size (fun x hx=>by simp at hx;omega))
 have hOf:=(HOw.jE ht (fun x hx=>by simp at hx;omega)).mono hbw
 unfold uf at cF hBf hOf
 exact bodyPost_ret (v:=.agg ((Rnd.cp2 ⟨aQ,nQ,cQ,q,aD,nD,cD,d,turn,fresh,aS,nS,cS,A,L,C,z⟩ aq cq ad cd (some (Hh gS 0)) cv A' C').push k s a' c').cells) (by simp [results,Tryz.results121,go_sem,cF,Rnd.cp2,Rnd.push,Rnd.cells]) rfl ⟨_,rfl,hOf,hBf,HAl⟩):p:=h
theorem bg (h:p:=by
 refine rq1 9 (fun K hK=>?_)
 go_simp
 refine (xE S.C S.N i x.p x.cl _ HOk.n (HR.n.up HX.s.bel) hiU (by have:=HFr.cl;omega) (by have:=HFr.cl;omega) ok HOB).mono ?_
 rintro e XM ⟨M,rfl,oM,hbM,aM⟩
 replace HX:Hid (SaS w XM gS S Q1 x):=HX.up hbM
 have hTM:=And.intro HX.a HX.s.fr
 have HM9:Hid (jb XM w.heap.size M∧(∀ y∈ju M.aU M.nU,V5.heap.size≤y)∧iQ (nz (lu S.N i x.p x.cl) ok) M):=⟨oM.mono (by omega),fun y hy=>by have:=(oM.u.blk y hy).1;omega,aM⟩
 replace HG:Hid (XM.heap[g8]?=some (.cells ag 30 (0,0))∧w.heap.size≤g8):=⟨(hbM.block _ (iw HG.1)).trans HG.1,HG.2⟩
 clear oM aM hbM
 go_wp2_with fail
 refine ah (hK _ _ hTM) ?_
 intro hHeld
 clear hK K
 refine tQ 10 61 ?_
 refine tQ 11 72 ?_
 refine tQ 12 73 ?_
 exact fT):p:=h
theorem bo (h:p:=by
 have HLq:Hid (∀ j,j<17→X.cell? (Hh gS (0+j))=Q.cells[j]?):=fun j _=>by rw [Nat.zero_add];exact iv HX.s.box j
 have HDz:Hid (X.heap[w.heap.size+1+1]?=some (.cells zSw 34 (0,0))):=HX.z
 go_wp2_with (first | refine iC rfl 34 17 _ Tryz.underlying34 rfl iI (.tmp 8) rfl gS 0 rfl Q.cells rfl HLq.out ?_ | refine iA rfl 34 (.tmp 6) (.tmp 28) rfl (w.heap.size+1+1) 0 rfl (.agg Q.cells) rfl 17 rfl 34 _ HDz iI (Nat.le_of_ble_eq_true rfl) (Swg.mc _) ?_)
 exact zY):p:=h
theorem fM (h:p:=by
 go_wp2_with (refine iA rfl 2 (.tmp 122) (.tmp 121) rfl gp 2 rfl (.int .i64 (((oX dst (i:Int) k:Nat):Int)+1)) rfl 1 rfl 50 _ HPB xJ (Nat.le_of_ble_eq_true rfl) (by simp [Value.cells,Value.oneCell']) ?_)
 intro X5 hP
 exact FY):p:=h
theorem fN (h:p:=by
 go_wp2_with (refine iA rfl 2 (.tmp 88) (.tmp 87) rfl gS 16 rfl (.int .i64 (min 1000000000 (Q1.lst+1))) rfl 1 rfl 34 _ HBx xJ (Nat.le_of_ble_eq_true rfl) (by simp [Value.cells,Value.oneCell']) ?_)
 intro X9 hP
 exact EO):p:=h
theorem fO (h:p:=by
 go_wp2_with (refine iA rfl 2 (.tmp 93) (.tmp 92) rfl gS 15 rfl (.int .i64 (min 1000000000 (Q1.dr+1))) rfl 1 rfl 34 _ HBx xJ (Nat.le_of_ble_eq_true rfl) (by simp [Value.cells,Value.oneCell']) ?_)
 intro X9 hP
 exact EP):p:=h
theorem fP (h:p:=by
 have:S.nx=1000000000:=by
  by_cases h:S.nx=1000000000
  ·
   exact h
  exact absurd ⟨rfl,h⟩ hdrop
 simp [this]):p:=h
theorem fQ (h:p:=by
 go_wp2_with fail
 go_roundw
 case rel=>exact ⟨k+1,L,by omega,by go_num,HN2⟩
 case measure=>simp [intOf];omega):p:=h
theorem fT (h:p:=by
 refine rq1 14 (fun K hK=>?_)
 refine jY (by kernel_rfl) none rfl 30 (.tmp 10) (.tmp 72) rfl g8 0 rfl (.agg M.cells) rfl 3 rfl 30 _ HG.1 vX (Nat.le_of_ble_eq_true rfl) (by simp [Value.cells,Value.oneCell',Cnt.cells]) ?_
 intro X9 hP9
 replace hP9:Put _ X9 g8 M.cells 30:=hP9.cast rfl
 exact EN):p:=h
theorem BP (R:Rnd) (k:Nat) (s:Int) (w:World) (hs:R.Small) (h:mo w R) (hk:k<R.nS) (hL:R.L k≤1000) :
  Calls Tryz.prog 121 #[.agg R.cells,.int .i64 k,.int .i64 s] w fun e w'=>∃ R',e=.returned (.agg R'.cells)∧jT w' w.heap.size R'∧Below w.heap.size w w'∧Alike (R.push k s none 0) R':=by
 obtain ⟨aQ,nQ,cQ,q,aD,nD,cD,d,turn,fresh,aS,nS,cS,A,L,C,z⟩:=R
 have HR:=aa h
 have HS:=aa hs
 dsimp only at hk hL
 have hk':(k:Int)<nS:=by omega
 have hnS:(nS:Int)≤1048576:=by have:nS≤1048576:=hs.s;omega
 clear h hs
 have HA:Hid (∀ A B,Below w.heap.size w ((w.alloc A).alloc B)):=fun A B=>((Below.refl _ _).alloc (Nat.le_refl _) _).alloc (by simp) _
 have e2:∀ A B,((w.alloc A).alloc B).heap.size=w.heap.size+1+1:=fun A B=>by simp
 dsimp only [Rnd.cells]
 go_enter Tryz.func121,Tryz.ntmps121
 go_wp2_with fail
 refine (lY ⟨aQ,nQ,cQ,q,aD,nD,cD,d,turn,fresh,aS,nS,cS,A,L,C,z⟩ _ HS (HR.up (HA _ _))).mono ?_
 rintro e w3 ⟨aq,cq,ad,cd,av,cv,A',C',rfl,hZ,hb3⟩
 obtain ⟨kA,kB3,B3,z3⟩:=wN hb3
 rw [e2] at hZ
 clear hb3 HA kA e2
 obtain ⟨gS,rfl⟩:∃ gS,av=some (Hh gS 0):=by
  rcases hZ.own.s with h0 | ⟨g,hg,_,_⟩
  ·
   exact absurd hk (by rw [show nS=0 from h0];omega)
  exact ⟨g,hg⟩
 have hX:Below w3.heap.size w3 (w3.alloc (.cells #[.slice aq nQ cq,.slice ad nD cd,.int .i64 turn,.bool fresh,.slice (some (Hh gS 0)) nS cv] 46)).drew:=((Below.refl _ _).alloc (Nat.le_refl _) _).drew
 have kT:=iy w3 (.cells #[.slice aq nQ cq,.slice ad nD cd,.int .i64 turn,.bool fresh,.slice (some (Hh gS 0)) nS cv] 46)
 have kT4:(w3.alloc (.cells #[.slice aq nQ cq,.slice ad nD cd,.int .i64 turn,.bool fresh,.slice (some (Hh gS 0)) nS cv] 46)).drew.heap[w3.heap.size]?=_:=kT
 have kB4:=(hX.block _ (iw kB3)).trans kB3
 have hZ4:=hZ.up hX
 have B4:=B3.trans (hX.mono B3.size)
 clear hX kT kB3 hZ B3
 simp only [Rnd.cp2,Rnd.cells]
 go_wp2_with fail
 generalize (w3.alloc (.cells #[.slice aq nQ cq,.slice ad nD cd,.int .i64 turn,.bool fresh,.slice (some (Hh gS 0)) nS cv] 46))=Wx at *
 have hbw:w.heap.size≤w.heap.size+1+1:=by omega
 have hz4:w.heap.size+1+1≤Wx.drew.heap.size:=by have:=iw kT4;omega
 obtain ⟨W4,hW4⟩:∃ W4,W4=Wx.drew:=⟨_,rfl⟩
 rw [←hW4] at kT4 kB4 hZ4 B4 hz4
 obtain ⟨a',c',W5,hrun,hP⟩:=hZ4.F0 (c:=k) (gS:=gS) hk hL hz4 rfl s
 dsimp only [Rnd.cp2] at hrun
 have hrow:w.heap.size+1+1≤gS∧ja gS 27 nS (fun i=>.slice (A' i) (L i) (C' i)) nS W4:=by
  rcases hZ4.own.s with h0 | ⟨g,hg,hbg,hr⟩
  ·
   exact absurd hk (by rw [show nS=0 from h0];omega)
  cases hg
  exact ⟨hbg,hr⟩
 obtain ⟨hgS,hr4⟩:=hrow
 have hAl:=(Below.refl W4.heap.size W4).alloc (Nat.le_refl _) (.cells #[.int .i64 s] 2)
 have rS4:=hr4.at k hk
 have rS4':=(hr4.jR (hAl.block _ hr4.lt)).at k hk
 have hne:w3.heap.size≠gS:=fun e=>by
  obtain ⟨arr,hx,_⟩:=hr4
  rw [←e,kT4] at hx
  simp at hx
 have q0:W4.cell? (Hh w3.heap.size 4)=some (.slice (some (Hh gS 0)) nS cv):=iv kT4 4
 have q1:(W4.alloc (.cells #[.int .i64 s] 2)).cell? (Hh w3.heap.size 4)=some (.slice (some (Hh gS 0)) nS cv):=iv ((hAl.block _ (iw kT4)).trans kT4) 4
 have kT5:=hP.box _ _ _ (by decide) kT4
 have q2:W5.cell? (Hh w3.heap.size 4)=some (.slice (some (Hh gS 0)) nS cv):=iv kT5 4
 have kT6:=(iJ (w:=W5) (g:=gS) (i:=k) hne (.slice a' (L k+1) c')).trans kT5
 have q3:(W5.setCell (Hh gS k) (.slice a' (L k+1) c')).cell? (Hh w3.heap.size 4)=some (.slice (some (Hh gS 0)) nS cv):=iv kT6 4
 have cS5:=hP.row.at k hk
 have fS5:=hP.row.free k
 dsimp only [Rnd.cp2] at cS5 rS4 rS4'
 obtain ⟨W6,hW6⟩:∃ W6,W6=W5.setCell (Hh gS k) (.slice a' (L k+1) c'):=⟨_,rfl⟩
 have HOw:Hid (jT W6 (w.heap.size+1+1) ((Rnd.cp2 ⟨aQ,nQ,cQ,q,aD,nD,cD,d,turn,fresh,aS,nS,cS,A,L,C,z⟩ aq cq ad cd (some (Hh gS 0)) cv A' C').push k s a' c')):=by rw [Hid,hW6];exact hP.oz
 have hB6:Below (w.heap.size+1+1) W4 W6:=by rw [hW6];exact hP.below
 have kB6:=(hB6.block _ (show w.heap.size+1<w.heap.size+1+1 by omega)).trans kB4
 have HB6:=aa (B4.trans (hB6.mono hbw))
 rw [←hW6] at kT6
 have cT6:=iv kT6
 have cB6:=iv kB6
 have fB6:=iF kB6
 have HAl:Hid (Alike (Rnd.push ⟨aQ,nQ,cQ,q,aD,nD,cD,d,turn,fresh,aS,nS,cS,A,L,C,z⟩ k s none 0) ((Rnd.cp2 ⟨aQ,nQ,cQ,q,aD,nD,cD,d,turn,fresh,aS,nS,cS,A,L,C,z⟩ aq cq ad cd (some (Hh gS 0)) cv A' C').push k s a' c')):=⟨rfl,rfl,rfl,rfl,rfl,rfl,rfl,rfl,rfl⟩
 have HW6:=aa hW6
 clear hP hB6 hZ4 hr4 hAl kT5 B4 kB4 hW6
 refine wp_region_held_drew (S:=fun w'=>w'.cell? (Hh w3.heap.size 4)=some (.slice (some (Hh gS 0)) nS cv)) (by kernel_rfl) (by rw [←hW4];exact q0) (fun hHeld=>?_)
 rw [←hW4] at hHeld ⊢
 clear hW4 kT4
 refine tC 0 10 (v:=?_) ?_ ?_
 rotate_left
 · exact ba
 try simp only [Act.put,PZ]
 refine tC 1 11 (v:=?_) ?_ ?_
 rotate_left
 · exact ba
 try simp only [Act.put,PZ]
 refine tC 2 12 (v:=?_) ?_ ?_
 rotate_left
 · exact ba
 try simp only [Act.put,PZ]
 refine tC 3 13 (v:=?_) ?_ ?_
 rotate_left
 · exact ba
 try simp only [Act.put,PZ]
 refine tC 4 14 (v:=?_) ?_ ?_
 rotate_left
 · exact ba
 try simp only [Act.put,PZ]
 refine tC 5 15 (v:=?_) ?_ ?_
 rotate_left
 · exact ba
 try simp only [Act.put,PZ]
 refine tC 6 16 (v:=?_) ?_ ?_
 rotate_left
 · exact ba
 try simp only [Act.put,PZ]
 refine tC 8 18 (v:=?_) ?_ ?_
 rotate_left
 · exact ba
 try simp only [Act.put,PZ]
 refine rq2 7 9 (fun K hK=>?_) (fun K hK=>?_)
 ·
  go_simp
  refine ah (hK _ _ q0) ?_
  intro hHeld
  clear hK K
  refine rq1 9 (fun K hK=>?_)
  exact Ig
 go_simp
 refine ah (hK _ _ q1) ?_
 intro hHeld
 clear hK K
 refine rq1 7 (fun K hK=>?_)
 exact Ig
theorem xE (C:Cfg) (N:Cnt) (i:Nat) (prio y:Int) (w:World) (hN:Cnt.Ok C N) (h:mq w N) (hi:i<N.nU) (hy1:-5≤y) (hy2:y≤5) (ok:Bool) (hok:ok=true↔Cnt.Ok C (lu N i prio y)) :
  Calls Tryz.prog 70 #[.agg C.cells,.agg N.cells,.int .i64 (i:Int),.int .i64 prio,.int .i64 y] w fun e w'=>∃ M:Cnt,e=.returned (.tuple #[.agg M.cells,.bool ok])∧jb w' w.heap.size M∧Below w.heap.size w w'∧iQ (nz (lu N i prio y) ok) M:=by
 by_cases hp:prio=2
 ·
  subst hp
  rw [mK] at hok ⊢
  exact qD C N i y w hN h hi hy1 hy2 ok hok
 rw [mb hp] at hok ⊢
 exact qE C N i prio hp y w hN h hy1 hy2 ok hok
structure SaS (w W:World) (gS:Nat) (S Q:Swg) (x:Pkt):Prop where
 s:AdS w W w.heap.size gS (w.heap.size+1) Q x
 a:W.heap[w.heap.size]?=some (.cells S.cells 34 (0,0))
 z:W.heap[w.heap.size+1+1]?=some (.cells zSw 34 (0,0))
 lt:w.heap.size+1+1<gS
theorem SaS.up (h:SaS w W gS S Q x) (hb:Below W.heap.size W W'):SaS w W' gS S Q x :=
 ⟨h.s.up hb,(hb.block _ (iw h.a)).trans h.a,(hb.block _ (iw h.z)).trans h.z,h.lt⟩
theorem SaS.put {Q':Swg} (h:SaS w W gS S Q x) (hP:Put W W' gS Q'.cells 34) (ho:iP W w.heap.size Q'):SaS w W' gS S Q' x :=
 ⟨h.s.put hP ho,(hP.to.block _ (iw h.a) (by have:=h.lt;simp;omega)).trans h.a,(hP.to.block _ (iw h.z) (by have:=h.lt;simp;omega)).trans h.z,h.lt⟩
theorem zY (h:p:=by
  intro X9 hP
  replace hP:Put X X9 (w.heap.size+1+1) Q.cells 34:=hP.cast rfl
  have HK:=aa hP.blk
  have HFF:Hid (iP X9 w.heap.size Q∧Below w.heap.size w X9):=⟨HX.s.own.off HX.z hP.to,HX.s.bel.trans (hP.to.below HX.s.bel.size (fun y hy=>by simp at hy;omega))⟩
  clear hP
  go_wp2_with fail
  rw [HC.1]
  exact bodyPost_ret (kH Tryz.results85 17 _ Tryz.underlying34 rfl iI _ _ (w.heap.size+1+1) Q.cells rfl 34 HK.out rfl _ rfl) rfl ⟨Q,rfl,HC.2,HFF.1,HFF.2⟩):p:=h
structure SaC (w W:World) (gS:Nat) (S Q:Swg) (x:Pkt) (i:Nat) (ok:Bool) (g8:Nat) (M:Cnt):Prop where
 s:SaS w W gS S Q x
 k:W.heap[g8]?=some (.cells M.cells 30 (0,0))
 own:∀ y∈ju M.aU M.nU,∀ j,j<Q.nL→y∉(Q.L j).kj
 cn:jb W w.heap.size M
 al:iQ (nz (lu S.N i x.p x.cl) ok) M
theorem SaS.Gl {g:Nat} {cs:Array Value} (h:SaS w W gS S Q x) (hg:W.heap[g]?=some (.cells cs 30 (0,0))) (hto:Touch [g] W W') (hb:w.heap.size≤g):SaS w W' gS S Q x :=
 ⟨h.s.Gl hg rfl hto hb,(hto.block _ (iw h.a) (by simpa using jn h.a hg (by decide))).trans h.a,(hto.block _ (iw h.z) (by simpa using jn h.z hg (by decide))).trans h.z,h.lt⟩
theorem EN (h:p:=by
  have HN:Hid (SaC w X9 gS S Q1 x i ok g8 M):=by
   refine ⟨HX.Gl HG.1 hP9.to HG.2,hP9.blk,fun y hy j hj hz=>?_,HM9.1.Gl HG.1 hP9.to,HM9.2.2⟩
   have h1:=HM9.2.1 y hy
   have h2:=HLo j hj y hz
   omega
  have hT9:=And.intro HN.s.a HN.s.s.fr
  refine ah (hK _ _ hT9) ?_
  intro hHeld
  clear hK K
  refine tQ 15 11 ?_
  refine dnq ?_
  clear hP9 hT9 hHeld HX HG HM9
  go_wp2_with fail
  go_meet
  case rel=>exact ⟨g8,M,rfl,rfl,HN⟩):p:=h
theorem EO (h:p:=by
  have eL:Q1.pN x.p={ Q1 with lst:=min 1000000000 (Q1.lst+1) }:=by unfold Swg.pN;rw [if_pos HP2.out,Int.min_comm]
  replace hP:Put wc X9 gS (Q1.pN x.p).cells 34:=hP.cast (by rw [eL];rfl)
  have HX9:Hid (SaS w X9 gS S (Q1.pN x.p) x):=HC.s.put hP (HC.s.s.own.pN _)
  have HC9:Hid (code=3∧iE S' (Q1.pN x.p)):=⟨HC3.1,by rw [HC3.2];exact HA1.pN _⟩
  clear hP eL c15 c16 c8 c3 HBx HC HA1 HE1 hd1 hd2 w1 w2
  obtain ⟨Q9,eQ9⟩:∃ Q9,Q1.pN x.p=Q9:=⟨_,rfl⟩
  rw [eQ9] at HX9 HC9
  clear eQ9
  generalize X9=X at *
  generalize Q9=Q at *
  have HX:=HX9
  have HC:=HC9
  have HLq:Hid (∀ j,j<17→X.cell? (Hh gS (0+j))=Q.cells[j]?):=fun j _=>by rw [Nat.zero_add];exact iv HX.s.box j
  have HDz:=aa HX.z
  go_wp2_with (first | refine iC rfl 34 17 _ Tryz.underlying34 rfl iI (.tmp 8) rfl gS 0 rfl Q.cells rfl HLq.out ?_ | refine iA rfl 34 (.tmp 6) (.tmp 94) rfl (w.heap.size+1+1) 0 rfl (.agg Q.cells) rfl 17 rfl 34 _ HDz iI (Nat.le_of_ble_eq_true rfl) (Swg.mc _) ?_)
  exact zY):p:=h
theorem EP (h:p:=by
  have eL:Q1.pN x.p={ Q1 with dr:=min 1000000000 (Q1.dr+1) }:=by unfold Swg.pN;rw [if_neg HP2.out,Int.min_comm]
  replace hP:Put wc X9 gS (Q1.pN x.p).cells 34:=hP.cast (by rw [eL];rfl)
  have HX9:Hid (SaS w X9 gS S (Q1.pN x.p) x):=HC.s.put hP (HC.s.s.own.pN _)
  have HC9:Hid (code=3∧iE S' (Q1.pN x.p)):=⟨HC3.1,by rw [HC3.2];exact HA1.pN _⟩
  clear hP eL c15 c16 c8 c3 HBx HC HA1 HE1 hd1 hd2 w1 w2
  obtain ⟨Q9,eQ9⟩:∃ Q9,Q1.pN x.p=Q9:=⟨_,rfl⟩
  rw [eQ9] at HX9 HC9
  clear eQ9
  generalize X9=X at *
  generalize Q9=Q at *
  have HX:=HX9
  have HC:=HC9
  have HLq:Hid (∀ j,j<17→X.cell? (Hh gS (0+j))=Q.cells[j]?):=fun j _=>by rw [Nat.zero_add];exact iv HX.s.box j
  have HDz:=aa HX.z
  go_wp2_with (first | refine iC rfl 34 17 _ Tryz.underlying34 rfl iI (.tmp 8) rfl gS 0 rfl Q.cells rfl HLq.out ?_ | refine iA rfl 34 (.tmp 6) (.tmp 94) rfl (w.heap.size+1+1) 0 rfl (.agg Q.cells) rfl 17 rfl 34 _ HDz iI (Nat.le_of_ble_eq_true rfl) (Swg.mc _) ?_)
  exact zY):p:=h
structure SaE (w W:World) (gS gp:Nat) (S P B:Swg) (x y:Pkt):Prop where
 own:iP W w.heap.size P
 box:W.heap[gS]?=some (.cells B.cells 34 (0,0))
 pk:W.heap[gp]?=some (.cells y.cells 50 (0,0))
 bel:Below w.heap.size w W
 fr:W.heap[w.heap.size+1]?=some (.cells x.frc 43 (0,0))
 a:W.heap[w.heap.size]?=some (.cells S.cells 34 (0,0))
 z:W.heap[w.heap.size+1+1]?=some (.cells zSw 34 (0,0))
 lt:w.heap.size+1+1<gS
theorem SaE.put {gp:Nat} {P B B':Swg} {y:Pkt} (h:SaE w W gS gp S P B x y) (hP:Put W W' gS B'.cells 34):SaE w W' gS gp S P B' x y :=
 have far:∀ {q:Nat} {cs:Array Value} {t:TypeId},W.heap[q]?=some (.cells cs t (0,0))→q≠gS→W'.heap[q]?=some (.cells cs t (0,0)):=fun k hne=>(hP.to.block _ (iw k) (by simpa using hne)).trans k
 have l:=h.lt
 ⟨h.own.off h.box hP.to,hP.blk,far h.pk (jn h.pk h.box (by decide)),h.bel.trans (hP.to.below h.bel.size (fun q hq=>by simp at hq;omega)),far h.fr (jn h.fr h.box (by decide)),far h.a (by omega),far h.z (by omega),h.lt⟩
theorem Ds (h:p:=by
  refine jv (fun w'=>w'.heap[gS]?=some (.cells Q1.cells 34 (0,0))∧w'.heap[gL]?=some (.cells (lay cur (k*8) l.cells) 48 (0,0))∧w'.heap[gp]?=some (.cells y.more.cells 50 (0,0))) 15 (by kernel_rfl) ?_
  have hd:Below X5.heap.size X5 X5.drew:=(Below.refl _ _).drew
  replace HW:Hid (X5.drew.heap[gL]?=some (.cells (lay cur (k*8) l.cells) 48 (0,0))∧X5.drew.heap[gp]?=some (.cells y.more.cells 50 (0,0))∧iS X5.drew w.heap.size l∧Touch [gp] wr X5.drew∧X5.drew.heap.size=wr.heap.size∧X5.drew.heap[gS]?=some (.cells Q1.cells 34 (0,0))∧X5.drew.heap[w.heap.size+1]?=some (.cells x.frc 43 (0,0))) :=
   ⟨(hd.block _ (iw HW.1)).trans HW.1,(hd.block _ (iw HW.2.1)).trans HW.2.1,HW.2.2.1.up hd,HW.2.2.2.1.trans (Touch.ji hd),HW.2.2.2.2.1,(hd.block _ (iw HW.2.2.2.2.2.1)).trans HW.2.2.2.2.2.1,(hd.block _ (iw HW.2.2.2.2.2.2)).trans HW.2.2.2.2.2.2⟩
  clear hd
  generalize X5.drew=V at *
  have Hcs:Hid (∀ wx:World,wx.heap[gS]?=some (.cells Q1.cells 34 (0,0))∧wx.heap[gL]?=some (.cells (lay cur (k*8) l.cells) 48 (0,0))∧wx.heap[gp]?=some (.cells y.more.cells 50 (0,0))→wx.cell? (Hh gS 14)=some (.slice (some (Hh gL 0)) S.nL Q1.cL)∧wx.cell? (Hh gL (k*8+1))=some (.slice l.aT l.nT l.cT)∧wx.cell? (Hh gp 0)=some (.int .i64 y.id)) :=
   fun wx h=>⟨by rw [←HgL.out,←HnQ.out];exact iv h.1 14,(iv h.2.1 _).trans (jC (cs:=l.cells) HKL.2.1 1 (by show 1<8;omega)),iv h.2.2 0⟩
  have hT0:=And.intro HW.2.2.2.2.2.1 (And.intro HW.1 HW.2.1)
  refine tE 0 126 hT0 ?_
  refine tEX 1 127 hT0 ?_
  refine tE 2 128 hT0 ?_
  refine tE 3 129 hT0 ?_
  refine tEX 4 130 hT0 ?_
  refine tE 5 131 hT0 ?_
  refine tE 6 132 hT0 ?_
  refine tE 7 133 hT0 ?_
  refine tEX 8 134 hT0 ?_
  refine tE 9 135 hT0 ?_
  refine tEX 10 136 hT0 ?_
  obtain ⟨g1,c1,X2,hr1,hoi,ht,hg⟩:=CL HW.2.2.1.t HnT (by rw [HW.2.2.2.2.1];exact HL.bel.size) y.id
  have nt:∀ {b:Nat} {cs:Array Value} {t:TypeId},2≠t→V.heap[b]?=some (.cells cs t (0,0))→b∉iR l.aT:=fun hne hb=>OG.mv (t:=2) (sz:=1) HW.2.2.1.t hne hb
  have hT1:(V.alloc (.cells #[.int .i64 y.id] 2)).heap[gS]?=some (.cells Q1.cells 34 (0,0))∧(V.alloc (.cells #[.int .i64 y.id] 2)).heap[gL]?=some (.cells (lay cur (k*8) l.cells) 48 (0,0))∧(V.alloc (.cells #[.int .i64 y.id] 2)).heap[gp]?=some (.cells y.more.cells 50 (0,0)):=⟨(iN _ (iw hT0.1)).trans hT0.1,(iN _ (iw hT0.2.1)).trans hT0.2.1,(iN _ (iw hT0.2.2)).trans hT0.2.2⟩
  have hT2:X2.heap[gS]?=some (.cells Q1.cells 34 (0,0))∧X2.heap[gL]?=some (.cells (lay cur (k*8) l.cells) 48 (0,0))∧X2.heap[gp]?=some (.cells y.more.cells 50 (0,0)):=⟨(ht.block _ (iw hT0.1) (nt (by decide) hT0.1)).trans hT0.1,(ht.block _ (iw hT0.2.1) (nt (by decide) hT0.2.1)).trans hT0.2.1,(ht.block _ (iw hT0.2.2) (nt (by decide) hT0.2.2)).trans hT0.2.2⟩
  have HA:Hid (OI X2 w.heap.size (some (Hh g1 0)) (l.nT+1) c1 (ki l.nT y.id l.t)∧Touch (iR l.aT) V X2∧(g1∈iR l.aT∨V.heap.size≤g1)):=⟨hoi,ht,hg⟩
  have HR1:=aa hr1
  clear hoi ht hg hr1 nt
  refine iz (rs:=[11]) (by kernel_rfl) (by simp) ?_
  refine ix.cons rfl (fun K hK=>?_) ix.nil
  go_simp
  refine hK _ _ hT1 ?_
  clear hK K
  try simp only [Act.put,PZ]
  clear hT1
  refine iz (rs:=[12]) (by kernel_rfl) (by simp) ?_
  refine ix.cons rfl (fun K hK=>?_) ix.nil
  refine lV (by kernel_rfl) (some 138) rfl (.tmp 134) (.tmp 137) 27 _ _ _ rfl rfl rfl rfl HR1.out ?_
  refine hK _ _ hT2 ?_
  clear hK K
  try simp only [Act.put,PZ]
  clear HR1 hT0
  refine iz (rs:=[13]) (by kernel_rfl) (by simp) ?_
  refine ix.cons rfl (fun K hK=>?_) ix.nil
  go_simp
  refine hK _ _ hT2 ?_
  clear hK K
  try simp only [Act.put,PZ]
  refine tE 14 140 hT2 ?_
  refine iz (rs:=[15]) (by kernel_rfl) (by simp) ?_
  refine ix.last rfl (fun K hK=>?_)
  have hz:(lay cur (k*8) l.cells).size=cur.size:=jJ (cs:=l.cells) HKL.2.1
  have hkf:=HKL.2.1
  refine jY (by kernel_rfl) none rfl 27 (.tmp 140) (.tmp 138) rfl gL (k*8+1) rfl (.slice (some (Hh g1 0)) (l.nT+1) c1) rfl 1 rfl 48 _ hT2.2.1 Eo (by omega) (by simp [Value.cells,Value.oneCell']) ?_
  intro X3 hP
  refine ah (hK _ _) ?_
  clear hK K
  refine jf (by kernel_rfl) ?_ _
  have eL:lay (lay cur (k*8) l.cells) (k*8+1) #[.slice (some (Hh g1 0)) (l.nT+1) c1]=lay cur (k*8) (l.rh y.id (some (Hh g1 0)) c1).cells:=by
   rw [←layT l y.id]
   exact vL (a:=l.cells) HKL.2.1 (by show 1+1≤8;omega)
  replace hP:Put X2 X3 gL (lay cur (k*8) (l.rh y.id (some (Hh g1 0)) c1).cells) 48:=hP.cast eL
  have hne:gL≠gp:=jn hT2.2.1 hT2.2.2 (by decide)
  have HN2:Hid (SaL w X3 gS gp g8 S Q1 M x i dst (k+1) (fun j=>if j=k then l.rh y.id (some (Hh g1 0)) c1 else L j)):=by
   have zV:=HW.2.2.2.2.1
   have q1:=HW.2.2.1.rh HA.1 HA.2.1 HA.2.2
   refine HL.next hb hlt HnQ HgL HPk.1 HPk.2 HKL.2.2 (by rw [HY.out];exact (hP.to.block gp (iw hT2.2.2) (by simpa using fun e=>hne e.symm)).trans hT2.2.2) (by rw [Hel.out];have q:=C3 (l:=l) (id:=y.id) (cl:=x.cl) HP2 (some (Hh g1 0)) c1;rw [HYi.out] at q ⊢;exact q) ?_
   rw [Hel.out]
   refine ⟨hP.blk,q1.box hT2.2.1 (by decide) (by decide) hP.to,?_,fun x hx=>.inl hx,gp :: gL :: iR l.aT,?_,fun x hx=>?_⟩
   ·
    have q2:=EC (l:=l) (id:=y.id) (c:=c1) HA.2.2
    rw [zV] at q2
    exact q2
   ·
    exact ((HW.2.2.2.1.mono (fun x hx=>by simp at hx;simp [hx])).trans (HA.2.1.mono (fun x hx=>by simp [hx]))).trans (hP.to.mono (fun x hx=>by simp at hx;simp [hx]))
   simp only [List.mem_cons] at hx
   rcases hx with e | e | e
   ·
    exact .inr (.inl e)
   ·
    exact .inl e
   exact .inr (.inr (.inl (iS.inT e)))
  clear hP eL hT2 HA HW hz hkf hne HL HKL Hal Hcs HPB
  go_wp2_with fail
  go_roundw
  case rel=>exact ⟨k+1,_,by omega,by go_num,HN2⟩
  case measure=>simp [intOf];omega):p:=h
theorem ER (h:p:=by
  obtain ⟨gu,ucur,eU,kU,zU,cU⟩:=HW.2.2.1.u.at0 (by omega)
  refine jv (fun w'=>w'.heap[gS]?=some (.cells Q1.cells 34 (0,0))∧w'.heap[gL]?=some (.cells (lay cur (k*8) l.cells) 48 (0,0))∧w'.heap[gu]?=some (.cells ucur 27 (0,0))∧w'.heap[gp]?=some (.cells y.more.cells 50 (0,0))∧w'.heap[w.heap.size+1]?=some (.cells x.frc 43 (0,0))) 23 (by kernel_rfl) ?_
  have hd:Below X5.heap.size X5 X5.drew:=(Below.refl _ _).drew
  replace HW:Hid (X5.drew.heap[gL]?=some (.cells (lay cur (k*8) l.cells) 48 (0,0))∧X5.drew.heap[gp]?=some (.cells y.more.cells 50 (0,0))∧iS X5.drew w.heap.size l∧Touch [gp] wr X5.drew∧X5.drew.heap.size=wr.heap.size∧X5.drew.heap[gS]?=some (.cells Q1.cells 34 (0,0))∧X5.drew.heap[w.heap.size+1]?=some (.cells x.frc 43 (0,0))) :=
   ⟨(hd.block _ (iw HW.1)).trans HW.1,(hd.block _ (iw HW.2.1)).trans HW.2.1,HW.2.2.1.up hd,HW.2.2.2.1.trans (Touch.ji hd),HW.2.2.2.2.1,(hd.block _ (iw HW.2.2.2.2.2.1)).trans HW.2.2.2.2.2.1,(hd.block _ (iw HW.2.2.2.2.2.2)).trans HW.2.2.2.2.2.2⟩
  have HU:Hid (l.aU=some (Hh gu 0)∧l.nU*1≤ucur.size∧X5.drew.heap[gu]?=some (.cells ucur 27 (0,0))):=⟨eU,zU,(hd.block _ (iw kU)).trans kU⟩
  clear hd kU zU
  generalize X5.drew=V at *
  have Hcs:Hid (∀ wx:World,wx.heap[gS]?=some (.cells Q1.cells 34 (0,0))∧wx.heap[gL]?=some (.cells (lay cur (k*8) l.cells) 48 (0,0))∧wx.heap[gu]?=some (.cells ucur 27 (0,0))∧wx.heap[gp]?=some (.cells y.more.cells 50 (0,0))∧wx.heap[w.heap.size+1]?=some (.cells x.frc 43 (0,0))→wx.cell? (Hh gS 14)=some (.slice (some (Hh gL 0)) S.nL Q1.cL)∧wx.cell? (Hh gL (k*8+2))=some (.slice (some (Hh gu 0)) l.nU l.cU)∧wx.cell? (Hh gu c)=some (.slice (l.uA c) (l.uL c) (l.uC c))∧wx.cell? (Hh gp 0)=some (.int .i64 y.id)∧wx.cell? (Hh (w.heap.size+1) 3)=some (.int .i64 (c:Int))) :=
   fun wx h=>⟨by rw [←HgL.out,←HnQ.out];exact iv h.1 14,by rw [←eU];exact (iv h.2.1 _).trans (jC (cs:=l.cells) HKL.2.1 2 (by show 2<8;omega)),(iv h.2.2.1 _).trans ((cU c (by omega)).trans (qC _ _ _ _ _ hcU)),iv h.2.2.2.1 0,by rw [←HCc.1];exact iv h.2.2.2.2 3⟩
  clear eU cU
  have hT0:=And.intro HW.2.2.2.2.2.1 (And.intro HW.1 (And.intro HU.2.2 (And.intro HW.2.1 HW.2.2.2.2.2.2)))
  refine tE 0 141 hT0 ?_
  refine tEX 1 142 hT0 ?_
  refine tE 2 143 hT0 ?_
  refine tE 3 144 hT0 ?_
  refine tE 4 145 hT0 ?_
  refine tEX 5 146 hT0 ?_
  refine tE 6 147 hT0 ?_
  refine tEX 7 148 hT0 ?_
  refine tE 8 149 hT0 ?_
  refine tEX 9 150 hT0 ?_
  refine tE 10 151 hT0 ?_
  refine tE 11 152 hT0 ?_
  refine tE 12 153 hT0 ?_
  refine tEX 13 154 hT0 ?_
  refine tE 14 155 hT0 ?_
  refine tEX 15 156 hT0 ?_
  refine tE 16 157 hT0 ?_
  refine tEX 17 158 hT0 ?_
  refine tE 18 159 hT0 ?_
  refine tEX 19 160 hT0 ?_
  obtain ⟨g1,c1,X2,hr1,hoi,ht,hg⟩:=CL (HW.2.2.1.z c hcU) HuL (by rw [HW.2.2.2.2.1];exact HL.bel.size) y.id
  have nt:∀ {b:Nat} {cs:Array Value} {t:TypeId},2≠t→V.heap[b]?=some (.cells cs t (0,0))→b∉iR (l.uA c):=fun hne hb=>OG.mv (t:=2) (sz:=1) (HW.2.2.1.z c hcU) hne hb
  have hT1:(V.alloc (.cells #[.int .i64 y.id] 2)).heap[gS]?=some (.cells Q1.cells 34 (0,0))∧(V.alloc (.cells #[.int .i64 y.id] 2)).heap[gL]?=some (.cells (lay cur (k*8) l.cells) 48 (0,0))∧(V.alloc (.cells #[.int .i64 y.id] 2)).heap[gu]?=some (.cells ucur 27 (0,0))∧(V.alloc (.cells #[.int .i64 y.id] 2)).heap[gp]?=some (.cells y.more.cells 50 (0,0))∧(V.alloc (.cells #[.int .i64 y.id] 2)).heap[w.heap.size+1]?=some (.cells x.frc 43 (0,0)):=⟨(iN _ (iw hT0.1)).trans hT0.1,(iN _ (iw hT0.2.1)).trans hT0.2.1,(iN _ (iw hT0.2.2.1)).trans hT0.2.2.1,(iN _ (iw hT0.2.2.2.1)).trans hT0.2.2.2.1,(iN _ (iw hT0.2.2.2.2)).trans hT0.2.2.2.2⟩
  have hT2:X2.heap[gS]?=some (.cells Q1.cells 34 (0,0))∧X2.heap[gL]?=some (.cells (lay cur (k*8) l.cells) 48 (0,0))∧X2.heap[gu]?=some (.cells ucur 27 (0,0))∧X2.heap[gp]?=some (.cells y.more.cells 50 (0,0))∧X2.heap[w.heap.size+1]?=some (.cells x.frc 43 (0,0)):=⟨(ht.block _ (iw hT0.1) (nt (by decide) hT0.1)).trans hT0.1,(ht.block _ (iw hT0.2.1) (nt (by decide) hT0.2.1)).trans hT0.2.1,(ht.block _ (iw hT0.2.2.1) (nt (by decide) hT0.2.2.1)).trans hT0.2.2.1,(ht.block _ (iw hT0.2.2.2.1) (nt (by decide) hT0.2.2.2.1)).trans hT0.2.2.2.1,(ht.block _ (iw hT0.2.2.2.2) (nt (by decide) hT0.2.2.2.2)).trans hT0.2.2.2.2⟩
  have HA:Hid (OI X2 w.heap.size (some (Hh g1 0)) (l.uL c+1) c1 (ki (l.uL c) y.id (l.uz c))∧Touch (iR (l.uA c)) V X2∧(g1∈iR (l.uA c)∨V.heap.size≤g1)):=⟨hoi,ht,hg⟩
  have HR1:=aa hr1
  clear hoi ht hg hr1 nt
  refine iz (rs:=[20]) (by kernel_rfl) (by simp) ?_
  refine ix.cons rfl (fun K hK=>?_) ix.nil
  go_simp
  refine hK _ _ hT1 ?_
  clear hK K
  try simp only [Act.put,PZ]
  clear hT1
  refine iz (rs:=[21]) (by kernel_rfl) (by simp) ?_
  refine ix.cons rfl (fun K hK=>?_) ix.nil
  refine lV (by kernel_rfl) (some 162) rfl (.tmp 158) (.tmp 161) 27 _ _ _ rfl rfl rfl rfl HR1.out ?_
  refine hK _ _ hT2 ?_
  clear hK K
  try simp only [Act.put,PZ]
  clear HR1 hT0
  refine tE 22 163 hT2 ?_
  refine iz (rs:=[23]) (by kernel_rfl) (by simp) ?_
  refine ix.last rfl (fun K hK=>?_)
  refine jY (by kernel_rfl) none rfl 27 (.tmp 163) (.tmp 162) rfl gu c rfl (.slice (some (Hh g1 0)) (l.uL c+1) c1) rfl 1 rfl 27 _ hT2.2.2.1 Eo (by have:=HU.2.1;omega) (by simp [Value.cells,Value.oneCell']) ?_
  intro X3 hP
  refine ah (hK _ _) ?_
  clear hK K
  refine jf (by kernel_rfl) ?_ _
  have far:∀ {y:Nat} {cs:Array Value} {t:TypeId},X2.heap[y]?=some (.cells cs t (0,0))→t≠27→X3.heap[y]?=some (.cells cs t (0,0)):=fun ky hne=>(hP.to.block _ (iw ky) (by simpa using jn ky hT2.2.2.1 hne)).trans ky
  have HW3:Hid (X3.heap[gL]?=some (.cells (lay cur (k*8) l.cells) 48 (0,0))∧X3.heap[gp]?=some (.cells y.more.cells 50 (0,0))∧iS X3 w.heap.size (l.ql c y.id (some (Hh g1 0)) c1)∧Touch (gp :: gu :: iR (l.uA c)) wr X3∧wr.heap.size≤X3.heap.size∧X3.heap[gS]?=some (.cells Q1.cells 34 (0,0))∧X3.heap[w.heap.size+1]?=some (.cells x.frc 43 (0,0))):=by
   have tt:Touch (gp :: gu :: iR (l.uA c)) wr X3:=((HW.2.2.2.1.mono (fun x hx=>by simp at hx;simp [hx])).trans (HA.2.1.mono (fun x hx=>by simp [hx]))).trans (hP.to.mono (fun x hx=>by simp at hx;simp [hx]))
   exact ⟨far hT2.2.1 (by decide),far hT2.2.2.2.1 (by decide),HW.2.2.1.ql hcU HU.1 HA.1 HA.2.1 HA.2.2 hT2.2.2.1 hP,tt,tt.size,far hT2.1 (by decide),far hT2.2.2.2.2 (by decide)⟩
  have HZ3:Hid ((∀ x∈(l.ql c y.id (some (Hh g1 0)) c1).kj,x∈l.kj∨wr.heap.size≤x)∧gu∈l.pg):=by
   refine ⟨?_,List.mem_append_left _ (by rw [HU.1];simp [iR])⟩
   have q2:=EW (l:=l) (id:=y.id) (c:=c1) hcU HA.2.2
   rw [HW.2.2.2.2.1] at q2
   exact q2
  clear hP hT2 HA HW HU Hcs far
  go_wp2_with fail
  refine jv (fun w'=>w'.heap[gS]?=some (.cells Q1.cells 34 (0,0))∧w'.heap[gL]?=some (.cells (lay cur (k*8) l.cells) 48 (0,0))∧w'.heap[w.heap.size+1]?=some (.cells x.frc 43 (0,0))) 16 (by kernel_rfl) ?_
  have hd:Below X3.heap.size X3 X3.drew:=(Below.refl _ _).drew
  replace HW3:Hid (X3.drew.heap[gL]?=some (.cells (lay cur (k*8) l.cells) 48 (0,0))∧X3.drew.heap[gp]?=some (.cells y.more.cells 50 (0,0))∧iS X3.drew w.heap.size (l.ql c y.id (some (Hh g1 0)) c1)∧Touch (gp :: gu :: iR (l.uA c)) wr X3.drew∧wr.heap.size≤X3.drew.heap.size∧X3.drew.heap[gS]?=some (.cells Q1.cells 34 (0,0))∧X3.drew.heap[w.heap.size+1]?=some (.cells x.frc 43 (0,0))) :=
   ⟨(hd.block _ (iw HW3.1)).trans HW3.1,(hd.block _ (iw HW3.2.1)).trans HW3.2.1,HW3.2.2.1.up hd,HW3.2.2.2.1.trans (Touch.ji hd),Nat.le_trans HW3.2.2.2.2.1 hd.size,(hd.block _ (iw HW3.2.2.2.2.2.1)).trans HW3.2.2.2.2.2.1,(hd.block _ (iw HW3.2.2.2.2.2.2)).trans HW3.2.2.2.2.2.2⟩
  clear hd
  generalize X3.drew=V3 at *
  have Hcs:Hid (∀ wx:World,wx.heap[gS]?=some (.cells Q1.cells 34 (0,0))∧wx.heap[gL]?=some (.cells (lay cur (k*8) l.cells) 48 (0,0))∧wx.heap[w.heap.size+1]?=some (.cells x.frc 43 (0,0))→wx.cell? (Hh gS 14)=some (.slice (some (Hh gL 0)) S.nL Q1.cL)∧wx.cell? (Hh (w.heap.size+1) 3)=some (.int .i64 (c:Int))) :=
   fun wx h=>⟨by rw [←HgL.out,←HnQ.out];exact iv h.1 14,by rw [←HCc.1];exact iv h.2.2 3⟩
  have hT0:=And.intro HW3.2.2.2.2.2.1 (And.intro HW3.1 HW3.2.2.2.2.2.2)
  refine tE 0 164 hT0 ?_
  refine tEX 1 165 hT0 ?_
  refine tE 2 166 hT0 ?_
  refine tE 3 167 hT0 ?_
  refine tEX 4 168 hT0 ?_
  refine tE 5 169 hT0 ?_
  refine tE 6 170 hT0 ?_
  refine tE 7 171 hT0 ?_
  refine ko (i:=8) (some 172) (v:=.agg l.R.cells) (fun wx hSw=>jF 46 5 _ Tryz.underlying46 rfl BW (.tmp 171) rfl gL (k*8+3) rfl l.R.cells rfl (fun j hj=>by
   rw [Nat.add_assoc,iv hSw.2.1]
   rw [jC (cs:=l.cells) HKL.2.1 (3+j) (by show 3+j<8;omega)]
   rcases j with _ | _ | _ | _ | _ | j
   ·
    rfl
   ·
    rfl
   ·
    rfl
   ·
    rfl
   ·
    rfl
   ·
    omega)) hT0 ?_
  try simp only [Act.put,PZ]
  refine tE 9 173 hT0 ?_
  refine tEX 10 174 hT0 ?_
  refine ko (i:=11) (some 175) (v:=.agg x.frc) (fun wx hSw=>jF 43 5 _ Tryz.underlying43 rfl ku (.tmp 5) rfl (w.heap.size+1) 0 rfl x.frc rfl (xP hSw.2.2)) hT0 ?_
  try simp only [Act.put,PZ]
  refine iz (rs:=[12]) (by kernel_rfl) (by simp) ?_
  refine ix.cons rfl (fun K hK=>?_) ix.nil
  go_simp
  unfold Pkt.frc
  refine (jy x.k x.d x.s x.p x.b _ HFr.le).mono ?_
  rintro e Y4 ⟨rfl,hb4⟩
  have eCl:(((x.b.size:Int)+9+9) / 10)=x.cl:=rfl
  rw [eCl]
  clear eCl
  have HB4:=aa hb4
  have hT4:Y4.heap[gS]?=some (.cells Q1.cells 34 (0,0))∧Y4.heap[gL]?=some (.cells (lay cur (k*8) l.cells) 48 (0,0))∧Y4.heap[w.heap.size+1]?=some (.cells x.frc 43 (0,0)):=⟨(hb4.block _ (iw hT0.1)).trans hT0.1,(hb4.block _ (iw hT0.2.1)).trans hT0.2.1,(hb4.block _ (iw hT0.2.2)).trans hT0.2.2⟩
  clear hb4 hT0
  go_wp2_with fail
  refine hK _ _ hT4 ?_
  clear hK K
  try simp only [Act.put,PZ]
  refine iz (rs:=[13]) (by kernel_rfl) (by simp) ?_
  refine ix.cons rfl (fun K hK=>?_) ix.nil
  go_simp
  refine (BP l.R c x.cl _ HRs.1 (HW3.2.2.1.g.rd.r.up HB4) HRs.2.1 HRs.2.2).mono ?_
  rintro e Y5 ⟨R5,rfl,oR,hb5,aR⟩
  have HAl:=aa aR
  have hT5:Y5.heap[gS]?=some (.cells Q1.cells 34 (0,0))∧Y5.heap[gL]?=some (.cells (lay cur (k*8) l.cells) 48 (0,0))∧Y5.heap[w.heap.size+1]?=some (.cells x.frc 43 (0,0)):=⟨(hb5.block _ (iw hT4.1)).trans hT4.1,(hb5.block _ (iw hT4.2.1)).trans hT4.2.1,(hb5.block _ (iw hT4.2.2)).trans hT4.2.2⟩
  have HP5:Hid (Y5.heap[gp]?=some (.cells y.more.cells 50 (0,0))):=by
   have bb:=HB4.trans (hb5.mono HB4.size)
   exact (bb.block _ (iw HW3.2.1)).trans HW3.2.1
  have HW5:Hid (iS Y5 w.heap.size { l.ql c y.id (some (Hh g1 0)) c1 with R:=R5 }∧(∀ x∈({ l.ql c y.id (some (Hh g1 0)) c1 with R:=R5 }:Lng).kj,x∈l.kj∨wr.heap.size≤x)∧(∀ x∈({ l.ql c y.id (some (Hh g1 0)) c1 with R:=R5 }:Lng).pg,x∈l.pg∨wr.heap.size≤x)∧Touch (gp :: gu :: iR (l.uA c)) wr Y5∧∀ x∈gp :: gL :: gu :: iR (l.uA c),x=gL∨x=gp∨x∈l.kj∨x∈l.pg):=by
   obtain ⟨_,_,q3,q4,q5,_,_⟩:=HW3.out
   obtain ⟨q6,q7⟩:=HZ3.out
   have bb:=HB4.trans (hb5.mono HB4.size)
   have z4:V3.heap.size≤Y4.heap.size:=HB4.size
   refine ⟨q3.vF bb z4 (Nat.le_trans HL.bel.size q5) oR,fun x hx=>?_,fun x hx=>?_,q4.trans (Touch.ji bb),fun x hx=>?_⟩
   ·
    rcases F6 (w:=V3) (base:=w.heap.size) oR z4 x hx with e | e
    ·
     exact q6 x e
    exact .inr (Nat.le_trans q5 e)
   ·
    rcases F7 (w:=V3) (base:=w.heap.size) oR z4 x hx with e | e
    ·
     exact .inl e
    exact .inr (Nat.le_trans q5 e)
   simp only [List.mem_cons] at hx
   rcases hx with e | e | e | e
   ·
    exact .inr (.inl e)
   ·
    exact .inl e
   ·
    exact .inr (.inr (.inr (e▸q7)))
   exact .inr (.inr (.inl (iS.inU hcU e)))
  clear oR aR hb5 hT4 HB4 HW3 HZ3
  go_wp2_with fail
  refine hK _ _ hT5 ?_
  clear hK K
  try simp only [Act.put,PZ]
  have hz:(lay cur (k*8) l.cells).size=cur.size:=jJ (cs:=l.cells) HKL.2.1
  have hkf:=HKL.2.1
  refine iz (rs:=[14]) (by kernel_rfl) (by simp) ?_
  refine ix.cons rfl (fun K hK=>?_) ix.nil
  go_simp
  refine hK _ _ hT5 ?_
  clear hK K
  try simp only [Act.put,PZ]
  refine tE 15 179 hT5 ?_
  refine iz (rs:=[16]) (by kernel_rfl) (by simp) ?_
  refine ix.last rfl (fun K hK=>?_)
  refine jY (by kernel_rfl) none rfl 46 (.tmp 179) (.tmp 177) rfl gL (k*8+3) rfl (.agg R5.cells) rfl 5 rfl 48 _ hT5.2.1 BW (by omega) (by simp [Value.cells,Value.oneCell',Rnd.cells]) ?_
  intro X6 hP
  refine ah (hK _ _) ?_
  clear hK K
  refine jf (by kernel_rfl) ?_ _
  have eL:lay (lay cur (k*8) l.cells) (k*8+3) R5.cells=lay cur (k*8) ({ l.ql c y.id (some (Hh g1 0)) c1 with R:=R5 }:Lng).cells:=by
   rw [←layR]
   exact vL (a:=l.cells) HKL.2.1 (by show 3+5≤8;omega)
  replace hP:Put Y5 X6 gL (lay cur (k*8) ({ l.ql c y.id (some (Hh g1 0)) c1 with R:=R5 }:Lng).cells) 48:=hP.cast eL
  have hne:gL≠gp:=jn hT5.2.1 HP5 (by decide)
  have HN2:Hid (SaL w X6 gS gp g8 S Q1 M x i dst (k+1) (fun j=>if j=k then { l.ql c y.id (some (Hh g1 0)) c1 with R:=R5 } else L j)):=by
   obtain ⟨q1,q2,q3,q4,q5⟩:=HW5.out
   refine HL.next hb hlt HnQ HgL HPk.1 HPk.2 HKL.2.2 (by rw [HY.out];exact (hP.to.block gp (iw HP5) (by simpa using fun e=>hne e.symm)).trans HP5) (by rw [Hel.out];have q:=C5 (l:=l) (id:=y.id) HCc.1 HCc.2 (some (Hh g1 0)) c1 HAl.out;rw [HYi.out] at q ⊢;exact q) ?_
   rw [Hel.out]
   refine ⟨hP.blk,q1.box hT5.2.1 (by decide) (by decide) hP.to,q2,q3,gp :: gL :: gu :: iR (l.uA c),(q4.mono (fun x hx=>?_)).trans (hP.to.mono (fun x hx=>by simp at hx;simp [hx])),q5⟩
   simp only [List.mem_cons] at hx ⊢
   rcases hx with e | e | e
   ·
    exact .inl e
   ·
    exact .inr (.inr (.inl e))
   exact .inr (.inr (.inr e))
  clear hP eL hT5 HW5 hz hkf hne HL HKL Hal Hcs HPB
  go_wp2_with fail
  go_roundw
  case rel =>
   repeat apply Exists.intro
   refine ⟨?_,rfl⟩
   exact ⟨k+1,_,by omega,by go_num,HN2⟩
  case measure=>simp [intOf];omega):p:=h
theorem FY (h:p:=by
  obtain ⟨y,ey⟩:∃ y,S.pkt i x (oX dst (i:Int) k)=y:=⟨_,rfl⟩
  have HY:=aa ey
  have HYi:Hid (y.id=S.nx):=by rw [←ey];rfl
  have HO3:Hid (ln wr w.heap.size (some (Hh gL 0)) Q1.nL Q1.cL L):=by
   have h8:ln wr w.heap.size Q1.aL Q1.nL Q1.cL L:=HL.own.l
   rw [HgL.out] at h8
   exact h8
  obtain ⟨gL',cur,eg,hgb,kL,zL,lL,_⟩:=HO3.at (by rw [HnQ.out];omega)
  cases eg
  have hkQ:k<Q1.nL:=by rw [HnQ.out];exact hlt
  have Hal:Hid (iT (S.L k) (L k)):=by
   have h9:=HL.al k hlt
   unfold Swg.ka at h9
   rw [if_neg (fun h=>absurd h.1 (Nat.lt_irrefl _))] at h9
   exact h9
  have hol:=HO3.ls k hkQ
  have hll:=lL k hkQ
  obtain ⟨l,el⟩:∃ l,L k=l:=⟨_,rfl⟩
  have Hel:=aa el
  have HKL:Hid (wr.heap[gL]?=some (.cells (lay cur (k*8) l.cells) 48 (0,0))∧k*8+8≤cur.size∧wr.heap[gL]?=some (.cells cur 48 (0,0))):=⟨by rw [←el,hll];exact kL,by omega,kL⟩
  rw [el] at hol Hal
  replace hP:Put wr X5 gp y.more.cells 50:=hP.cast (by rw [←ey];rfl)
  have far:∀ {y:Nat} {cs:Array Value} {t:TypeId},wr.heap[y]?=some (.cells cs t (0,0))→t≠50→X5.heap[y]?=some (.cells cs t (0,0)):=fun ky hne=>(hP.to.block _ (iw ky) (by simpa using jn ky HPB hne)).trans ky
  have HW:Hid (X5.heap[gL]?=some (.cells (lay cur (k*8) l.cells) 48 (0,0))∧X5.heap[gp]?=some (.cells y.more.cells 50 (0,0))∧iS X5 w.heap.size l∧Touch [gp] wr X5∧X5.heap.size=wr.heap.size∧X5.heap[gS]?=some (.cells Q1.cells 34 (0,0))∧X5.heap[w.heap.size+1]?=some (.cells x.frc 43 (0,0))):=⟨far HKL.1 (by decide),hP.blk,hol.box HPB (by decide) (by decide) hP.to,hP.to,hP.size,far HL.box (by decide),far HL.fr (by decide)⟩
  have c3:X5.cell? (Hh (w.heap.size+1) 3)=some (.int .i64 x.p):=iv HW.2.2.2.2.2.2 3
  clear hP far hol hll kL zL lL hgb el ey c2 hw2 c0 HO3
  by_cases hp2:x.p=2
  ·
   have HP2:=aa hp2
   have hp':(x.p == 2)=true:=by simp [hp2]
   have HnT:Hid (l.nT≤1048576):=by have h9:=(HOk.l k hlt).t.le HOk.k;have:=HOk.k.le;have e:=Hal.nT;rw [Hid];omega
   clear hp2
   go_wp2_with fail
   clear c3 hp'
   exact Ds
  ·
   have hp':(x.p == 2)=false:=by simp [hp2]
   have hpr:=HFr.pr
   obtain ⟨c,hc⟩:∃ c:Nat,x.p=(c:Int):=⟨x.p.toNat,by omega⟩
   obtain ⟨hc2,hwp,hul⟩:=HOk.room hlt HFr hc hp2
   have HCc:Hid (x.p=(c:Int)∧x.p≠2):=⟨hc,hp2⟩
   have hnU:l.nU=2:=by have e:=Hal.nU;rw [e];exact (HOk.l k hlt).u
   have hcU:c<l.nU:=by omega
   have HuL:Hid (l.uL c≤1048576):=by have e:=Hal.l;rw [Hid,e];omega
   have HRs:Hid (l.R.Small∧c<l.R.nS∧l.R.L c≤1000):=by
    have hl:=HOk.l k hlt
    have e:=Hal.r
    refine ⟨(Hal.small (HS.ls k hlt)).r,by rw [e.nS,hl.r.s,hl.n];exact hc2,by rw [e.l,←(hl.z c hc2).2.1];exact hul⟩
   have hcL:(c:Int)<(l.nU:Int):=by omega
   have hnU2:0<l.nU:=by omega
   clear hc hp2 hwp hul hc2 hnU
   go_wp2_with fail
   clear c3 hp'
   exact ER):p:=h
theorem vM (S S':Swg) (port:Int) (x:Pkt) (code:Int) (w:World) (hs:S.Small) (hr:lN w S) (hok:S.Ok) (hxb:x.b.size≤1048576) (hm:CS S S' port x code) :
  Calls Tryz.prog 85 #[.agg S.cells,.int .i64 port,.agg x.frc] w fun e w'=>∃ S2,e=.returned (.tuple #[.agg S2.cells,.int .i64 code])∧iE S' S2∧iP w' w.heap.size S2∧Below w.heap.size w w':=by
 have HM:Hid (CS S S' port x code):=hm
 have HR:Hid (lN w S):=hr
 have HS:Hid S.Small:=hs
 have HOk:Hid S.Ok:=hok
 obtain ⟨W,eW⟩:∃ W,((w.alloc (.cells S.cells 34)).alloc (.cells x.frc 43)).alloc (.cells ab 34)=W:=⟨_,rfl⟩
 have HX:Hid (Thr w W S x):=by rw [←eW];exact Thr.start _ _ _
 have HL:Hid (∀ j,j<17→W.cell? (Hh w.heap.size (0+j))=S.cells[j]?):=fun j _=>by rw [Nat.zero_add];exact iv HX.a j
 obtain ⟨_,_,_,ht4,ht5⟩:=zi hok
 have hp4:=hok.n.c.num.p
 clear hs hr hok hm
 go_enter Tryz.func85,Tryz.ntmps85
 go_wp2_with (refine iC rfl 34 17 _ Tryz.underlying34 rfl iI (.tmp 3) rfl (w.heap.size) 0 rfl S.cells rfl HL.out ?_)
 clear eW HL
 have hW1:w.heap.size+2<W.heap.size:=iw HX.z
 refine (rH S _ HS ht4 ht5 (HR.up HX.bel)).mono ?_
 rintro e w2 ⟨Q,rfl,aQ,oQ,hbl⟩
 replace HX:Hid (Thr w w2 S x):=HX.up hbl
 have hz2:=hbl.size
 have HQ:Hid (iE S Q∧iP w2 w.heap.size Q):=⟨aQ,oQ.mono (by omega)⟩
 clear aQ oQ hbl
 have HG:Hid ((w2.alloc (.cells ab 34)).heap[w2.heap.size]?=some (.cells ab 34 (0,0))):=iy _ _
 go_wp2_with (refine iA rfl 34 (.tmp 8) (.tmp 15) rfl (w2.heap.size) 0 rfl (.agg Q.cells) rfl 17 rfl 34 _ HG iI (Nat.le_of_ble_eq_true rfl) (Swg.mc _) ?_)
 intro X hP
 replace hP:Put _ X w2.heap.size Q.cells 34:=hP.cast rfl
 have hbl:Below w2.heap.size w2 X:=((Below.refl _ _).alloc (Nat.le_refl _) _).trans (hP.to.below (by simp) (fun y hy=>by simp at hy;omega))
 replace HX:Hid (SaS w X w2.heap.size S Q x):=by
  have h9:=HX.up hbl
  exact ⟨⟨hP.blk,h9.f,HQ.2.up hbl,h9.bel,by omega,by omega,Nat.le_refl _⟩,h9.a,h9.z,by omega⟩
 have HA:Hid (iE S Q):=HQ.1
 clear hP HG hbl HQ
 obtain ⟨gS,eN⟩:∃ g,w2.heap.size=g:=⟨_,rfl⟩
 rw [eN] at HX hz2 ⊢
 clear eN hz2 hW1
 have c0:X.cell? (Hh w.heap.size 0)=some (.int .i64 S.C.p):=iv HX.a 0
 have hw1:IntKind.i64.wrap (S.C.p-1)=S.C.p-1:=lz _ (by omega) (by omega)
 go_wp2_with fail
 clear c0 hw1
 refine (iK _ _ _ _).mono ?_
 rintro e w' ⟨rfl,rfl⟩
 by_cases hport:0≤port∧port≤S.C.p-1
 rotate_left
 ·
  have hdec:decide (0≤port∧port≤S.C.p-1)=false:=by simp only [decide_eq_false_iff_not];exact hport
  have HC:Hid (code=2∧iE S' Q):=by
   rcases HM.out with ⟨h,_⟩ | ⟨_,_,h1,h2⟩ | ⟨_,_,i,rfl,hi,_⟩
   ·
    exact absurd HOk h
   ·
    exact ⟨h2,by rw [h1];exact HA⟩
   have:=HOk.nl
   exact absurd (by omega) hport
  rw [hdec]
  clear hport hdec
  generalize w'=X at *
  exact bo
 have hdec:decide (0≤port∧port≤S.C.p-1)=true:=by simp only [decide_eq_true_eq];exact hport
 have HPt:Hid (0≤port∧port≤S.C.p-1):=hport
 have HL2:Hid (∀ j,j<5→w'.cell? (Hh (w.heap.size+1) (0+j))=(#[.int .i64 x.k,.int .i64 x.d,.int .i64 x.s,.int .i64 x.p,.string x.b]:Array Value)[j]?):=xP HX.s.fr
 rw [hdec]
 clear hport hdec
 go_wp2_with (refine lW (by rfl) 43 5 _ Tryz.underlying43 rfl ku (.tmp 5) rfl (w.heap.size+1) 0 rfl #[.int .i64 x.k,.int .i64 x.d,.int .i64 x.s,.int .i64 x.p,.string x.b] rfl HL2.out ?_)
 clear HL2
 refine (pn x.k x.d x.s x.p x.b _ (by unfold maxLen;omega)).mono ?_
 rintro e X ⟨rfl,hbl⟩
 replace HX:Hid (SaS w X gS S Q x):=HX.up hbl
 clear hbl
 cases hfr:nm x.k x.d x.s x.p x.b.size
 ·
  have HC:Hid (code=2∧iE S' Q):=by
   rcases HM.out with ⟨h,_⟩ | ⟨_,_,h1,h2⟩ | ⟨_,h,_⟩
   ·
    exact absurd HOk h
   ·
    exact ⟨h2,by rw [h1];exact HA⟩
   rw [hfr] at h;cases h
  clear hfr
  exact bo
 have HFrB:Hid (nm x.k x.d x.s x.p x.b.size=true):=hfr
 obtain ⟨i,hpi,hi,hmm⟩:∃ i:Nat,port=(i:Int)∧i<S.nL∧((x.k≠1∧S'=S.stop i (decide (x.k=2))∧code=0)∨(x.k=1∧zd S S' i x code)):=by
  rcases HM.out with ⟨h,_⟩ | ⟨_,h,_⟩ | ⟨_,_,h⟩
  ·
   exact absurd HOk h
  ·
   exact absurd ⟨HPt,hfr⟩ h
  exact h
 subst hpi
 have HMM:Hid ((x.k≠1∧S'=S.stop i (decide (x.k=2))∧code=0)∨(x.k=1∧zd S S' i x code)):=hmm
 have hi':(i:Int)<(S.nL:Int):=by omega
 have c0:X.cell? (Hh (w.heap.size+1) 0)=some (.int .i64 x.k):=iv HX.s.fr 0
 clear hfr hmm HM HPt
 by_cases hk:x.k=1
 rotate_left
 ·
  have hk1:(x.k == 1)=false:=by simp [hk]
  have hk2:(x.k == 2)=decide (x.k=2):=rfl
  obtain ⟨b,eb⟩:∃ b,decide (x.k=2)=b:=⟨_,rfl⟩
  rw [eb] at hk2
  have HC0:Hid (code=0∧iE S' (Q.stop i b)):=by
   rcases HMM.out with ⟨_,h1,h2⟩ | ⟨h1,_⟩
   ·
    exact ⟨h2,by rw [h1,eb];exact HA.stop hi b⟩
   exact absurd h1 hk
  clear hk eb HMM
  have hiQ:i<Q.nL:=by rw [HA.nL];exact hi
  obtain ⟨gL,cur,eL,hgb,kL,zL,lL,_⟩:=HX.s.own.l.at (show 0<Q.nL by omega)
  have HKL:Hid (X.heap[gL]?=some (.cells cur 48 (0,0))∧i*8+8≤cur.size∧lay cur (i*8) (Q.L i).cells=cur∧Q.aL=some (Hh gL 0)∧w.heap.size≤gL):=⟨kL,by omega,lL i hiQ,eL,hgb⟩
  have c14:X.cell? (Hh gS 14)=some (.slice (some (Hh gL 0)) S.nL Q.cL):=by rw [←eL,←HA.nL];exact iv HX.s.box 14
  have hz1:i*8+1≤cur.size:=by omega
  clear kL zL lL eL hgb
  go_wp2_with (refine iA rfl 4 (.tmp 39) (.tmp 37) rfl gL (i*8) rfl (.bool b) rfl 1 rfl 48 _ HKL.1 Fm hz1 (by simp [Value.cells,Value.oneCell']) ?_)
  intro X4 hP
  replace hP:Put X X4 gL (lay cur (i*8) ({ Q.L i with st:=b }:Lng).cells) 48:=hP.cast (Dg HKL.2.2.1 HKL.2.1 b)
  have far:∀ {y:Nat} {c:Array Value} {t:TypeId},X.heap[y]?=some (.cells c t (0,0))→t≠48→y∉[gL]:=fun k hne hy=>jn k HKL.1 hne (by simpa using hy)
  have HX4:Hid (SaS w X4 gS S (Q.stop i b) x) :=
   ⟨⟨(hP.to.block _ (iw HX.s.box) (far HX.s.box (by decide))).trans HX.s.box,(hP.to.block _ (iw HX.s.fr) (far HX.s.fr (by decide))).trans HX.s.fr,HX.s.own.stop hiQ HKL.2.2.2.1 HKL.1 hP,HX.s.bel.trans (hP.to.below HX.s.bel.size (fun y hy=>by simp at hy;rw [hy];exact HKL.2.2.2.2)),HX.s.le⟩,(hP.to.block _ (iw HX.a) (far HX.a (by decide))).trans HX.a,(hP.to.block _ (iw HX.z) (far HX.z (by decide))).trans HX.z,HX.lt⟩
  clear hP c14 c0 far HKL HX hk1 hk2
  obtain ⟨Q4,eQ4⟩:∃ Q4,Q.stop i b=Q4:=⟨_,rfl⟩
  rw [eQ4] at HX4 HC0
  clear eQ4 HA
  generalize X4=X at *
  generalize Q4=Q at *
  have HX:=HX4
  have HC:=HC0
  have HLq:Hid (∀ j,j<17→X.cell? (Hh gS (0+j))=Q.cells[j]?):=fun j _=>by rw [Nat.zero_add];exact iv HX.s.box j
  have HDz:Hid (X.heap[w.heap.size+1+1]?=some (.cells zSw 34 (0,0))):=HX.z
  go_wp2_with (first | refine iC rfl 34 17 _ Tryz.underlying34 rfl iI (.tmp 8) rfl gS 0 rfl Q.cells rfl HLq.out ?_ | refine iA rfl 34 (.tmp 6) (.tmp 40) rfl (w.heap.size+1+1) 0 rfl (.agg Q.cells) rfl 17 rfl 34 _ HDz iI (Nat.le_of_ble_eq_true rfl) (Swg.mc _) ?_)
  exact zY
 have hk1:(x.k == 1)=true:=by simp [hk]
 have HD:Hid (zd S S' i x code):=by
  rcases HMM.out with ⟨h1,_⟩ | ⟨_,h1⟩
  ·
   exact absurd hk h1
  exact h1
 have HFr:Hid x.pF:=⟨hk,HFrB.out⟩
 clear hk HMM HFrB
 have HAl:Hid (Q.lrL i x=S.lrL i x∧Q.now=S.now∧Q.nE=S.nE∧Q.e=S.e):=⟨HA.lrL _ _,HA.now,HA.nE,HA.e⟩
 have c9:X.cell? (Hh gS 9)=some (.slice Q.aE Q.nE Q.cE):=iv HX.s.box 9
 have c2:X.cell? (Hh (w.heap.size+1) 2)=some (.int .i64 x.s):=iv HX.s.fr 2
 have c7:X.cell? (Hh w.heap.size 7)=some (.int .i64 S.now):=iv HX.a 7
 go_wp2_with fail
 clear c9 c2 c7 c0 hk1
 refine (vP Q.aE Q.nE Q.cE Q.e x.s (i:Int) S.now _ (by rw [HAl.2.2.1,HAl.2.2.2];exact HOk.seen.1) HX.s.own.g.e.g.Fw).mono ?_
 rintro e X1 ⟨v,rfl,oA,hb1⟩
 have eA:jO (iU Q.nE Q.e) ⟨x.s,(i:Int),S.now⟩=Q.lrL i x:=by unfold Swg.lrL;rw [HAl.2.1]
 rw [eA] at oA
 obtain ⟨aE,cE,rfl,og⟩:=oA.ogW
 have HLq:Hid (iP X1 w.heap.size (Q.nk i x aE cE)):=(HX.s.own.up hb1).nk (og.mono HX.s.bel.size)
 replace HX:Hid (SaS w X1 gS S Q x):=HX.up hb1
 have HBx:Hid (X1.heap[gS]?=some (.cells Q.cells 34 (0,0))):=HX.s.box
 clear oA og hb1 eA
 go_wp2_with (refine iA rfl 26 (.tmp 49) (.tmp 48) rfl gS 9 rfl (.slice aE (Q.lrL i x).length cE) rfl 1 rfl 34 _ HBx zy (Nat.le_of_ble_eq_true rfl) (by simp [Value.cells,Value.oneCell']) ?_)
 intro X2 hP
 obtain ⟨Q1,eQ1⟩:∃ Q1,Q.nk i x aE cE=Q1:=⟨_,rfl⟩
 replace hP:Put X1 X2 gS Q1.cells 34:=hP.cast (by rw [←eQ1];rfl)
 replace HX:Hid (SaS w X2 gS S Q1 x):=HX.put hP (by rw [←eQ1];exact HLq.out)
 have HA1:Hid (iE (S.nk i x none 0) Q1):=by rw [←eQ1];exact HA.nk _ _ _ _ _ _
 have HE1:Hid (Q1.aE=aE∧Q1.nE=(S.lrL i x).length∧Q1.cE=cE∧Q1.e=fun j=>(S.lrL i x).getD j default):=by rw [←eQ1,←HAl.1];exact ⟨rfl,rfl,rfl,rfl⟩
 clear hP HBx HLq eQ1 HA HAl
 have c9:X2.cell? (Hh gS 9)=some (.slice Q1.aE Q1.nE Q1.cE):=iv HX.s.box 9
 have c1:X2.cell? (Hh (w.heap.size+1) 1)=some (.int .i64 x.d):=iv HX.s.fr 1
 have c7:X2.cell? (Hh w.heap.size 7)=some (.int .i64 S.now):=iv HX.a 7
 go_wp2_with fail
 clear c9 c1 c7
 refine (yy Q1.aE Q1.nE Q1.cE Q1.e x.d S.now (S.toP i x) _ (by have:=(HOk.E7 hi HFr).1;rw [HE1.2.1];unfold maxLen;omega) HX.s.own.g.e.g.Fw (by rw [HE1.2.1,HE1.2.2.2];exact HOk.toR hi HFr)).mono ?_
 rintro e X3 ⟨rfl,hb2⟩
 replace HX:Hid (SaS w X3 gS S Q1 x):=HX.up hb2
 clear hb2
 obtain ⟨dst,ed⟩:∃ dst,S.toP i x=dst:=⟨_,rfl⟩
 have HDs:Hid (S.toP i x=dst):=ed
 rw [ed]
 clear ed
 by_cases hto:dst=(i:Int)
 ·
  have hto':(dst == (i:Int))=true:=by simp [hto]
  have HC:Hid (code=4∧iE S' Q1):=by
   rcases HD.out with ⟨h1,h2,h3⟩ | ⟨h1,_⟩ | ⟨h1,_⟩
   ·
    exact ⟨h3,by rw [h2];exact HA1⟩
   ·
    exact absurd (HDs.trans hto) h1
   exact absurd (HDs.trans hto) h1
  clear hto
  generalize X3=X at *
  clear HA1 HE1
  generalize Q1=Q at *
  have HLq:Hid (∀ j,j<17→X.cell? (Hh gS (0+j))=Q.cells[j]?):=fun j _=>by rw [Nat.zero_add];exact iv HX.s.box j
  have HDz:Hid (X.heap[w.heap.size+1+1]?=some (.cells zSw 34 (0,0))):=HX.z
  go_wp2_with (first | refine iC rfl 34 17 _ Tryz.underlying34 rfl iI (.tmp 8) rfl gS 0 rfl Q.cells rfl HLq.out ?_ | refine iA rfl 34 (.tmp 6) (.tmp 60) rfl (w.heap.size+1+1) 0 rfl (.agg Q.cells) rfl 17 rfl 34 _ HDz iI (Nat.le_of_ble_eq_true rfl) (Swg.mc _) ?_)
  exact zY
 have hto':(dst == (i:Int))=false:=by simp [hto]
 have HT:Hid (dst≠(i:Int)):=hto
 clear hto
 go_wp2_with fail
 clear hto'
 obtain ⟨ok,hok⟩:=qn (Cnt.Ok S.C (lu S.N i x.p x.cl))
 have HOB:Hid (ok=true↔Cnt.Ok S.C (lu S.N i x.p x.cl)):=hok
 clear hok
 have hiU:i<S.N.nU:=by have h1:=HOk.nl;have h2:=HOk.n.nU;omega
 go_cut [10,11] (fun s10 s11 wc=>∃ g8 M,s10=.pointer (some (Hh g8 0))∧s11=.bool ok∧Hid (SaC w wc gS S Q1 x i ok g8 M))
 case first =>
  refine wp_region_held_drew (S:=fun w'=>w'.heap[w.heap.size]?=some (.cells S.cells 34 (0,0))∧w'.heap[w.heap.size+1]?=some (.cells x.frc 43 (0,0))) (by kernel_rfl) (by have h9:=HX.up ((Below.refl _ _).drew);exact ⟨h9.a,h9.s.fr⟩) (fun hHeld=>?_)
  replace HX:Hid (SaS w X3.drew gS S Q1 x):=HX.up ((Below.refl _ _).drew)
  generalize X3.drew=V5 at *
  have HLo:Hid (∀ j,j<Q1.nL→∀ y∈(Q1.L j).kj,y<V5.heap.size):=fun j hj y hy=>((HX.s.own.l.ls j hj).blk y hy).2
  have hle5:w.heap.size≤V5.heap.size:=HX.s.bel.size
  have Hcs:Hid (∀ wx:World,wx.heap[w.heap.size]?=some (.cells S.cells 34 (0,0))∧wx.heap[w.heap.size+1]?=some (.cells x.frc 43 (0,0))→wx.cell? (Hh (w.heap.size+1) 3)=some (.int .i64 x.p)):=fun wx h=>iv h.2 3
  refine tQ 0 62 ?_
  refine tC 1 63 (v:=.agg S.C.cells) (fun wx hSw=>jF 25 7 _ Tryz.underlying25 rfl Fl (.tmp 62) rfl w.heap.size 0 rfl S.C.cells rfl (Gk hSw.1)) ?_
  try simp only [Act.put,PZ]
  refine tQ 2 64 ?_
  refine tC 3 65 (v:=.agg S.N.cells) (fun wx hSw=>jF 30 3 _ Tryz.underlying30 rfl vX (.tmp 64) rfl w.heap.size 10 rfl S.N.cells rfl (Gj hSw.1)) ?_
  try simp only [Act.put,PZ]
  refine tQ 4 66 ?_
  refine tQ 5 67 ?_
  refine tXq 6 68 ?_
  refine tC 7 69 (v:=.agg x.frc) (fun wx hSw=>jF 43 5 _ Tryz.underlying43 rfl ku (.tmp 5) rfl (w.heap.size+1) 0 rfl x.frc rfl (xP hSw.2)) ?_
  try simp only [Act.put,PZ]
  refine rq2 8 13 (fun K hK=>?_) (fun K hK=>?_)
  ·
   go_simp
   unfold Pkt.frc
   refine (jy x.k x.d x.s x.p x.b _ HFr.le).mono ?_
   rintro e XC ⟨rfl,hbC⟩
   have eCl:(((x.b.size:Int)+9+9) / 10)=x.cl:=rfl
   rw [eCl]
   replace HX:Hid (SaS w XC gS S Q1 x):=HX.up hbC
   have hzC:=hbC.size
   have hTC:=And.intro HX.a HX.s.fr
   clear hbC
   go_wp2_with fail
   refine ah (hK _ _ hTC) ?_
   intro hHeld
   clear hK K
   refine rq2 9 13 (fun K hK=>?_) (fun K hK=>?_)
   ·
    go_simp
    refine (xE S.C S.N i x.p x.cl _ HOk.n (HR.n.up HX.s.bel) hiU (by have:=HFr.cl;omega) (by have:=HFr.cl;omega) ok HOB).mono ?_
    rintro e XM ⟨M,rfl,oM,hbM,aM⟩
    replace HX:Hid (SaS w XM gS S Q1 x):=HX.up hbM
    have hTM:=And.intro HX.a HX.s.fr
    have HM9:Hid (jb XM w.heap.size M∧(∀ y∈ju M.aU M.nU,V5.heap.size≤y)∧iQ (nz (lu S.N i x.p x.cl) ok) M):=⟨oM.mono (by omega),fun y hy=>by have:=(oM.u.blk y hy).1;omega,aM⟩
    clear oM aM hTC
    go_wp2_with fail
    refine ah (hK _ _ hTM) ?_
    intro hHeld
    clear hK K
    refine tQ 10 61 ?_
    refine tQ 11 72 ?_
    refine tQ 12 73 ?_
    refine rq1 13 (fun K hK=>?_)
    go_simp
    have hbA:=(Below.refl XM.heap.size XM).alloc (Nat.le_refl _) (.cells ag 30)
    have hzM:=hbM.size
    have HG:Hid ((XM.alloc (.cells ag 30)).heap[XM.heap.size]?=some (.cells ag 30 (0,0))∧w.heap.size≤XM.heap.size):=⟨iy _ _,by omega⟩
    replace HX:Hid (SaS w (XM.alloc (.cells ag 30)) gS S Q1 x):=HX.up hbA
    replace HM9:Hid (jb (XM.alloc (.cells ag 30)) w.heap.size M∧(∀ y∈ju M.aU M.nU,V5.heap.size≤y)∧iQ (nz (lu S.N i x.p x.cl) ok) M):=⟨HM9.1.up hbA,HM9.2⟩
    have hTA:=And.intro HX.a HX.s.fr
    clear hbA hTM hbM hzM
    refine ah (hK _ _ hTA) ?_
    intro hHeld
    clear hK K
    generalize XM.heap.size=g8 at *
    generalize XM.alloc (.cells ag 30)=XA at *
    exact fT
   go_simp
   have hbA:=(Below.refl XC.heap.size XC).alloc (Nat.le_refl _) (.cells ag 30)
   have HG:Hid ((XC.alloc (.cells ag 30)).heap[XC.heap.size]?=some (.cells ag 30 (0,0))∧w.heap.size≤XC.heap.size):=⟨iy _ _,by omega⟩
   replace HX:Hid (SaS w (XC.alloc (.cells ag 30)) gS S Q1 x):=HX.up hbA
   have hzA:=hbA.size
   have hTA:=And.intro HX.a HX.s.fr
   clear hbA
   refine ah (hK _ _ hTA) ?_
   intro hHeld
   clear hK K
   generalize XC.heap.size=g8 at *
   generalize XC.alloc (.cells ag 30)=XA at *
   exact bg
  go_simp
  have hbA:=(Below.refl V5.heap.size V5).alloc (Nat.le_refl _) (.cells ag 30)
  obtain ⟨XA,eXA⟩:∃ XA,V5.alloc (.cells ag 30)=XA:=⟨_,rfl⟩
  obtain ⟨g8,eg8⟩:∃ g8,V5.heap.size=g8:=⟨_,rfl⟩
  have HG:Hid (XA.heap[g8]?=some (.cells ag 30 (0,0))∧w.heap.size≤g8):=by rw [←eXA,←eg8];exact ⟨iy _ _,hle5⟩
  rw [eXA] at hbA ⊢
  replace HX:Hid (SaS w XA gS S Q1 x):=HX.up hbA
  have hzA:=hbA.size
  have hTA:=And.intro HX.a HX.s.fr
  have hge:g8≤XA.heap.size:=by omega
  clear hbA eXA
  rw [eg8]
  refine ah (hK _ _ hTA) ?_
  intro hHeld
  clear hK K
  refine rq1 8 (fun K hK=>?_)
  go_simp
  unfold Pkt.frc
  refine (jy x.k x.d x.s x.p x.b _ HFr.le).mono ?_
  rintro e XC ⟨rfl,hbC⟩
  have eCl:(((x.b.size:Int)+9+9) / 10)=x.cl:=rfl
  rw [eCl]
  replace HX:Hid (SaS w XC gS S Q1 x):=HX.up hbC
  have hzC:=hbC.size
  have hTC:=And.intro HX.a HX.s.fr
  replace HG:Hid (XC.heap[g8]?=some (.cells ag 30 (0,0))∧w.heap.size≤g8):=⟨(hbC.block _ (iw HG.1)).trans HG.1,HG.2⟩
  clear hbC
  go_wp2_with fail
  refine ah (hK _ _ hTC) ?_
  intro hHeld
  clear hK K
  exact bg
 clear HX
 obtain ⟨g8,M,rfl,rfl,HC⟩:=hcut
 have c8:wc.cell? (Hh w.heap.size 8)=some (.int .i64 S.nx):=iv HC.s.a 8
 have c3:wc.cell? (Hh (w.heap.size+1) 3)=some (.int .i64 x.p):=iv HC.s.s.fr 3
 by_cases hdrop:ok=true∧S.nx≠1000000000
 rotate_left
 ·
  have HC3:Hid (code=3∧S'=(S.nk i x none 0).pN x.p):=by
   rcases HD.out with ⟨h1,_⟩ | ⟨_,_,h3,h4⟩ | ⟨_,h2,h3,_⟩
   ·
    exact absurd (HDs.symm.trans h1) HT
   ·
    exact ⟨h4,h3⟩
   exact absurd ⟨HOB.2 h2,h3⟩ hdrop
  have c15:wc.cell? (Hh gS 15)=some (.int .i64 Q1.dr):=iv HC.s.s.box 15
  have c16:wc.cell? (Hh gS 16)=some (.int .i64 Q1.lst):=iv HC.s.s.box 16
  have hd1:0≤Q1.dr∧Q1.dr≤1000000000:=by rw [HA1.dr];exact HOk.nums.dr
  have hd2:0≤Q1.lst∧Q1.lst≤1000000000:=by rw [HA1.lst];exact HOk.nums.lst
  have w1:IntKind.i64.wrap (Q1.lst+1)=Q1.lst+1:=lz _ (by omega) (by omega)
  have w2:IntKind.i64.wrap (Q1.dr+1)=Q1.dr+1:=lz _ (by omega) (by omega)
  have HBx:Hid (wc.heap[gS]?=some (.cells Q1.cells 34 (0,0))):=HC.s.s.box
  by_cases hp2:x.p=2
  ·
   have hp':(x.p == 2)=true:=by simp [hp2]
   have HP2:Hid (x.p=2):=hp2
   clear hp2
   cases ok
   · exact fN
   have hnx':(S.nx == 1000000000)=true:=fP
   clear hdrop
   exact fN
  have hp':(x.p == 2)=false:=by simp [hp2]
  have HP2:Hid (x.p≠2):=hp2
  clear hp2
  cases ok
  · exact fO
  have hnx':(S.nx == 1000000000)=true:=fP
  clear hdrop
  exact fO
 obtain ⟨rfl,hnx⟩:=hdrop
 have HN:Hid (code=0∧S'=(S.nk i x none 0).waits i x dst):=by
  rcases HD.out with ⟨h1,_⟩ | ⟨_,h2,_⟩ | ⟨_,_,_,h4,h5⟩
  ·
   exact absurd (HDs.symm.trans h1) HT
  ·
   exact absurd ⟨HOB.1 rfl,hnx⟩ h2
  exact ⟨h5,by rw [h4,HDs.out]⟩
 have HGe:Hid (-1≤dst):=by rw [←HDs.out];exact (HOk.GV hi HFr.out).1
 have hnx':(S.nx == 1000000000)=false:=by simp [hnx]
 have HLf:Hid (∀ j,j<5→wc.cell? (Hh (w.heap.size+1) (0+j))=(#[.int .i64 x.k,.int .i64 x.d,.int .i64 x.s,.int .i64 x.p,.string x.b]:Array Value)[j]?):=xP HC.s.s.fr
 have HGp:Hid ((wc.alloc (.cells #[.int .i64 0,.int .i64 0,.int .i64 0,.int .i64 0,.int .i64 0,.int .i64 0,.int .i64 0,.string ⟨#[]⟩] 50)).heap[wc.heap.size]?=some (.cells #[.int .i64 0,.int .i64 0,.int .i64 0,.int .i64 0,.int .i64 0,.int .i64 0,.int .i64 0,.string ⟨#[]⟩] 50 (0,0))):=iy _ _
 clear c3 hnx
 go_wp2_with (first | refine iC rfl 43 5 _ Tryz.underlying43 rfl ku (.tmp 5) rfl (w.heap.size+1) 0 rfl #[.int .i64 x.k,.int .i64 x.d,.int .i64 x.s,.int .i64 x.p,.string x.b] rfl HLf.out ?_ | refine iA rfl 50 (.tmp 12) (.tmp 99) rfl wc.heap.size 0 rfl (.agg #[.int .i64 S.nx,.int .i64 (i:Int),.int .i64 0,.int .i64 x.k,.int .i64 x.d,.int .i64 x.s,.int .i64 x.p,.string x.b]) rfl 8 rfl 50 _ HGp vT (Nat.le_of_ble_eq_true rfl) (by simp [Value.cells,Value.oneCell']) ?_)
 intro X4 hP
 replace hP:Put _ X4 wc.heap.size (S.pkt i x 0).cells 50:=hP.cast rfl
 have hb4:Below wc.heap.size wc X4:=((Below.refl _ _).alloc (Nat.le_refl _) _).trans (hP.to.below (by simp) (fun y hy=>by simp at hy;omega))
 have HPk:Hid (w.heap.size≤wc.heap.size∧wc.heap.size∉iR Q1.aK):=⟨HC.s.s.bel.size,fun hz=>by have h1:=(HC.s.s.own.k.blk _ hz).2;omega⟩
 have HL0:Hid (SaL w X4 gS wc.heap.size g8 S Q1 M x i dst 0 Q1.L):=by
  have h9:=HC.s.up hb4
  have hcn:=HC.cn.up hb4
  refine ⟨h9.s.box,⟨h9.s.own.e,hcn,h9.s.own.k,h9.s.own.l,fun y hy hz=>?_⟩,hP.blk,fun j hj=>?_,h9.s.bel,h9.s.fr,h9.a,h9.z,(hb4.block _ (iw HC.k)).trans HC.k⟩
  ·
   simp only [List.mem_flatMap,List.mem_range] at hz
   obtain ⟨j,hj,hz⟩:=hz
   exact HC.own y hy j hj hz
  unfold Swg.ka
  rw [if_neg (fun h=>absurd h.1 (Nat.not_lt_zero _))]
  exact HA1.l j hj
 have HAM:Hid (iQ (lu S.N i x.p x.cl) M):=HC.al
 have HLt:Hid (w.heap.size+1+1<gS∧AdS w wc w.heap.size gS (w.heap.size+1) Q1 x):=⟨HC.s.lt,HC.s.s⟩
 have HnQ:Hid (Q1.nL=S.nL):=HA1.nL
 obtain ⟨gL,hgL⟩:∃ gL,Q1.aL=some (Hh gL 0):=by
  obtain ⟨gL,_,e,_⟩:=HL0.own.l.at (show 0<Q1.nL by rw [HnQ.out];omega)
  exact ⟨gL,e⟩
 have HgL:Hid (Q1.aL=some (Hh gL 0)):=hgL
 clear hP hb4 hgL HLf HGp hnx' c8 HC
 generalize wc.heap.size=gp at *
 have hnL4:S.nL≤4:=by have:=HOk.nl;omega
 go_wp2_with fail
 go_loopw [13] (fun s wr=>∃ (k:Nat) (L:Nat→Lng),k≤S.nL∧s=.int .i64 k∧Hid (SaL w wr gS gp g8 S Q1 M x i dst k L)) (fun s _=>S.nL-(intOf s).toNat)
 case atStart=>exact ⟨0,Q1.L,Nat.zero_le _,rfl,HL0⟩
 clear HL0
 obtain ⟨k,L,hk,rfl,HL⟩:=hrel
 have c0:wr.cell? (Hh w.heap.size 0)=some (.int .i64 (S.nL:Int)):=by rw [HOk.nl];exact iv HL.a 0
 by_cases hlt:k<S.nL
 ·
  have hlt':(k:Int)<(S.nL:Int):=by omega
  by_cases h1:(k:Int)=(i:Int)
  ·
   have h1':((k:Int) == (i:Int))=true:=by simp [h1]
   have HN2:Hid (SaL w wr gS gp g8 S Q1 M x i dst (k+1) L):=HL.skip (Aw h1 HT.out)
   clear h1
   exact fQ
  have h1':((k:Int) == (i:Int))=false:=by simp [h1]
  have c2:wr.cell? (Hh gp 2)=some (.int .i64 ((oX dst (i:Int) k:Nat):Int)):=iv HL.pk 2
  have hw2:IntKind.i64.wrap (((oX dst (i:Int) k:Nat):Int)+1)=((oX dst (i:Int) k:Nat):Int)+1:=lz _ (by omega) (by have:=Cy dst (i:Int) k;have:=HOk.nl;omega)
  have HPB:Hid (wr.heap[gp]?=some (.cells (S.pkt i x (oX dst (i:Int) k)).cells 50 (0,0))):=HL.pk
  by_cases h2:0≤dst
  ·
   by_cases h3:dst=(k:Int)
   ·
    have h3':(dst != (k:Int))=false:=by simp [h3]
    have hb:jU (k:Int) dst (i:Int)=true:=BR h2 h3
    clear h3 h1
    exact fM
   have h3':(dst != (k:Int))=true:=by simp [h3]
   have HN2:Hid (SaL w wr gS gp g8 S Q1 M x i dst (k+1) L):=HL.skip (Ax h2 h3)
   clear h3 h1 HPB c2 hw2
   exact fQ
  have hb:jU (k:Int) dst (i:Int)=true:=BS (by have:=HGe.out;omega) h1
  clear h1
  exact fM
 obtain rfl:k=S.nL:=by omega
 have hlt':¬ (S.nL:Int)<(S.nL:Int):=by omega
 have HLd:Hid (∀ j,j<3→wr.cell? (Hh g8 (0+j))=M.cells[j]?):=fun j _=>by rw [Nat.zero_add];exact iv HL.m j
 have HBx:Hid (wr.heap[gS]?=some (.cells Q1.cells 34 (0,0))):=HL.box
 go_wp2_with (first | refine iC rfl 30 3 _ Tryz.underlying30 rfl vX (.tmp 10) rfl g8 0 rfl M.cells rfl HLd.out ?_ | refine iA rfl 30 (.tmp 181) (.tmp 180) rfl gS 10 rfl (.agg M.cells) rfl 3 rfl 34 _ HBx vX (Nat.le_of_ble_eq_true rfl) (by simp [Value.cells,Value.oneCell',Cnt.cells]) ?_)
 intro Y0 hP
 obtain ⟨P,eP⟩:∃ P,({ Q1 with N:=M,L:=L }:Swg)=P:=⟨_,rfl⟩
 obtain ⟨y,ey⟩:∃ y,S.pkt i x (oX dst (i:Int) S.nL)=y:=⟨_,rfl⟩
 have HE:Hid (SaE w wr gS gp S P Q1 x y):=by rw [←eP,←ey];exact ⟨HL.own,HL.box,HL.pk,HL.bel,HL.fr,HL.a,HL.z,HLt.1⟩
 have HAl:Hid (∀ j,j<S.nL→iT (S.ka i dst x S.nL j) (P.L j)):=by rw [←eP];exact HL.al
 have HeP:Hid (({ Q1 with N:=M,L:=L }:Swg)=P):=eP
 have HeY:Hid (S.pkt i x (oX dst (i:Int) S.nL)=y):=ey
 replace hP:Put wr Y0 gS P.cells 34:=hP.cast (by rw [←eP];rfl)
 replace HE:Hid (SaE w Y0 gS gp S P P x y):=HE.put hP
 clear hP HBx HLd eP ey HL c0
 have c8:Y0.cell? (Hh w.heap.size 8)=some (.int .i64 S.nx):=iv HE.a 8
 have hw8:IntKind.i64.wrap (S.nx+1)=S.nx+1:=lz _ (by have:=HOk.nums.nx;omega) (by have:=HOk.nums.nx;omega)
 have HBx:Hid (Y0.heap[gS]?=some (.cells P.cells 34 (0,0))):=HE.box
 go_wp2_with (refine iA rfl 2 (.tmp 185) (.tmp 184) rfl gS 8 rfl (.int .i64 (S.nx+1)) rfl 1 rfl 34 _ HBx xJ (Nat.le_of_ble_eq_true rfl) (by simp [Value.cells,Value.oneCell']) ?_)
 intro Y1 hP
 obtain ⟨P1,eP1⟩:∃ P1,({ P with nx:=S.nx+1 }:Swg)=P1:=⟨_,rfl⟩
 replace hP:Put Y0 Y1 gS P1.cells 34:=hP.cast (by rw [←eP1];rfl)
 replace HE:Hid (SaE w Y1 gS gp S P P1 x y):=HE.put hP
 have HeP1:Hid (({ P with nx:=S.nx+1 }:Swg)=P1):=eP1
 clear hP HBx c8 hw8
 have c13:Y1.cell? (Hh gS 13)=some (.slice P.aK P.nK P.cK):=by
  have h9:=iv HE.box 13
  rw [←eP1] at h9
  exact h9
 clear eP1
 have HLk:Hid (∀ j,j<8→Y1.cell? (Hh gp (0+j))=(#[.int .i64 y.id,.int .i64 y.inn,.int .i64 y.refs,.int .i64 y.k,.int .i64 y.d,.int .i64 y.s,.int .i64 y.p,.string y.b]:Array Value)[j]?):=fun j hj=>by rw [Nat.zero_add];exact iv HE.pk j
 obtain ⟨g1,c1,Y2,hr,hu,ht,hg⟩:=me 31 50 _ 8 72 yS Tryz.underlying31 rfl (by decide) (by decide) HE.own.k (by rw [←HeP.out];show Q1.nK≤_;rw [HA1.nK];exact HS.k) HE.bel.size #[.int .i64 y.id,.int .i64 y.inn,.int .i64 y.refs,.int .i64 y.k,.int .i64 y.d,.int .i64 y.s,.int .i64 y.p,.string y.b] rfl (by simp [Value.oneCell'])
 have hkq:gp∉iR P.aK:=by rw [←HeP.out];exact HPk.2
 have HEk:Hid (SaE w Y2 gS gp S { P with aK:=some (Hh g1 0),nK:=P.nK+1,cK:=c1,K:=fun j=>if j=P.nK then y else P.K j } P1 x y):=by
  have hE:=HE.out
  have far:∀ {q:Nat} {cs:Array Value} {t:TypeId},Y1.heap[q]?=some (.cells cs t (0,0))→t≠50→Y2.heap[q]?=some (.cells cs t (0,0)):=fun kq hne=>(ht.block _ (iw kq) (hE.own.k.mv (fun e=>hne e.symm) kq)).trans kq
  have hpk:qm (P.nK+1) (fun j=>if j=P.nK then y else P.K j)=qm P.nK P.K++y.cells.toList:=by
   rw [lJ,Br (K:=fun j=>if j=P.nK then y else P.K j) (K':=P.K) (fun j hj=>if_neg (by omega)),if_pos rfl]
  exact ⟨hE.own.GI hu ht hpk,far hE.box (by decide),(ht.block _ (iw hE.pk) hkq).trans hE.pk,hE.bel.trans (ht.below hE.bel.size (fun z hz=>(hE.own.k.blk z hz).1)),far hE.fr (by decide),far hE.a (by decide),far hE.z (by decide),hE.lt⟩
 have HBx:Hid (Y2.heap[gS]?=some (.cells P1.cells 34 (0,0))):=HEk.box
 clear hu ht hg HE hkq
 go_wp2_with (first | refine iC rfl 50 8 _ Tryz.underlying50 rfl vT (.tmp 12) rfl gp 0 rfl #[.int .i64 y.id,.int .i64 y.inn,.int .i64 y.refs,.int .i64 y.k,.int .i64 y.d,.int .i64 y.s,.int .i64 y.p,.string y.b] rfl HLk.out ?_ | (at_builtin;refine Lib.wpList_append_run _ rfl _ _ _ _ rfl _ _ rfl rfl _ _ hr ?_) | refine iA rfl 31 (.tmp 191) (.tmp 190) rfl gS 13 rfl (.slice (some (Hh g1 0)) (P.nK+1) c1) rfl 1 rfl 34 _ HBx Fj (Nat.le_of_ble_eq_true rfl) (by simp [Value.cells,Value.oneCell']) ?_)
 intro Y3 hP
 clear c13 HLk hr HBx
 obtain ⟨Q4,eQ4⟩:∃ Q4,({ P with nx:=S.nx+1,aK:=some (Hh g1 0),nK:=P.nK+1,cK:=c1,K:=fun j=>if j=P.nK then y else P.K j }:Swg)=Q4:=⟨_,rfl⟩
 replace hP:Put Y2 Y3 gS Q4.cells 34:=hP.cast (by rw [←eQ4,←HeP1.out];rfl)
 have HX9:Hid (SaS w Y3 gS S Q4 x):=by
  have h9:=HEk.put hP
  have h8:=h9.own
  refine ⟨⟨h9.box,h9.fr,?_,h9.bel,HLt.2.le⟩,h9.a,h9.z,h9.lt⟩
  rw [←eQ4]
  exact ⟨h8.e,h8.n,h8.k,h8.l,h8.un⟩
 have HC9:Hid (code=0∧iE S' Q4):=by
  refine ⟨HN.1,?_⟩
  have hA:=HA1.out
  rw [HN.2,←eQ4,←HeP.out,←HeY.out]
  refine ⟨hA.c,hA.now,rfl,hA.nE,hA.e,HAM,by show Q1.nK+1=S.nK+1;rw [hA.nK];rfl,?_,hA.nL,fun j hj=>?_,hA.dr,hA.lst⟩
  ·
   show (fun j=>if j=Q1.nK then S.pkt i x (oX dst (i:Int) S.nL) else Q1.K j)=fun j=>if j=S.nK then S.pkt i x (oX dst (i:Int) S.nL) else S.K j
   rw [hA.nK,hA.k]
   rfl
  have h7:=HAl j hj
  rw [←HeP.out] at h7
  exact h7
 clear hP eQ4 HEk HeP HeP1 HeY HAl HN HAM HA1 HE1 HLt HnQ HgL HPk HGe
 generalize Y3=X at *
 generalize Q4=Q at *
 have HX:=HX9
 have HC:=HC9
 have HLq:Hid (∀ j,j<17→X.cell? (Hh gS (0+j))=Q.cells[j]?):=fun j _=>by rw [Nat.zero_add];exact iv HX.s.box j
 have HDz:Hid (X.heap[w.heap.size+1+1]?=some (.cells zSw 34 (0,0))):=HX.z
 go_wp2_with (first | refine iC rfl 34 17 _ Tryz.underlying34 rfl iI (.tmp 8) rfl gS 0 rfl Q.cells rfl HLq.out ?_ | refine iA rfl 34 (.tmp 6) (.tmp 192) rfl (w.heap.size+1+1) 0 rfl (.agg Q.cells) rfl 17 rfl 34 _ HDz iI (Nat.le_of_ble_eq_true rfl) (Swg.mc _) ?_)
 exact zY
