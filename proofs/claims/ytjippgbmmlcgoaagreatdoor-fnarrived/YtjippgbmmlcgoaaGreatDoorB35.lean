import Derived.Test.YtjippgbmmlcgoaaGreatDoorB34
import Derived.Lib.SmallJoins
namespace Go.Proofs.YtjippgbmmlcgoaaGreatDoor
set_option maxRecDepth 100000
open Go.RowKit
set_option linter.unusedVariables false
set_option linter.unusedSimpArgs false
variable {cs:Array Value} {fs:List Pkt} {xs:List Value} {l m:Lng} {base c c0 g gS i n n0:Nat} {a0:Option Addr} {x:Pkt} {p:Prop} {t:TypeId} {W W' w:World}
theorem Ie (h:p:=by
 refine rq1 9 (fun K hK=>?_)
 go_simp
 refine (wR S.C S.N i x.p x.cl _ HOk.n (HR.n.up HX.s.bel) hiU (by have:=HFr.cl;omega) (by have:=HFr.cl;omega) ok HOB).mono ?_
 rintro e XM ⟨M,rfl,oM,hbM,aM⟩
 replace HX:Hid (SaS w XM gS S Q1 x):=HX.up hbM
 have hTM:=And.intro HX.a HX.s.fr
 have HM9:Hid (iN XM w.heap.size M∧(∀ y∈ku M.aU M.nU,V5.heap.size≤y)∧iR (mF (lq S.N i x.p x.cl) ok) M):=⟨oM.mono (by omega),fun y hy=>by have:=(oM.u.blk y hy).1;omega,aM⟩
 replace HG:Hid (XM.heap[g8]?=some (.cells ag 30 (0,0))∧w.heap.size≤g8):=⟨(hbM.block _ (ig HG.1)).trans HG.1,HG.2⟩
 clear oM aM hbM
 go_wp2_with fail
 refine ah (hK _ _ hTM) ?_
 intro hHeld
 clear hK K
 refine tQ 10 61 ?_
 refine tQ 11 72 ?_
 refine tQ 12 73 ?_
 exact gw):p:=h
theorem Ig (h:p:=by
 have HLq:Hid (∀ j,j<17→X.cell? ⟨gS,0+j,none⟩=Q.cells[j]?):=fun j _=>by rw [Nat.zero_add];exact ie HX.s.box j
 have HDz:Hid (X.heap[w.heap.size+1+1]?=some (.cells zSw 34 (0,0))):=HX.z
 go_wp2_with (first | refine ir rfl 34 17 _ Tryz.underlying34 rfl iA (.tmp 8) rfl gS 0 rfl Q.cells rfl HLq.out ?_ | refine iq rfl 34 (.tmp 6) (.tmp 28) rfl (w.heap.size+1+1) 0 rfl (.agg Q.cells) rfl 17 rfl 34 _ HDz iA (Nat.le_of_ble_eq_true rfl) (Swg.lF _) ?_)
 exact zw):p:=h
theorem fY (h:p:=by
 go_wp2_with (refine iq rfl 2 (.tmp 122) (.tmp 121) rfl gp 2 rfl (.int .i64 (((kY dst (i:Int) k:Nat):Int)+1)) rfl 1 rfl 51 _ HPB po (Nat.le_of_ble_eq_true rfl) (by simp [Value.cells,Value.oneCell']) ?_)
 intro X5 hP
 exact FC):p:=h
theorem fZ (h:p:=by
 go_wp2_with (refine iq rfl 2 (.tmp 88) (.tmp 87) rfl gS 16 rfl (.int .i64 (min 1000000000 (Q1.lst+1))) rfl 1 rfl 34 _ HBx po (Nat.le_of_ble_eq_true rfl) (by simp [Value.cells,Value.oneCell']) ?_)
 intro X9 hP
 exact EH):p:=h
theorem gi (h:p:=by
 go_wp2_with (refine iq rfl 2 (.tmp 93) (.tmp 92) rfl gS 15 rfl (.int .i64 (min 1000000000 (Q1.dr+1))) rfl 1 rfl 34 _ HBx po (Nat.le_of_ble_eq_true rfl) (by simp [Value.cells,Value.oneCell']) ?_)
 intro X9 hP
 exact EI):p:=h
theorem gj (h:p:=by
 have:S.nx=1000000000:=by
  by_cases h:S.nx=1000000000
  ·
   exact h
  exact absurd ⟨rfl,h⟩ hdrop
 simp [this]):p:=h
theorem gv (h:p:=by
 go_wp2_with fail
 go_roundw
 case rel=>exact ⟨k+1,L,by omega,by go_num,HN2⟩
 case measure=>simp [intOf];omega):p:=h
theorem gw (h:p:=by
 refine rq1 14 (fun K hK=>?_)
 refine jn (by kernel_rfl) none rfl 30 (.tmp 10) (.tmp 72) rfl g8 0 rfl (.agg M.cells) rfl 3 rfl 30 _ HG.1 oC (Nat.le_of_ble_eq_true rfl) (by simp [Value.cells,Value.oneCell',Cnt.cells]) ?_
 intro X9 hP9
 replace hP9:Put _ X9 g8 M.cells 30:=hP9.cast rfl
 exact EG):p:=h
theorem wR (C:Cfg) (N:Cnt) (i:Nat) (prio y:Int) (w:World) (hN:Cnt.Ok C N) (h:my w N) (hi:i<N.nU) (hy1:-5≤y) (hy2:y≤5) (ok:Bool) (hok:ok=true↔Cnt.Ok C (lq N i prio y)) :
  Calls Tryz.prog 63 #[.agg C.cells,.agg N.cells,.int .i64 (i:Int),.int .i64 prio,.int .i64 y] w fun e w'=>∃ M:Cnt,e=.returned (.tuple #[.agg M.cells,.bool ok])∧iN w' w.heap.size M∧Below w.heap.size w w'∧iR (mF (lq N i prio y) ok) M:=by
 by_cases hp:prio=2
 ·
  subst hp
  rw [mx] at hok ⊢
  exact pO C N i y w hN h hi hy1 hy2 ok hok
 rw [lC hp] at hok ⊢
 exact pP C N i prio hp y w hN h hy1 hy2 ok hok
structure SaS (w W:World) (gS:Nat) (S Q:Swg) (x:Pkt):Prop where
 s:AdS w W w.heap.size gS (w.heap.size+1) Q x
 a:W.heap[w.heap.size]?=some (.cells S.cells 34 (0,0))
 z:W.heap[w.heap.size+1+1]?=some (.cells zSw 34 (0,0))
 lt:w.heap.size+1+1<gS
theorem SaS.up {S Q:Swg} (h:SaS w W gS S Q x) (hb:Below W.heap.size W W'):SaS w W' gS S Q x :=
 ⟨h.s.up hb,(hb.block _ (ig h.a)).trans h.a,(hb.block _ (ig h.z)).trans h.z,h.lt⟩
theorem SaS.put {S Q Q':Swg} (h:SaS w W gS S Q x) (hP:Put W W' gS Q'.cells 34) (ho:iG W w.heap.size Q'):SaS w W' gS S Q' x :=
 ⟨h.s.put hP ho,(hP.to.block _ (ig h.a) (by have:=h.lt;simp;omega)).trans h.a,(hP.to.block _ (ig h.z) (by have:=h.lt;simp;omega)).trans h.z,h.lt⟩
theorem zw (h:p:=by
  intro X9 hP
  replace hP:Put X X9 (w.heap.size+1+1) Q.cells 34:=hP.cast rfl
  have HK:=aa hP.blk
  have HFF:Hid (iG X9 w.heap.size Q∧Below w.heap.size w X9):=⟨HX.s.own.off HX.z hP.to,HX.s.bel.trans (hP.to.below HX.s.bel.size (fun y hy=>by simp at hy;omega))⟩
  clear hP
  go_wp2_with fail
  rw [HC.1]
  exact bodyPost_ret (jO Tryz.results22 17 _ Tryz.underlying34 rfl iA _ _ (w.heap.size+1+1) Q.cells rfl 34 HK.out rfl _ rfl) rfl ⟨Q,rfl,HC.2,HFF.1,HFF.2⟩):p:=h
structure SaC (w W:World) (gS:Nat) (S Q:Swg) (x:Pkt) (i:Nat) (ok:Bool) (g8:Nat) (M:Cnt):Prop where
 s:SaS w W gS S Q x
 k:W.heap[g8]?=some (.cells M.cells 30 (0,0))
 own:∀ y∈ku M.aU M.nU,∀ j,j<Q.nL→y∉(Q.L j).jN
 cn:iN W w.heap.size M
 al:iR (mF (lq S.N i x.p x.cl) ok) M
theorem SaS.Ff {S Q:Swg} (h:SaS w W gS S Q x) (hg:W.heap[g]?=some (.cells cs 30 (0,0))) (hto:Touch [g] W W') (hb:w.heap.size≤g):SaS w W' gS S Q x :=
 ⟨h.s.Ff hg rfl hto hb,(hto.block _ (ig h.a) (by simpa using iT h.a hg (by decide))).trans h.a,(hto.block _ (ig h.z) (by simpa using iT h.z hg (by decide))).trans h.z,h.lt⟩
theorem EG (h:p:=by
  have HN:Hid (SaC w X9 gS S Q1 x i ok g8 M):=by
   refine ⟨HX.Ff HG.1 hP9.to HG.2,hP9.blk,fun y hy j hj hz=>?_,HM9.1.Ff HG.1 hP9.to,HM9.2.2⟩
   have h1:=HM9.2.1 y hy
   have h2:=HLo j hj y hz
   omega
  have hT9:=And.intro HN.s.a HN.s.s.fr
  refine ah (hK _ _ hT9) ?_
  intro hHeld
  clear hK K
  refine tQ 15 11 ?_
  refine dnq ?_
  clear hP9 hT9 hHeld HX HG HM9
  go_wp2_with fail
  go_meet
  case rel=>exact ⟨g8,M,rfl,rfl,HN⟩):p:=h
theorem EH (h:p:=by
  have eL:Q1.lG x.p={ Q1 with lst:=min 1000000000 (Q1.lst+1) }:=by unfold Swg.lG;rw [if_pos HP2.out,Int.min_comm]
  replace hP:Put wc X9 gS (Q1.lG x.p).cells 34:=hP.cast (by rw [eL];rfl)
  have HX9:Hid (SaS w X9 gS S (Q1.lG x.p) x):=HC.s.put hP (HC.s.s.own.lG _)
  have HC9:Hid (code=3∧iw S' (Q1.lG x.p)):=⟨HC3.1,by rw [HC3.2];exact HA1.lG _⟩
  clear hP eL c15 c16 c8 c3 HBx HC HA1 HE1 hd1 hd2 w1 w2
  obtain ⟨Q9,eQ9⟩:∃ Q9,Q1.lG x.p=Q9:=⟨_,rfl⟩
  rw [eQ9] at HX9 HC9
  clear eQ9
  generalize X9=X at *
  generalize Q9=Q at *
  have HX:=HX9
  have HC:=HC9
  have HLq:Hid (∀ j,j<17→X.cell? ⟨gS,0+j,none⟩=Q.cells[j]?):=fun j _=>by rw [Nat.zero_add];exact ie HX.s.box j
  have HDz:=aa HX.z
  go_wp2_with (first | refine ir rfl 34 17 _ Tryz.underlying34 rfl iA (.tmp 8) rfl gS 0 rfl Q.cells rfl HLq.out ?_ | refine iq rfl 34 (.tmp 6) (.tmp 94) rfl (w.heap.size+1+1) 0 rfl (.agg Q.cells) rfl 17 rfl 34 _ HDz iA (Nat.le_of_ble_eq_true rfl) (Swg.lF _) ?_)
  exact zw):p:=h
theorem EI (h:p:=by
  have eL:Q1.lG x.p={ Q1 with dr:=min 1000000000 (Q1.dr+1) }:=by unfold Swg.lG;rw [if_neg HP2.out,Int.min_comm]
  replace hP:Put wc X9 gS (Q1.lG x.p).cells 34:=hP.cast (by rw [eL];rfl)
  have HX9:Hid (SaS w X9 gS S (Q1.lG x.p) x):=HC.s.put hP (HC.s.s.own.lG _)
  have HC9:Hid (code=3∧iw S' (Q1.lG x.p)):=⟨HC3.1,by rw [HC3.2];exact HA1.lG _⟩
  clear hP eL c15 c16 c8 c3 HBx HC HA1 HE1 hd1 hd2 w1 w2
  obtain ⟨Q9,eQ9⟩:∃ Q9,Q1.lG x.p=Q9:=⟨_,rfl⟩
  rw [eQ9] at HX9 HC9
  clear eQ9
  generalize X9=X at *
  generalize Q9=Q at *
  have HX:=HX9
  have HC:=HC9
  have HLq:Hid (∀ j,j<17→X.cell? ⟨gS,0+j,none⟩=Q.cells[j]?):=fun j _=>by rw [Nat.zero_add];exact ie HX.s.box j
  have HDz:=aa HX.z
  go_wp2_with (first | refine ir rfl 34 17 _ Tryz.underlying34 rfl iA (.tmp 8) rfl gS 0 rfl Q.cells rfl HLq.out ?_ | refine iq rfl 34 (.tmp 6) (.tmp 94) rfl (w.heap.size+1+1) 0 rfl (.agg Q.cells) rfl 17 rfl 34 _ HDz iA (Nat.le_of_ble_eq_true rfl) (Swg.lF _) ?_)
  exact zw):p:=h
structure SaE (w W:World) (gS gp:Nat) (S P B:Swg) (x y:Pkt):Prop where
 own:iG W w.heap.size P
 box:W.heap[gS]?=some (.cells B.cells 34 (0,0))
 pk:W.heap[gp]?=some (.cells y.cells 51 (0,0))
 bel:Below w.heap.size w W
 fr:W.heap[w.heap.size+1]?=some (.cells x.frc 36 (0,0))
 a:W.heap[w.heap.size]?=some (.cells S.cells 34 (0,0))
 z:W.heap[w.heap.size+1+1]?=some (.cells zSw 34 (0,0))
 lt:w.heap.size+1+1<gS
theorem SaE.put {gp:Nat} {S P B B':Swg} {y:Pkt} (h:SaE w W gS gp S P B x y) (hP:Put W W' gS B'.cells 34):SaE w W' gS gp S P B' x y :=
 have far:∀ {q:Nat} {cs:Array Value} {t:TypeId},W.heap[q]?=some (.cells cs t (0,0))→q≠gS→W'.heap[q]?=some (.cells cs t (0,0)):=fun k hne=>(hP.to.block _ (ig k) (by simpa using hne)).trans k
 have l:=h.lt
 ⟨h.own.off h.box hP.to,hP.blk,far h.pk (iT h.pk h.box (by decide)),h.bel.trans (hP.to.below h.bel.size (fun q hq=>by simp at hq;omega)),far h.fr (iT h.fr h.box (by decide)),far h.a (by omega),far h.z (by omega),h.lt⟩
theorem C3 (h:p:=by
  refine jc (fun w'=>w'.heap[gS]?=some (.cells Q1.cells 34 (0,0))∧w'.heap[gL]?=some (.cells (lay cur (k*8) l.cells) 47 (0,0))∧w'.heap[gp]?=some (.cells y.more.cells 51 (0,0))) 15 (by kernel_rfl) ?_
  have hd:Below X5.heap.size X5 X5.drew:=(Below.refl _ _).drew
  replace HW:Hid (X5.drew.heap[gL]?=some (.cells (lay cur (k*8) l.cells) 47 (0,0))∧X5.drew.heap[gp]?=some (.cells y.more.cells 51 (0,0))∧iK X5.drew w.heap.size l∧Touch [gp] wr X5.drew∧X5.drew.heap.size=wr.heap.size∧X5.drew.heap[gS]?=some (.cells Q1.cells 34 (0,0))∧X5.drew.heap[w.heap.size+1]?=some (.cells x.frc 36 (0,0))) :=
   ⟨(hd.block _ (ig HW.1)).trans HW.1,(hd.block _ (ig HW.2.1)).trans HW.2.1,HW.2.2.1.up hd,HW.2.2.2.1.trans (Touch.jq hd),HW.2.2.2.2.1,(hd.block _ (ig HW.2.2.2.2.2.1)).trans HW.2.2.2.2.2.1,(hd.block _ (ig HW.2.2.2.2.2.2)).trans HW.2.2.2.2.2.2⟩
  clear hd
  generalize X5.drew=V at *
  have Hcs:Hid (∀ wx:World,wx.heap[gS]?=some (.cells Q1.cells 34 (0,0))∧wx.heap[gL]?=some (.cells (lay cur (k*8) l.cells) 47 (0,0))∧wx.heap[gp]?=some (.cells y.more.cells 51 (0,0))→wx.cell? ⟨gS,14,none⟩=some (.slice (some ⟨gL,0,none⟩) S.nL Q1.cL)∧wx.cell? ⟨gL,k*8+1,none⟩=some (.slice l.aT l.nT l.cT)∧wx.cell? ⟨gp,0,none⟩=some (.int .i64 y.id)) :=
   fun wx h=>⟨by rw [←HgL.out,←HnQ.out];exact ie h.1 14,(ie h.2.1 _).trans (lv (cs:=l.cells) HKL.2.1 1 (by show 1<8;omega)),ie h.2.2 0⟩
  have hT0:=And.intro HW.2.2.2.2.2.1 (And.intro HW.1 HW.2.1)
  refine tE 0 126 hT0 ?_
  refine tEX 1 127 hT0 ?_
  refine tE 2 128 hT0 ?_
  refine tE 3 129 hT0 ?_
  refine tEX 4 130 hT0 ?_
  refine tE 5 131 hT0 ?_
  refine tE 6 132 hT0 ?_
  refine tE 7 133 hT0 ?_
  refine tEX 8 134 hT0 ?_
  refine tE 9 135 hT0 ?_
  refine tEX 10 136 hT0 ?_
  obtain ⟨g1,c1,X2,hr1,hoi,ht,hg⟩:=vL HW.2.2.1.t HnT (by rw [HW.2.2.2.2.1];exact HL.bel.size) y.id
  have nt:∀ {b:Nat} {cs:Array Value} {t:TypeId},2≠t→V.heap[b]?=some (.cells cs t (0,0))→b∉iI l.aT:=fun hne hb=>OG.lM (t:=2) (sz:=1) HW.2.2.1.t hne hb
  have hT1:(V.alloc (.cells #[.int .i64 y.id] 2)).heap[gS]?=some (.cells Q1.cells 34 (0,0))∧(V.alloc (.cells #[.int .i64 y.id] 2)).heap[gL]?=some (.cells (lay cur (k*8) l.cells) 47 (0,0))∧(V.alloc (.cells #[.int .i64 y.id] 2)).heap[gp]?=some (.cells y.more.cells 51 (0,0)):=⟨(iH _ (ig hT0.1)).trans hT0.1,(iH _ (ig hT0.2.1)).trans hT0.2.1,(iH _ (ig hT0.2.2)).trans hT0.2.2⟩
  have hT2:X2.heap[gS]?=some (.cells Q1.cells 34 (0,0))∧X2.heap[gL]?=some (.cells (lay cur (k*8) l.cells) 47 (0,0))∧X2.heap[gp]?=some (.cells y.more.cells 51 (0,0)):=⟨(ht.block _ (ig hT0.1) (nt (by decide) hT0.1)).trans hT0.1,(ht.block _ (ig hT0.2.1) (nt (by decide) hT0.2.1)).trans hT0.2.1,(ht.block _ (ig hT0.2.2) (nt (by decide) hT0.2.2)).trans hT0.2.2⟩
  have HA:Hid (OI X2 w.heap.size (some ⟨g1,0,none⟩) (l.nT+1) c1 (jM l.nT y.id l.t)∧Touch (iI l.aT) V X2∧(g1∈iI l.aT∨V.heap.size≤g1)):=⟨hoi,ht,hg⟩
  have HR1:=aa hr1
  clear hoi ht hg hr1 nt
  refine il (rs:=[11]) (by kernel_rfl) (by simp) ?_
  refine ij.cons rfl (fun K hK=>?_) ij.nil
  go_simp
  refine hK _ _ hT1 ?_
  clear hK K
  try simp only [Act.put,PZ]
  clear hT1
  refine il (rs:=[12]) (by kernel_rfl) (by simp) ?_
  refine ij.cons rfl (fun K hK=>?_) ij.nil
  refine kg (by kernel_rfl) (some 138) rfl (.tmp 134) (.tmp 137) 27 _ _ _ rfl rfl rfl rfl HR1.out ?_
  refine hK _ _ hT2 ?_
  clear hK K
  try simp only [Act.put,PZ]
  clear HR1 hT0
  refine il (rs:=[13]) (by kernel_rfl) (by simp) ?_
  refine ij.cons rfl (fun K hK=>?_) ij.nil
  go_simp
  refine hK _ _ hT2 ?_
  clear hK K
  try simp only [Act.put,PZ]
  refine tE 14 140 hT2 ?_
  refine il (rs:=[15]) (by kernel_rfl) (by simp) ?_
  refine ij.last rfl (fun K hK=>?_)
  have hz:(lay cur (k*8) l.cells).size=cur.size:=kp (cs:=l.cells) HKL.2.1
  have hkf:=HKL.2.1
  refine jn (by kernel_rfl) none rfl 27 (.tmp 140) (.tmp 138) rfl gL (k*8+1) rfl (.slice (some ⟨g1,0,none⟩) (l.nT+1) c1) rfl 1 rfl 47 _ hT2.2.1 yY (by omega) (by simp [Value.cells,Value.oneCell']) ?_
  intro X3 hP
  refine ah (hK _ _) ?_
  clear hK K
  refine iQ (by kernel_rfl) ?_ _
  have eL:lay (lay cur (k*8) l.cells) (k*8+1) #[.slice (some ⟨g1,0,none⟩) (l.nT+1) c1]=lay cur (k*8) (l.nV y.id (some ⟨g1,0,none⟩) c1).cells:=by
   rw [←GS l y.id]
   exact pY (a:=l.cells) HKL.2.1 (by show 1+1≤8;omega)
  replace hP:Put X2 X3 gL (lay cur (k*8) (l.nV y.id (some ⟨g1,0,none⟩) c1).cells) 47:=hP.cast eL
  have hne:gL≠gp:=iT hT2.2.1 hT2.2.2 (by decide)
  have HN2:Hid (SaL w X3 gS gp g8 S Q1 M x i dst (k+1) (fun j=>if j=k then l.nV y.id (some ⟨g1,0,none⟩) c1 else L j)):=by
   have zV:=HW.2.2.2.2.1
   have q1:=HW.2.2.1.nV HA.1 HA.2.1 HA.2.2
   refine HL.next hb hlt HnQ HgL HPk.1 HPk.2 HKL.2.2 (by rw [HY.out];exact (hP.to.block gp (ig hT2.2.2) (by simpa using fun e=>hne e.symm)).trans hT2.2.2) (by rw [Hel.out];have q:=yG (l:=l) (id:=y.id) (cl:=x.cl) HP2 (some ⟨g1,0,none⟩) c1;rw [HYi.out] at q ⊢;exact q) ?_
   rw [Hel.out]
   refine ⟨hP.blk,q1.box hT2.2.1 (by decide) (by decide) hP.to,?_,fun x hx=>.inl hx,gp :: gL :: iI l.aT,?_,fun x hx=>?_⟩
   ·
    have q2:=AN (l:=l) (id:=y.id) (c:=c1) HA.2.2
    rw [zV] at q2
    exact q2
   ·
    exact ((HW.2.2.2.1.mono (fun x hx=>by simp at hx;simp [hx])).trans (HA.2.1.mono (fun x hx=>by simp [hx]))).trans (hP.to.mono (fun x hx=>by simp at hx;simp [hx]))
   simp only [List.mem_cons] at hx
   rcases hx with e | e | e
   ·
    exact .inr (.inl e)
   ·
    exact .inl e
   exact .inr (.inr (.inl (iK.inT e)))
  clear hP eL hT2 HA HW hz hkf hne HL HKL Hal Hcs HPB
  go_wp2_with fail
  go_roundw
  case rel=>exact ⟨k+1,_,by omega,by go_num,HN2⟩
  case measure=>simp [intOf];omega):p:=h
theorem EJ (h:p:=by
  obtain ⟨gu,ucur,eU,kU,zU,cU⟩:=HW.2.2.1.u.at0 (by omega)
  refine jc (fun w'=>w'.heap[gS]?=some (.cells Q1.cells 34 (0,0))∧w'.heap[gL]?=some (.cells (lay cur (k*8) l.cells) 47 (0,0))∧w'.heap[gu]?=some (.cells ucur 27 (0,0))∧w'.heap[gp]?=some (.cells y.more.cells 51 (0,0))∧w'.heap[w.heap.size+1]?=some (.cells x.frc 36 (0,0))) 23 (by kernel_rfl) ?_
  have hd:Below X5.heap.size X5 X5.drew:=(Below.refl _ _).drew
  replace HW:Hid (X5.drew.heap[gL]?=some (.cells (lay cur (k*8) l.cells) 47 (0,0))∧X5.drew.heap[gp]?=some (.cells y.more.cells 51 (0,0))∧iK X5.drew w.heap.size l∧Touch [gp] wr X5.drew∧X5.drew.heap.size=wr.heap.size∧X5.drew.heap[gS]?=some (.cells Q1.cells 34 (0,0))∧X5.drew.heap[w.heap.size+1]?=some (.cells x.frc 36 (0,0))) :=
   ⟨(hd.block _ (ig HW.1)).trans HW.1,(hd.block _ (ig HW.2.1)).trans HW.2.1,HW.2.2.1.up hd,HW.2.2.2.1.trans (Touch.jq hd),HW.2.2.2.2.1,(hd.block _ (ig HW.2.2.2.2.2.1)).trans HW.2.2.2.2.2.1,(hd.block _ (ig HW.2.2.2.2.2.2)).trans HW.2.2.2.2.2.2⟩
  have HU:Hid (l.aU=some ⟨gu,0,none⟩∧l.nU*1≤ucur.size∧X5.drew.heap[gu]?=some (.cells ucur 27 (0,0))):=⟨eU,zU,(hd.block _ (ig kU)).trans kU⟩
  clear hd kU zU
  generalize X5.drew=V at *
  have Hcs:Hid (∀ wx:World,wx.heap[gS]?=some (.cells Q1.cells 34 (0,0))∧wx.heap[gL]?=some (.cells (lay cur (k*8) l.cells) 47 (0,0))∧wx.heap[gu]?=some (.cells ucur 27 (0,0))∧wx.heap[gp]?=some (.cells y.more.cells 51 (0,0))∧wx.heap[w.heap.size+1]?=some (.cells x.frc 36 (0,0))→wx.cell? ⟨gS,14,none⟩=some (.slice (some ⟨gL,0,none⟩) S.nL Q1.cL)∧wx.cell? ⟨gL,k*8+2,none⟩=some (.slice (some ⟨gu,0,none⟩) l.nU l.cU)∧wx.cell? ⟨gu,c,none⟩=some (.slice (l.uA c) (l.uL c) (l.uC c))∧wx.cell? ⟨gp,0,none⟩=some (.int .i64 y.id)∧wx.cell? ⟨w.heap.size+1,3,none⟩=some (.int .i64 (c:Int))) :=
   fun wx h=>⟨by rw [←HgL.out,←HnQ.out];exact ie h.1 14,by rw [←eU];exact (ie h.2.1 _).trans (lv (cs:=l.cells) HKL.2.1 2 (by show 2<8;omega)),(ie h.2.2.1 _).trans ((cU c (by omega)).trans (oL _ _ _ _ _ hcU)),ie h.2.2.2.1 0,by rw [←HCc.1];exact ie h.2.2.2.2 3⟩
  clear eU cU
  have hT0:=And.intro HW.2.2.2.2.2.1 (And.intro HW.1 (And.intro HU.2.2 (And.intro HW.2.1 HW.2.2.2.2.2.2)))
  refine tE 0 141 hT0 ?_
  refine tEX 1 142 hT0 ?_
  refine tE 2 143 hT0 ?_
  refine tE 3 144 hT0 ?_
  refine tE 4 145 hT0 ?_
  refine tEX 5 146 hT0 ?_
  refine tE 6 147 hT0 ?_
  refine tEX 7 148 hT0 ?_
  refine tE 8 149 hT0 ?_
  refine tEX 9 150 hT0 ?_
  refine tE 10 151 hT0 ?_
  refine tE 11 152 hT0 ?_
  refine tE 12 153 hT0 ?_
  refine tEX 13 154 hT0 ?_
  refine tE 14 155 hT0 ?_
  refine tEX 15 156 hT0 ?_
  refine tE 16 157 hT0 ?_
  refine tEX 17 158 hT0 ?_
  refine tE 18 159 hT0 ?_
  refine tEX 19 160 hT0 ?_
  obtain ⟨g1,c1,X2,hr1,hoi,ht,hg⟩:=vL (HW.2.2.1.z c hcU) HuL (by rw [HW.2.2.2.2.1];exact HL.bel.size) y.id
  have nt:∀ {b:Nat} {cs:Array Value} {t:TypeId},2≠t→V.heap[b]?=some (.cells cs t (0,0))→b∉iI (l.uA c):=fun hne hb=>OG.lM (t:=2) (sz:=1) (HW.2.2.1.z c hcU) hne hb
  have hT1:(V.alloc (.cells #[.int .i64 y.id] 2)).heap[gS]?=some (.cells Q1.cells 34 (0,0))∧(V.alloc (.cells #[.int .i64 y.id] 2)).heap[gL]?=some (.cells (lay cur (k*8) l.cells) 47 (0,0))∧(V.alloc (.cells #[.int .i64 y.id] 2)).heap[gu]?=some (.cells ucur 27 (0,0))∧(V.alloc (.cells #[.int .i64 y.id] 2)).heap[gp]?=some (.cells y.more.cells 51 (0,0))∧(V.alloc (.cells #[.int .i64 y.id] 2)).heap[w.heap.size+1]?=some (.cells x.frc 36 (0,0)):=⟨(iH _ (ig hT0.1)).trans hT0.1,(iH _ (ig hT0.2.1)).trans hT0.2.1,(iH _ (ig hT0.2.2.1)).trans hT0.2.2.1,(iH _ (ig hT0.2.2.2.1)).trans hT0.2.2.2.1,(iH _ (ig hT0.2.2.2.2)).trans hT0.2.2.2.2⟩
  have hT2:X2.heap[gS]?=some (.cells Q1.cells 34 (0,0))∧X2.heap[gL]?=some (.cells (lay cur (k*8) l.cells) 47 (0,0))∧X2.heap[gu]?=some (.cells ucur 27 (0,0))∧X2.heap[gp]?=some (.cells y.more.cells 51 (0,0))∧X2.heap[w.heap.size+1]?=some (.cells x.frc 36 (0,0)):=⟨(ht.block _ (ig hT0.1) (nt (by decide) hT0.1)).trans hT0.1,(ht.block _ (ig hT0.2.1) (nt (by decide) hT0.2.1)).trans hT0.2.1,(ht.block _ (ig hT0.2.2.1) (nt (by decide) hT0.2.2.1)).trans hT0.2.2.1,(ht.block _ (ig hT0.2.2.2.1) (nt (by decide) hT0.2.2.2.1)).trans hT0.2.2.2.1,(ht.block _ (ig hT0.2.2.2.2) (nt (by decide) hT0.2.2.2.2)).trans hT0.2.2.2.2⟩
  have HA:Hid (OI X2 w.heap.size (some ⟨g1,0,none⟩) (l.uL c+1) c1 (jM (l.uL c) y.id (l.uz c))∧Touch (iI (l.uA c)) V X2∧(g1∈iI (l.uA c)∨V.heap.size≤g1)):=⟨hoi,ht,hg⟩
  have HR1:=aa hr1
  clear hoi ht hg hr1 nt
  refine il (rs:=[20]) (by kernel_rfl) (by simp) ?_
  refine ij.cons rfl (fun K hK=>?_) ij.nil
  go_simp
  refine hK _ _ hT1 ?_
  clear hK K
  try simp only [Act.put,PZ]
  clear hT1
  refine il (rs:=[21]) (by kernel_rfl) (by simp) ?_
  refine ij.cons rfl (fun K hK=>?_) ij.nil
  refine kg (by kernel_rfl) (some 162) rfl (.tmp 158) (.tmp 161) 27 _ _ _ rfl rfl rfl rfl HR1.out ?_
  refine hK _ _ hT2 ?_
  clear hK K
  try simp only [Act.put,PZ]
  clear HR1 hT0
  refine tE 22 163 hT2 ?_
  refine il (rs:=[23]) (by kernel_rfl) (by simp) ?_
  refine ij.last rfl (fun K hK=>?_)
  refine jn (by kernel_rfl) none rfl 27 (.tmp 163) (.tmp 162) rfl gu c rfl (.slice (some ⟨g1,0,none⟩) (l.uL c+1) c1) rfl 1 rfl 27 _ hT2.2.2.1 yY (by have:=HU.2.1;omega) (by simp [Value.cells,Value.oneCell']) ?_
  intro X3 hP
  refine ah (hK _ _) ?_
  clear hK K
  refine iQ (by kernel_rfl) ?_ _
  have far:∀ {y:Nat} {cs:Array Value} {t:TypeId},X2.heap[y]?=some (.cells cs t (0,0))→t≠27→X3.heap[y]?=some (.cells cs t (0,0)):=fun ky hne=>(hP.to.block _ (ig ky) (by simpa using iT ky hT2.2.2.1 hne)).trans ky
  have HW3:Hid (X3.heap[gL]?=some (.cells (lay cur (k*8) l.cells) 47 (0,0))∧X3.heap[gp]?=some (.cells y.more.cells 51 (0,0))∧iK X3 w.heap.size (l.lK c y.id (some ⟨g1,0,none⟩) c1)∧Touch (gp :: gu :: iI (l.uA c)) wr X3∧wr.heap.size≤X3.heap.size∧X3.heap[gS]?=some (.cells Q1.cells 34 (0,0))∧X3.heap[w.heap.size+1]?=some (.cells x.frc 36 (0,0))):=by
   have tt:Touch (gp :: gu :: iI (l.uA c)) wr X3:=((HW.2.2.2.1.mono (fun x hx=>by simp at hx;simp [hx])).trans (HA.2.1.mono (fun x hx=>by simp [hx]))).trans (hP.to.mono (fun x hx=>by simp at hx;simp [hx]))
   exact ⟨far hT2.2.1 (by decide),far hT2.2.2.2.1 (by decide),HW.2.2.1.lK hcU HU.1 HA.1 HA.2.1 HA.2.2 hT2.2.2.1 hP,tt,tt.size,far hT2.1 (by decide),far hT2.2.2.2.2 (by decide)⟩
  have HZ3:Hid ((∀ x∈(l.lK c y.id (some ⟨g1,0,none⟩) c1).jN,x∈l.jN∨wr.heap.size≤x)∧gu∈l.oK):=by
   refine ⟨?_,List.mem_append_left _ (by rw [HU.1];simp [iI])⟩
   have q2:=A8 (l:=l) (id:=y.id) (c:=c1) hcU HA.2.2
   rw [HW.2.2.2.2.1] at q2
   exact q2
  clear hP hT2 HA HW HU Hcs far
  go_wp2_with fail
  refine jc (fun w'=>w'.heap[gS]?=some (.cells Q1.cells 34 (0,0))∧w'.heap[gL]?=some (.cells (lay cur (k*8) l.cells) 47 (0,0))∧w'.heap[w.heap.size+1]?=some (.cells x.frc 36 (0,0))) 16 (by kernel_rfl) ?_
  have hd:Below X3.heap.size X3 X3.drew:=(Below.refl _ _).drew
  replace HW3:Hid (X3.drew.heap[gL]?=some (.cells (lay cur (k*8) l.cells) 47 (0,0))∧X3.drew.heap[gp]?=some (.cells y.more.cells 51 (0,0))∧iK X3.drew w.heap.size (l.lK c y.id (some ⟨g1,0,none⟩) c1)∧Touch (gp :: gu :: iI (l.uA c)) wr X3.drew∧wr.heap.size≤X3.drew.heap.size∧X3.drew.heap[gS]?=some (.cells Q1.cells 34 (0,0))∧X3.drew.heap[w.heap.size+1]?=some (.cells x.frc 36 (0,0))) :=
   ⟨(hd.block _ (ig HW3.1)).trans HW3.1,(hd.block _ (ig HW3.2.1)).trans HW3.2.1,HW3.2.2.1.up hd,HW3.2.2.2.1.trans (Touch.jq hd),Nat.le_trans HW3.2.2.2.2.1 hd.size,(hd.block _ (ig HW3.2.2.2.2.2.1)).trans HW3.2.2.2.2.2.1,(hd.block _ (ig HW3.2.2.2.2.2.2)).trans HW3.2.2.2.2.2.2⟩
  clear hd
  generalize X3.drew=V3 at *
  have Hcs:Hid (∀ wx:World,wx.heap[gS]?=some (.cells Q1.cells 34 (0,0))∧wx.heap[gL]?=some (.cells (lay cur (k*8) l.cells) 47 (0,0))∧wx.heap[w.heap.size+1]?=some (.cells x.frc 36 (0,0))→wx.cell? ⟨gS,14,none⟩=some (.slice (some ⟨gL,0,none⟩) S.nL Q1.cL)∧wx.cell? ⟨w.heap.size+1,3,none⟩=some (.int .i64 (c:Int))) :=
   fun wx h=>⟨by rw [←HgL.out,←HnQ.out];exact ie h.1 14,by rw [←HCc.1];exact ie h.2.2 3⟩
  have hT0:=And.intro HW3.2.2.2.2.2.1 (And.intro HW3.1 HW3.2.2.2.2.2.2)
  refine tE 0 164 hT0 ?_
  refine tEX 1 165 hT0 ?_
  refine tE 2 166 hT0 ?_
  refine tE 3 167 hT0 ?_
  refine tEX 4 168 hT0 ?_
  refine tE 5 169 hT0 ?_
  refine tE 6 170 hT0 ?_
  refine tE 7 171 hT0 ?_
  refine kE (i:=8) (some 172) (v:=.agg l.R.cells) (fun wx hSw=>jg 45 5 _ Tryz.underlying45 rfl sL (.tmp 171) rfl gL (k*8+3) rfl l.R.cells rfl (fun j hj=>by
   rw [Nat.add_assoc,ie hSw.2.1]
   rw [lv (cs:=l.cells) HKL.2.1 (3+j) (by show 3+j<8;omega)]
   rcases j with _ | _ | _ | _ | _ | j
   ·
    rfl
   ·
    rfl
   ·
    rfl
   ·
    rfl
   ·
    rfl
   ·
    omega)) hT0 ?_
  try simp only [Act.put,PZ]
  refine tE 9 173 hT0 ?_
  refine tEX 10 174 hT0 ?_
  refine kE (i:=11) (some 175) (v:=.agg x.frc) (fun wx hSw=>jg 36 5 _ Tryz.underlying36 rfl jC (.tmp 5) rfl (w.heap.size+1) 0 rfl x.frc rfl (mu hSw.2.2)) hT0 ?_
  try simp only [Act.put,PZ]
  refine il (rs:=[12]) (by kernel_rfl) (by simp) ?_
  refine ij.cons rfl (fun K hK=>?_) ij.nil
  go_simp
  unfold Pkt.frc
  refine (jr x.k x.d x.s x.p x.b _ HFr.le).mono ?_
  rintro e Y4 ⟨rfl,hb4⟩
  have eCl:(((x.b.size:Int)+9+9) / 10)=x.cl:=rfl
  rw [eCl]
  clear eCl
  have HB4:=aa hb4
  have hT4:Y4.heap[gS]?=some (.cells Q1.cells 34 (0,0))∧Y4.heap[gL]?=some (.cells (lay cur (k*8) l.cells) 47 (0,0))∧Y4.heap[w.heap.size+1]?=some (.cells x.frc 36 (0,0)):=⟨(hb4.block _ (ig hT0.1)).trans hT0.1,(hb4.block _ (ig hT0.2.1)).trans hT0.2.1,(hb4.block _ (ig hT0.2.2)).trans hT0.2.2⟩
  clear hb4 hT0
  go_wp2_with fail
  refine hK _ _ hT4 ?_
  clear hK K
  try simp only [Act.put,PZ]
  refine il (rs:=[13]) (by kernel_rfl) (by simp) ?_
  refine ij.cons rfl (fun K hK=>?_) ij.nil
  go_simp
  refine (Bv l.R c x.cl _ HRs.1 (HW3.2.2.1.g.rd.r.up HB4) HRs.2.1 HRs.2.2).mono ?_
  rintro e Y5 ⟨R5,rfl,oR,hb5,aR⟩
  have HAl:=aa aR
  have hT5:Y5.heap[gS]?=some (.cells Q1.cells 34 (0,0))∧Y5.heap[gL]?=some (.cells (lay cur (k*8) l.cells) 47 (0,0))∧Y5.heap[w.heap.size+1]?=some (.cells x.frc 36 (0,0)):=⟨(hb5.block _ (ig hT4.1)).trans hT4.1,(hb5.block _ (ig hT4.2.1)).trans hT4.2.1,(hb5.block _ (ig hT4.2.2)).trans hT4.2.2⟩
  have HP5:Hid (Y5.heap[gp]?=some (.cells y.more.cells 51 (0,0))):=by
   have bb:=HB4.trans (hb5.mono HB4.size)
   exact (bb.block _ (ig HW3.2.1)).trans HW3.2.1
  have HW5:Hid (iK Y5 w.heap.size { l.lK c y.id (some ⟨g1,0,none⟩) c1 with R:=R5 }∧(∀ x∈({ l.lK c y.id (some ⟨g1,0,none⟩) c1 with R:=R5 }:Lng).jN,x∈l.jN∨wr.heap.size≤x)∧(∀ x∈({ l.lK c y.id (some ⟨g1,0,none⟩) c1 with R:=R5 }:Lng).oK,x∈l.oK∨wr.heap.size≤x)∧Touch (gp :: gu :: iI (l.uA c)) wr Y5∧∀ x∈gp :: gL :: gu :: iI (l.uA c),x=gL∨x=gp∨x∈l.jN∨x∈l.oK):=by
   obtain ⟨_,_,q3,q4,q5,_,_⟩:=HW3.out
   obtain ⟨q6,q7⟩:=HZ3.out
   have bb:=HB4.trans (hb5.mono HB4.size)
   have z4:V3.heap.size≤Y4.heap.size:=HB4.size
   refine ⟨q3.ub bb z4 (Nat.le_trans HL.bel.size q5) oR,fun x hx=>?_,fun x hx=>?_,q4.trans (Touch.jq bb),fun x hx=>?_⟩
   ·
    rcases D9 (w:=V3) (base:=w.heap.size) oR z4 x hx with e | e
    ·
     exact q6 x e
    exact .inr (Nat.le_trans q5 e)
   ·
    rcases Ea (w:=V3) (base:=w.heap.size) oR z4 x hx with e | e
    ·
     exact .inl e
    exact .inr (Nat.le_trans q5 e)
   simp only [List.mem_cons] at hx
   rcases hx with e | e | e | e
   ·
    exact .inr (.inl e)
   ·
    exact .inl e
   ·
    exact .inr (.inr (.inr (e▸q7)))
   exact .inr (.inr (.inl (iK.inU hcU e)))
  clear oR aR hb5 hT4 HB4 HW3 HZ3
  go_wp2_with fail
  refine hK _ _ hT5 ?_
  clear hK K
  try simp only [Act.put,PZ]
  have hz:(lay cur (k*8) l.cells).size=cur.size:=kp (cs:=l.cells) HKL.2.1
  have hkf:=HKL.2.1
  refine il (rs:=[14]) (by kernel_rfl) (by simp) ?_
  refine ij.cons rfl (fun K hK=>?_) ij.nil
  go_simp
  refine hK _ _ hT5 ?_
  clear hK K
  try simp only [Act.put,PZ]
  refine tE 15 179 hT5 ?_
  refine il (rs:=[16]) (by kernel_rfl) (by simp) ?_
  refine ij.last rfl (fun K hK=>?_)
  refine jn (by kernel_rfl) none rfl 45 (.tmp 179) (.tmp 177) rfl gL (k*8+3) rfl (.agg R5.cells) rfl 5 rfl 47 _ hT5.2.1 sL (by omega) (by simp [Value.cells,Value.oneCell',Rnd.cells]) ?_
  intro X6 hP
  refine ah (hK _ _) ?_
  clear hK K
  refine iQ (by kernel_rfl) ?_ _
  have eL:lay (lay cur (k*8) l.cells) (k*8+3) R5.cells=lay cur (k*8) ({ l.lK c y.id (some ⟨g1,0,none⟩) c1 with R:=R5 }:Lng).cells:=by
   rw [←GU]
   exact pY (a:=l.cells) HKL.2.1 (by show 3+5≤8;omega)
  replace hP:Put Y5 X6 gL (lay cur (k*8) ({ l.lK c y.id (some ⟨g1,0,none⟩) c1 with R:=R5 }:Lng).cells) 47:=hP.cast eL
  have hne:gL≠gp:=iT hT5.2.1 HP5 (by decide)
  have HN2:Hid (SaL w X6 gS gp g8 S Q1 M x i dst (k+1) (fun j=>if j=k then { l.lK c y.id (some ⟨g1,0,none⟩) c1 with R:=R5 } else L j)):=by
   obtain ⟨q1,q2,q3,q4,q5⟩:=HW5.out
   refine HL.next hb hlt HnQ HgL HPk.1 HPk.2 HKL.2.2 (by rw [HY.out];exact (hP.to.block gp (ig HP5) (by simpa using fun e=>hne e.symm)).trans HP5) (by rw [Hel.out];have q:=yH (l:=l) (id:=y.id) HCc.1 HCc.2 (some ⟨g1,0,none⟩) c1 HAl.out;rw [HYi.out] at q ⊢;exact q) ?_
   rw [Hel.out]
   refine ⟨hP.blk,q1.box hT5.2.1 (by decide) (by decide) hP.to,q2,q3,gp :: gL :: gu :: iI (l.uA c),(q4.mono (fun x hx=>?_)).trans (hP.to.mono (fun x hx=>by simp at hx;simp [hx])),q5⟩
   simp only [List.mem_cons] at hx ⊢
   rcases hx with e | e | e
   ·
    exact .inl e
   ·
    exact .inr (.inr (.inl e))
   exact .inr (.inr (.inr e))
  clear hP eL hT5 HW5 hz hkf hne HL HKL Hal Hcs HPB
  go_wp2_with fail
  go_roundw
  case rel =>
   repeat apply Exists.intro
   refine ⟨?_,rfl⟩
   exact ⟨k+1,_,by omega,by go_num,HN2⟩
  case measure=>simp [intOf];omega):p:=h
theorem FC (h:p:=by
  obtain ⟨y,ey⟩:∃ y,S.pkt i x (kY dst (i:Int) k)=y:=⟨_,rfl⟩
  have HY:=aa ey
  have HYi:Hid (y.id=S.nx):=by rw [←ey];rfl
  have HO3:Hid (kF wr w.heap.size (some ⟨gL,0,none⟩) Q1.nL Q1.cL L):=by
   have h8:kF wr w.heap.size Q1.aL Q1.nL Q1.cL L:=HL.own.l
   rw [HgL.out] at h8
   exact h8
  obtain ⟨gL',cur,eg,hgb,kL,zL,lL,_⟩:=HO3.at (by rw [HnQ.out];omega)
  cases eg
  have hkQ:k<Q1.nL:=by rw [HnQ.out];exact hlt
  have Hal:Hid (iO (S.L k) (L k)):=by
   have h9:=HL.al k hlt
   unfold Swg.jx at h9
   rw [if_neg (fun h=>absurd h.1 (Nat.lt_irrefl _))] at h9
   exact h9
  have hol:=HO3.ls k hkQ
  have hll:=lL k hkQ
  obtain ⟨l,el⟩:∃ l,L k=l:=⟨_,rfl⟩
  have Hel:=aa el
  have HKL:Hid (wr.heap[gL]?=some (.cells (lay cur (k*8) l.cells) 47 (0,0))∧k*8+8≤cur.size∧wr.heap[gL]?=some (.cells cur 47 (0,0))):=⟨by rw [←el,hll];exact kL,by omega,kL⟩
  rw [el] at hol Hal
  replace hP:Put wr X5 gp y.more.cells 51:=hP.cast (by rw [←ey];rfl)
  have far:∀ {y:Nat} {cs:Array Value} {t:TypeId},wr.heap[y]?=some (.cells cs t (0,0))→t≠51→X5.heap[y]?=some (.cells cs t (0,0)):=fun ky hne=>(hP.to.block _ (ig ky) (by simpa using iT ky HPB hne)).trans ky
  have HW:Hid (X5.heap[gL]?=some (.cells (lay cur (k*8) l.cells) 47 (0,0))∧X5.heap[gp]?=some (.cells y.more.cells 51 (0,0))∧iK X5 w.heap.size l∧Touch [gp] wr X5∧X5.heap.size=wr.heap.size∧X5.heap[gS]?=some (.cells Q1.cells 34 (0,0))∧X5.heap[w.heap.size+1]?=some (.cells x.frc 36 (0,0))):=⟨far HKL.1 (by decide),hP.blk,hol.box HPB (by decide) (by decide) hP.to,hP.to,hP.size,far HL.box (by decide),far HL.fr (by decide)⟩
  have c3:X5.cell? ⟨w.heap.size+1,3,none⟩=some (.int .i64 x.p):=ie HW.2.2.2.2.2.2 3
  clear hP far hol hll kL zL lL hgb el ey c2 hw2 c0 HO3
  by_cases hp2:x.p=2
  ·
   have HP2:=aa hp2
   have hp':(x.p == 2)=true:=by simp [hp2]
   have HnT:Hid (l.nT≤1048576):=by have h9:=(HOk.l k hlt).t.le HOk.k;have:=HOk.k.le;have e:=Hal.nT;rw [Hid];omega
   clear hp2
   go_wp2_with fail
   clear c3 hp'
   exact C3
  ·
   have hp':(x.p == 2)=false:=by simp [hp2]
   have hpr:=HFr.pr
   obtain ⟨c,hc⟩:∃ c:Nat,x.p=(c:Int):=⟨x.p.toNat,by omega⟩
   obtain ⟨hc2,hwp,hul⟩:=HOk.room hlt HFr hc hp2
   have HCc:Hid (x.p=(c:Int)∧x.p≠2):=⟨hc,hp2⟩
   have hnU:l.nU=2:=by have e:=Hal.nU;rw [e];exact (HOk.l k hlt).u
   have hcU:c<l.nU:=by omega
   have HuL:Hid (l.uL c≤1048576):=by have e:=Hal.l;rw [Hid,e];omega
   have HRs:Hid (l.R.Small∧c<l.R.nS∧l.R.L c≤1000):=by
    have hl:=HOk.l k hlt
    have e:=Hal.r
    refine ⟨(Hal.small (HS.ls k hlt)).r,by rw [e.nS,hl.r.s,hl.n];exact hc2,by rw [e.l,←(hl.z c hc2).2.1];exact hul⟩
   have hcL:(c:Int)<(l.nU:Int):=by omega
   have hnU2:0<l.nU:=by omega
   clear hc hp2 hwp hul hc2 hnU
   go_wp2_with fail
   clear c3 hp'
   exact EJ):p:=h
set_option maxHeartbeats 9000000 in
theorem vh (S S':Swg) (port:Int) (x:Pkt) (code:Int) (w:World) (hs:S.Small) (hr:lr w S) (hok:S.Ok) (hxb:x.b.size≤1048576) (hm:xG S S' port x code) :
  Calls Tryz.prog 22 #[.agg S.cells,.int .i64 port,.agg x.frc] w fun e w'=>∃ S2,e=.returned (.tuple #[.agg S2.cells,.int .i64 code])∧iw S' S2∧iG w' w.heap.size S2∧Below w.heap.size w w':=by
 have HM:Hid (xG S S' port x code):=hm
 have HR:Hid (lr w S):=hr
 have HS:Hid S.Small:=hs
 have HOk:Hid S.Ok:=hok
 obtain ⟨W,eW⟩:∃ W,((w.alloc (.cells S.cells 34)).alloc (.cells x.frc 36)).alloc (.cells ab 34)=W:=⟨_,rfl⟩
 have HX:Hid (Thr w W S x):=by rw [←eW];exact Thr.start _ _ _
 have HL:Hid (∀ j,j<17→W.cell? ⟨w.heap.size,0+j,none⟩=S.cells[j]?):=fun j _=>by rw [Nat.zero_add];exact ie HX.a j
 obtain ⟨_,_,_,ht4,ht5⟩:=yK hok
 have hp4:=hok.n.c.num.p
 clear hs hr hok hm
 go_enter Tryz.func22,Tryz.ntmps22
 go_wp2_with (refine ir rfl 34 17 _ Tryz.underlying34 rfl iA (.tmp 3) rfl (w.heap.size) 0 rfl S.cells rfl HL.out ?_)
 clear eW HL
 have hW1:w.heap.size+2<W.heap.size:=ig HX.z
 refine (qJ S _ HS ht4 ht5 (HR.up HX.bel)).mono ?_
 rintro e w2 ⟨Q,rfl,aQ,oQ,hbl⟩
 replace HX:Hid (Thr w w2 S x):=HX.up hbl
 have hz2:=hbl.size
 have HQ:Hid (iw S Q∧iG w2 w.heap.size Q):=⟨aQ,oQ.mono (by omega)⟩
 clear aQ oQ hbl
 have HG:Hid ((w2.alloc (.cells ab 34)).heap[w2.heap.size]?=some (.cells ab 34 (0,0))):=im _ _
 go_wp2_with (refine iq rfl 34 (.tmp 8) (.tmp 15) rfl (w2.heap.size) 0 rfl (.agg Q.cells) rfl 17 rfl 34 _ HG iA (Nat.le_of_ble_eq_true rfl) (Swg.lF _) ?_)
 intro X hP
 replace hP:Put _ X w2.heap.size Q.cells 34:=hP.cast rfl
 have hbl:Below w2.heap.size w2 X:=((Below.refl _ _).alloc (Nat.le_refl _) _).trans (hP.to.below (by simp) (fun y hy=>by simp at hy;omega))
 replace HX:Hid (SaS w X w2.heap.size S Q x):=by
  have h9:=HX.up hbl
  exact ⟨⟨hP.blk,h9.f,HQ.2.up hbl,h9.bel,by omega,by omega,Nat.le_refl _⟩,h9.a,h9.z,by omega⟩
 have HA:Hid (iw S Q):=HQ.1
 clear hP HG hbl HQ
 obtain ⟨gS,eN⟩:∃ g,w2.heap.size=g:=⟨_,rfl⟩
 rw [eN] at HX hz2 ⊢
 clear eN hz2 hW1
 have c0:X.cell? ⟨w.heap.size,0,none⟩=some (.int .i64 S.C.p):=ie HX.a 0
 have hw1:IntKind.i64.wrap (S.C.p-1)=S.C.p-1:=jS _ (by omega) (by omega)
 go_wp2_with fail
 clear c0 hw1
 refine (iB _ _ _ _).mono ?_
 rintro e w' ⟨rfl,rfl⟩
 by_cases hport:0≤port∧port≤S.C.p-1
 rotate_left
 ·
  have hdec:decide (0≤port∧port≤S.C.p-1)=false:=by simp only [decide_eq_false_iff_not];exact hport
  have HC:Hid (code=2∧iw S' Q):=by
   rcases HM.out with ⟨h,_⟩ | ⟨_,_,h1,h2⟩ | ⟨_,_,i,rfl,hi,_⟩
   ·
    exact absurd HOk h
   ·
    exact ⟨h2,by rw [h1];exact HA⟩
   have:=HOk.nl
   exact absurd (by omega) hport
  rw [hdec]
  clear hport hdec
  generalize w'=X at *
  exact Ig
 have hdec:decide (0≤port∧port≤S.C.p-1)=true:=by simp only [decide_eq_true_eq];exact hport
 have HPt:Hid (0≤port∧port≤S.C.p-1):=hport
 have HL2:Hid (∀ j,j<5→w'.cell? ⟨w.heap.size+1,0+j,none⟩=(#[.int .i64 x.k,.int .i64 x.d,.int .i64 x.s,.int .i64 x.p,.string x.b]:Array Value)[j]?):=mu HX.s.fr
 rw [hdec]
 clear hport hdec
 go_wp2_with (refine jA (by rfl) 36 5 _ Tryz.underlying36 rfl jC (.tmp 5) rfl (w.heap.size+1) 0 rfl #[.int .i64 x.k,.int .i64 x.d,.int .i64 x.s,.int .i64 x.p,.string x.b] rfl HL2.out ?_)
 clear HL2
 refine (nY x.k x.d x.s x.p x.b _ (by unfold maxLen;omega)).mono ?_
 rintro e X ⟨rfl,hbl⟩
 replace HX:Hid (SaS w X gS S Q x):=HX.up hbl
 clear hbl
 cases hfr:mc x.k x.d x.s x.p x.b.size
 ·
  have HC:Hid (code=2∧iw S' Q):=by
   rcases HM.out with ⟨h,_⟩ | ⟨_,_,h1,h2⟩ | ⟨_,h,_⟩
   ·
    exact absurd HOk h
   ·
    exact ⟨h2,by rw [h1];exact HA⟩
   rw [hfr] at h;cases h
  clear hfr
  exact Ig
 have HFrB:Hid (mc x.k x.d x.s x.p x.b.size=true):=hfr
 obtain ⟨i,hpi,hi,hmm⟩:∃ i:Nat,port=(i:Int)∧i<S.nL∧((x.k≠1∧S'=S.stop i (decide (x.k=2))∧code=0)∨(x.k=1∧qS S S' i x code)):=by
  rcases HM.out with ⟨h,_⟩ | ⟨_,h,_⟩ | ⟨_,_,h⟩
  ·
   exact absurd HOk h
  ·
   exact absurd ⟨HPt,hfr⟩ h
  exact h
 subst hpi
 have HMM:Hid ((x.k≠1∧S'=S.stop i (decide (x.k=2))∧code=0)∨(x.k=1∧qS S S' i x code)):=hmm
 have hi':(i:Int)<(S.nL:Int):=by omega
 have c0:X.cell? ⟨w.heap.size+1,0,none⟩=some (.int .i64 x.k):=ie HX.s.fr 0
 clear hfr hmm HM HPt
 by_cases hk:x.k=1
 rotate_left
 ·
  have hk1:(x.k == 1)=false:=by simp [hk]
  have hk2:(x.k == 2)=decide (x.k=2):=rfl
  obtain ⟨b,eb⟩:∃ b,decide (x.k=2)=b:=⟨_,rfl⟩
  rw [eb] at hk2
  have HC0:Hid (code=0∧iw S' (Q.stop i b)):=by
   rcases HMM.out with ⟨_,h1,h2⟩ | ⟨h1,_⟩
   ·
    exact ⟨h2,by rw [h1,eb];exact HA.stop hi b⟩
   exact absurd h1 hk
  clear hk eb HMM
  have hiQ:i<Q.nL:=by rw [HA.nL];exact hi
  obtain ⟨gL,cur,eL,hgb,kL,zL,lL,_⟩:=HX.s.own.l.at (show 0<Q.nL by omega)
  have HKL:Hid (X.heap[gL]?=some (.cells cur 47 (0,0))∧i*8+8≤cur.size∧lay cur (i*8) (Q.L i).cells=cur∧Q.aL=some ⟨gL,0,none⟩∧w.heap.size≤gL):=⟨kL,by omega,lL i hiQ,eL,hgb⟩
  have c14:X.cell? ⟨gS,14,none⟩=some (.slice (some ⟨gL,0,none⟩) S.nL Q.cL):=by rw [←eL,←HA.nL];exact ie HX.s.box 14
  have hz1:i*8+1≤cur.size:=by omega
  clear kL zL lL eL hgb
  go_wp2_with (refine iq rfl 4 (.tmp 39) (.tmp 37) rfl gL (i*8) rfl (.bool b) rfl 1 rfl 47 _ HKL.1 yj hz1 (by simp [Value.cells,Value.oneCell']) ?_)
  intro X4 hP
  replace hP:Put X X4 gL (lay cur (i*8) ({ Q.L i with st:=b }:Lng).cells) 47:=hP.cast (uG HKL.2.2.1 HKL.2.1 b)
  have far:∀ {y:Nat} {c:Array Value} {t:TypeId},X.heap[y]?=some (.cells c t (0,0))→t≠47→y∉[gL]:=fun k hne hy=>iT k HKL.1 hne (by simpa using hy)
  have HX4:Hid (SaS w X4 gS S (Q.stop i b) x) :=
   ⟨⟨(hP.to.block _ (ig HX.s.box) (far HX.s.box (by decide))).trans HX.s.box,(hP.to.block _ (ig HX.s.fr) (far HX.s.fr (by decide))).trans HX.s.fr,HX.s.own.stop hiQ HKL.2.2.2.1 HKL.1 hP,HX.s.bel.trans (hP.to.below HX.s.bel.size (fun y hy=>by simp at hy;rw [hy];exact HKL.2.2.2.2)),HX.s.le⟩,(hP.to.block _ (ig HX.a) (far HX.a (by decide))).trans HX.a,(hP.to.block _ (ig HX.z) (far HX.z (by decide))).trans HX.z,HX.lt⟩
  clear hP c14 c0 far HKL HX hk1 hk2
  obtain ⟨Q4,eQ4⟩:∃ Q4,Q.stop i b=Q4:=⟨_,rfl⟩
  rw [eQ4] at HX4 HC0
  clear eQ4 HA
  generalize X4=X at *
  generalize Q4=Q at *
  have HX:=HX4
  have HC:=HC0
  have HLq:Hid (∀ j,j<17→X.cell? ⟨gS,0+j,none⟩=Q.cells[j]?):=fun j _=>by rw [Nat.zero_add];exact ie HX.s.box j
  have HDz:Hid (X.heap[w.heap.size+1+1]?=some (.cells zSw 34 (0,0))):=HX.z
  go_wp2_with (first | refine ir rfl 34 17 _ Tryz.underlying34 rfl iA (.tmp 8) rfl gS 0 rfl Q.cells rfl HLq.out ?_ | refine iq rfl 34 (.tmp 6) (.tmp 40) rfl (w.heap.size+1+1) 0 rfl (.agg Q.cells) rfl 17 rfl 34 _ HDz iA (Nat.le_of_ble_eq_true rfl) (Swg.lF _) ?_)
  exact zw
 have hk1:(x.k == 1)=true:=by simp [hk]
 have HD:Hid (qS S S' i x code):=by
  rcases HMM.out with ⟨h1,_⟩ | ⟨_,h1⟩
  ·
   exact absurd hk h1
  exact h1
 have HFr:Hid x.nR:=⟨hk,HFrB.out⟩
 clear hk HMM HFrB
 have HAl:Hid (Q.lrL i x=S.lrL i x∧Q.now=S.now∧Q.nE=S.nE∧Q.e=S.e):=⟨HA.lrL _ _,HA.now,HA.nE,HA.e⟩
 have c9:X.cell? ⟨gS,9,none⟩=some (.slice Q.aE Q.nE Q.cE):=ie HX.s.box 9
 have c2:X.cell? ⟨w.heap.size+1,2,none⟩=some (.int .i64 x.s):=ie HX.s.fr 2
 have c7:X.cell? ⟨w.heap.size,7,none⟩=some (.int .i64 S.now):=ie HX.a 7
 go_wp2_with fail
 clear c9 c2 c7 c0 hk1
 refine (vm Q.aE Q.nE Q.cE Q.e x.s (i:Int) S.now _ (by rw [HAl.2.2.1,HAl.2.2.2];exact HOk.seen.1) HX.s.own.g.e.g.DB).mono ?_
 rintro e X1 ⟨v,rfl,oA,hb1⟩
 have eA:jl (iD Q.nE Q.e) ⟨x.s,(i:Int),S.now⟩=Q.lrL i x:=by unfold Swg.lrL;rw [HAl.2.1]
 rw [eA] at oA
 obtain ⟨aE,cE,rfl,og⟩:=oA.ogW
 have HLq:Hid (iG X1 w.heap.size (Q.jm i x aE cE)):=(HX.s.own.up hb1).jm (og.mono HX.s.bel.size)
 replace HX:Hid (SaS w X1 gS S Q x):=HX.up hb1
 have HBx:Hid (X1.heap[gS]?=some (.cells Q.cells 34 (0,0))):=HX.s.box
 clear oA og hb1 eA
 go_wp2_with (refine iq rfl 26 (.tmp 49) (.tmp 48) rfl gS 9 rfl (.slice aE (Q.lrL i x).length cE) rfl 1 rfl 34 _ HBx uh (Nat.le_of_ble_eq_true rfl) (by simp [Value.cells,Value.oneCell']) ?_)
 intro X2 hP
 obtain ⟨Q1,eQ1⟩:∃ Q1,Q.jm i x aE cE=Q1:=⟨_,rfl⟩
 replace hP:Put X1 X2 gS Q1.cells 34:=hP.cast (by rw [←eQ1];rfl)
 replace HX:Hid (SaS w X2 gS S Q1 x):=HX.put hP (by rw [←eQ1];exact HLq.out)
 have HA1:Hid (iw (S.jm i x none 0) Q1):=by rw [←eQ1];exact HA.jm _ _ _ _ _ _
 have HE1:Hid (Q1.aE=aE∧Q1.nE=(S.lrL i x).length∧Q1.cE=cE∧Q1.e=fun j=>(S.lrL i x).getD j default):=by rw [←eQ1,←HAl.1];exact ⟨rfl,rfl,rfl,rfl⟩
 clear hP HBx HLq eQ1 HA HAl
 have c9:X2.cell? ⟨gS,9,none⟩=some (.slice Q1.aE Q1.nE Q1.cE):=ie HX.s.box 9
 have c1:X2.cell? ⟨w.heap.size+1,1,none⟩=some (.int .i64 x.d):=ie HX.s.fr 1
 have c7:X2.cell? ⟨w.heap.size,7,none⟩=some (.int .i64 S.now):=ie HX.a 7
 go_wp2_with fail
 clear c9 c1 c7
 refine (xR Q1.aE Q1.nE Q1.cE Q1.e x.d S.now (S.toP i x) _ (by have:=(HOk.Dl hi HFr).1;rw [HE1.2.1];unfold maxLen;omega) HX.s.own.g.e.g.DB (by rw [HE1.2.1,HE1.2.2.2];exact HOk.toR hi HFr)).mono ?_
 rintro e X3 ⟨rfl,hb2⟩
 replace HX:Hid (SaS w X3 gS S Q1 x):=HX.up hb2
 clear hb2
 obtain ⟨dst,ed⟩:∃ dst,S.toP i x=dst:=⟨_,rfl⟩
 have HDs:Hid (S.toP i x=dst):=ed
 rw [ed]
 clear ed
 by_cases hto:dst=(i:Int)
 ·
  have hto':(dst == (i:Int))=true:=by simp [hto]
  have HC:Hid (code=4∧iw S' Q1):=by
   rcases HD.out with ⟨h1,h2,h3⟩ | ⟨h1,_⟩ | ⟨h1,_⟩
   ·
    exact ⟨h3,by rw [h2];exact HA1⟩
   ·
    exact absurd (HDs.trans hto) h1
   exact absurd (HDs.trans hto) h1
  clear hto
  generalize X3=X at *
  clear HA1 HE1
  generalize Q1=Q at *
  have HLq:Hid (∀ j,j<17→X.cell? ⟨gS,0+j,none⟩=Q.cells[j]?):=fun j _=>by rw [Nat.zero_add];exact ie HX.s.box j
  have HDz:Hid (X.heap[w.heap.size+1+1]?=some (.cells zSw 34 (0,0))):=HX.z
  go_wp2_with (first | refine ir rfl 34 17 _ Tryz.underlying34 rfl iA (.tmp 8) rfl gS 0 rfl Q.cells rfl HLq.out ?_ | refine iq rfl 34 (.tmp 6) (.tmp 60) rfl (w.heap.size+1+1) 0 rfl (.agg Q.cells) rfl 17 rfl 34 _ HDz iA (Nat.le_of_ble_eq_true rfl) (Swg.lF _) ?_)
  exact zw
 have hto':(dst == (i:Int))=false:=by simp [hto]
 have HT:Hid (dst≠(i:Int)):=hto
 clear hto
 go_wp2_with fail
 clear hto'
 obtain ⟨ok,hok⟩:=oo (Cnt.Ok S.C (lq S.N i x.p x.cl))
 have HOB:Hid (ok=true↔Cnt.Ok S.C (lq S.N i x.p x.cl)):=hok
 clear hok
 have hiU:i<S.N.nU:=by have h1:=HOk.nl;have h2:=HOk.n.nU;omega
 go_cut [10,11] (fun s10 s11 wc=>∃ g8 M,s10=.pointer (some ⟨g8,0,none⟩)∧s11=.bool ok∧Hid (SaC w wc gS S Q1 x i ok g8 M))
 case first =>
  refine wp_region_held_drew (S:=fun w'=>w'.heap[w.heap.size]?=some (.cells S.cells 34 (0,0))∧w'.heap[w.heap.size+1]?=some (.cells x.frc 36 (0,0))) (by kernel_rfl) (by have h9:=HX.up ((Below.refl _ _).drew);exact ⟨h9.a,h9.s.fr⟩) (fun hHeld=>?_)
  replace HX:Hid (SaS w X3.drew gS S Q1 x):=HX.up ((Below.refl _ _).drew)
  generalize X3.drew=V5 at *
  have HLo:Hid (∀ j,j<Q1.nL→∀ y∈(Q1.L j).jN,y<V5.heap.size):=fun j hj y hy=>((HX.s.own.l.ls j hj).blk y hy).2
  have hle5:w.heap.size≤V5.heap.size:=HX.s.bel.size
  have Hcs:Hid (∀ wx:World,wx.heap[w.heap.size]?=some (.cells S.cells 34 (0,0))∧wx.heap[w.heap.size+1]?=some (.cells x.frc 36 (0,0))→wx.cell? ⟨w.heap.size+1,3,none⟩=some (.int .i64 x.p)):=fun wx h=>ie h.2 3
  refine tQ 0 62 ?_
  refine tC 1 63 (v:=.agg S.C.cells) (fun wx hSw=>jg 25 7 _ Tryz.underlying25 rfl BS (.tmp 62) rfl w.heap.size 0 rfl S.C.cells rfl (En hSw.1)) ?_
  try simp only [Act.put,PZ]
  refine tQ 2 64 ?_
  refine tC 3 65 (v:=.agg S.N.cells) (fun wx hSw=>jg 30 3 _ Tryz.underlying30 rfl oC (.tmp 64) rfl w.heap.size 10 rfl S.N.cells rfl (Em hSw.1)) ?_
  try simp only [Act.put,PZ]
  refine tQ 4 66 ?_
  refine tQ 5 67 ?_
  refine tXq 6 68 ?_
  refine tC 7 69 (v:=.agg x.frc) (fun wx hSw=>jg 36 5 _ Tryz.underlying36 rfl jC (.tmp 5) rfl (w.heap.size+1) 0 rfl x.frc rfl (mu hSw.2)) ?_
  try simp only [Act.put,PZ]
  refine rq2 8 13 (fun K hK=>?_) (fun K hK=>?_)
  ·
   go_simp
   unfold Pkt.frc
   refine (jr x.k x.d x.s x.p x.b _ HFr.le).mono ?_
   rintro e XC ⟨rfl,hbC⟩
   have eCl:(((x.b.size:Int)+9+9) / 10)=x.cl:=rfl
   rw [eCl]
   replace HX:Hid (SaS w XC gS S Q1 x):=HX.up hbC
   have hzC:=hbC.size
   have hTC:=And.intro HX.a HX.s.fr
   clear hbC
   go_wp2_with fail
   refine ah (hK _ _ hTC) ?_
   intro hHeld
   clear hK K
   refine rq2 9 13 (fun K hK=>?_) (fun K hK=>?_)
   ·
    go_simp
    refine (wR S.C S.N i x.p x.cl _ HOk.n (HR.n.up HX.s.bel) hiU (by have:=HFr.cl;omega) (by have:=HFr.cl;omega) ok HOB).mono ?_
    rintro e XM ⟨M,rfl,oM,hbM,aM⟩
    replace HX:Hid (SaS w XM gS S Q1 x):=HX.up hbM
    have hTM:=And.intro HX.a HX.s.fr
    have HM9:Hid (iN XM w.heap.size M∧(∀ y∈ku M.aU M.nU,V5.heap.size≤y)∧iR (mF (lq S.N i x.p x.cl) ok) M):=⟨oM.mono (by omega),fun y hy=>by have:=(oM.u.blk y hy).1;omega,aM⟩
    clear oM aM hTC
    go_wp2_with fail
    refine ah (hK _ _ hTM) ?_
    intro hHeld
    clear hK K
    refine tQ 10 61 ?_
    refine tQ 11 72 ?_
    refine tQ 12 73 ?_
    refine rq1 13 (fun K hK=>?_)
    go_simp
    have hbA:=(Below.refl XM.heap.size XM).alloc (Nat.le_refl _) (.cells ag 30)
    have hzM:=hbM.size
    have HG:Hid ((XM.alloc (.cells ag 30)).heap[XM.heap.size]?=some (.cells ag 30 (0,0))∧w.heap.size≤XM.heap.size):=⟨im _ _,by omega⟩
    replace HX:Hid (SaS w (XM.alloc (.cells ag 30)) gS S Q1 x):=HX.up hbA
    replace HM9:Hid (iN (XM.alloc (.cells ag 30)) w.heap.size M∧(∀ y∈ku M.aU M.nU,V5.heap.size≤y)∧iR (mF (lq S.N i x.p x.cl) ok) M):=⟨HM9.1.up hbA,HM9.2⟩
    have hTA:=And.intro HX.a HX.s.fr
    clear hbA hTM hbM hzM
    refine ah (hK _ _ hTA) ?_
    intro hHeld
    clear hK K
    generalize XM.heap.size=g8 at *
    generalize XM.alloc (.cells ag 30)=XA at *
    exact gw
   go_simp
   have hbA:=(Below.refl XC.heap.size XC).alloc (Nat.le_refl _) (.cells ag 30)
   have HG:Hid ((XC.alloc (.cells ag 30)).heap[XC.heap.size]?=some (.cells ag 30 (0,0))∧w.heap.size≤XC.heap.size):=⟨im _ _,by omega⟩
   replace HX:Hid (SaS w (XC.alloc (.cells ag 30)) gS S Q1 x):=HX.up hbA
   have hzA:=hbA.size
   have hTA:=And.intro HX.a HX.s.fr
   clear hbA
   refine ah (hK _ _ hTA) ?_
   intro hHeld
   clear hK K
   generalize XC.heap.size=g8 at *
   generalize XC.alloc (.cells ag 30)=XA at *
   exact Ie
  go_simp
  have hbA:=(Below.refl V5.heap.size V5).alloc (Nat.le_refl _) (.cells ag 30)
  obtain ⟨XA,eXA⟩:∃ XA,V5.alloc (.cells ag 30)=XA:=⟨_,rfl⟩
  obtain ⟨g8,eg8⟩:∃ g8,V5.heap.size=g8:=⟨_,rfl⟩
  have HG:Hid (XA.heap[g8]?=some (.cells ag 30 (0,0))∧w.heap.size≤g8):=by rw [←eXA,←eg8];exact ⟨im _ _,hle5⟩
  rw [eXA] at hbA ⊢
  replace HX:Hid (SaS w XA gS S Q1 x):=HX.up hbA
  have hzA:=hbA.size
  have hTA:=And.intro HX.a HX.s.fr
  have hge:g8≤XA.heap.size:=by omega
  clear hbA eXA
  rw [eg8]
  refine ah (hK _ _ hTA) ?_
  intro hHeld
  clear hK K
  refine rq1 8 (fun K hK=>?_)
  go_simp
  unfold Pkt.frc
  refine (jr x.k x.d x.s x.p x.b _ HFr.le).mono ?_
  rintro e XC ⟨rfl,hbC⟩
  have eCl:(((x.b.size:Int)+9+9) / 10)=x.cl:=rfl
  rw [eCl]
  replace HX:Hid (SaS w XC gS S Q1 x):=HX.up hbC
  have hzC:=hbC.size
  have hTC:=And.intro HX.a HX.s.fr
  replace HG:Hid (XC.heap[g8]?=some (.cells ag 30 (0,0))∧w.heap.size≤g8):=⟨(hbC.block _ (ig HG.1)).trans HG.1,HG.2⟩
  clear hbC
  go_wp2_with fail
  refine ah (hK _ _ hTC) ?_
  intro hHeld
  clear hK K
  exact Ie
 clear HX
 obtain ⟨g8,M,rfl,rfl,HC⟩:=hcut
 have c8:wc.cell? ⟨w.heap.size,8,none⟩=some (.int .i64 S.nx):=ie HC.s.a 8
 have c3:wc.cell? ⟨w.heap.size+1,3,none⟩=some (.int .i64 x.p):=ie HC.s.s.fr 3
 by_cases hdrop:ok=true∧S.nx≠1000000000
 rotate_left
 ·
  have HC3:Hid (code=3∧S'=(S.jm i x none 0).lG x.p):=by
   rcases HD.out with ⟨h1,_⟩ | ⟨_,_,h3,h4⟩ | ⟨_,h2,h3,_⟩
   ·
    exact absurd (HDs.symm.trans h1) HT
   ·
    exact ⟨h4,h3⟩
   exact absurd ⟨HOB.2 h2,h3⟩ hdrop
  have c15:wc.cell? ⟨gS,15,none⟩=some (.int .i64 Q1.dr):=ie HC.s.s.box 15
  have c16:wc.cell? ⟨gS,16,none⟩=some (.int .i64 Q1.lst):=ie HC.s.s.box 16
  have hd1:0≤Q1.dr∧Q1.dr≤1000000000:=by rw [HA1.dr];exact HOk.nums.dr
  have hd2:0≤Q1.lst∧Q1.lst≤1000000000:=by rw [HA1.lst];exact HOk.nums.lst
  have w1:IntKind.i64.wrap (Q1.lst+1)=Q1.lst+1:=jS _ (by omega) (by omega)
  have w2:IntKind.i64.wrap (Q1.dr+1)=Q1.dr+1:=jS _ (by omega) (by omega)
  have HBx:Hid (wc.heap[gS]?=some (.cells Q1.cells 34 (0,0))):=HC.s.s.box
  by_cases hp2:x.p=2
  ·
   have hp':(x.p == 2)=true:=by simp [hp2]
   have HP2:Hid (x.p=2):=hp2
   clear hp2
   cases ok
   · exact fZ
   have hnx':(S.nx == 1000000000)=true:=gj
   clear hdrop
   exact fZ
  have hp':(x.p == 2)=false:=by simp [hp2]
  have HP2:Hid (x.p≠2):=hp2
  clear hp2
  cases ok
  · exact gi
  have hnx':(S.nx == 1000000000)=true:=gj
  clear hdrop
  exact gi
 obtain ⟨rfl,hnx⟩:=hdrop
 have HN:Hid (code=0∧S'=(S.jm i x none 0).waits i x dst):=by
  rcases HD.out with ⟨h1,_⟩ | ⟨_,h2,_⟩ | ⟨_,_,_,h4,h5⟩
  ·
   exact absurd (HDs.symm.trans h1) HT
  ·
   exact absurd ⟨HOB.1 rfl,hnx⟩ h2
  exact ⟨h5,by rw [h4,HDs.out]⟩
 have HGe:Hid (-1≤dst):=by rw [←HDs.out];exact (HOk.GJ hi HFr.out).1
 have hnx':(S.nx == 1000000000)=false:=by simp [hnx]
 have HLf:Hid (∀ j,j<5→wc.cell? ⟨w.heap.size+1,0+j,none⟩=(#[.int .i64 x.k,.int .i64 x.d,.int .i64 x.s,.int .i64 x.p,.string x.b]:Array Value)[j]?):=mu HC.s.s.fr
 have HGp:Hid ((wc.alloc (.cells #[.int .i64 0,.int .i64 0,.int .i64 0,.int .i64 0,.int .i64 0,.int .i64 0,.int .i64 0,.string ⟨#[]⟩] 51)).heap[wc.heap.size]?=some (.cells #[.int .i64 0,.int .i64 0,.int .i64 0,.int .i64 0,.int .i64 0,.int .i64 0,.int .i64 0,.string ⟨#[]⟩] 51 (0,0))):=im _ _
 clear c3 hnx
 go_wp2_with (first | refine ir rfl 36 5 _ Tryz.underlying36 rfl jC (.tmp 5) rfl (w.heap.size+1) 0 rfl #[.int .i64 x.k,.int .i64 x.d,.int .i64 x.s,.int .i64 x.p,.string x.b] rfl HLf.out ?_ | refine iq rfl 51 (.tmp 12) (.tmp 99) rfl wc.heap.size 0 rfl (.agg #[.int .i64 S.nx,.int .i64 (i:Int),.int .i64 0,.int .i64 x.k,.int .i64 x.d,.int .i64 x.s,.int .i64 x.p,.string x.b]) rfl 8 rfl 51 _ HGp sM (Nat.le_of_ble_eq_true rfl) (by simp [Value.cells,Value.oneCell']) ?_)
 intro X4 hP
 replace hP:Put _ X4 wc.heap.size (S.pkt i x 0).cells 51:=hP.cast rfl
 have hb4:Below wc.heap.size wc X4:=((Below.refl _ _).alloc (Nat.le_refl _) _).trans (hP.to.below (by simp) (fun y hy=>by simp at hy;omega))
 have HPk:Hid (w.heap.size≤wc.heap.size∧wc.heap.size∉iI Q1.aK):=⟨HC.s.s.bel.size,fun hz=>by have h1:=(HC.s.s.own.k.blk _ hz).2;omega⟩
 have HL0:Hid (SaL w X4 gS wc.heap.size g8 S Q1 M x i dst 0 Q1.L):=by
  have h9:=HC.s.up hb4
  have hcn:=HC.cn.up hb4
  refine ⟨h9.s.box,⟨h9.s.own.e,hcn,h9.s.own.k,h9.s.own.l,fun y hy hz=>?_⟩,hP.blk,fun j hj=>?_,h9.s.bel,h9.s.fr,h9.a,h9.z,(hb4.block _ (ig HC.k)).trans HC.k⟩
  ·
   simp only [List.mem_flatMap,List.mem_range] at hz
   obtain ⟨j,hj,hz⟩:=hz
   exact HC.own y hy j hj hz
  unfold Swg.jx
  rw [if_neg (fun h=>absurd h.1 (Nat.not_lt_zero _))]
  exact HA1.l j hj
 have HAM:Hid (iR (lq S.N i x.p x.cl) M):=HC.al
 have HLt:Hid (w.heap.size+1+1<gS∧AdS w wc w.heap.size gS (w.heap.size+1) Q1 x):=⟨HC.s.lt,HC.s.s⟩
 have HnQ:Hid (Q1.nL=S.nL):=HA1.nL
 obtain ⟨gL,hgL⟩:∃ gL,Q1.aL=some ⟨gL,0,none⟩:=by
  obtain ⟨gL,_,e,_⟩:=HL0.own.l.at (show 0<Q1.nL by rw [HnQ.out];omega)
  exact ⟨gL,e⟩
 have HgL:Hid (Q1.aL=some ⟨gL,0,none⟩):=hgL
 clear hP hb4 hgL HLf HGp hnx' c8 HC
 generalize wc.heap.size=gp at *
 have hnL4:S.nL≤4:=by have:=HOk.nl;omega
 go_wp2_with fail
 go_loopw [13] (fun s wr=>∃ (k:Nat) (L:Nat→Lng),k≤S.nL∧s=.int .i64 k∧Hid (SaL w wr gS gp g8 S Q1 M x i dst k L)) (fun s _=>S.nL-(intOf s).toNat)
 case atStart=>exact ⟨0,Q1.L,Nat.zero_le _,rfl,HL0⟩
 clear HL0
 obtain ⟨k,L,hk,rfl,HL⟩:=hrel
 have c0:wr.cell? ⟨w.heap.size,0,none⟩=some (.int .i64 (S.nL:Int)):=by rw [HOk.nl];exact ie HL.a 0
 by_cases hlt:k<S.nL
 ·
  have hlt':(k:Int)<(S.nL:Int):=by omega
  by_cases h1:(k:Int)=(i:Int)
  ·
   have h1':((k:Int) == (i:Int))=true:=by simp [h1]
   have HN2:Hid (SaL w wr gS gp g8 S Q1 M x i dst (k+1) L):=HL.skip (Ac h1 HT.out)
   clear h1
   exact gv
  have h1':((k:Int) == (i:Int))=false:=by simp [h1]
  have c2:wr.cell? ⟨gp,2,none⟩=some (.int .i64 ((kY dst (i:Int) k:Nat):Int)):=ie HL.pk 2
  have hw2:IntKind.i64.wrap (((kY dst (i:Int) k:Nat):Int)+1)=((kY dst (i:Int) k:Nat):Int)+1:=jS _ (by omega) (by have:=yo dst (i:Int) k;have:=HOk.nl;omega)
  have HPB:Hid (wr.heap[gp]?=some (.cells (S.pkt i x (kY dst (i:Int) k)).cells 51 (0,0))):=HL.pk
  by_cases h2:0≤dst
  ·
   by_cases h3:dst=(k:Int)
   ·
    have h3':(dst != (k:Int))=false:=by simp [h3]
    have hb:jj (k:Int) dst (i:Int)=true:=BA h2 h3
    clear h3 h1
    exact fY
   have h3':(dst != (k:Int))=true:=by simp [h3]
   have HN2:Hid (SaL w wr gS gp g8 S Q1 M x i dst (k+1) L):=HL.skip (Ad h2 h3)
   clear h3 h1 HPB c2 hw2
   exact gv
  have hb:jj (k:Int) dst (i:Int)=true:=BC (by have:=HGe.out;omega) h1
  clear h1
  exact fY
 obtain rfl:k=S.nL:=by omega
 have hlt':¬ (S.nL:Int)<(S.nL:Int):=by omega
 have HLd:Hid (∀ j,j<3→wr.cell? ⟨g8,0+j,none⟩=M.cells[j]?):=fun j _=>by rw [Nat.zero_add];exact ie HL.m j
 have HBx:Hid (wr.heap[gS]?=some (.cells Q1.cells 34 (0,0))):=HL.box
 go_wp2_with (first | refine ir rfl 30 3 _ Tryz.underlying30 rfl oC (.tmp 10) rfl g8 0 rfl M.cells rfl HLd.out ?_ | refine iq rfl 30 (.tmp 181) (.tmp 180) rfl gS 10 rfl (.agg M.cells) rfl 3 rfl 34 _ HBx oC (Nat.le_of_ble_eq_true rfl) (by simp [Value.cells,Value.oneCell',Cnt.cells]) ?_)
 intro Y0 hP
 obtain ⟨P,eP⟩:∃ P,({ Q1 with N:=M,L:=L }:Swg)=P:=⟨_,rfl⟩
 obtain ⟨y,ey⟩:∃ y,S.pkt i x (kY dst (i:Int) S.nL)=y:=⟨_,rfl⟩
 have HE:Hid (SaE w wr gS gp S P Q1 x y):=by rw [←eP,←ey];exact ⟨HL.own,HL.box,HL.pk,HL.bel,HL.fr,HL.a,HL.z,HLt.1⟩
 have HAl:Hid (∀ j,j<S.nL→iO (S.jx i dst x S.nL j) (P.L j)):=by rw [←eP];exact HL.al
 have HeP:Hid (({ Q1 with N:=M,L:=L }:Swg)=P):=eP
 have HeY:Hid (S.pkt i x (kY dst (i:Int) S.nL)=y):=ey
 replace hP:Put wr Y0 gS P.cells 34:=hP.cast (by rw [←eP];rfl)
 replace HE:Hid (SaE w Y0 gS gp S P P x y):=HE.put hP
 clear hP HBx HLd eP ey HL c0
 have c8:Y0.cell? ⟨w.heap.size,8,none⟩=some (.int .i64 S.nx):=ie HE.a 8
 have hw8:IntKind.i64.wrap (S.nx+1)=S.nx+1:=jS _ (by have:=HOk.nums.nx;omega) (by have:=HOk.nums.nx;omega)
 have HBx:Hid (Y0.heap[gS]?=some (.cells P.cells 34 (0,0))):=HE.box
 go_wp2_with (refine iq rfl 2 (.tmp 185) (.tmp 184) rfl gS 8 rfl (.int .i64 (S.nx+1)) rfl 1 rfl 34 _ HBx po (Nat.le_of_ble_eq_true rfl) (by simp [Value.cells,Value.oneCell']) ?_)
 intro Y1 hP
 obtain ⟨P1,eP1⟩:∃ P1,({ P with nx:=S.nx+1 }:Swg)=P1:=⟨_,rfl⟩
 replace hP:Put Y0 Y1 gS P1.cells 34:=hP.cast (by rw [←eP1];rfl)
 replace HE:Hid (SaE w Y1 gS gp S P P1 x y):=HE.put hP
 have HeP1:Hid (({ P with nx:=S.nx+1 }:Swg)=P1):=eP1
 clear hP HBx c8 hw8
 have c13:Y1.cell? ⟨gS,13,none⟩=some (.slice P.aK P.nK P.cK):=by
  have h9:=ie HE.box 13
  rw [←eP1] at h9
  exact h9
 clear eP1
 have HLk:Hid (∀ j,j<8→Y1.cell? ⟨gp,0+j,none⟩=(#[.int .i64 y.id,.int .i64 y.inn,.int .i64 y.refs,.int .i64 y.k,.int .i64 y.d,.int .i64 y.s,.int .i64 y.p,.string y.b]:Array Value)[j]?):=fun j hj=>by rw [Nat.zero_add];exact ie HE.pk j
 obtain ⟨g1,c1,Y2,hr,hu,ht,hg⟩:=lH 31 51 _ 8 72 vp Tryz.underlying31 rfl (by decide) (by decide) HE.own.k (by rw [←HeP.out];show Q1.nK≤_;rw [HA1.nK];exact HS.k) HE.bel.size #[.int .i64 y.id,.int .i64 y.inn,.int .i64 y.refs,.int .i64 y.k,.int .i64 y.d,.int .i64 y.s,.int .i64 y.p,.string y.b] rfl (by simp [Value.oneCell'])
 have hkq:gp∉iI P.aK:=by rw [←HeP.out];exact HPk.2
 have HEk:Hid (SaE w Y2 gS gp S { P with aK:=some ⟨g1,0,none⟩,nK:=P.nK+1,cK:=c1,K:=fun j=>if j=P.nK then y else P.K j } P1 x y):=by
  have hE:=HE.out
  have far:∀ {q:Nat} {cs:Array Value} {t:TypeId},Y1.heap[q]?=some (.cells cs t (0,0))→t≠51→Y2.heap[q]?=some (.cells cs t (0,0)):=fun kq hne=>(ht.block _ (ig kq) (hE.own.k.lM (fun e=>hne e.symm) kq)).trans kq
  have hpk:oe (P.nK+1) (fun j=>if j=P.nK then y else P.K j)=oe P.nK P.K++y.cells.toList:=by
   rw [ko,wH (K:=fun j=>if j=P.nK then y else P.K j) (K':=P.K) (fun j hj=>if_neg (by omega)),if_pos rfl]
  exact ⟨hE.own.FG hu ht hpk,far hE.box (by decide),(ht.block _ (ig hE.pk) hkq).trans hE.pk,hE.bel.trans (ht.below hE.bel.size (fun z hz=>(hE.own.k.blk z hz).1)),far hE.fr (by decide),far hE.a (by decide),far hE.z (by decide),hE.lt⟩
 have HBx:Hid (Y2.heap[gS]?=some (.cells P1.cells 34 (0,0))):=HEk.box
 clear hu ht hg HE hkq
 go_wp2_with (first | refine ir rfl 51 8 _ Tryz.underlying51 rfl sM (.tmp 12) rfl gp 0 rfl #[.int .i64 y.id,.int .i64 y.inn,.int .i64 y.refs,.int .i64 y.k,.int .i64 y.d,.int .i64 y.s,.int .i64 y.p,.string y.b] rfl HLk.out ?_ | (at_builtin;refine Lib.wpList_append_run _ rfl _ _ _ _ rfl _ _ rfl rfl _ _ hr ?_) | refine iq rfl 31 (.tmp 191) (.tmp 190) rfl gS 13 rfl (.slice (some ⟨g1,0,none⟩) (P.nK+1) c1) rfl 1 rfl 34 _ HBx BL (Nat.le_of_ble_eq_true rfl) (by simp [Value.cells,Value.oneCell']) ?_)
 intro Y3 hP
 clear c13 HLk hr HBx
 obtain ⟨Q4,eQ4⟩:∃ Q4,({ P with nx:=S.nx+1,aK:=some ⟨g1,0,none⟩,nK:=P.nK+1,cK:=c1,K:=fun j=>if j=P.nK then y else P.K j }:Swg)=Q4:=⟨_,rfl⟩
 replace hP:Put Y2 Y3 gS Q4.cells 34:=hP.cast (by rw [←eQ4,←HeP1.out];rfl)
 have HX9:Hid (SaS w Y3 gS S Q4 x):=by
  have h9:=HEk.put hP
  have h8:=h9.own
  refine ⟨⟨h9.box,h9.fr,?_,h9.bel,HLt.2.le⟩,h9.a,h9.z,h9.lt⟩
  rw [←eQ4]
  exact ⟨h8.e,h8.n,h8.k,h8.l,h8.un⟩
 have HC9:Hid (code=0∧iw S' Q4):=by
  refine ⟨HN.1,?_⟩
  have hA:=HA1.out
  rw [HN.2,←eQ4,←HeP.out,←HeY.out]
  refine ⟨hA.c,hA.now,rfl,hA.nE,hA.e,HAM,by show Q1.nK+1=S.nK+1;rw [hA.nK];rfl,?_,hA.nL,fun j hj=>?_,hA.dr,hA.lst⟩
  ·
   show (fun j=>if j=Q1.nK then S.pkt i x (kY dst (i:Int) S.nL) else Q1.K j)=fun j=>if j=S.nK then S.pkt i x (kY dst (i:Int) S.nL) else S.K j
   rw [hA.nK,hA.k]
   rfl
  have h7:=HAl j hj
  rw [←HeP.out] at h7
  exact h7
 clear hP eQ4 HEk HeP HeP1 HeY HAl HN HAM HA1 HE1 HLt HnQ HgL HPk HGe
 generalize Y3=X at *
 generalize Q4=Q at *
 have HX:=HX9
 have HC:=HC9
 have HLq:Hid (∀ j,j<17→X.cell? ⟨gS,0+j,none⟩=Q.cells[j]?):=fun j _=>by rw [Nat.zero_add];exact ie HX.s.box j
 have HDz:Hid (X.heap[w.heap.size+1+1]?=some (.cells zSw 34 (0,0))):=HX.z
 go_wp2_with (first | refine ir rfl 34 17 _ Tryz.underlying34 rfl iA (.tmp 8) rfl gS 0 rfl Q.cells rfl HLq.out ?_ | refine iq rfl 34 (.tmp 6) (.tmp 192) rfl (w.heap.size+1+1) 0 rfl (.agg Q.cells) rfl 17 rfl 34 _ HDz iA (Nat.le_of_ble_eq_true rfl) (Swg.lF _) ?_)
 exact zw
section
variable {w w' : World} {base base' : Nat} {a : Option Addr} {n : Nat} {f : Nat → Int} {S : List Nat}
end
structure GY where
 g:Nat
 o:Nat
 cur:Array Value
 t:TypeId
 fit:o+5≤cur.size
 n2:t≠2
 n3:t≠27
 B:Nat→Nat→Prop
section
variable {w w' : World} {base top : Nat} {gb : GY} {gD gS : Nat} {X : Rnd}
end
theorem yN (gz oz o' L C:Nat) (w:World) (hL:L≠0) (ho:o'=if C=1 then oz else oz+1) :
  (Instr.slice 27 (.slice (some ⟨gz,oz,none⟩) L C) (some (.int .i64 1)) none none).run Tryz.prog w=.ok (.slice (some ⟨gz,o',none⟩) (L-1) (C-1)) w:=by
 have h1:(1:Int)≤(L:Int):=by omega
 subst ho
 by_cases hC:C=1
 ·
  simp [go_sem,h1,hC]
 simp [go_sem,h1,hC]
open Go.RowKit Go.Shelf
attribute [local go_sem] Oper.semAt_some
section
variable {F : Fence} {n : Nat} {P : Program}
end
attribute [local go_sem] Oper.semAt_some
section
variable {w W1 wr wr' : World} {l base top : Nat} {gb : GY} {gD gS : Nat} {X X' : Rnd}
end
attribute [local go_sem] Oper.semAt_some
def zO (oz c:Nat):Nat:=if c=1 then oz else oz+1
theorem VG.drop {gz oz:Nat} {f:Nat→Value} (h:VG t w base (some ⟨gz,oz,none⟩) n f) (hn:n≠0) (hc:n≤c):VG t w base (some ⟨gz,zO oz c,none⟩) (n-1) (fun i=>f (i+1)):=by
 by_cases h1:n-1=0
 ·
  exact .inl h1
 rcases h with h | ⟨g,o,e,hb,arr,k1,k2,k3⟩
 ·
  exact absurd h hn
 cases e
 unfold zO
 rw [if_neg (by omega)]
 refine .inr ⟨gz,oz+1,rfl,hb,arr,k1,by omega,fun i hi=>?_⟩
 have:=k3 (i+1) (by omega)
 rw [show oz+1+i=oz+(i+1) by omega]
 exact this
theorem rY {x y:Nat} {a b:Array Value} {t':TypeId} (hx:w.heap[x]?=some (.cells a t (0,0))) (hy:w.heap[y]?=some (.cells b t' (0,0))) (hne:t≠t'):x≠y:=by
 rintro rfl
 rw [hx] at hy
 simp at hy
 exact hne hy.2
theorem ui {f:Nat→List Nat}:∀ n,((List.range n).flatMap f).Nodup→∀ i k,i<n→k<n→i≠k→∀ x∈f i,x∉f k
 | 0,_,i,_,hi,_,_=>by omega
 | n+1,h,i,k,hi,hk,hne=>by
  rw [List.range_succ,List.flatMap_append] at h
  simp only [List.flatMap_cons,List.flatMap_nil,List.append_nil] at h
  obtain ⟨h1,h2,h3⟩:=List.nodup_append.1 h
  intro x hx hy
  by_cases ei:i=n
  ·
   subst ei
   exact h3 x (by simp only [List.mem_flatMap,List.mem_range];exact ⟨k,by omega,hy⟩) x hx rfl
  by_cases ek:k=n
  ·
   subst ek
   exact h3 x (by simp only [List.mem_flatMap,List.mem_range];exact ⟨i,by omega,hx⟩) x hy rfl
  exact ui n h1 i k (by omega) (by omega) hne x hx hy
def Swg.lane (S:Swg) (i:Nat) (l:Lng):Swg:={ S with L:=fun k=>if k=i then l else S.L k }
theorem iG.Bt {S:Swg} (ho:iG w base S) (hi:i<S.nL):∃ gL cur,S.aL=some ⟨gL,0,none⟩∧base≤gL∧w.heap[gL]?=some (.cells cur 47 (0,0))∧S.nL*8≤cur.size∧∀ k,k<S.nL→∀ q,q<8→cur[k*8+q]?=(S.L k).cells[q]?:=by
 rcases ho.g.l with e | ⟨gL,e,hb,arr,k1,k2,k3⟩
 ·
  omega
 exact ⟨gL,arr,e,hb,k1,k2,fun k hk q hq=>(k3 (k*8+q) (by omega)).trans (nF S.L k q hq)⟩
def zPk:Pkt:=⟨0,0,0,0,0,0,0,⟨#[]⟩⟩
theorem run_cutLo (gk o n c k:Nat) (w:World) (hk:k<n) (hc:n≤c) :
  (Instr.slice 31 (.slice (some ⟨gk,o,none⟩) n c) (some (.int .i64 (k:Int))) none none).run Tryz.prog w=.ok (.slice (some ⟨gk,o+k*8,none⟩) (n-k) (c-k)) w:=by
 have h1:(k:Int)≤(n:Int):=by omega
 have h2:¬ c-k=0:=by omega
 have h3:(0:Int)≤(k:Int):=by omega
 have h4:(n:Int)≤(c:Int):=by omega
 have h5:¬ c=k:=by omega
 simp [go_sem,h1,h2,h3,h4,h5]
theorem A7 (gk o n c k:Nat) (w:World) (hk:k≤n) (hc:n≤c) :
  (Instr.slice 31 (.slice (some ⟨gk,o,none⟩) n c) none (some (.int .i64 (k:Int))) none).run Tryz.prog w=.ok (.slice (some ⟨gk,o,none⟩) k c) w:=by
 have h1:(k:Int)≤(c:Int):=by omega
 have h3:(0:Int)≤(k:Int):=by omega
 simp [go_sem,h1,h3]
theorem Swg.Ok.wJ {S:Swg} (h:S.Ok) (x:Int):∀ n,n≤S.nL→lS S.L x n≤3000*n
 | 0,_=>Nat.le_refl _
 | n+1,hn=>by
  have ih:=Swg.Ok.wJ h x n (by omega)
  have hl:=h.l n (by omega)
  have hk:=h.k.le
  have ht:=hl.t.le h.k
  have h0:=(hl.z 0 (by omega)).1.le h.k
  have h1:=(hl.z 1 (by omega)).1.le h.k
  have o1:=rh (S.L n).t x (S.L n).nT
  have o2:=rh ((S.L n).uz 0) x ((S.L n).uL 0)
  have o3:=rh ((S.L n).uz 1) x ((S.L n).uL 1)
  have hu:rC (S.L n) x (S.L n).nU=0+occ ((S.L n).uz 0) x ((S.L n).uL 0)+occ ((S.L n).uz 1) x ((S.L n).uL 1):=by rw [hl.u];rfl
  show lS S.L x n+(occ (S.L n).t x (S.L n).nT+rC (S.L n) x (S.L n).nU)≤3000*(n+1)
  rw [hu]
  omega
theorem Swg.Ok.zE {S:Swg} (h:S.Ok) {j:Nat} (hj:j<S.nK):1≤(S.K j).refs∧(S.K j).refs≤3000*S.nL:=by
 obtain ⟨h1,h2⟩:=h.refs j hj
 have:=h.wJ (S.K j).id S.nL (Nat.le_refl _)
 exact ⟨h1,by rw [h2];omega⟩
theorem qM:(Tryz.prog.info? 36).map (·.size)=some 5:=by kernel_rfl
theorem EK (K:Nat→Pkt) (j:Nat):rmK (lf K j) j=rmK K j:=by
 funext i
 unfold rmK lf
 by_cases h:i<j
 ·
  rw [if_pos h,if_pos h,if_neg (by omega)]
 rw [if_neg h,if_neg h,if_neg (by omega)]
theorem sX.vN {l':Lng} {id:Int} (h:sX l l' id) (ha:iO l m):∃ m',sX m m' id∧iO l' m':=by
 rcases h with ⟨h1,h2,rfl,rfl⟩ | ⟨hno,M,x,s,hp,⟨h1,rfl,rfl⟩ | ⟨c,h1,rfl,rfl⟩⟩
 ·
  refine ⟨_,.inl ⟨by rw [ha.nT];exact h1,by rw [ha.st];exact h2,by rw [ha.t],rfl⟩,?_⟩
  unfold Lng.E7
  exact ⟨ha.st,by show m.nT-1=l.nT-1;rw [ha.nT],by show (fun i=>m.t (i+1))=fun i=>l.t (i+1);rw [ha.t],ha.nU,ha.l,ha.z,ha.r⟩
 ·
  obtain ⟨M',hp',hA⟩:=hp.vN ha.r
  exact ⟨_,.inr ⟨by rw [ha.nT,ha.st];exact hno,M',x,s,hp',.inl ⟨h1,rfl,rfl⟩⟩,⟨ha.st,ha.nT,ha.t,ha.nU,ha.l,ha.z,hA⟩⟩
 obtain ⟨M',hp',hA⟩:=hp.vN ha.r
 refine ⟨_,.inr ⟨by rw [ha.nT,ha.st];exact hno,M',x,s,hp',.inr ⟨c,h1,by rw [ha.z],rfl⟩⟩,?_⟩
 unfold Lng.F0
 exact ⟨ha.st,ha.nT,ha.t,ha.nU,by show oY m.uL c (m.uL c-1)=oY l.uL c (l.uL c-1);rw [ha.l],by show tJ m.uz c (fun j=>m.uz c (j+1))=tJ l.uz c (fun j=>l.uz c (j+1));rw [ha.z],hA⟩
def DY (S S':Swg) (i:Nat) (fs:List Pkt):Prop :=
 ∃ l' id,sX (S.L i) l' id ∧
  ((id=0∧S'=S.lane i l'∧fs=[]) ∨
   (id≠0∧∃ j,j<S.nK∧(S.K j).id=id∧fs=[S.K j] ∧
    (((S.K j).refs≠1∧S'={ S.lane i l' with K:=lf S.K j }) ∨
    ((S.K j).refs=1∧S'={ S.lane i l' with nK:=S.nK-1,K:=rmK S.K j,N:=lq S.N (S.K j).inn (S.K j).p (-(S.K j).cl) }))))
def Swg.flip (S:Swg) (i:Nat):Swg:={ S with N:=nC S.C S.N i }
theorem rF.next {S S':Swg} (h:rF S S' i fs):∃ gs,DY (S.flip i) S' i gs∧fs=px S.C S.N i++gs:=by
 obtain ⟨l',id,ht,⟨h0,h1,h2⟩ | ⟨h0,j,hj,hid,hf,hr⟩⟩:=h
 ·
  exact ⟨[],⟨l',id,ht,.inl ⟨h0,h1,rfl⟩⟩,by rw [List.append_nil];exact h2⟩
 exact ⟨[S.K j],⟨l',id,ht,.inr ⟨h0,j,hj,hid,rfl,hr⟩⟩,hf⟩
theorem uc {S P:Swg} (ha:iw S P) (i:Nat) (hl:iO l m):iw (S.lane i l) (P.lane i m):=by
 refine ⟨ha.c,ha.now,ha.nx,ha.nE,ha.e,ha.n,ha.nK,ha.k,ha.nL,fun k hk=>?_,ha.dr,ha.lst⟩
 show iO (if k=i then l else S.L k) (if k=i then m else P.L k)
 split
 ·
  exact hl
 exact ha.l k hk
theorem DY.vN {S S' P:Swg} (h:DY S S' i fs) (hi:i<S.nL) (ha:iw S P):∃ P',DY P P' i fs∧iw S' P':=by
 obtain ⟨l',id,ht,h⟩:=h
 obtain ⟨m',ht',hl⟩:=ht.vN (ha.l i hi)
 have hA:=uc ha i hl
 rcases h with ⟨h0,rfl,rfl⟩ | ⟨h0,j,hj,hid,rfl,⟨hr,rfl⟩ | ⟨hr,rfl⟩⟩
 ·
  exact ⟨_,⟨m',id,ht',.inl ⟨h0,rfl,rfl⟩⟩,hA⟩
 ·
  refine ⟨_,⟨m',id,ht',.inr ⟨h0,j,by rw [ha.nK];exact hj,by rw [ha.k];exact hid,by rw [ha.k],.inl ⟨by rw [ha.k];exact hr,rfl⟩⟩⟩,?_⟩
  exact ⟨hA.c,hA.now,hA.nx,hA.nE,hA.e,hA.n,hA.nK,by show lf P.K j=lf S.K j;rw [ha.k],hA.nL,hA.l,hA.dr,hA.lst⟩
 refine ⟨_,⟨m',id,ht',.inr ⟨h0,j,by rw [ha.nK];exact hj,by rw [ha.k];exact hid,by rw [ha.k],.inr ⟨by rw [ha.k];exact hr,rfl⟩⟩⟩,?_⟩
 refine ⟨hA.c,hA.now,hA.nx,hA.nE,hA.e,?_,by show P.nK-1=S.nK-1;rw [ha.nK],by show rmK P.K j=rmK S.K j;rw [ha.k],hA.nL,hA.l,hA.dr,hA.lst⟩
 show iR (lq S.N (S.K j).inn (S.K j).p (-(S.K j).cl)) (lq P.N (P.K j).inn (P.K j).p (-(P.K j).cl))
 rw [ha.k]
 exact qR ha.n _ _ _
theorem Swg.Ok.flip {S:Swg} (h:S.Ok) (i:Nat):(S.flip i).Ok:=⟨yq i h.n,⟨h.nums.now,h.nums.nx,h.nums.dr,h.nums.lst⟩,h.seen,h.k,h.nl,h.l,h.refs,h.held⟩
theorem yA (t e:TypeId) (z:Value) (sz bytes:Nat) (hinfo:(Tryz.prog.info? e).map (fun i=>(i.zero,i.size,i.bytes))=some (some z,sz,bytes)) (hu:Tryz.prog.underlying t=some (.slice e)) (h:OG e sz W base a0 n0 c0 xs) :
  (Builtin.append_ #[t,t] t #[.slice a0 n0 c0,.slice none 0 c]).run Tryz.prog W=.ok (.slice a0 n0 c0) W:=by
 obtain ⟨i0,hi,hz0,hz1,hz2⟩:=info_parts hinfo
 rcases h.2 with ⟨e1,e2⟩ | ⟨g,cap,cur,e1,_,_,hn,_⟩
 ·
  cases e1
  simp [Builtin.append_,run_underlying hu,sizeOf,typeInfo,hi,Builtin.lenOf,Builtin.firstCells,loadCells,loadCellsFrom]
 cases e1
 simp [Builtin.append_,run_underlying hu,sizeOf,typeInfo,hi,Builtin.lenOf,Builtin.firstCells,loadCells,loadCellsFrom,storeCells,hn]
theorem Az {a:Option Addr} {xs0:List Value} (t e:TypeId) (z:Value) (sz bytes:Nat) (hinfo:(Tryz.prog.info? e).map (fun i=>(i.zero,i.size,i.bytes))=some (some z,sz,bytes)) (hu:Tryz.prog.underlying t=some (.slice e)) (hz:z.cells.size=sz) (hsz:0<sz) (hby:bytes≤1000)
  (h:OG e sz W base a0 n0 c0 xs0) (hb:base≤W.heap.size) (hn:n0+n≤1048576) (hl:xs.length=n*sz) (hr:CC W a xs) (h1:∀ u∈xs,u.oneCell'=true) :
  ∃ a' c' W',(Builtin.append_ #[t,t] t #[.slice a0 n0 c0,.slice a n c]).run Tryz.prog W=.ok (.slice a' (n0+n) c') W'∧OG e sz W' base a' (n0+n) c' (xs0++xs)∧Touch (iI a0) W W'∧((a'=a0∧a0≠none)∨(∃ g,a'=some ⟨g,0,none⟩∧W.heap.size≤g)∨a'=none):=by
 have hbb:(n0+n)*bytes≤140737488355328:=by
  have:=Nat.mul_le_mul (show n0+n≤1048577 by omega) hby
  omega
 obtain ⟨i0,hi,hz0,hz1,hz2⟩:=info_parts hinfo
 cases a with
 | none =>
  have hx:xs=[]:=by
   cases xs with
   | nil=>rfl
   | cons x r =>
    obtain ⟨g,o,ha,_⟩:=hr 0 x rfl
    cases ha
  subst hx
  have hl':n*sz=0:=hl.symm
  have h0:n=0:=(Nat.mul_eq_zero.1 hl').resolve_right (by omega)
  subst h0
  refine ⟨a0,c0,W,yA t e z sz bytes hinfo hu h,by rw [List.append_nil];exact h,Touch.refl _ _,?_⟩
  cases a0 with
  | none=>exact .inr (.inr rfl)
  | some x=>exact .inl ⟨rfl,by simp⟩
 | some ad =>
  obtain ⟨v',W',hr',h2,h3,h4,h5⟩:=run_append_own_at (P:=Tryz.prog) W base t t e i0 z sz bytes hu hi hz0 hz1 hz2 hz hsz (.slice a0 n0 c0) n0 xs0 h ad n c xs hl (fun j u hj=>by
   obtain ⟨g,o,ha,hc⟩:=hr j u hj
   cases ha
   have e0:(⟨g,o,none⟩:Addr).add j=⟨g,o+j,none⟩:=by unfold Addr.add;split <;> simp_all
   rw [e0]
   exact hc) h1 (by unfold maxLen;omega) hbb hb
  have ht:=Touch.sj (v:=.slice a0 n0 c0) h3
  rcases h2.2 with ⟨e1,e2⟩ | ⟨g,cap,cur,e1,_⟩
  ·
   subst e1
   refine ⟨none,0,W',?_,?_,ht,.inr (.inr rfl)⟩
   ·
    rw [hr',←e2]
   rw [←e2] at h2 ⊢;exact h2
  subst e1
  refine ⟨some ⟨g,0,none⟩,cap,W',hr',h2,ht,?_⟩
  rcases h5 with h5 | h5
  ·
   left
   cases a0 with
   | none=>simp [Value.ownBlock] at h5
   | some x =>
    rcases h.2 with ⟨e3,_⟩ | ⟨g2,cap2,cur2,e3,_⟩
    ·
     cases e3
    cases e3
    simp [Value.ownBlock] at h5
    exact ⟨by rw [h5],by simp⟩
  right;left
  simp only [Value.ownBlock,Option.some.injEq] at h5
  exact ⟨g,rfl,by omega⟩
theorem qL {m:Nat} {w2:World} {o:Nat} (hs:cs.size=m) (hc:∀ j,j<m→w.cell? ⟨g,o+j,none⟩=cs[j]?) (hb:Below w.heap.size w w2):∀ j,j<m→w2.cell? ⟨g,o+j,none⟩=cs[j]?:=by
 intro j hj
 have h2:=hc j hj
 have h3:j<cs.size:=by omega
 rw [Array.getElem?_eq_getElem h3] at h2
 exact ((hb.cell (p:=⟨g,o+j,none⟩) (kQ h2)).trans h2).trans (Array.getElem?_eq_getElem h3).symm
theorem yi:(Tryz.prog.info? 36).map (fun i=>(i.zero,i.size,i.bytes))=some (some (.agg #[.int .i64 0,.int .i64 0,.int .i64 0,.int .i64 0,.string ⟨#[]⟩]),5,48):=by kernel_rfl
def tV (n:Nat) (c:Nat→Array Value):List Value:=(List.range n).flatMap fun i=>(c i).toList
theorem xM (n:Nat) (c:Nat→Array Value):tV (n+1) c=tV n c++(c n).toList:=by simp [tV,List.range_succ]
theorem Fw {c c':Nat→Array Value} (h:∀ i,i<n→c i=c' i):tV n c=tV n c':=by
 induction n with
 | zero=>rfl
 | succ n ih=>rw [xM,xM,ih (fun i hi=>h i (by omega)),h n (by omega)]
theorem OG.new (V:World) (t:TypeId) (sz base:Nat) (hb:base≤V.heap.size):OG t sz (V.alloc (.cells #[] t)) base (some ⟨V.heap.size,0,none⟩) 0 0 [] :=
 ⟨by simp,.inr ⟨V.heap.size,0,#[],rfl,hb,im _ _,Nat.le_refl _,Nat.zero_le _,by simp,by simp⟩⟩
def fsF (fs:List Pkt) (i:Nat):Pkt:=(fs[i]?).getD zPk
theorem rF.len {S S':Swg} (h:rF S S' i fs):fs.length≤2:=by
 have ht:(px S.C S.N i).length≤1:=by unfold px;split <;> simp
 obtain ⟨l',id,_,⟨_,_,rfl⟩ | ⟨_,j,_,_,rfl,_⟩⟩:=h
 ·
  omega
 rw [List.length_append];simp;exact ht
def DV (S S':Swg) (port:Int) (fs:List Pkt) (b:Bool):Prop :=
 (b=true∧S.Ok∧∃ i:Nat,port=(i:Int)∧i<S.nL∧rF S S' i fs)∨(b=false∧¬ (S.Ok∧0≤port∧port≤S.C.p-1)∧S'=lY∧fs=[])
theorem CZ (S:Swg) (port:Int):∃ S' fs b,DV S S' port fs b:=by
 by_cases h:S.Ok∧0≤port∧port≤S.C.p-1
 ·
  obtain ⟨i,rfl⟩:∃ i:Nat,port=(i:Int):=⟨port.toNat,by omega⟩
  have hi:i<S.nL:=by have:=h.1.nl;omega
  obtain ⟨S',fs,hm⟩:=EF h.1 hi
  exact ⟨S',fs,true,.inl ⟨rfl,h.1,i,rfl,hi,hm⟩⟩
 exact ⟨_,_,_,.inr ⟨rfl,h,rfl,rfl⟩⟩
