import Derived.Test.YtjaobmbcmjgjgaaGreatDoorA29
import Derived.BigQuiet
import Derived.Deep.QuietTactic
import Derived.Deep.RegionHeld3
import Derived.Laws.BitsAllLaws
import Derived.Laws.BytesArg
import Derived.Laws.MakeOwn
namespace Go.Proofs.YtjaobmbcmjgjgaaGreatDoor
set_option maxRecDepth 100000
set_option maxHeartbeats 8000000
open Go.RowKit
set_option linter.unusedVariables false
set_option linter.unusedSimpArgs false
theorem eO {p:Prop} (h:p:=by
 refine rq1 9 (fun K hK=>?_)
 go_simp
 refine (tf S.C S.N i x.p x.cl _ HOk.out.n (HR.out.n.up HX.out.s.bel) hiU (by have:=HFr.out.cl;omega) (by have:=HFr.out.cl;omega) ok HOB.out).mono ?_
 rintro e XM ⟨M,rfl,oM,hbM,aM⟩
 replace HX:Hid (SaS w XM gS S Q1 x):=HX.out.up hbM
 have hTM:=And.intro HX.out.a HX.out.s.fr
 have HM9:Hid (gV XM w.heap.size M∧(∀ y∈ib M.aU M.nU,V5.heap.size≤y)∧gw (jt (lr S.N i x.p x.cl) ok) M):=⟨oM.mono (by omega),fun y hy=>by have:=(oM.u.blk y hy).1;omega,aM⟩
 replace HG:Hid (XM.heap[g8]?=some (.cells #[.slice none 0 0,.int .i64 0,.slice none 0 0] 39 (0,0))∧w.heap.size≤g8):=⟨(hbM.block _ (fG HG.out.1)).trans HG.out.1,HG.out.2⟩
 clear oM aM hbM
 go_wp2_with fail
 refine hK.out _ _ hTM (fun hHeld=>?_)
 clear hK K
 try simp only [Act.put,PZ]
 refine tQ 10 61 ?_
 refine tQ 11 72 ?_
 refine tQ 12 73 ?_
 exact e8):p:=h
theorem eR {p:Prop} (h:p:=by
 have HLq:Hid (∀ j,j<17→X.cell? ⟨gS,0+j,none⟩=Q.cells[j]?):=fun j _=>by rw [Nat.zero_add];exact fF HX.out.s.box j
 have HDz:Hid (X.heap[w.heap.size+1+1]?=some (.cells zSw 43 (0,0))):=HX.out.z
 go_wp2_with (first | refine fM rfl 43 17 _ Tryz.underlying43 rfl fV (.tmp 8) rfl gS 0 rfl Q.cells rfl HLq.out ?_ | refine fJ rfl 43 (.tmp 6) (.tmp 28) rfl (w.heap.size+1+1) 0 rfl (.agg Q.cells) rfl 17 rfl 43 _ HDz.out fV (Nat.le_of_ble_eq_true rfl) (Swg.mi _) ?_)
 exact wO):p:=h
theorem eT {p:Prop} (h:p:=by
 go_wp2_with (refine fJ rfl 2 (.tmp 122) (.tmp 121) rfl gp 2 rfl (.int .i64 (((kE dst (i:Int) k:Nat):Int)+1)) rfl 1 rfl 94 _ HPB.out iP (Nat.le_of_ble_eq_true rfl) (by simp [Value.cells,Value.oneCell']) ?_)
 intro X5 hP
 exact Cw):p:=h
theorem eX {p:Prop} (h:p:=by
 go_wp2_with (refine fJ rfl 2 (.tmp 88) (.tmp 87) rfl gS 16 rfl (.int .i64 (min 1000000000 (Q1.lst+1))) rfl 1 rfl 43 _ HBx.out iP (Nat.le_of_ble_eq_true rfl) (by simp [Value.cells,Value.oneCell']) ?_)
 intro X9 hP
 exact BG):p:=h
theorem eY {p:Prop} (h:p:=by
 go_wp2_with (refine fJ rfl 2 (.tmp 93) (.tmp 92) rfl gS 15 rfl (.int .i64 (min 1000000000 (Q1.dr+1))) rfl 1 rfl 43 _ HBx.out iP (Nat.le_of_ble_eq_true rfl) (by simp [Value.cells,Value.oneCell']) ?_)
 intro X9 hP
 exact BH):p:=h
theorem eZ {p:Prop} (h:p:=by
 have:S.nx=1000000000:=by
  by_cases h:S.nx=1000000000
  ·
   exact h
  exact absurd ⟨rfl,h⟩ hdrop
 simp [this]):p:=h
theorem e7 {p:Prop} (h:p:=by
 go_wp2_with fail
 go_roundw
 case rel=>exact ⟨k+1,L,by omega,by go_num,HN2⟩
 case measure=>simp [intOf];omega):p:=h
theorem e8 {p:Prop} (h:p:=by
 refine rq1 14 (fun K hK=>?_)
 refine iz (by kernel_rfl) none rfl 39 (.tmp 10) (.tmp 72) rfl g8 0 rfl (.agg M.cells) rfl 3 rfl 39 _ HG.out.1 lY (Nat.le_of_ble_eq_true rfl) (by simp [Value.cells,Value.oneCell',Cnt.cells]) ?_
 intro X9 hP9
 replace hP9:Put _ X9 g8 M.cells 39:=hP9.cast rfl
 exact BF):p:=h
theorem tf (C:Cfg) (N:Cnt) (i:Nat) (prio y:Int) (w:World) (hN:Cnt.Ok C N) (h:jo w N) (hi:i<N.nU) (hy1:-5≤y) (hy2:y≤5) (ok:Bool) (hok:ok=true↔Cnt.Ok C (lr N i prio y)) :
  Calls Tryz.prog 55 #[.agg C.cells,.agg N.cells,.int .i64 (i:Int),.int .i64 prio,.int .i64 y] w fun e w'=>∃ M:Cnt,e=.returned (.tuple #[.agg M.cells,.bool ok])∧gV w' w.heap.size M∧Below w.heap.size w w'∧gw (jt (lr N i prio y) ok) M:=by
 by_cases hp:prio=2
 ·
  subst hp
  rw [pA] at hok ⊢
  exact qH C N i y w hN h hi hy1 hy2 ok hok
 rw [nF hp] at hok ⊢
 exact qI C N i prio hp y w hN h hy1 hy2 ok hok
structure SaS (w W:World) (gS:Nat) (S Q:Swg) (x:Pkt):Prop where
 s:AdS w W w.heap.size gS (w.heap.size+1) Q x
 a:W.heap[w.heap.size]?=some (.cells S.cells 43 (0,0))
 z:W.heap[w.heap.size+1+1]?=some (.cells zSw 43 (0,0))
 lt:w.heap.size+1+1<gS
theorem SaS.up {w W W':World} {gS:Nat} {S Q:Swg} {x:Pkt} (h:SaS w W gS S Q x) (hb:Below W.heap.size W W'):SaS w W' gS S Q x :=
 ⟨h.s.up hb,(hb.block _ (fG h.a)).trans h.a,(hb.block _ (fG h.z)).trans h.z,h.lt⟩
theorem SaS.put {w W W':World} {gS:Nat} {S Q Q':Swg} {x:Pkt} (h:SaS w W gS S Q x) (hP:Put W W' gS Q'.cells 43) (ho:gy W w.heap.size Q'):SaS w W' gS S Q' x :=
 ⟨h.s.put hP ho,(hP.to.block _ (fG h.a) (by have:=h.lt;simp;omega)).trans h.a,(hP.to.block _ (fG h.z) (by have:=h.lt;simp;omega)).trans h.z,h.lt⟩
theorem wO {p:Prop} (h:p:=by
  intro X9 hP
  replace hP:Put X X9 (w.heap.size+1+1) Q.cells 43:=hP.cast rfl
  have HK:Hid (X9.heap[w.heap.size+1+1]?=some (.cells Q.cells 43 (0,0))):=hP.blk
  have HFF:Hid (gy X9 w.heap.size Q∧Below w.heap.size w X9):=⟨HX.out.s.own.off HX.out.z hP.to,HX.out.s.bel.trans (hP.to.below HX.out.s.bel.size (fun y hy=>by simp at hy;omega))⟩
  clear hP
  go_wp2_with fail
  rw [HC.out.1]
  exact bodyPost_ret (kW Tryz.results18 17 _ Tryz.underlying43 rfl fV _ _ (w.heap.size+1+1) Q.cells rfl 43 HK.out rfl _ rfl) rfl ⟨Q,rfl,HC.out.2,HFF.out.1,HFF.out.2⟩):p:=h
structure SaC (w W:World) (gS:Nat) (S Q:Swg) (x:Pkt) (i:Nat) (ok:Bool) (g8:Nat) (M:Cnt):Prop where
 s:SaS w W gS S Q x
 k:W.heap[g8]?=some (.cells M.cells 39 (0,0))
 own:∀ y∈ib M.aU M.nU,∀ j,j<Q.nL→y∉(Q.L j).iJ
 cn:gV W w.heap.size M
 al:gw (jt (lr S.N i x.p x.cl) ok) M
theorem SaS.Ch {w W W':World} {gS g:Nat} {S Q:Swg} {x:Pkt} {cs:Array Value} (h:SaS w W gS S Q x) (hg:W.heap[g]?=some (.cells cs 39 (0,0))) (hto:Touch [g] W W') (hb:w.heap.size≤g):SaS w W' gS S Q x :=
 ⟨h.s.Ch hg rfl hto hb,(hto.block _ (fG h.a) (by simpa using gj h.a hg (by decide))).trans h.a,(hto.block _ (fG h.z) (by simpa using gj h.z hg (by decide))).trans h.z,h.lt⟩
theorem BF {p:Prop} (h:p:=by
  have HN:Hid (SaC w X9 gS S Q1 x i ok g8 M):=by
   refine ⟨HX.out.Ch HG.out.1 hP9.to HG.out.2,hP9.blk,fun y hy j hj hz=>?_,HM9.out.1.Ch HG.out.1 hP9.to,HM9.out.2.2⟩
   have h1:=HM9.out.2.1 y hy
   have h2:=HLo.out j hj y hz
   omega
  have hT9:=And.intro HN.out.s.a HN.out.s.s.fr
  refine hK.out _ _ hT9 (fun hHeld=>?_)
  clear hK K
  try simp only [Act.put,PZ]
  refine tQ 15 11 ?_
  refine dnq ?_
  clear hP9 hT9 hHeld HX HG HM9
  go_wp2_with fail
  go_meet
  case rel=>exact ⟨g8,M,rfl,rfl,HN⟩):p:=h
theorem BG {p:Prop} (h:p:=by
  have eL:Q1.lf x.p={ Q1 with lst:=min 1000000000 (Q1.lst+1) }:=by unfold Swg.lf;rw [if_pos HP2.out,Int.min_comm]
  replace hP:Put wc X9 gS (Q1.lf x.p).cells 43:=hP.cast (by rw [eL];rfl)
  have HX9:Hid (SaS w X9 gS S (Q1.lf x.p) x):=HC.out.s.put hP (HC.out.s.s.own.lf _)
  have HC9:Hid (code=3∧fP S' (Q1.lf x.p)):=⟨HC3.out.1,by rw [HC3.out.2];exact HA1.out.lf _⟩
  clear hP eL c15 c16 c8 c3 HBx HC HA1 HE1 hd1 hd2 w1 w2
  obtain ⟨Q9,eQ9⟩:∃ Q9,Q1.lf x.p=Q9:=⟨_,rfl⟩
  rw [eQ9] at HX9 HC9
  clear eQ9
  generalize X9=X at *
  generalize Q9=Q at *
  have HX:=HX9
  have HC:=HC9
  have HLq:Hid (∀ j,j<17→X.cell? ⟨gS,0+j,none⟩=Q.cells[j]?):=fun j _=>by rw [Nat.zero_add];exact fF HX.out.s.box j
  have HDz:Hid (X.heap[w.heap.size+1+1]?=some (.cells zSw 43 (0,0))):=HX.out.z
  go_wp2_with (first | refine fM rfl 43 17 _ Tryz.underlying43 rfl fV (.tmp 8) rfl gS 0 rfl Q.cells rfl HLq.out ?_ | refine fJ rfl 43 (.tmp 6) (.tmp 94) rfl (w.heap.size+1+1) 0 rfl (.agg Q.cells) rfl 17 rfl 43 _ HDz.out fV (Nat.le_of_ble_eq_true rfl) (Swg.mi _) ?_)
  exact wO):p:=h
theorem BH {p:Prop} (h:p:=by
  have eL:Q1.lf x.p={ Q1 with dr:=min 1000000000 (Q1.dr+1) }:=by unfold Swg.lf;rw [if_neg HP2.out,Int.min_comm]
  replace hP:Put wc X9 gS (Q1.lf x.p).cells 43:=hP.cast (by rw [eL];rfl)
  have HX9:Hid (SaS w X9 gS S (Q1.lf x.p) x):=HC.out.s.put hP (HC.out.s.s.own.lf _)
  have HC9:Hid (code=3∧fP S' (Q1.lf x.p)):=⟨HC3.out.1,by rw [HC3.out.2];exact HA1.out.lf _⟩
  clear hP eL c15 c16 c8 c3 HBx HC HA1 HE1 hd1 hd2 w1 w2
  obtain ⟨Q9,eQ9⟩:∃ Q9,Q1.lf x.p=Q9:=⟨_,rfl⟩
  rw [eQ9] at HX9 HC9
  clear eQ9
  generalize X9=X at *
  generalize Q9=Q at *
  have HX:=HX9
  have HC:=HC9
  have HLq:Hid (∀ j,j<17→X.cell? ⟨gS,0+j,none⟩=Q.cells[j]?):=fun j _=>by rw [Nat.zero_add];exact fF HX.out.s.box j
  have HDz:Hid (X.heap[w.heap.size+1+1]?=some (.cells zSw 43 (0,0))):=HX.out.z
  go_wp2_with (first | refine fM rfl 43 17 _ Tryz.underlying43 rfl fV (.tmp 8) rfl gS 0 rfl Q.cells rfl HLq.out ?_ | refine fJ rfl 43 (.tmp 6) (.tmp 94) rfl (w.heap.size+1+1) 0 rfl (.agg Q.cells) rfl 17 rfl 43 _ HDz.out fV (Nat.le_of_ble_eq_true rfl) (Swg.mi _) ?_)
  exact wO):p:=h
structure SaE (w W:World) (gS gp:Nat) (S P B:Swg) (x y:Pkt):Prop where
 own:gy W w.heap.size P
 box:W.heap[gS]?=some (.cells B.cells 43 (0,0))
 pk:W.heap[gp]?=some (.cells y.cells 94 (0,0))
 bel:Below w.heap.size w W
 fr:W.heap[w.heap.size+1]?=some (.cells x.frc 47 (0,0))
 a:W.heap[w.heap.size]?=some (.cells S.cells 43 (0,0))
 z:W.heap[w.heap.size+1+1]?=some (.cells zSw 43 (0,0))
 lt:w.heap.size+1+1<gS
theorem SaE.put {w W W':World} {gS gp:Nat} {S P B B':Swg} {x y:Pkt} (h:SaE w W gS gp S P B x y) (hP:Put W W' gS B'.cells 43):SaE w W' gS gp S P B' x y :=
 have far:∀ {q:Nat} {cs:Array Value} {t:TypeId},W.heap[q]?=some (.cells cs t (0,0))→q≠gS→W'.heap[q]?=some (.cells cs t (0,0)):=fun k hne=>(hP.to.block _ (fG k) (by simpa using hne)).trans k
 have l:=h.lt
 ⟨h.own.off h.box hP.to,hP.blk,far h.pk (gj h.pk h.box (by decide)),h.bel.trans (hP.to.below h.bel.size (fun q hq=>by simp at hq;omega)),far h.fr (gj h.fr h.box (by decide)),far h.a (by omega),far h.z (by omega),h.lt⟩
theorem An {p:Prop} (h:p:=by
  refine ia (fun w'=>w'.heap[gS]?=some (.cells Q1.cells 43 (0,0))∧w'.heap[gL]?=some (.cells (lay cur (k*8) l.cells) 99 (0,0))∧w'.heap[gp]?=some (.cells y.more.cells 94 (0,0))) 15 (by kernel_rfl) ?_
  have hd:Below X5.heap.size X5 X5.drew:=(Below.refl _ _).drew
  replace HW:Hid (X5.drew.heap[gL]?=some (.cells (lay cur (k*8) l.cells) 99 (0,0))∧X5.drew.heap[gp]?=some (.cells y.more.cells 94 (0,0))∧gg X5.drew w.heap.size l∧Touch [gp] wr X5.drew∧X5.drew.heap.size=wr.heap.size∧X5.drew.heap[gS]?=some (.cells Q1.cells 43 (0,0))∧X5.drew.heap[w.heap.size+1]?=some (.cells x.frc 47 (0,0))) :=
   ⟨(hd.block _ (fG HW.out.1)).trans HW.out.1,(hd.block _ (fG HW.out.2.1)).trans HW.out.2.1,HW.out.2.2.1.up hd,HW.out.2.2.2.1.trans (Touch.gY hd),HW.out.2.2.2.2.1,(hd.block _ (fG HW.out.2.2.2.2.2.1)).trans HW.out.2.2.2.2.2.1,(hd.block _ (fG HW.out.2.2.2.2.2.2)).trans HW.out.2.2.2.2.2.2⟩
  clear hd
  generalize X5.drew=V at *
  have Hcs:Hid (∀ wx:World,wx.heap[gS]?=some (.cells Q1.cells 43 (0,0))∧wx.heap[gL]?=some (.cells (lay cur (k*8) l.cells) 99 (0,0))∧wx.heap[gp]?=some (.cells y.more.cells 94 (0,0))→wx.cell? ⟨gS,14,none⟩=some (.slice (some ⟨gL,0,none⟩) S.nL Q1.cL)∧wx.cell? ⟨gL,k*8+1,none⟩=some (.slice l.aT l.nT l.cT)∧wx.cell? ⟨gp,0,none⟩=some (.int .i64 y.id)) :=
   fun wx h=>⟨by rw [←HgL.out,←HnQ.out];exact fF h.1 14,(fF h.2.1 _).trans (jx (cs:=l.cells) HKL.out.2.1 1 (by show 1<8;omega)),fF h.2.2 0⟩
  have hT0:=And.intro HW.out.2.2.2.2.2.1 (And.intro HW.out.1 HW.out.2.1)
  refine tE 0 126 hT0 ?_
  refine tEX 1 127 hT0 ?_
  refine tE 2 128 hT0 ?_
  refine tE 3 129 hT0 ?_
  refine tEX 4 130 hT0 ?_
  refine tE 5 131 hT0 ?_
  refine tE 6 132 hT0 ?_
  refine tE 7 133 hT0 ?_
  refine tEX 8 134 hT0 ?_
  refine tE 9 135 hT0 ?_
  refine tEX 10 136 hT0 ?_
  obtain ⟨g1,c1,X2,hr1,hoi,ht,hg⟩:=rY HW.out.2.2.1.t HnT.out (by rw [HW.out.2.2.2.2.1];exact HL.out.bel.size) y.id
  have nt:∀ {b:Nat} {cs:Array Value} {t:TypeId},2≠t→V.heap[b]?=some (.cells cs t (0,0))→b∉gi l.aT:=fun hne hb=>OG.k8 (t:=2) (sz:=1) HW.out.2.2.1.t hne hb
  have hT1:(V.alloc (.cells #[.int .i64 y.id] 2)).heap[gS]?=some (.cells Q1.cells 43 (0,0))∧(V.alloc (.cells #[.int .i64 y.id] 2)).heap[gL]?=some (.cells (lay cur (k*8) l.cells) 99 (0,0))∧(V.alloc (.cells #[.int .i64 y.id] 2)).heap[gp]?=some (.cells y.more.cells 94 (0,0)):=⟨(fY _ (fG hT0.1)).trans hT0.1,(fY _ (fG hT0.2.1)).trans hT0.2.1,(fY _ (fG hT0.2.2)).trans hT0.2.2⟩
  have hT2:X2.heap[gS]?=some (.cells Q1.cells 43 (0,0))∧X2.heap[gL]?=some (.cells (lay cur (k*8) l.cells) 99 (0,0))∧X2.heap[gp]?=some (.cells y.more.cells 94 (0,0)):=⟨(ht.block _ (fG hT0.1) (nt (by decide) hT0.1)).trans hT0.1,(ht.block _ (fG hT0.2.1) (nt (by decide) hT0.2.1)).trans hT0.2.1,(ht.block _ (fG hT0.2.2) (nt (by decide) hT0.2.2)).trans hT0.2.2⟩
  have HA:Hid (OI X2 w.heap.size (some ⟨g1,0,none⟩) (l.nT+1) c1 (kY l.nT y.id l.t)∧Touch (gi l.aT) V X2∧(g1∈gi l.aT∨V.heap.size≤g1)):=⟨hoi,ht,hg⟩
  have HR1:Hid ((Builtin.append_ #[25,25] 25 #[.slice l.aT l.nT l.cT,.slice (some ⟨V.heap.size,0,none⟩) 1 1]).run Tryz.prog (V.alloc (.cells #[.int .i64 y.id] 2))=.ok (.slice (some ⟨g1,0,none⟩) (l.nT+1) c1) X2):=hr1
  clear hoi ht hg hr1 nt
  refine fI (rs:=[11]) (by kernel_rfl) (by simp) ?_
  refine fH.cons rfl (fun K hK=>?_) fH.nil
  go_simp
  refine hK.out _ _ hT1 ?_
  clear hK K
  try simp only [Act.put,PZ]
  clear hT1
  refine fI (rs:=[12]) (by kernel_rfl) (by simp) ?_
  refine fH.cons rfl (fun K hK=>?_) fH.nil
  refine jz (by kernel_rfl) (some 138) rfl (.tmp 134) (.tmp 137) 25 _ _ _ rfl rfl rfl rfl HR1.out ?_
  refine hK.out _ _ hT2 ?_
  clear hK K
  try simp only [Act.put,PZ]
  clear HR1 hT0
  refine fI (rs:=[13]) (by kernel_rfl) (by simp) ?_
  refine fH.cons rfl (fun K hK=>?_) fH.nil
  go_simp
  refine hK.out _ _ hT2 ?_
  clear hK K
  try simp only [Act.put,PZ]
  refine tE 14 140 hT2 ?_
  refine fI (rs:=[15]) (by kernel_rfl) (by simp) ?_
  refine fH.last rfl (fun K hK=>?_)
  have hz:(lay cur (k*8) l.cells).size=cur.size:=jc (cs:=l.cells) HKL.out.2.1
  have hkf:=HKL.out.2.1
  refine iz (by kernel_rfl) none rfl 25 (.tmp 140) (.tmp 138) rfl gL (k*8+1) rfl (.slice (some ⟨g1,0,none⟩) (l.nT+1) c1) rfl 1 rfl 99 _ hT2.2.1 wh (by omega) (by simp [Value.cells,Value.oneCell']) ?_
  intro X3 hP
  refine hK.out _ _ ?_
  clear hK K
  try simp only [Act.put,PZ]
  refine gx (by kernel_rfl) ?_ _
  have eL:lay (lay cur (k*8) l.cells) (k*8+1) #[.slice (some ⟨g1,0,none⟩) (l.nT+1) c1]=lay cur (k*8) (l.lP y.id (some ⟨g1,0,none⟩) c1).cells:=by
   rw [←Dz l y.id]
   exact mW (a:=l.cells) HKL.out.2.1 (by show 1+1≤8;omega)
  replace hP:Put X2 X3 gL (lay cur (k*8) (l.lP y.id (some ⟨g1,0,none⟩) c1).cells) 99:=hP.cast eL
  have hne:gL≠gp:=gj hT2.2.1 hT2.2.2 (by decide)
  have HN2:Hid (SaL w X3 gS gp g8 S Q1 M x i dst (k+1) (fun j=>if j=k then l.lP y.id (some ⟨g1,0,none⟩) c1 else L j)):=by
   have zV:=HW.out.2.2.2.2.1
   have q1:=HW.out.2.2.1.lP HA.out.1 HA.out.2.1 HA.out.2.2
   refine HL.out.next hb hlt HnQ.out HgL.out HPk.out.1 HPk.out.2 HKL.out.2.2 (by rw [HY.out];exact (hP.to.block gp (fG hT2.2.2) (by simpa using fun e=>hne e.symm)).trans hT2.2.2) (by rw [Hel.out];have q:=vM (l:=l) (id:=y.id) (cl:=x.cl) HP2.out (some ⟨g1,0,none⟩) c1;rw [HYi.out] at q ⊢;exact q) ?_
   rw [Hel.out]
   refine ⟨hP.blk,q1.box hT2.2.1 (by decide) (by decide) hP.to,?_,fun x hx=>.inl hx,gp :: gL :: gi l.aT,?_,fun x hx=>?_⟩
   ·
    have q2:=x6 (l:=l) (id:=y.id) (c:=c1) HA.out.2.2
    rw [zV] at q2
    exact q2
   ·
    exact ((HW.out.2.2.2.1.mono (fun x hx=>by simp at hx;simp [hx])).trans (HA.out.2.1.mono (fun x hx=>by simp [hx]))).trans (hP.to.mono (fun x hx=>by simp at hx;simp [hx]))
   simp only [List.mem_cons] at hx
   rcases hx with e | e | e
   ·
    exact .inr (.inl e)
   ·
    exact .inl e
   exact .inr (.inr (.inl (gg.inT e)))
  clear hP eL hT2 HA HW hz hkf hne HL HKL Hal Hcs HPB
  go_wp2_with fail
  go_roundw
  case rel=>exact ⟨k+1,_,by omega,by go_num,HN2⟩
  case measure=>simp [intOf];omega):p:=h
theorem BI {p:Prop} (h:p:=by
  obtain ⟨gu,ucur,eU,kU,zU,cU⟩:=HW.out.2.2.1.u.at0 (by omega)
  refine ia (fun w'=>w'.heap[gS]?=some (.cells Q1.cells 43 (0,0))∧w'.heap[gL]?=some (.cells (lay cur (k*8) l.cells) 99 (0,0))∧w'.heap[gu]?=some (.cells ucur 25 (0,0))∧w'.heap[gp]?=some (.cells y.more.cells 94 (0,0))∧w'.heap[w.heap.size+1]?=some (.cells x.frc 47 (0,0))) 23 (by kernel_rfl) ?_
  have hd:Below X5.heap.size X5 X5.drew:=(Below.refl _ _).drew
  replace HW:Hid (X5.drew.heap[gL]?=some (.cells (lay cur (k*8) l.cells) 99 (0,0))∧X5.drew.heap[gp]?=some (.cells y.more.cells 94 (0,0))∧gg X5.drew w.heap.size l∧Touch [gp] wr X5.drew∧X5.drew.heap.size=wr.heap.size∧X5.drew.heap[gS]?=some (.cells Q1.cells 43 (0,0))∧X5.drew.heap[w.heap.size+1]?=some (.cells x.frc 47 (0,0))) :=
   ⟨(hd.block _ (fG HW.out.1)).trans HW.out.1,(hd.block _ (fG HW.out.2.1)).trans HW.out.2.1,HW.out.2.2.1.up hd,HW.out.2.2.2.1.trans (Touch.gY hd),HW.out.2.2.2.2.1,(hd.block _ (fG HW.out.2.2.2.2.2.1)).trans HW.out.2.2.2.2.2.1,(hd.block _ (fG HW.out.2.2.2.2.2.2)).trans HW.out.2.2.2.2.2.2⟩
  have HU:Hid (l.aU=some ⟨gu,0,none⟩∧l.nU*1≤ucur.size∧X5.drew.heap[gu]?=some (.cells ucur 25 (0,0))):=⟨eU,zU,(hd.block _ (fG kU)).trans kU⟩
  clear hd kU zU
  generalize X5.drew=V at *
  have Hcs:Hid (∀ wx:World,wx.heap[gS]?=some (.cells Q1.cells 43 (0,0))∧wx.heap[gL]?=some (.cells (lay cur (k*8) l.cells) 99 (0,0))∧wx.heap[gu]?=some (.cells ucur 25 (0,0))∧wx.heap[gp]?=some (.cells y.more.cells 94 (0,0))∧wx.heap[w.heap.size+1]?=some (.cells x.frc 47 (0,0))→wx.cell? ⟨gS,14,none⟩=some (.slice (some ⟨gL,0,none⟩) S.nL Q1.cL)∧wx.cell? ⟨gL,k*8+2,none⟩=some (.slice (some ⟨gu,0,none⟩) l.nU l.cU)∧wx.cell? ⟨gu,c,none⟩=some (.slice (l.uA c) (l.uL c) (l.uC c))∧wx.cell? ⟨gp,0,none⟩=some (.int .i64 y.id)∧wx.cell? ⟨w.heap.size+1,3,none⟩=some (.int .i64 (c:Int))) :=
   fun wx h=>⟨by rw [←HgL.out,←HnQ.out];exact fF h.1 14,by rw [←eU];exact (fF h.2.1 _).trans (jx (cs:=l.cells) HKL.out.2.1 2 (by show 2<8;omega)),(fF h.2.2.1 _).trans ((cU c (by omega)).trans (mN _ _ _ _ _ hcU)),fF h.2.2.2.1 0,by rw [←HCc.out.1];exact fF h.2.2.2.2 3⟩
  clear eU cU
  have hT0:=And.intro HW.out.2.2.2.2.2.1 (And.intro HW.out.1 (And.intro HU.out.2.2 (And.intro HW.out.2.1 HW.out.2.2.2.2.2.2)))
  refine tE 0 141 hT0 ?_
  refine tEX 1 142 hT0 ?_
  refine tE 2 143 hT0 ?_
  refine tE 3 144 hT0 ?_
  refine tE 4 145 hT0 ?_
  refine tEX 5 146 hT0 ?_
  refine tE 6 147 hT0 ?_
  refine tEX 7 148 hT0 ?_
  refine tE 8 149 hT0 ?_
  refine tEX 9 150 hT0 ?_
  refine tE 10 151 hT0 ?_
  refine tE 11 152 hT0 ?_
  refine tE 12 153 hT0 ?_
  refine tEX 13 154 hT0 ?_
  refine tE 14 155 hT0 ?_
  refine tEX 15 156 hT0 ?_
  refine tE 16 157 hT0 ?_
  refine tEX 17 158 hT0 ?_
  refine tE 18 159 hT0 ?_
  refine tEX 19 160 hT0 ?_
  obtain ⟨g1,c1,X2,hr1,hoi,ht,hg⟩:=rY (HW.out.2.2.1.z c hcU) HuL.out (by rw [HW.out.2.2.2.2.1];exact HL.out.bel.size) y.id
  have nt:∀ {b:Nat} {cs:Array Value} {t:TypeId},2≠t→V.heap[b]?=some (.cells cs t (0,0))→b∉gi (l.uA c):=fun hne hb=>OG.k8 (t:=2) (sz:=1) (HW.out.2.2.1.z c hcU) hne hb
  have hT1:(V.alloc (.cells #[.int .i64 y.id] 2)).heap[gS]?=some (.cells Q1.cells 43 (0,0))∧(V.alloc (.cells #[.int .i64 y.id] 2)).heap[gL]?=some (.cells (lay cur (k*8) l.cells) 99 (0,0))∧(V.alloc (.cells #[.int .i64 y.id] 2)).heap[gu]?=some (.cells ucur 25 (0,0))∧(V.alloc (.cells #[.int .i64 y.id] 2)).heap[gp]?=some (.cells y.more.cells 94 (0,0))∧(V.alloc (.cells #[.int .i64 y.id] 2)).heap[w.heap.size+1]?=some (.cells x.frc 47 (0,0)):=⟨(fY _ (fG hT0.1)).trans hT0.1,(fY _ (fG hT0.2.1)).trans hT0.2.1,(fY _ (fG hT0.2.2.1)).trans hT0.2.2.1,(fY _ (fG hT0.2.2.2.1)).trans hT0.2.2.2.1,(fY _ (fG hT0.2.2.2.2)).trans hT0.2.2.2.2⟩
  have hT2:X2.heap[gS]?=some (.cells Q1.cells 43 (0,0))∧X2.heap[gL]?=some (.cells (lay cur (k*8) l.cells) 99 (0,0))∧X2.heap[gu]?=some (.cells ucur 25 (0,0))∧X2.heap[gp]?=some (.cells y.more.cells 94 (0,0))∧X2.heap[w.heap.size+1]?=some (.cells x.frc 47 (0,0)):=⟨(ht.block _ (fG hT0.1) (nt (by decide) hT0.1)).trans hT0.1,(ht.block _ (fG hT0.2.1) (nt (by decide) hT0.2.1)).trans hT0.2.1,(ht.block _ (fG hT0.2.2.1) (nt (by decide) hT0.2.2.1)).trans hT0.2.2.1,(ht.block _ (fG hT0.2.2.2.1) (nt (by decide) hT0.2.2.2.1)).trans hT0.2.2.2.1,(ht.block _ (fG hT0.2.2.2.2) (nt (by decide) hT0.2.2.2.2)).trans hT0.2.2.2.2⟩
  have HA:Hid (OI X2 w.heap.size (some ⟨g1,0,none⟩) (l.uL c+1) c1 (kY (l.uL c) y.id (l.uz c))∧Touch (gi (l.uA c)) V X2∧(g1∈gi (l.uA c)∨V.heap.size≤g1)):=⟨hoi,ht,hg⟩
  have HR1:Hid ((Builtin.append_ #[25,25] 25 #[.slice (l.uA c) (l.uL c) (l.uC c),.slice (some ⟨V.heap.size,0,none⟩) 1 1]).run Tryz.prog (V.alloc (.cells #[.int .i64 y.id] 2))=.ok (.slice (some ⟨g1,0,none⟩) (l.uL c+1) c1) X2):=hr1
  clear hoi ht hg hr1 nt
  refine fI (rs:=[20]) (by kernel_rfl) (by simp) ?_
  refine fH.cons rfl (fun K hK=>?_) fH.nil
  go_simp
  refine hK.out _ _ hT1 ?_
  clear hK K
  try simp only [Act.put,PZ]
  clear hT1
  refine fI (rs:=[21]) (by kernel_rfl) (by simp) ?_
  refine fH.cons rfl (fun K hK=>?_) fH.nil
  refine jz (by kernel_rfl) (some 162) rfl (.tmp 158) (.tmp 161) 25 _ _ _ rfl rfl rfl rfl HR1.out ?_
  refine hK.out _ _ hT2 ?_
  clear hK K
  try simp only [Act.put,PZ]
  clear HR1 hT0
  refine tE 22 163 hT2 ?_
  refine fI (rs:=[23]) (by kernel_rfl) (by simp) ?_
  refine fH.last rfl (fun K hK=>?_)
  refine iz (by kernel_rfl) none rfl 25 (.tmp 163) (.tmp 162) rfl gu c rfl (.slice (some ⟨g1,0,none⟩) (l.uL c+1) c1) rfl 1 rfl 25 _ hT2.2.2.1 wh (by have:=HU.out.2.1;omega) (by simp [Value.cells,Value.oneCell']) ?_
  intro X3 hP
  refine hK.out _ _ ?_
  clear hK K
  try simp only [Act.put,PZ]
  refine gx (by kernel_rfl) ?_ _
  have far:∀ {y:Nat} {cs:Array Value} {t:TypeId},X2.heap[y]?=some (.cells cs t (0,0))→t≠25→X3.heap[y]?=some (.cells cs t (0,0)):=fun ky hne=>(hP.to.block _ (fG ky) (by simpa using gj ky hT2.2.2.1 hne)).trans ky
  have HW3:Hid (X3.heap[gL]?=some (.cells (lay cur (k*8) l.cells) 99 (0,0))∧X3.heap[gp]?=some (.cells y.more.cells 94 (0,0))∧gg X3 w.heap.size (l.jH c y.id (some ⟨g1,0,none⟩) c1)∧Touch (gp :: gu :: gi (l.uA c)) wr X3∧wr.heap.size≤X3.heap.size∧X3.heap[gS]?=some (.cells Q1.cells 43 (0,0))∧X3.heap[w.heap.size+1]?=some (.cells x.frc 47 (0,0))):=by
   have tt:Touch (gp :: gu :: gi (l.uA c)) wr X3:=((HW.out.2.2.2.1.mono (fun x hx=>by simp at hx;simp [hx])).trans (HA.out.2.1.mono (fun x hx=>by simp [hx]))).trans (hP.to.mono (fun x hx=>by simp at hx;simp [hx]))
   exact ⟨far hT2.2.1 (by decide),far hT2.2.2.2.1 (by decide),HW.out.2.2.1.jH hcU HU.out.1 HA.out.1 HA.out.2.1 HA.out.2.2 hT2.2.2.1 hP,tt,tt.size,far hT2.1 (by decide),far hT2.2.2.2.2 (by decide)⟩
  have HZ3:Hid ((∀ x∈(l.jH c y.id (some ⟨g1,0,none⟩) c1).iJ,x∈l.iJ∨wr.heap.size≤x)∧gu∈l.mL):=by
   refine ⟨?_,List.mem_append_left _ (by rw [HU.out.1];simp [gi])⟩
   have q2:=yi (l:=l) (id:=y.id) (c:=c1) hcU HA.out.2.2
   rw [HW.out.2.2.2.2.1] at q2
   exact q2
  clear hP hT2 HA HW HU Hcs far
  go_wp2_with fail
  refine ia (fun w'=>w'.heap[gS]?=some (.cells Q1.cells 43 (0,0))∧w'.heap[gL]?=some (.cells (lay cur (k*8) l.cells) 99 (0,0))∧w'.heap[w.heap.size+1]?=some (.cells x.frc 47 (0,0))) 16 (by kernel_rfl) ?_
  have hd:Below X3.heap.size X3 X3.drew:=(Below.refl _ _).drew
  replace HW3:Hid (X3.drew.heap[gL]?=some (.cells (lay cur (k*8) l.cells) 99 (0,0))∧X3.drew.heap[gp]?=some (.cells y.more.cells 94 (0,0))∧gg X3.drew w.heap.size (l.jH c y.id (some ⟨g1,0,none⟩) c1)∧Touch (gp :: gu :: gi (l.uA c)) wr X3.drew∧wr.heap.size≤X3.drew.heap.size∧X3.drew.heap[gS]?=some (.cells Q1.cells 43 (0,0))∧X3.drew.heap[w.heap.size+1]?=some (.cells x.frc 47 (0,0))) :=
   ⟨(hd.block _ (fG HW3.out.1)).trans HW3.out.1,(hd.block _ (fG HW3.out.2.1)).trans HW3.out.2.1,HW3.out.2.2.1.up hd,HW3.out.2.2.2.1.trans (Touch.gY hd),Nat.le_trans HW3.out.2.2.2.2.1 hd.size,(hd.block _ (fG HW3.out.2.2.2.2.2.1)).trans HW3.out.2.2.2.2.2.1,(hd.block _ (fG HW3.out.2.2.2.2.2.2)).trans HW3.out.2.2.2.2.2.2⟩
  clear hd
  generalize X3.drew=V3 at *
  have Hcs:Hid (∀ wx:World,wx.heap[gS]?=some (.cells Q1.cells 43 (0,0))∧wx.heap[gL]?=some (.cells (lay cur (k*8) l.cells) 99 (0,0))∧wx.heap[w.heap.size+1]?=some (.cells x.frc 47 (0,0))→wx.cell? ⟨gS,14,none⟩=some (.slice (some ⟨gL,0,none⟩) S.nL Q1.cL)∧wx.cell? ⟨w.heap.size+1,3,none⟩=some (.int .i64 (c:Int))) :=
   fun wx h=>⟨by rw [←HgL.out,←HnQ.out];exact fF h.1 14,by rw [←HCc.out.1];exact fF h.2.2 3⟩
  have hT0:=And.intro HW3.out.2.2.2.2.2.1 (And.intro HW3.out.1 HW3.out.2.2.2.2.2.2)
  refine tE 0 164 hT0 ?_
  refine tEX 1 165 hT0 ?_
  refine tE 2 166 hT0 ?_
  refine tE 3 167 hT0 ?_
  refine tEX 4 168 hT0 ?_
  refine tE 5 169 hT0 ?_
  refine tE 6 170 hT0 ?_
  refine tE 7 171 hT0 ?_
  refine j3 (i:=8) (some 172) (v:=.agg l.R.cells) (fun wx hSw=>gO 97 5 _ Tryz.underlying97 rfl pn (.tmp 171) rfl gL (k*8+3) rfl l.R.cells rfl (fun j hj=>by
   rw [Nat.add_assoc,fF hSw.2.1]
   rw [jx (cs:=l.cells) HKL.out.2.1 (3+j) (by show 3+j<8;omega)]
   rcases j with _ | _ | _ | _ | _ | j
   ·
    rfl
   ·
    rfl
   ·
    rfl
   ·
    rfl
   ·
    rfl
   ·
    omega)) hT0 ?_
  try simp only [Act.put,PZ]
  refine tE 9 173 hT0 ?_
  refine tEX 10 174 hT0 ?_
  refine j3 (i:=11) (some 175) (v:=.agg x.frc) (fun wx hSw=>gO 47 5 _ Tryz.underlying47 rfl ix (.tmp 5) rfl (w.heap.size+1) 0 rfl x.frc rfl (lM hSw.2.2)) hT0 ?_
  try simp only [Act.put,PZ]
  refine fI (rs:=[12]) (by kernel_rfl) (by simp) ?_
  refine fH.cons rfl (fun K hK=>?_) fH.nil
  go_simp
  unfold Pkt.frc
  refine (iq x.k x.d x.s x.p x.b _ HFr.out.le).mono ?_
  rintro e Y4 ⟨rfl,hb4⟩
  have eCl:(((x.b.size:Int)+9+9) / 10)=x.cl:=rfl
  rw [eCl]
  clear eCl
  have HB4:Hid (Below V3.heap.size V3 Y4):=hb4
  have hT4:Y4.heap[gS]?=some (.cells Q1.cells 43 (0,0))∧Y4.heap[gL]?=some (.cells (lay cur (k*8) l.cells) 99 (0,0))∧Y4.heap[w.heap.size+1]?=some (.cells x.frc 47 (0,0)):=⟨(hb4.block _ (fG hT0.1)).trans hT0.1,(hb4.block _ (fG hT0.2.1)).trans hT0.2.1,(hb4.block _ (fG hT0.2.2)).trans hT0.2.2⟩
  clear hb4 hT0
  go_wp2_with fail
  refine hK.out _ _ hT4 ?_
  clear hK K
  try simp only [Act.put,PZ]
  refine fI (rs:=[13]) (by kernel_rfl) (by simp) ?_
  refine fH.cons rfl (fun K hK=>?_) fH.nil
  go_simp
  refine (yM l.R c x.cl _ HRs.out.1 (HW3.out.2.2.1.g.rd.r.up HB4.out) HRs.out.2.1 HRs.out.2.2).mono ?_
  rintro e Y5 ⟨R5,rfl,oR,hb5,aR⟩
  have HAl:Hid (Alike (l.R.push c x.cl none 0) R5):=aR
  have hT5:Y5.heap[gS]?=some (.cells Q1.cells 43 (0,0))∧Y5.heap[gL]?=some (.cells (lay cur (k*8) l.cells) 99 (0,0))∧Y5.heap[w.heap.size+1]?=some (.cells x.frc 47 (0,0)):=⟨(hb5.block _ (fG hT4.1)).trans hT4.1,(hb5.block _ (fG hT4.2.1)).trans hT4.2.1,(hb5.block _ (fG hT4.2.2)).trans hT4.2.2⟩
  have HP5:Hid (Y5.heap[gp]?=some (.cells y.more.cells 94 (0,0))):=by
   have bb:=HB4.out.trans (hb5.mono HB4.out.size)
   exact (bb.block _ (fG HW3.out.2.1)).trans HW3.out.2.1
  have HW5:Hid (gg Y5 w.heap.size { l.jH c y.id (some ⟨g1,0,none⟩) c1 with R:=R5 }∧(∀ x∈({ l.jH c y.id (some ⟨g1,0,none⟩) c1 with R:=R5 }:Lng).iJ,x∈l.iJ∨wr.heap.size≤x)∧(∀ x∈({ l.jH c y.id (some ⟨g1,0,none⟩) c1 with R:=R5 }:Lng).mL,x∈l.mL∨wr.heap.size≤x)∧Touch (gp :: gu :: gi (l.uA c)) wr Y5∧∀ x∈gp :: gL :: gu :: gi (l.uA c),x=gL∨x=gp∨x∈l.iJ∨x∈l.mL):=by
   obtain ⟨_,_,q3,q4,q5,_,_⟩:=HW3.out
   obtain ⟨q6,q7⟩:=HZ3.out
   have bb:=HB4.out.trans (hb5.mono HB4.out.size)
   have z4:V3.heap.size≤Y4.heap.size:=HB4.out.size
   refine ⟨q3.BN bb z4 (Nat.le_trans HL.out.bel.size q5) oR,fun x hx=>?_,fun x hx=>?_,q4.trans (Touch.gY bb),fun x hx=>?_⟩
   ·
    rcases A9 (w:=V3) (base:=w.heap.size) oR z4 x hx with e | e
    ·
     exact q6 x e
    exact .inr (Nat.le_trans q5 e)
   ·
    rcases Ba (w:=V3) (base:=w.heap.size) oR z4 x hx with e | e
    ·
     exact .inl e
    exact .inr (Nat.le_trans q5 e)
   simp only [List.mem_cons] at hx
   rcases hx with e | e | e | e
   ·
    exact .inr (.inl e)
   ·
    exact .inl e
   ·
    exact .inr (.inr (.inr (e▸q7)))
   exact .inr (.inr (.inl (gg.inU hcU e)))
  clear oR aR hb5 hT4 HB4 HW3 HZ3
  go_wp2_with fail
  refine hK.out _ _ hT5 ?_
  clear hK K
  try simp only [Act.put,PZ]
  have hz:(lay cur (k*8) l.cells).size=cur.size:=jc (cs:=l.cells) HKL.out.2.1
  have hkf:=HKL.out.2.1
  refine fI (rs:=[14]) (by kernel_rfl) (by simp) ?_
  refine fH.cons rfl (fun K hK=>?_) fH.nil
  go_simp
  refine hK.out _ _ hT5 ?_
  clear hK K
  try simp only [Act.put,PZ]
  refine tE 15 179 hT5 ?_
  refine fI (rs:=[16]) (by kernel_rfl) (by simp) ?_
  refine fH.last rfl (fun K hK=>?_)
  refine iz (by kernel_rfl) none rfl 97 (.tmp 179) (.tmp 177) rfl gL (k*8+3) rfl (.agg R5.cells) rfl 5 rfl 99 _ hT5.2.1 pn (by omega) (by simp [Value.cells,Value.oneCell',Rnd.cells]) ?_
  intro X6 hP
  refine hK.out _ _ ?_
  clear hK K
  try simp only [Act.put,PZ]
  refine gx (by kernel_rfl) ?_ _
  have eL:lay (lay cur (k*8) l.cells) (k*8+3) R5.cells=lay cur (k*8) ({ l.jH c y.id (some ⟨g1,0,none⟩) c1 with R:=R5 }:Lng).cells:=by
   rw [←DA]
   exact mW (a:=l.cells) HKL.out.2.1 (by show 3+5≤8;omega)
  replace hP:Put Y5 X6 gL (lay cur (k*8) ({ l.jH c y.id (some ⟨g1,0,none⟩) c1 with R:=R5 }:Lng).cells) 99:=hP.cast eL
  have hne:gL≠gp:=gj hT5.2.1 HP5.out (by decide)
  have HN2:Hid (SaL w X6 gS gp g8 S Q1 M x i dst (k+1) (fun j=>if j=k then { l.jH c y.id (some ⟨g1,0,none⟩) c1 with R:=R5 } else L j)):=by
   obtain ⟨q1,q2,q3,q4,q5⟩:=HW5.out
   refine HL.out.next hb hlt HnQ.out HgL.out HPk.out.1 HPk.out.2 HKL.out.2.2 (by rw [HY.out];exact (hP.to.block gp (fG HP5.out) (by simpa using fun e=>hne e.symm)).trans HP5.out) (by rw [Hel.out];have q:=vN (l:=l) (id:=y.id) HCc.out.1 HCc.out.2 (some ⟨g1,0,none⟩) c1 HAl.out;rw [HYi.out] at q ⊢;exact q) ?_
   rw [Hel.out]
   refine ⟨hP.blk,q1.box hT5.2.1 (by decide) (by decide) hP.to,q2,q3,gp :: gL :: gu :: gi (l.uA c),(q4.mono (fun x hx=>?_)).trans (hP.to.mono (fun x hx=>by simp at hx;simp [hx])),q5⟩
   simp only [List.mem_cons] at hx ⊢
   rcases hx with e | e | e
   ·
    exact .inl e
   ·
    exact .inr (.inr (.inl e))
   exact .inr (.inr (.inr e))
  clear hP eL hT5 HW5 hz hkf hne HL HKL Hal Hcs HPB
  go_wp2_with fail
  go_roundw
  case rel =>
   repeat apply Exists.intro
   refine ⟨?_,rfl⟩
   exact ⟨k+1,_,by omega,by go_num,HN2⟩
  case measure=>simp [intOf];omega):p:=h
theorem Cw {p:Prop} (h:p:=by
  obtain ⟨y,ey⟩:∃ y,S.pkt i x (kE dst (i:Int) k)=y:=⟨_,rfl⟩
  have HY:Hid (S.pkt i x (kE dst (i:Int) k)=y):=ey
  have HYi:Hid (y.id=S.nx):=by rw [←ey];rfl
  have HO3:Hid (iV wr w.heap.size (some ⟨gL,0,none⟩) Q1.nL Q1.cL L):=by
   have h8:iV wr w.heap.size Q1.aL Q1.nL Q1.cL L:=HL.out.own.l
   rw [HgL.out] at h8
   exact h8
  obtain ⟨gL',cur,eg,hgb,kL,zL,lL,_⟩:=HO3.out.at (by rw [HnQ.out];omega)
  cases eg
  have hkQ:k<Q1.nL:=by rw [HnQ.out];exact hlt
  have Hal:Hid (gk (S.L k) (L k)):=by
   have h9:=HL.out.al k hlt
   unfold Swg.iO at h9
   rw [if_neg (fun h=>absurd h.1 (Nat.lt_irrefl _))] at h9
   exact h9
  have hol:=HO3.out.ls k hkQ
  have hll:=lL k hkQ
  obtain ⟨l,el⟩:∃ l,L k=l:=⟨_,rfl⟩
  have Hel:Hid (L k=l):=el
  have HKL:Hid (wr.heap[gL]?=some (.cells (lay cur (k*8) l.cells) 99 (0,0))∧k*8+8≤cur.size∧wr.heap[gL]?=some (.cells cur 99 (0,0))):=⟨by rw [←el,hll];exact kL,by omega,kL⟩
  rw [el] at hol Hal
  replace hP:Put wr X5 gp y.more.cells 94:=hP.cast (by rw [←ey];rfl)
  have far:∀ {y:Nat} {cs:Array Value} {t:TypeId},wr.heap[y]?=some (.cells cs t (0,0))→t≠94→X5.heap[y]?=some (.cells cs t (0,0)):=fun ky hne=>(hP.to.block _ (fG ky) (by simpa using gj ky HPB.out hne)).trans ky
  have HW:Hid (X5.heap[gL]?=some (.cells (lay cur (k*8) l.cells) 99 (0,0))∧X5.heap[gp]?=some (.cells y.more.cells 94 (0,0))∧gg X5 w.heap.size l∧Touch [gp] wr X5∧X5.heap.size=wr.heap.size∧X5.heap[gS]?=some (.cells Q1.cells 43 (0,0))∧X5.heap[w.heap.size+1]?=some (.cells x.frc 47 (0,0))):=⟨far HKL.out.1 (by decide),hP.blk,hol.box HPB.out (by decide) (by decide) hP.to,hP.to,hP.size,far HL.out.box (by decide),far HL.out.fr (by decide)⟩
  have c3:X5.cell? ⟨w.heap.size+1,3,none⟩=some (.int .i64 x.p):=fF HW.out.2.2.2.2.2.2 3
  clear hP far hol hll kL zL lL hgb el ey c2 hw2 c0 HO3
  by_cases hp2:x.p=2
  ·
   have HP2:Hid (x.p=2):=hp2
   have hp':(x.p == 2)=true:=by simp [hp2]
   have HnT:Hid (l.nT≤1048576):=by have h9:=(HOk.out.l k hlt).t.le HOk.out.k;have:=HOk.out.k.le;have e:=Hal.out.nT;rw [Hid];omega
   clear hp2
   go_wp2_with fail
   clear c3 hp'
   exact An
  ·
   have hp':(x.p == 2)=false:=by simp [hp2]
   have hpr:=HFr.out.pr
   obtain ⟨c,hc⟩:∃ c:Nat,x.p=(c:Int):=⟨x.p.toNat,by omega⟩
   obtain ⟨hc2,hwp,hul⟩:=HOk.out.room hlt HFr.out hc hp2
   have HCc:Hid (x.p=(c:Int)∧x.p≠2):=⟨hc,hp2⟩
   have hnU:l.nU=2:=by have e:=Hal.out.nU;rw [e];exact (HOk.out.l k hlt).u
   have hcU:c<l.nU:=by omega
   have HuL:Hid (l.uL c≤1048576):=by have e:=Hal.out.l;rw [Hid,e];omega
   have HRs:Hid (l.R.Small∧c<l.R.nS∧l.R.L c≤1000):=by
    have hl:=HOk.out.l k hlt
    have e:=Hal.out.r
    refine ⟨(Hal.out.small (HS.out.ls k hlt)).r,by rw [e.nS,hl.r.s,hl.n];exact hc2,by rw [e.l,←(hl.z c hc2).2.1];exact hul⟩
   have hcL:(c:Int)<(l.nU:Int):=by omega
   have hnU2:0<l.nU:=by omega
   clear hc hp2 hwp hul hc2 hnU
   go_wp2_with fail
   clear c3 hp'
   exact BI):p:=h
theorem qY (S S':Swg) (port:Int) (x:Pkt) (code:Int) (w:World) (hs:S.Small) (hr:jL w S) (hok:S.Ok) (hxb:x.b.size≤1048576) (hm:pQ S S' port x code) :
  Calls Tryz.prog 18 #[.agg S.cells,.int .i64 port,.agg x.frc] w fun e w'=>∃ S2,e=.returned (.tuple #[.agg S2.cells,.int .i64 code])∧fP S' S2∧gy w' w.heap.size S2∧Below w.heap.size w w':=by
 have HM:Hid (pQ S S' port x code):=hm
 have HR:Hid (jL w S):=hr
 have HS:Hid S.Small:=hs
 have HOk:Hid S.Ok:=hok
 obtain ⟨W,eW⟩:∃ W,((w.alloc (.cells S.cells 43)).alloc (.cells x.frc 47)).alloc (.cells #[.int .i64 0,.int .i64 0,.int .i64 0,.int .i64 0,.int .i64 0,.int .i64 0,.int .i64 0,.int .i64 0,.int .i64 0,.slice none 0 0,.slice none 0 0,.int .i64 0,.slice none 0 0,.slice none 0 0,.slice none 0 0,.int .i64 0,.int .i64 0] 43)=W:=⟨_,rfl⟩
 have HX:Hid (Thr w W S x):=by rw [←eW];exact Thr.start _ _ _
 have HL:Hid (∀ j,j<17→W.cell? ⟨w.heap.size,0+j,none⟩=S.cells[j]?):=fun j _=>by rw [Nat.zero_add];exact fF HX.out.a j
 obtain ⟨_,_,_,ht4,ht5⟩:=A5 hok
 have hp4:=hok.n.c.num.p
 clear hs hr hok hm
 go_enter Tryz.func18,Tryz.ntmps18
 go_wp2_with (refine fM rfl 43 17 _ Tryz.underlying43 rfl fV (.tmp 3) rfl (w.heap.size) 0 rfl S.cells rfl HL.out ?_)
 clear eW HL
 have hW1:w.heap.size+2<W.heap.size:=fG HX.out.z
 refine (xp S _ HS.out ht4 ht5 (HR.out.up HX.out.bel)).mono ?_
 rintro e w2 ⟨Q,rfl,aQ,oQ,hbl⟩
 replace HX:Hid (Thr w w2 S x):=HX.out.up hbl
 have hz2:=hbl.size
 have HQ:Hid (fP S Q∧gy w2 w.heap.size Q):=⟨aQ,oQ.mono (by omega)⟩
 clear aQ oQ hbl
 have HG:Hid ((w2.alloc (.cells #[.int .i64 0,.int .i64 0,.int .i64 0,.int .i64 0,.int .i64 0,.int .i64 0,.int .i64 0,.int .i64 0,.int .i64 0,.slice none 0 0,.slice none 0 0,.int .i64 0,.slice none 0 0,.slice none 0 0,.slice none 0 0,.int .i64 0,.int .i64 0] 43)).heap[w2.heap.size]?=some (.cells #[.int .i64 0,.int .i64 0,.int .i64 0,.int .i64 0,.int .i64 0,.int .i64 0,.int .i64 0,.int .i64 0,.int .i64 0,.slice none 0 0,.slice none 0 0,.int .i64 0,.slice none 0 0,.slice none 0 0,.slice none 0 0,.int .i64 0,.int .i64 0] 43 (0,0))):=fK _ _
 go_wp2_with (refine fJ rfl 43 (.tmp 8) (.tmp 15) rfl (w2.heap.size) 0 rfl (.agg Q.cells) rfl 17 rfl 43 _ HG.out fV (Nat.le_of_ble_eq_true rfl) (Swg.mi _) ?_)
 intro X hP
 replace hP:Put _ X w2.heap.size Q.cells 43:=hP.cast rfl
 have hbl:Below w2.heap.size w2 X:=((Below.refl _ _).alloc (Nat.le_refl _) _).trans (hP.to.below (by simp) (fun y hy=>by simp at hy;omega))
 replace HX:Hid (SaS w X w2.heap.size S Q x):=by
  have h9:=HX.out.up hbl
  exact ⟨⟨hP.blk,h9.f,HQ.out.2.up hbl,h9.bel,by omega,by omega,Nat.le_refl _⟩,h9.a,h9.z,by omega⟩
 have HA:Hid (fP S Q):=HQ.out.1
 clear hP HG hbl HQ
 obtain ⟨gS,eN⟩:∃ g,w2.heap.size=g:=⟨_,rfl⟩
 rw [eN] at HX hz2 ⊢
 clear eN hz2 hW1
 have c0:X.cell? ⟨w.heap.size,0,none⟩=some (.int .i64 S.C.p):=fF HX.out.a 0
 have hw1:IntKind.i64.wrap (S.C.p-1)=S.C.p-1:=j0 _ (by omega) (by omega)
 go_wp2_with fail
 clear c0 hw1
 refine (fT _ _ _ _).mono ?_
 rintro e w' ⟨rfl,rfl⟩
 by_cases hport:0≤port∧port≤S.C.p-1
 rotate_left
 ·
  have hdec:decide (0≤port∧port≤S.C.p-1)=false:=by simp only [decide_eq_false_iff_not];exact hport
  have HC:Hid (code=2∧fP S' Q):=by
   rcases HM.out with ⟨h,_⟩ | ⟨_,_,h1,h2⟩ | ⟨_,_,i,rfl,hi,_⟩
   ·
    exact absurd HOk.out h
   ·
    exact ⟨h2,by rw [h1];exact HA.out⟩
   have:=HOk.out.nl
   exact absurd (by omega) hport
  rw [hdec]
  clear hport hdec
  generalize w'=X at *
  exact eR
 have hdec:decide (0≤port∧port≤S.C.p-1)=true:=by simp only [decide_eq_true_eq];exact hport
 have HPt:Hid (0≤port∧port≤S.C.p-1):=hport
 have HL2:Hid (∀ j,j<5→w'.cell? ⟨w.heap.size+1,0+j,none⟩=(#[.int .i64 x.k,.int .i64 x.d,.int .i64 x.s,.int .i64 x.p,.string x.b]:Array Value)[j]?):=lM HX.out.s.fr
 rw [hdec]
 clear hport hdec
 go_wp2_with (refine lu (by rfl) 47 5 _ Tryz.underlying47 rfl ix (.tmp 5) rfl (w.heap.size+1) 0 rfl #[.int .i64 x.k,.int .i64 x.d,.int .i64 x.s,.int .i64 x.p,.string x.b] rfl HL2.out ?_)
 clear HL2
 refine (lQ x.k x.d x.s x.p x.b _ (by unfold maxLen;omega)).mono ?_
 rintro e X ⟨rfl,hbl⟩
 replace HX:Hid (SaS w X gS S Q x):=HX.out.up hbl
 clear hbl
 cases hfr:jT x.k x.d x.s x.p x.b.size
 ·
  have HC:Hid (code=2∧fP S' Q):=by
   rcases HM.out with ⟨h,_⟩ | ⟨_,_,h1,h2⟩ | ⟨_,h,_⟩
   ·
    exact absurd HOk.out h
   ·
    exact ⟨h2,by rw [h1];exact HA.out⟩
   rw [hfr] at h;cases h
  clear hfr
  exact eR
 have HFrB:Hid (jT x.k x.d x.s x.p x.b.size=true):=hfr
 obtain ⟨i,hpi,hi,hmm⟩:∃ i:Nat,port=(i:Int)∧i<S.nL∧((x.k≠1∧S'=S.stop i (decide (x.k=2))∧code=0)∨(x.k=1∧nG S S' i x code)):=by
  rcases HM.out with ⟨h,_⟩ | ⟨_,h,_⟩ | ⟨_,_,h⟩
  ·
   exact absurd HOk.out h
  ·
   exact absurd ⟨HPt.out,hfr⟩ h
  exact h
 subst hpi
 have HMM:Hid ((x.k≠1∧S'=S.stop i (decide (x.k=2))∧code=0)∨(x.k=1∧nG S S' i x code)):=hmm
 have hi':(i:Int)<(S.nL:Int):=by omega
 have c0:X.cell? ⟨w.heap.size+1,0,none⟩=some (.int .i64 x.k):=fF HX.out.s.fr 0
 clear hfr hmm HM HPt
 by_cases hk:x.k=1
 rotate_left
 ·
  have hk1:(x.k == 1)=false:=by simp [hk]
  have hk2:(x.k == 2)=decide (x.k=2):=rfl
  obtain ⟨b,eb⟩:∃ b,decide (x.k=2)=b:=⟨_,rfl⟩
  rw [eb] at hk2
  have HC0:Hid (code=0∧fP S' (Q.stop i b)):=by
   rcases HMM.out with ⟨_,h1,h2⟩ | ⟨h1,_⟩
   ·
    exact ⟨h2,by rw [h1,eb];exact HA.out.stop hi b⟩
   exact absurd h1 hk
  clear hk eb HMM
  have hiQ:i<Q.nL:=by rw [HA.out.nL];exact hi
  obtain ⟨gL,cur,eL,hgb,kL,zL,lL,_⟩:=HX.out.s.own.l.at (show 0<Q.nL by omega)
  have HKL:Hid (X.heap[gL]?=some (.cells cur 99 (0,0))∧i*8+8≤cur.size∧lay cur (i*8) (Q.L i).cells=cur∧Q.aL=some ⟨gL,0,none⟩∧w.heap.size≤gL):=⟨kL,by omega,lL i hiQ,eL,hgb⟩
  have c14:X.cell? ⟨gS,14,none⟩=some (.slice (some ⟨gL,0,none⟩) S.nL Q.cL):=by rw [←eL,←HA.out.nL];exact fF HX.out.s.box 14
  have hz1:i*8+1≤cur.size:=by omega
  clear kL zL lL eL hgb
  go_wp2_with (refine fJ rfl 4 (.tmp 39) (.tmp 37) rfl gL (i*8) rfl (.bool b) rfl 1 rfl 99 _ HKL.out.1 ve hz1 (by simp [Value.cells,Value.oneCell']) ?_)
  intro X4 hP
  replace hP:Put X X4 gL (lay cur (i*8) ({ Q.L i with st:=b }:Lng).cells) 99:=hP.cast (qD HKL.out.2.2.1 HKL.out.2.1 b)
  have far:∀ {y:Nat} {c:Array Value} {t:TypeId},X.heap[y]?=some (.cells c t (0,0))→t≠99→y∉[gL]:=fun k hne hy=>gj k HKL.out.1 hne (by simpa using hy)
  have HX4:Hid (SaS w X4 gS S (Q.stop i b) x) :=
   ⟨⟨(hP.to.block _ (fG HX.out.s.box) (far HX.out.s.box (by decide))).trans HX.out.s.box,(hP.to.block _ (fG HX.out.s.fr) (far HX.out.s.fr (by decide))).trans HX.out.s.fr,HX.out.s.own.stop hiQ HKL.out.2.2.2.1 HKL.out.1 hP,HX.out.s.bel.trans (hP.to.below HX.out.s.bel.size (fun y hy=>by simp at hy;rw [hy];exact HKL.out.2.2.2.2)),HX.out.s.le⟩,(hP.to.block _ (fG HX.out.a) (far HX.out.a (by decide))).trans HX.out.a,(hP.to.block _ (fG HX.out.z) (far HX.out.z (by decide))).trans HX.out.z,HX.out.lt⟩
  clear hP c14 c0 far HKL HX hk1 hk2
  obtain ⟨Q4,eQ4⟩:∃ Q4,Q.stop i b=Q4:=⟨_,rfl⟩
  rw [eQ4] at HX4 HC0
  clear eQ4 HA
  generalize X4=X at *
  generalize Q4=Q at *
  have HX:=HX4
  have HC:=HC0
  have HLq:Hid (∀ j,j<17→X.cell? ⟨gS,0+j,none⟩=Q.cells[j]?):=fun j _=>by rw [Nat.zero_add];exact fF HX.out.s.box j
  have HDz:Hid (X.heap[w.heap.size+1+1]?=some (.cells zSw 43 (0,0))):=HX.out.z
  go_wp2_with (first | refine fM rfl 43 17 _ Tryz.underlying43 rfl fV (.tmp 8) rfl gS 0 rfl Q.cells rfl HLq.out ?_ | refine fJ rfl 43 (.tmp 6) (.tmp 40) rfl (w.heap.size+1+1) 0 rfl (.agg Q.cells) rfl 17 rfl 43 _ HDz.out fV (Nat.le_of_ble_eq_true rfl) (Swg.mi _) ?_)
  exact wO
 have hk1:(x.k == 1)=true:=by simp [hk]
 have HD:Hid (nG S S' i x code):=by
  rcases HMM.out with ⟨h1,_⟩ | ⟨_,h1⟩
  ·
   exact absurd hk h1
  exact h1
 have HFr:Hid x.nr:=⟨hk,HFrB.out⟩
 clear hk HMM HFrB
 have HAl:Hid (Q.lrL i x=S.lrL i x∧Q.now=S.now∧Q.nE=S.nE∧Q.e=S.e):=⟨HA.out.lrL _ _,HA.out.now,HA.out.nE,HA.out.e⟩
 have c9:X.cell? ⟨gS,9,none⟩=some (.slice Q.aE Q.nE Q.cE):=fF HX.out.s.box 9
 have c2:X.cell? ⟨w.heap.size+1,2,none⟩=some (.int .i64 x.s):=fF HX.out.s.fr 2
 have c7:X.cell? ⟨w.heap.size,7,none⟩=some (.int .i64 S.now):=fF HX.out.a 7
 go_wp2_with fail
 clear c9 c2 c7 c0 hk1
 refine (qZ Q.aE Q.nE Q.cE Q.e x.s (i:Int) S.now _ (by rw [HAl.out.2.2.1,HAl.out.2.2.2];exact HOk.out.seen.1) HX.out.s.own.g.e.g.Ca).mono ?_
 rintro e X1 ⟨v,rfl,oA,hb1⟩
 have eA:im (gb Q.nE Q.e) ⟨x.s,(i:Int),S.now⟩=Q.lrL i x:=by unfold Swg.lrL;rw [HAl.out.2.1]
 rw [eA] at oA
 obtain ⟨aE,cE,rfl,og⟩:=oA.ogW
 have HLq:Hid (gy X1 w.heap.size (Q.hI i x aE cE)):=(HX.out.s.own.up hb1).hI (og.mono HX.out.s.bel.size)
 replace HX:Hid (SaS w X1 gS S Q x):=HX.out.up hb1
 have HBx:Hid (X1.heap[gS]?=some (.cells Q.cells 43 (0,0))):=HX.out.s.box
 clear oA og hb1 eA
 go_wp2_with (refine fJ rfl 38 (.tmp 49) (.tmp 48) rfl gS 9 rfl (.slice aE (Q.lrL i x).length cE) rfl 1 rfl 43 _ HBx.out qi (Nat.le_of_ble_eq_true rfl) (by simp [Value.cells,Value.oneCell']) ?_)
 intro X2 hP
 obtain ⟨Q1,eQ1⟩:∃ Q1,Q.hI i x aE cE=Q1:=⟨_,rfl⟩
 replace hP:Put X1 X2 gS Q1.cells 43:=hP.cast (by rw [←eQ1];rfl)
 replace HX:Hid (SaS w X2 gS S Q1 x):=HX.out.put hP (by rw [←eQ1];exact HLq.out)
 have HA1:Hid (fP (S.hI i x none 0) Q1):=by rw [←eQ1];exact HA.out.hI _ _ _ _ _ _
 have HE1:Hid (Q1.aE=aE∧Q1.nE=(S.lrL i x).length∧Q1.cE=cE∧Q1.e=fun j=>(S.lrL i x).getD j default):=by rw [←eQ1,←HAl.out.1];exact ⟨rfl,rfl,rfl,rfl⟩
 clear hP HBx HLq eQ1 HA HAl
 have c9:X2.cell? ⟨gS,9,none⟩=some (.slice Q1.aE Q1.nE Q1.cE):=fF HX.out.s.box 9
 have c1:X2.cell? ⟨w.heap.size+1,1,none⟩=some (.int .i64 x.d):=fF HX.out.s.fr 1
 have c7:X2.cell? ⟨w.heap.size,7,none⟩=some (.int .i64 S.now):=fF HX.out.a 7
 go_wp2_with fail
 clear c9 c1 c7
 refine (uO Q1.aE Q1.nE Q1.cE Q1.e x.d S.now (S.toP i x) _ (by have:=(HOk.out.AA hi HFr.out).1;rw [HE1.out.2.1];unfold maxLen;omega) HX.out.s.own.g.e.g.Ca (by rw [HE1.out.2.1,HE1.out.2.2.2];exact HOk.out.toR hi HFr.out)).mono ?_
 rintro e X3 ⟨rfl,hb2⟩
 replace HX:Hid (SaS w X3 gS S Q1 x):=HX.out.up hb2
 clear hb2
 obtain ⟨dst,ed⟩:∃ dst,S.toP i x=dst:=⟨_,rfl⟩
 have HDs:Hid (S.toP i x=dst):=ed
 rw [ed]
 clear ed
 by_cases hto:dst=(i:Int)
 ·
  have hto':(dst == (i:Int))=true:=by simp [hto]
  have HC:Hid (code=4∧fP S' Q1):=by
   rcases HD.out with ⟨h1,h2,h3⟩ | ⟨h1,_⟩ | ⟨h1,_⟩
   ·
    exact ⟨h3,by rw [h2];exact HA1.out⟩
   ·
    exact absurd (HDs.out.trans hto) h1
   exact absurd (HDs.out.trans hto) h1
  clear hto
  generalize X3=X at *
  clear HA1 HE1
  generalize Q1=Q at *
  have HLq:Hid (∀ j,j<17→X.cell? ⟨gS,0+j,none⟩=Q.cells[j]?):=fun j _=>by rw [Nat.zero_add];exact fF HX.out.s.box j
  have HDz:Hid (X.heap[w.heap.size+1+1]?=some (.cells zSw 43 (0,0))):=HX.out.z
  go_wp2_with (first | refine fM rfl 43 17 _ Tryz.underlying43 rfl fV (.tmp 8) rfl gS 0 rfl Q.cells rfl HLq.out ?_ | refine fJ rfl 43 (.tmp 6) (.tmp 60) rfl (w.heap.size+1+1) 0 rfl (.agg Q.cells) rfl 17 rfl 43 _ HDz.out fV (Nat.le_of_ble_eq_true rfl) (Swg.mi _) ?_)
  exact wO
 have hto':(dst == (i:Int))=false:=by simp [hto]
 have HT:Hid (dst≠(i:Int)):=hto
 clear hto
 go_wp2_with fail
 clear hto'
 obtain ⟨ok,hok⟩:=mx (Cnt.Ok S.C (lr S.N i x.p x.cl))
 have HOB:Hid (ok=true↔Cnt.Ok S.C (lr S.N i x.p x.cl)):=hok
 clear hok
 have hiU:i<S.N.nU:=by have h1:=HOk.out.nl;have h2:=HOk.out.n.nU;omega
 go_cut [10,11] (fun s10 s11 wc=>∃ g8 M,s10=.pointer (some ⟨g8,0,none⟩)∧s11=.bool ok∧Hid (SaC w wc gS S Q1 x i ok g8 M))
 case first =>
  refine wp_region_held_drew (S:=fun w'=>w'.heap[w.heap.size]?=some (.cells S.cells 43 (0,0))∧w'.heap[w.heap.size+1]?=some (.cells x.frc 47 (0,0))) (by kernel_rfl) (by have h9:=HX.out.up ((Below.refl _ _).drew);exact ⟨h9.a,h9.s.fr⟩) (fun hHeld=>?_)
  replace HX:Hid (SaS w X3.drew gS S Q1 x):=HX.out.up ((Below.refl _ _).drew)
  generalize X3.drew=V5 at *
  have HLo:Hid (∀ j,j<Q1.nL→∀ y∈(Q1.L j).iJ,y<V5.heap.size):=fun j hj y hy=>((HX.out.s.own.l.ls j hj).blk y hy).2
  have hle5:w.heap.size≤V5.heap.size:=HX.out.s.bel.size
  have Hcs:Hid (∀ wx:World,wx.heap[w.heap.size]?=some (.cells S.cells 43 (0,0))∧wx.heap[w.heap.size+1]?=some (.cells x.frc 47 (0,0))→wx.cell? ⟨w.heap.size+1,3,none⟩=some (.int .i64 x.p)):=fun wx h=>fF h.2 3
  refine tQ 0 62 ?_
  refine tC 1 63 (v:=.agg S.C.cells) (fun wx hSw=>gO 37 7 _ Tryz.underlying37 rfl zc (.tmp 62) rfl w.heap.size 0 rfl S.C.cells rfl (Bn hSw.1)) ?_
  try simp only [Act.put,PZ]
  refine tQ 2 64 ?_
  refine tC 3 65 (v:=.agg S.N.cells) (fun wx hSw=>gO 39 3 _ Tryz.underlying39 rfl lY (.tmp 64) rfl w.heap.size 10 rfl S.N.cells rfl (Bm hSw.1)) ?_
  try simp only [Act.put,PZ]
  refine tQ 4 66 ?_
  refine tQ 5 67 ?_
  refine tXq 6 68 ?_
  refine tC 7 69 (v:=.agg x.frc) (fun wx hSw=>gO 47 5 _ Tryz.underlying47 rfl ix (.tmp 5) rfl (w.heap.size+1) 0 rfl x.frc rfl (lM hSw.2)) ?_
  try simp only [Act.put,PZ]
  refine rq2 8 13 (fun K hK=>?_) (fun K hK=>?_)
  ·
   go_simp
   unfold Pkt.frc
   refine (iq x.k x.d x.s x.p x.b _ HFr.out.le).mono ?_
   rintro e XC ⟨rfl,hbC⟩
   have eCl:(((x.b.size:Int)+9+9) / 10)=x.cl:=rfl
   rw [eCl]
   replace HX:Hid (SaS w XC gS S Q1 x):=HX.out.up hbC
   have hzC:=hbC.size
   have hTC:=And.intro HX.out.a HX.out.s.fr
   clear hbC
   go_wp2_with fail
   refine hK.out _ _ hTC (fun hHeld=>?_)
   clear hK K
   try simp only [Act.put,PZ]
   refine rq2 9 13 (fun K hK=>?_) (fun K hK=>?_)
   ·
    go_simp
    refine (tf S.C S.N i x.p x.cl _ HOk.out.n (HR.out.n.up HX.out.s.bel) hiU (by have:=HFr.out.cl;omega) (by have:=HFr.out.cl;omega) ok HOB.out).mono ?_
    rintro e XM ⟨M,rfl,oM,hbM,aM⟩
    replace HX:Hid (SaS w XM gS S Q1 x):=HX.out.up hbM
    have hTM:=And.intro HX.out.a HX.out.s.fr
    have HM9:Hid (gV XM w.heap.size M∧(∀ y∈ib M.aU M.nU,V5.heap.size≤y)∧gw (jt (lr S.N i x.p x.cl) ok) M):=⟨oM.mono (by omega),fun y hy=>by have:=(oM.u.blk y hy).1;omega,aM⟩
    clear oM aM hTC
    go_wp2_with fail
    refine hK.out _ _ hTM (fun hHeld=>?_)
    clear hK K
    try simp only [Act.put,PZ]
    refine tQ 10 61 ?_
    refine tQ 11 72 ?_
    refine tQ 12 73 ?_
    refine rq1 13 (fun K hK=>?_)
    go_simp
    have hbA:=(Below.refl XM.heap.size XM).alloc (Nat.le_refl _) (.cells #[.slice none 0 0,.int .i64 0,.slice none 0 0] 39)
    have hzM:=hbM.size
    have HG:Hid ((XM.alloc (.cells #[.slice none 0 0,.int .i64 0,.slice none 0 0] 39)).heap[XM.heap.size]?=some (.cells #[.slice none 0 0,.int .i64 0,.slice none 0 0] 39 (0,0))∧w.heap.size≤XM.heap.size):=⟨fK _ _,by omega⟩
    replace HX:Hid (SaS w (XM.alloc (.cells #[.slice none 0 0,.int .i64 0,.slice none 0 0] 39)) gS S Q1 x):=HX.out.up hbA
    replace HM9:Hid (gV (XM.alloc (.cells #[.slice none 0 0,.int .i64 0,.slice none 0 0] 39)) w.heap.size M∧(∀ y∈ib M.aU M.nU,V5.heap.size≤y)∧gw (jt (lr S.N i x.p x.cl) ok) M):=⟨HM9.out.1.up hbA,HM9.out.2⟩
    have hTA:=And.intro HX.out.a HX.out.s.fr
    clear hbA hTM hbM hzM
    refine hK.out _ _ hTA (fun hHeld=>?_)
    clear hK K
    try simp only [Act.put,PZ]
    generalize XM.heap.size=g8 at *
    generalize XM.alloc (.cells #[.slice none 0 0,.int .i64 0,.slice none 0 0] 39)=XA at *
    exact e8
   go_simp
   have hbA:=(Below.refl XC.heap.size XC).alloc (Nat.le_refl _) (.cells #[.slice none 0 0,.int .i64 0,.slice none 0 0] 39)
   have HG:Hid ((XC.alloc (.cells #[.slice none 0 0,.int .i64 0,.slice none 0 0] 39)).heap[XC.heap.size]?=some (.cells #[.slice none 0 0,.int .i64 0,.slice none 0 0] 39 (0,0))∧w.heap.size≤XC.heap.size):=⟨fK _ _,by omega⟩
   replace HX:Hid (SaS w (XC.alloc (.cells #[.slice none 0 0,.int .i64 0,.slice none 0 0] 39)) gS S Q1 x):=HX.out.up hbA
   have hzA:=hbA.size
   have hTA:=And.intro HX.out.a HX.out.s.fr
   clear hbA
   refine hK.out _ _ hTA (fun hHeld=>?_)
   clear hK K
   try simp only [Act.put,PZ]
   generalize XC.heap.size=g8 at *
   generalize XC.alloc (.cells #[.slice none 0 0,.int .i64 0,.slice none 0 0] 39)=XA at *
   exact eO
  go_simp
  have hbA:=(Below.refl V5.heap.size V5).alloc (Nat.le_refl _) (.cells #[.slice none 0 0,.int .i64 0,.slice none 0 0] 39)
  obtain ⟨XA,eXA⟩:∃ XA,V5.alloc (.cells #[.slice none 0 0,.int .i64 0,.slice none 0 0] 39)=XA:=⟨_,rfl⟩
  obtain ⟨g8,eg8⟩:∃ g8,V5.heap.size=g8:=⟨_,rfl⟩
  have HG:Hid (XA.heap[g8]?=some (.cells #[.slice none 0 0,.int .i64 0,.slice none 0 0] 39 (0,0))∧w.heap.size≤g8):=by rw [←eXA,←eg8];exact ⟨fK _ _,hle5⟩
  rw [eXA] at hbA ⊢
  replace HX:Hid (SaS w XA gS S Q1 x):=HX.out.up hbA
  have hzA:=hbA.size
  have hTA:=And.intro HX.out.a HX.out.s.fr
  have hge:g8≤XA.heap.size:=by omega
  clear hbA eXA
  rw [eg8]
  refine hK.out _ _ hTA (fun hHeld=>?_)
  clear hK K
  try simp only [Act.put,PZ]
  refine rq1 8 (fun K hK=>?_)
  go_simp
  unfold Pkt.frc
  refine (iq x.k x.d x.s x.p x.b _ HFr.out.le).mono ?_
  rintro e XC ⟨rfl,hbC⟩
  have eCl:(((x.b.size:Int)+9+9) / 10)=x.cl:=rfl
  rw [eCl]
  replace HX:Hid (SaS w XC gS S Q1 x):=HX.out.up hbC
  have hzC:=hbC.size
  have hTC:=And.intro HX.out.a HX.out.s.fr
  replace HG:Hid (XC.heap[g8]?=some (.cells #[.slice none 0 0,.int .i64 0,.slice none 0 0] 39 (0,0))∧w.heap.size≤g8):=⟨(hbC.block _ (fG HG.out.1)).trans HG.out.1,HG.out.2⟩
  clear hbC
  go_wp2_with fail
  refine hK.out _ _ hTC (fun hHeld=>?_)
  clear hK K
  try simp only [Act.put,PZ]
  exact eO
 clear HX
 obtain ⟨g8,M,rfl,rfl,HC⟩:=hcut
 have c8:wc.cell? ⟨w.heap.size,8,none⟩=some (.int .i64 S.nx):=fF HC.out.s.a 8
 have c3:wc.cell? ⟨w.heap.size+1,3,none⟩=some (.int .i64 x.p):=fF HC.out.s.s.fr 3
 by_cases hdrop:ok=true∧S.nx≠1000000000
 rotate_left
 ·
  have HC3:Hid (code=3∧S'=(S.hI i x none 0).lf x.p):=by
   rcases HD.out with ⟨h1,_⟩ | ⟨_,_,h3,h4⟩ | ⟨_,h2,h3,_⟩
   ·
    exact absurd (HDs.out.symm.trans h1) HT.out
   ·
    exact ⟨h4,h3⟩
   exact absurd ⟨HOB.out.2 h2,h3⟩ hdrop
  have c15:wc.cell? ⟨gS,15,none⟩=some (.int .i64 Q1.dr):=fF HC.out.s.s.box 15
  have c16:wc.cell? ⟨gS,16,none⟩=some (.int .i64 Q1.lst):=fF HC.out.s.s.box 16
  have hd1:0≤Q1.dr∧Q1.dr≤1000000000:=by rw [HA1.out.dr];exact HOk.out.oy.dr
  have hd2:0≤Q1.lst∧Q1.lst≤1000000000:=by rw [HA1.out.lst];exact HOk.out.oy.lst
  have w1:IntKind.i64.wrap (Q1.lst+1)=Q1.lst+1:=j0 _ (by omega) (by omega)
  have w2:IntKind.i64.wrap (Q1.dr+1)=Q1.dr+1:=j0 _ (by omega) (by omega)
  have HBx:Hid (wc.heap[gS]?=some (.cells Q1.cells 43 (0,0))):=HC.out.s.s.box
  by_cases hp2:x.p=2
  ·
   have hp':(x.p == 2)=true:=by simp [hp2]
   have HP2:Hid (x.p=2):=hp2
   clear hp2
   cases ok
   · exact eX
   have hnx':(S.nx == 1000000000)=true:=eZ
   clear hdrop
   exact eX
  have hp':(x.p == 2)=false:=by simp [hp2]
  have HP2:Hid (x.p≠2):=hp2
  clear hp2
  cases ok
  · exact eY
  have hnx':(S.nx == 1000000000)=true:=eZ
  clear hdrop
  exact eY
 obtain ⟨rfl,hnx⟩:=hdrop
 have HN:Hid (code=0∧S'=(S.hI i x none 0).waits i x dst):=by
  rcases HD.out with ⟨h1,_⟩ | ⟨_,h2,_⟩ | ⟨_,_,_,h4,h5⟩
  ·
   exact absurd (HDs.out.symm.trans h1) HT.out
  ·
   exact absurd ⟨HOB.out.1 rfl,hnx⟩ h2
  exact ⟨h5,by rw [h4,HDs.out]⟩
 have HGe:Hid (-1≤dst):=by rw [←HDs.out];exact (HOk.out.toGe hi HFr.out).1
 have hnx':(S.nx == 1000000000)=false:=by simp [hnx]
 have HLf:Hid (∀ j,j<5→wc.cell? ⟨w.heap.size+1,0+j,none⟩=(#[.int .i64 x.k,.int .i64 x.d,.int .i64 x.s,.int .i64 x.p,.string x.b]:Array Value)[j]?):=lM HC.out.s.s.fr
 have HGp:Hid ((wc.alloc (.cells #[.int .i64 0,.int .i64 0,.int .i64 0,.int .i64 0,.int .i64 0,.int .i64 0,.int .i64 0,.string ⟨#[]⟩] 94)).heap[wc.heap.size]?=some (.cells #[.int .i64 0,.int .i64 0,.int .i64 0,.int .i64 0,.int .i64 0,.int .i64 0,.int .i64 0,.string ⟨#[]⟩] 94 (0,0))):=fK _ _
 clear c3 hnx
 go_wp2_with (first | refine fM rfl 47 5 _ Tryz.underlying47 rfl ix (.tmp 5) rfl (w.heap.size+1) 0 rfl #[.int .i64 x.k,.int .i64 x.d,.int .i64 x.s,.int .i64 x.p,.string x.b] rfl HLf.out ?_ | refine fJ rfl 94 (.tmp 12) (.tmp 99) rfl wc.heap.size 0 rfl (.agg #[.int .i64 S.nx,.int .i64 (i:Int),.int .i64 0,.int .i64 x.k,.int .i64 x.d,.int .i64 x.s,.int .i64 x.p,.string x.b]) rfl 8 rfl 94 _ HGp.out j6 (Nat.le_of_ble_eq_true rfl) (by simp [Value.cells,Value.oneCell']) ?_)
 intro X4 hP
 replace hP:Put _ X4 wc.heap.size (S.pkt i x 0).cells 94:=hP.cast rfl
 have hb4:Below wc.heap.size wc X4:=((Below.refl _ _).alloc (Nat.le_refl _) _).trans (hP.to.below (by simp) (fun y hy=>by simp at hy;omega))
 have HPk:Hid (w.heap.size≤wc.heap.size∧wc.heap.size∉gi Q1.aK):=⟨HC.out.s.s.bel.size,fun hz=>by have h1:=(HC.out.s.s.own.k.blk _ hz).2;omega⟩
 have HL0:Hid (SaL w X4 gS wc.heap.size g8 S Q1 M x i dst 0 Q1.L):=by
  have h9:=HC.out.s.up hb4
  have hcn:=HC.out.cn.up hb4
  refine ⟨h9.s.box,⟨h9.s.own.e,hcn,h9.s.own.k,h9.s.own.l,fun y hy hz=>?_⟩,hP.blk,fun j hj=>?_,h9.s.bel,h9.s.fr,h9.a,h9.z,(hb4.block _ (fG HC.out.k)).trans HC.out.k⟩
  ·
   simp only [List.mem_flatMap,List.mem_range] at hz
   obtain ⟨j,hj,hz⟩:=hz
   exact HC.out.own y hy j hj hz
  unfold Swg.iO
  rw [if_neg (fun h=>absurd h.1 (Nat.not_lt_zero _))]
  exact HA1.out.l j hj
 have HAM:Hid (gw (lr S.N i x.p x.cl) M):=HC.out.al
 have HLt:Hid (w.heap.size+1+1<gS∧AdS w wc w.heap.size gS (w.heap.size+1) Q1 x):=⟨HC.out.s.lt,HC.out.s.s⟩
 have HnQ:Hid (Q1.nL=S.nL):=HA1.out.nL
 obtain ⟨gL,hgL⟩:∃ gL,Q1.aL=some ⟨gL,0,none⟩:=by
  obtain ⟨gL,_,e,_⟩:=HL0.out.own.l.at (show 0<Q1.nL by rw [HnQ.out];omega)
  exact ⟨gL,e⟩
 have HgL:Hid (Q1.aL=some ⟨gL,0,none⟩):=hgL
 clear hP hb4 hgL HLf HGp hnx' c8 HC
 generalize wc.heap.size=gp at *
 have hnL4:S.nL≤4:=by have:=HOk.out.nl;omega
 go_wp2_with fail
 go_loopw [13] (fun s wr=>∃ (k:Nat) (L:Nat→Lng),k≤S.nL∧s=.int .i64 k∧Hid (SaL w wr gS gp g8 S Q1 M x i dst k L)) (fun s _=>S.nL-(intOf s).toNat)
 case atStart=>exact ⟨0,Q1.L,Nat.zero_le _,rfl,HL0⟩
 clear HL0
 obtain ⟨k,L,hk,rfl,HL⟩:=hrel
 have c0:wr.cell? ⟨w.heap.size,0,none⟩=some (.int .i64 (S.nL:Int)):=by rw [HOk.out.nl];exact fF HL.out.a 0
 by_cases hlt:k<S.nL
 ·
  have hlt':(k:Int)<(S.nL:Int):=by omega
  by_cases h1:(k:Int)=(i:Int)
  ·
   have h1':((k:Int) == (i:Int))=true:=by simp [h1]
   have HN2:Hid (SaL w wr gS gp g8 S Q1 M x i dst (k+1) L):=HL.out.skip (xr h1 HT.out)
   clear h1
   exact e7
  have h1':((k:Int) == (i:Int))=false:=by simp [h1]
  have c2:wr.cell? ⟨gp,2,none⟩=some (.int .i64 ((kE dst (i:Int) k:Nat):Int)):=fF HL.out.pk 2
  have hw2:IntKind.i64.wrap (((kE dst (i:Int) k:Nat):Int)+1)=((kE dst (i:Int) k:Nat):Int)+1:=j0 _ (by omega) (by have:=vn dst (i:Int) k;have:=HOk.out.nl;omega)
  have HPB:Hid (wr.heap[gp]?=some (.cells (S.pkt i x (kE dst (i:Int) k)).cells 94 (0,0))):=HL.out.pk
  by_cases h2:0≤dst
  ·
   by_cases h3:dst=(k:Int)
   ·
    have h3':(dst != (k:Int))=false:=by simp [h3]
    have hb:iR (k:Int) dst (i:Int)=true:=yP h2 h3
    clear h3 h1
    exact eT
   have h3':(dst != (k:Int))=true:=by simp [h3]
   have HN2:Hid (SaL w wr gS gp g8 S Q1 M x i dst (k+1) L):=HL.out.skip (xt h2 h3)
   clear h3 h1 HPB c2 hw2
   exact e7
  have hb:iR (k:Int) dst (i:Int)=true:=yR (by have:=HGe.out;omega) h1
  clear h1
  exact eT
 obtain rfl:k=S.nL:=by omega
 have hlt':¬ (S.nL:Int)<(S.nL:Int):=by omega
 have HLd:Hid (∀ j,j<3→wr.cell? ⟨g8,0+j,none⟩=M.cells[j]?):=fun j _=>by rw [Nat.zero_add];exact fF HL.out.m j
 have HBx:Hid (wr.heap[gS]?=some (.cells Q1.cells 43 (0,0))):=HL.out.box
 go_wp2_with (first | refine fM rfl 39 3 _ Tryz.underlying39 rfl lY (.tmp 10) rfl g8 0 rfl M.cells rfl HLd.out ?_ | refine fJ rfl 39 (.tmp 181) (.tmp 180) rfl gS 10 rfl (.agg M.cells) rfl 3 rfl 43 _ HBx.out lY (Nat.le_of_ble_eq_true rfl) (by simp [Value.cells,Value.oneCell',Cnt.cells]) ?_)
 intro Y0 hP
 obtain ⟨P,eP⟩:∃ P,({ Q1 with N:=M,L:=L }:Swg)=P:=⟨_,rfl⟩
 obtain ⟨y,ey⟩:∃ y,S.pkt i x (kE dst (i:Int) S.nL)=y:=⟨_,rfl⟩
 have HE:Hid (SaE w wr gS gp S P Q1 x y):=by rw [←eP,←ey];exact ⟨HL.out.own,HL.out.box,HL.out.pk,HL.out.bel,HL.out.fr,HL.out.a,HL.out.z,HLt.out.1⟩
 have HAl:Hid (∀ j,j<S.nL→gk (S.iO i dst x S.nL j) (P.L j)):=by rw [←eP];exact HL.out.al
 have HeP:Hid (({ Q1 with N:=M,L:=L }:Swg)=P):=eP
 have HeY:Hid (S.pkt i x (kE dst (i:Int) S.nL)=y):=ey
 replace hP:Put wr Y0 gS P.cells 43:=hP.cast (by rw [←eP];rfl)
 replace HE:Hid (SaE w Y0 gS gp S P P x y):=HE.out.put hP
 clear hP HBx HLd eP ey HL c0
 have c8:Y0.cell? ⟨w.heap.size,8,none⟩=some (.int .i64 S.nx):=fF HE.out.a 8
 have hw8:IntKind.i64.wrap (S.nx+1)=S.nx+1:=j0 _ (by have:=HOk.out.oy.nx;omega) (by have:=HOk.out.oy.nx;omega)
 have HBx:Hid (Y0.heap[gS]?=some (.cells P.cells 43 (0,0))):=HE.out.box
 go_wp2_with (refine fJ rfl 2 (.tmp 185) (.tmp 184) rfl gS 8 rfl (.int .i64 (S.nx+1)) rfl 1 rfl 43 _ HBx.out iP (Nat.le_of_ble_eq_true rfl) (by simp [Value.cells,Value.oneCell']) ?_)
 intro Y1 hP
 obtain ⟨P1,eP1⟩:∃ P1,({ P with nx:=S.nx+1 }:Swg)=P1:=⟨_,rfl⟩
 replace hP:Put Y0 Y1 gS P1.cells 43:=hP.cast (by rw [←eP1];rfl)
 replace HE:Hid (SaE w Y1 gS gp S P P1 x y):=HE.out.put hP
 have HeP1:Hid (({ P with nx:=S.nx+1 }:Swg)=P1):=eP1
 clear hP HBx c8 hw8
 have c13:Y1.cell? ⟨gS,13,none⟩=some (.slice P.aK P.nK P.cK):=by
  have h9:=fF HE.out.box 13
  rw [←eP1] at h9
  exact h9
 clear eP1
 have HLk:Hid (∀ j,j<8→Y1.cell? ⟨gp,0+j,none⟩=(#[.int .i64 y.id,.int .i64 y.inn,.int .i64 y.refs,.int .i64 y.k,.int .i64 y.d,.int .i64 y.s,.int .i64 y.p,.string y.b]:Array Value)[j]?):=fun j hj=>by rw [Nat.zero_add];exact fF HE.out.pk j
 obtain ⟨g1,c1,Y2,hr,hu,ht,hg⟩:=lH 40 94 _ 8 72 po Tryz.underlying40 rfl (by decide) (by decide) HE.out.own.k (by rw [←HeP.out];show Q1.nK≤_;rw [HA1.out.nK];exact HS.out.k) HE.out.bel.size #[.int .i64 y.id,.int .i64 y.inn,.int .i64 y.refs,.int .i64 y.k,.int .i64 y.d,.int .i64 y.s,.int .i64 y.p,.string y.b] rfl (by simp [Value.oneCell'])
 have hkq:gp∉gi P.aK:=by rw [←HeP.out];exact HPk.out.2
 have HEk:Hid (SaE w Y2 gS gp S { P with aK:=some ⟨g1,0,none⟩,nK:=P.nK+1,cK:=c1,K:=fun j=>if j=P.nK then y else P.K j } P1 x y):=by
  have hE:=HE.out
  have far:∀ {q:Nat} {cs:Array Value} {t:TypeId},Y1.heap[q]?=some (.cells cs t (0,0))→t≠94→Y2.heap[q]?=some (.cells cs t (0,0)):=fun kq hne=>(ht.block _ (fG kq) (hE.own.k.k8 (fun e=>hne e.symm) kq)).trans kq
  have hpk:o3 (P.nK+1) (fun j=>if j=P.nK then y else P.K j)=o3 P.nK P.K++y.cells.toList:=by
   rw [k6,sP (K:=fun j=>if j=P.nK then y else P.K j) (K':=P.K) (fun j hj=>if_neg (by omega)),if_pos rfl]
  exact ⟨hE.own.Cz hu ht hpk,far hE.box (by decide),(ht.block _ (fG hE.pk) hkq).trans hE.pk,hE.bel.trans (ht.below hE.bel.size (fun z hz=>(hE.own.k.blk z hz).1)),far hE.fr (by decide),far hE.a (by decide),far hE.z (by decide),hE.lt⟩
 have HBx:Hid (Y2.heap[gS]?=some (.cells P1.cells 43 (0,0))):=HEk.out.box
 clear hu ht hg HE hkq
 go_wp2_with (first | refine fM rfl 94 8 _ Tryz.underlying94 rfl j6 (.tmp 12) rfl gp 0 rfl #[.int .i64 y.id,.int .i64 y.inn,.int .i64 y.refs,.int .i64 y.k,.int .i64 y.d,.int .i64 y.s,.int .i64 y.p,.string y.b] rfl HLk.out ?_ | (at_builtin;refine Lib.wpList_append_run _ rfl _ _ _ _ rfl _ _ rfl rfl _ _ hr ?_) | refine fJ rfl 40 (.tmp 191) (.tmp 190) rfl gS 13 rfl (.slice (some ⟨g1,0,none⟩) (P.nK+1) c1) rfl 1 rfl 43 _ HBx.out yY (Nat.le_of_ble_eq_true rfl) (by simp [Value.cells,Value.oneCell']) ?_)
 intro Y3 hP
 clear c13 HLk hr HBx
 obtain ⟨Q4,eQ4⟩:∃ Q4,({ P with nx:=S.nx+1,aK:=some ⟨g1,0,none⟩,nK:=P.nK+1,cK:=c1,K:=fun j=>if j=P.nK then y else P.K j }:Swg)=Q4:=⟨_,rfl⟩
 replace hP:Put Y2 Y3 gS Q4.cells 43:=hP.cast (by rw [←eQ4,←HeP1.out];rfl)
 have HX9:Hid (SaS w Y3 gS S Q4 x):=by
  have h9:=HEk.out.put hP
  have h8:=h9.own
  refine ⟨⟨h9.box,h9.fr,?_,h9.bel,HLt.out.2.le⟩,h9.a,h9.z,h9.lt⟩
  rw [←eQ4]
  exact ⟨h8.e,h8.n,h8.k,h8.l,h8.un⟩
 have HC9:Hid (code=0∧fP S' Q4):=by
  refine ⟨HN.out.1,?_⟩
  have hA:=HA1.out
  rw [HN.out.2,←eQ4,←HeP.out,←HeY.out]
  refine ⟨hA.c,hA.now,rfl,hA.nE,hA.e,HAM.out,by show Q1.nK+1=S.nK+1;rw [hA.nK];rfl,?_,hA.nL,fun j hj=>?_,hA.dr,hA.lst⟩
  ·
   show (fun j=>if j=Q1.nK then S.pkt i x (kE dst (i:Int) S.nL) else Q1.K j)=fun j=>if j=S.nK then S.pkt i x (kE dst (i:Int) S.nL) else S.K j
   rw [hA.nK,hA.k]
   rfl
  have h7:=HAl.out j hj
  rw [←HeP.out] at h7
  exact h7
 clear hP eQ4 HEk HeP HeP1 HeY HAl HN HAM HA1 HE1 HLt HnQ HgL HPk HGe
 generalize Y3=X at *
 generalize Q4=Q at *
 have HX:=HX9
 have HC:=HC9
 have HLq:Hid (∀ j,j<17→X.cell? ⟨gS,0+j,none⟩=Q.cells[j]?):=fun j _=>by rw [Nat.zero_add];exact fF HX.out.s.box j
 have HDz:Hid (X.heap[w.heap.size+1+1]?=some (.cells zSw 43 (0,0))):=HX.out.z
 go_wp2_with (first | refine fM rfl 43 17 _ Tryz.underlying43 rfl fV (.tmp 8) rfl gS 0 rfl Q.cells rfl HLq.out ?_ | refine fJ rfl 43 (.tmp 6) (.tmp 192) rfl (w.heap.size+1+1) 0 rfl (.agg Q.cells) rfl 17 rfl 43 _ HDz.out fV (Nat.le_of_ble_eq_true rfl) (Swg.mi _) ?_)
 exact wO
def CX (g o n:Nat) (f:Nat→Value) (w:World):Prop:=z7 2 g o n f w
def VGI (w:World) (base:Nat) (a:Option Addr) (n:Nat) (f:Nat→Int):Prop:=VG 2 w base a n fun i=>.int .i64 (f i)
def wE (a:Option Addr) (n:Nat) (a':Option Addr) (n':Nat):Prop:=∀ x∈ib a n,x∉ib a' n'
theorem VGI.fL {w w':World} {base:Nat} {a:Option Addr} {n:Nat} {f:Nat→Int} {S:List Nat} (h:VGI w base a n f) (ht:Touch S w w') (hp:∀ x∈ib a n,x∉S):VGI w' base a n f:=VG.fL h ht hp
def nq (g o n:Nat) (f:Nat→Value) (k:Nat) (w:World):Prop:=∃ arr:Array Value,w.heap[g]?=some (.cells arr 2 (0,0))∧o+n≤arr.size∧∀ i,i<k→arr[o+i]?=some (f i)
theorem nq.there {g o n k:Nat} {f:Nat→Value} {w:World} (h:nq g o n f k w) (i:Nat) (hi:i<n):∃ v,w.cell? ⟨g,o+i,none⟩=some v:=by
 obtain ⟨arr,hb,hn,hc⟩:=h
 exact ⟨arr[o+i],by rw [fF hb];simp⟩
theorem nq.free {g o n k:Nat} {f:Nat→Value} {w:World} (h:nq g o n f k w) (i:Nat):w.frozen? ⟨g,i,none⟩=false:=by
 obtain ⟨arr,hb,hn,hc⟩:=h
 exact fZ hb i
theorem nq.step {g o n k:Nat} {f:Nat→Value} {w:World} (h:nq g o n f k w) (hk:k<n):nq g o n f (k+1) (w.setCell ⟨g,o+k,none⟩ (f k)):=by
 obtain ⟨arr,hb,hn,hc⟩:=h
 refine ⟨_,gv hb _,by simpa using hn,fun i hi=>?_⟩
 by_cases e:i=k
 ·
  subst e
  rw [Array.getElem?_setIfInBounds_self_of_lt (by omega)]
 rw [Array.getElem?_setIfInBounds_ne (by omega)]
 exact hc i (by omega)
theorem CX.at {g o n:Nat} {f:Nat→Value} {w:World} (h:CX g o n f w) (i:Nat) (hi:i<n):w.cell? ⟨g,o+i,none⟩=some (f i):=by
 obtain ⟨arr,hb,hn,hc⟩:=h
 rw [fF hb];exact hc i hi
theorem yz (g o n cap m:Nat) (f:Nat→Value) (w:World) (h:CX g o n f w) (hn:n≤1048576) (hm:m≤100000000) :
  Calls Tryz.prog 82 #[.slice (some ⟨g,o,none⟩) n cap,.int .i64 m] w fun e w'=>e=.returned (.int .i64 (m+n:Nat))∧CX g o n (fun i=>.int .i64 (m+i:Nat)) w'∧Touch [g] w w':=by
 have h0:nq g o n (fun i=>.int .i64 (m+i:Nat)) 0 w:=by
  obtain ⟨arr,h1,h2,h3⟩:=h
  exact ⟨arr,h1,h2,fun i hi=>by omega⟩
 clear h
 go_enter Tryz.func82,Tryz.ntmps82
 go_wp2_with fail
 go_loopw [1,5] (fun x i wr=>∃ k:Nat,k≤n∧i=.int .i64 k∧x=.int .i64 (m+k:Nat)∧nq g o n (fun i=>.int .i64 (m+i:Nat)) k wr∧Touch [g] w wr) (fun _ i _=>n-(intOf i).toNat)
 case atStart=>exact ⟨0,Nat.zero_le _,rfl,rfl,h0,Touch.refl _ _⟩
 clear h0
 obtain ⟨k,hk,rfl,rfl,hR,hT⟩:=hrel
 by_cases hlt:k<n
 ·
  obtain ⟨v,hv⟩:=hR.there k hlt
  have hf:=hR.free (o+k)
  have hlt':(k:Int)<n:=by omega
  go_wp2_with fail
  go_roundw
  case rel=>exact ⟨k+1,by omega,by go_num,by go_num,hR.step hlt,hT.set (by simp) (o+k) _⟩
  case measure=>simp [intOf];omega
 obtain rfl:k=n:=by omega
 go_wp2_with fail
 go_ret
 exact ⟨rfl,hR,hT⟩
theorem zj (g o n cap m:Nat) (w:World) (h:CX g o n (fun i=>.int .i64 (m+i:Nat)) w) (hn:n≤1048576) (hm:m≤100000000) :
  Calls Tryz.prog 86 #[.slice (some ⟨g,o,none⟩) n cap,.int .i64 m] w fun e w'=>e=.returned (.int .i64 (m+n:Nat))∧w=w':=by
 go_enter Tryz.func86,Tryz.ntmps86
 go_wp2_with fail
 go_loop [1,5] (fun x i=>∃ k:Nat,k≤n∧i=.int .i64 k∧x=.int .i64 (m+k:Nat)) (fun _ i=>n-(intOf i).toNat)
 case atStart=>exact ⟨0,Nat.zero_le _,rfl,rfl⟩
 obtain ⟨k,hk,rfl,rfl⟩:=hrel
 by_cases hlt:k<n
 ·
  have hc:=h.at k hlt
  have hlt':(k:Int)<n:=by omega
  exact an
 obtain rfl:k=n:=by omega
 go_wp2_with fail
 exact dF
theorem lz (a:Option Addr) (n cap m base:Nat) (f:Nat→Int) (w:World) (h:VGI w base a n f) (hn:n≤1048576) (hm:m≤100000000) :
  Calls Tryz.prog 82 #[.slice a n cap,.int .i64 m] w fun e w'=>e=.returned (.int .i64 ((m+n:Nat):Int))∧VGI w' base a n (fun i=>((m+i:Nat):Int))∧Touch (ib a n) w w':=by
 by_cases h0:n=0
 ·
  subst h0
  refine (qU a cap m w).mono ?_
  rintro e w' ⟨rfl,rfl⟩
  exact ⟨by simp,.inl rfl,Touch.refl _ _⟩
 rcases h with h | ⟨g,o,rfl,hg,hr⟩
 ·
  exact absurd h h0
 refine (yz g o n cap m _ w hr hn hm).mono ?_
 rintro e w' ⟨rfl,h1,h2⟩
 refine ⟨rfl,.inr ⟨g,o,rfl,hg,h1⟩,?_⟩
 unfold ib
 rw [if_neg h0]
 exact h2
theorem lF (a:Option Addr) (n cap m base:Nat) (w:World) (h:VGI w base a n (fun i=>((m+i:Nat):Int))) (hn:n≤1048576) (hm:m≤100000000) :
  Calls Tryz.prog 86 #[.slice a n cap,.int .i64 m] w fun e w'=>e=.returned (.int .i64 ((m+n:Nat):Int))∧w=w':=by
 by_cases h0:n=0
 ·
  subst h0
  refine (rr a cap m w).mono ?_
  rintro e w' ⟨rfl,rfl⟩
  exact ⟨by simp,rfl⟩
 rcases h with h | ⟨g,o,rfl,hg,hr⟩
 ·
  exact absurd h h0
 exact zj g o n cap m w hr hn hm
theorem o8 (a:Option Addr) (n cap m base:Nat) (A:Nat→Option Addr) (L C:Nat→Nat) (z:Nat→Nat→Int) (T:List Nat) (w:World) (hn:n≤1048576) (hs:iy L n≤10000000) (hm:m≤50000000) (hl:∀ i,i<n→L i≤1048576)
  (ha:∀ w',Touch T w w'→fW w' a n fun i=>.slice (A i) (L i) (C i)) (hz:∀ i,i<n→VGI w base (A i) (L i) (z i)) (hp:∀ i j,i<n→j<n→i≠j→wE (A i) (L i) (A j) (L j)) (hT:∀ i,i<n→∀ x∈ib (A i) (L i),x∈T) :
  Calls Tryz.prog 85 #[.slice a n cap,.int .i64 m] w fun e w'=>e=.returned (.int .i64 ((m+iy L n:Nat):Int))∧(∀ i,i<n→VGI w' base (A i) (L i) (fun j=>((m+iy L i+j:Nat):Int)))∧Touch T w w':=by
 have HA:Hid (∀ w',Touch T w w'→fW w' a n fun i=>.slice (A i) (L i) (C i)):=ha
 have HZ:Hid (∀ i,i<n→VGI w base (A i) (L i) (z i)):=hz
 have HP:Hid (∀ i j,i<n→j<n→i≠j→wE (A i) (L i) (A j) (L j)):=hp
 have HT:Hid (∀ i,i<n→∀ x∈ib (A i) (L i),x∈T):=hT
 have HL:Hid (∀ i,i<n→L i≤1048576):=hl
 clear ha hz hp hT hl
 go_enter Tryz.func85,Tryz.ntmps85
 go_wp2_with fail
 go_loopw [1,5] (fun x i wr=>∃ (k q:Nat),k≤n∧i=.int .i64 k∧x=.int .i64 q∧q=m+iy L k∧(∀ i,i<k→VGI wr base (A i) (L i) (fun j=>((m+iy L i+j:Nat):Int)))∧(∀ i,k≤i→i<n→VGI wr base (A i) (L i) (z i))∧Touch T w wr) (fun _ i _=>n-(intOf i).toNat)
 case atStart=>exact ⟨0,m,Nat.zero_le _,rfl,rfl,rfl,fun i hi=>by omega,fun i _ hi=>HZ.out i hi,Touch.refl _ _⟩
 obtain ⟨k,q,hk,rfl,rfl,hq,h1,h2,hTo⟩:=hrel
 have HQ:Hid (q=m+iy L k):=hq
 have H1:Hid (∀ i,i<k→VGI wr base (A i) (L i) (fun j=>((m+iy L i+j:Nat):Int))):=h1
 have H2:Hid (∀ i,k≤i→i<n→VGI wr base (A i) (L i) (z i)):=h2
 have hle:=uM L hk
 clear h1 h2
 by_cases hlt:k<n
 ·
  have hlt':(k:Int)<n:=by omega
  obtain ⟨g,o,rfl,hc⟩:=HA.out wr hTo k hlt
  dsimp only at hc
  clear hq
  go_wp2_with fail
  refine (lz (A k) (L k) (C k) q base (z k) _ (H2.out k (Nat.le_refl _) hlt) (HL.out k hlt) (by have:=HQ.out;omega)).mono ?_
  rintro e w1 ⟨rfl,hv,ht⟩
  have HV:Hid (VGI w1 base (A k) (L k) (fun j=>((m+iy L k+j:Nat):Int))):=by rw [Hid,←HQ.out];exact hv
  have HTo:Hid (Touch T w w1):=hTo.trans (ht.mono (HT.out k hlt))
  have HTk:Hid (Touch (ib (A k) (L k)) wr w1):=ht
  clear hv ht hTo hc
  go_wp2_with fail
  go_roundw
  case rel=>exact ⟨k+1,q+L k,by omega,by go_num,rfl,by show _=m+(iy L k+L k);have:=HQ.out;omega,fun i hi=>by
   by_cases e:i=k
   ·
    subst e;exact HV.out
   ·
    exact (H1.out i (by omega)).fL HTk.out (HP.out i k (by omega) hlt e),fun i hi hi2=>(H2.out i (by omega) hi2).fL HTk.out (HP.out i k hi2 hlt (by omega)),HTo.out⟩
  case measure=>simp [intOf];omega
 obtain rfl:k=n:=by omega
 go_wp2_with fail
 go_ret
 exact ⟨iM (by rw [HQ.out]),H1.out,hTo⟩
theorem pt (a:Option Addr) (n cap m base:Nat) (A:Nat→Option Addr) (L C:Nat→Nat) (w:World) (hn:n≤1048576) (hs:iy L n≤10000000) (hm:m≤50000000) (hl:∀ i,i<n→L i≤1048576)
  (ha:fW w a n fun i=>.slice (A i) (L i) (C i)) (hz:∀ i,i<n→VGI w base (A i) (L i) (fun j=>((m+iy L i+j:Nat):Int))) :
  Calls Tryz.prog 88 #[.slice a n cap,.int .i64 m] w fun e w'=>e=.returned (.int .i64 ((m+iy L n:Nat):Int))∧w=w':=by
 have HA:Hid (fW w a n fun i=>.slice (A i) (L i) (C i)):=ha
 have HZ:Hid (∀ i,i<n→VGI w base (A i) (L i) (fun j=>((m+iy L i+j:Nat):Int))):=hz
 have HL:Hid (∀ i,i<n→L i≤1048576):=hl
 clear ha hz hl
 go_enter Tryz.func88,Tryz.ntmps88
 go_wp2_with fail
 go_loop [1,5] (fun x i=>∃ (k q:Nat),k≤n∧i=.int .i64 k∧x=.int .i64 q∧q=m+iy L k) (fun _ i=>n-(intOf i).toNat)
 case atStart=>exact ⟨0,m,Nat.zero_le _,rfl,rfl,rfl⟩
 obtain ⟨k,q,hk,rfl,rfl,hq⟩:=hrel
 have HQ:Hid (q=m+iy L k):=hq
 have hle:=uM L hk
 by_cases hlt:k<n
 ·
  have hlt':(k:Int)<n:=by omega
  obtain ⟨g,o,rfl,hc⟩:=HA.out k hlt
  dsimp only at hc
  clear hq
  go_wp2_with fail
  refine (lF (A k) (L k) (C k) q base _ (by rw [HQ.out];exact HZ.out k hlt) (HL.out k hlt) (by have:=HQ.out;omega)).mono ?_
  rintro e w1 ⟨rfl,rfl⟩
  have hq0:¬ ((q+L k:Nat):Int)<0:=by omega
  go_wp2_with fail
  go_round
  case rel=>exact ⟨k+1,q+L k,by omega,by go_num,rfl,by show _=m+(iy L k+L k);have:=HQ.out;omega⟩
  case measure=>simp [intOf];omega
 obtain rfl:k=n:=by omega
 go_wp2_with fail
 go_ret
 exact ⟨iM (by first | rfl | rw [HQ.out] | simp),rfl⟩
theorem Cc (w:World) (a:Int):(convert 171 9 (.slice (some ⟨w.heap.size,0,none⟩) 1 1)).run Tryz.prog (w.alloc (.cells #[.int .u8 a] 5))=.ok (.string (strOfNums [a])) (w.alloc (.cells #[.int .u8 a] 5)):=by
 refine run_convert_bytes_arg _ 171 5 Tryz.underlying171 Tryz.underlying5 w.heap.size 0 1 1 [a] rfl ?_ 9 Tryz.underlying9
 intro i hi
 have:=World.cell?_alloc_mark w #[.int .u8 a] 5 (0,0) (0+i)
 rw [this]
 obtain rfl:i=0:=by omega
 rfl
def xf:Nat→Nat→ByteArray→ByteArray
 | 0,_,out=>out
 | f+1,k,out=>if k=0 then out else xf f (k / 10) (strOfNums [48+(k:Int) % 10]++out)
def mt (k:Nat):ByteArray:=if k=0 then ⟨#[109,48]⟩ else ⟨#[109]⟩++xf k k ⟨#[]⟩
theorem yr (f:Nat) (out:ByteArray):xf f 0 out=out:=by cases f <;> simp [xf]
theorem yu (f k:Nat) (out:ByteArray) (h:0<k):xf (f+1) k out=xf f (k / 10) (strOfNums [48+(k:Int) % 10]++out):=by
 rw [xf,if_neg (by omega)]
theorem nR (k:Nat) (w:World) (hk:k<1000000000000) :
  Calls Tryz.prog 84 #[.int .i64 k] w fun e w'=>e=.returned (.string (mt k))∧Below w.heap.size w w':=by
 by_cases h0:k=0
 ·
  subst h0
  go_enter Tryz.func84,Tryz.ntmps84
  go_wp2_with fail
  go_ret
  exact ⟨rfl,Below.refl _ _⟩
 have hpos:(0:Int)<k:=by omega
 have HM:Hid (mt k=⟨#[109]⟩++xf k k ⟨#[]⟩):=by show _=_;unfold mt;rw [if_neg h0]
 go_enter Tryz.func84,Tryz.ntmps84
 go_wp2_with fail
 go_loopw [0,3] (fun x o wr=>∃ (kk f r:Nat) (out:ByteArray),kk≤f∧kk<10 ^ r∧out.size+r≤12∧x=.int .i64 kk∧o=.string out∧xf f kk out=xf k k ⟨#[]⟩∧Below w.heap.size w wr) (fun x _ _=>(intOf x).toNat)
 case atStart=>exact ⟨k,k,12,⟨#[]⟩,Nat.le_refl _,by omega,Nat.le_refl _,rfl,rfl,rfl,Below.refl _ _⟩
 obtain ⟨kk,f,r,out,hf,hr,hs,rfl,rfl,hm,hB⟩:=hrel
 have HG:Hid (xf f kk out=xf k k ⟨#[]⟩):=hm
 clear hm
 by_cases hz:0<kk
 ·
  have hz':(0:Int)<kk:=by omega
  have hk12:(kk:Int)≤1000000000000:=by
   have:kk<10 ^ 12:=Nat.lt_of_lt_of_le hr (Nat.pow_le_pow_right (by omega) (by omega))
   omega
  have hcv:=Cc wr
  have hd1:∀ a,¬ (9223372036854775807<(strOfNums [a]).size+out.size):=by intro a;rw [strOfNums_size];simp;omega
  go_wp2_with fail
  obtain ⟨f',rfl⟩:∃ f',f=f'+1:=⟨f-1,by omega⟩
  obtain ⟨r',rfl⟩:∃ r',r=r'+1:=by
   cases r with
   | zero=>simp at hr;omega
   | succ r=>exact ⟨r,rfl⟩
  go_roundw
  case rel =>
   refine ⟨kk / 10,f',r',strOfNums [48+(kk:Int) % 10]++out,by omega,?_,?_,by go_num,rfl,?_,hB.alloc hB.size _⟩
   ·
    rw [Nat.pow_succ] at hr;omega
   ·
    rw [ByteArray.size_append,strOfNums_size];simp;omega
   rw [←HG.out,yu f' kk out hz]
  case measure=>simp [intOf];omega
 obtain rfl:kk=0:=by omega
 have hd1:¬ (9223372036854775807<(⟨#[109]⟩:ByteArray).size+out.size):=by show ¬ (_<1+out.size);omega
 have hout:Hid (xf k k ⟨#[]⟩=out):=by have:=HG.out;rw [yr] at this;exact this.symm
 go_wp2_with fail
 go_ret
 exact ⟨wR (by rw [HM.out,hout.out]),hB⟩
theorem ji {w W:World} {g n k:Nat} {t:TypeId} {F:Nat→Value} {arr:Array Value} {v:Value} (hn:n≤arr.size) (hc:∀ i,i<k→arr[i]?=some (F i)) (hlt:k<n) (hv:F k=v) (hP:Put w W g (lay arr k #[v]) t):fU g t n F (k+1) W:=by
 have hf:k+(#[v]:Array Value).size≤arr.size:=by show k+1≤_;omega
 refine ⟨_,hP.blk,by rw [jc hf];exact hn,fun i hi=>?_⟩
 by_cases e:i<k
 ·
  rw [lg hf i e]
  exact hc i e
 have:=jx hf 0 (by show 0<1;omega)
 rw [show i=k+0 by omega,this,Nat.add_zero,hv]
 rfl
def jm (m j:Nat):Value:=if j % 8=7 then .string (mt (m+j)) else .int .i64 ((m+j:Nat):Int)
theorem ju {m k j:Nat} (h:j<7):jm m (k*8+j)=.int .i64 ((m+k*8+j:Nat):Int):=by
 unfold jm
 rw [if_neg (by omega),Nat.add_assoc]
theorem yw {m k:Nat}:jm m (k*8+7)=.string (mt (m+k*8+7)):=by
 unfold jm
 rw [if_pos (by omega),Nat.add_assoc]
theorem int_eq {a b:Int} (h:a=b):(Value.int .i64 a)=.int .i64 b:=by rw [h]
theorem u3 (g n cap m:Nat) (f:Nat→Value) (w:World) (h:fU g 94 (n*8) f (n*8) w) (hn:n≤1048576) (hm:m≤50000000) :
  Calls Tryz.prog 35 #[.slice (some ⟨g,0,none⟩) n cap,.int .i64 m] w fun e w'=>e=.returned (.int .i64 ((m+n*8:Nat):Int))∧fU g 94 (n*8) (jm m) (n*8) w'∧Touch [g] w w':=by
 have HM:Hid (fU g 94 (n*8) (jm m) (0*8) w):=h.Bq
 clear h
 go_enter Tryz.func35,Tryz.ntmps35
 go_wp2_with fail
 go_loopw [1,5] (fun x i wr=>∃ (k:Nat) (q:Int),k≤n∧i=.int .i64 k∧x=.int .i64 q∧Hid (q=((m+k*8:Nat):Int))∧Hid (fU g 94 (n*8) (jm m) (k*8) wr)∧Hid (Touch [g] w wr)) (fun _ i _=>n-(intOf i).toNat)
 case atStart=>exact ⟨0,m,Nat.zero_le _,rfl,rfl,by show (m:Int)=_;simp,HM.out,Touch.refl _ _⟩
 obtain ⟨k,q,hk,rfl,rfl,HQ,HR,HT⟩:=hrel
 by_cases hlt:k<n
 ·
  have hlt':(k:Int)<n:=by omega
  have q0:0≤q:=by have:=HQ.out;omega
  have q1:q≤1000000000:=by have:=HQ.out;omega
  obtain ⟨arr,hb,hn2,hc⟩:=HR.out
  have HG:Hid (wr.heap[g]?=some (.cells arr 94 (0,0))):=hb
  have HN:Hid (n*8≤arr.size∧∀ i,i<k*8+0→arr[i]?=some (jm m i)):=⟨hn2,hc⟩
  clear hb hn2 hc HR
  go_wp2_with (refine fJ rfl 2 (.tmp 16) (.tmp 14) rfl g (k*8) (by simp [Act.eval]) (.int .i64 q) rfl 1 rfl 94 arr HG.out iP (by have:=HN.out.1;omega) (by simp [Value.cells,Value.oneCell']) ?_)
  intro Y0 hP
  have HR:Hid (fU g 94 (n*8) (jm m) (k*8+1) Y0):=ji (k:=k*8+0) HN.out.1 HN.out.2 (by omega) (by rw [ju (by omega)];exact int_eq (by have:=HQ.out;omega)) hP
  replace HT:Hid (Touch [g] w Y0):=HT.out.trans hP.to
  clear hP HG HN
  obtain ⟨arr,hb,hn2,hc⟩:=HR.out
  have HG:Hid (Y0.heap[g]?=some (.cells arr 94 (0,0))):=hb
  have HN:Hid (n*8≤arr.size∧∀ i,i<k*8+1→arr[i]?=some (jm m i)):=⟨hn2,hc⟩
  clear hb hn2 hc HR
  go_wp2_with (refine fJ rfl 2 (.tmp 23) (.tmp 21) rfl g (k*8+1) (by simp [Act.eval]) (.int .i64 (q+1)) rfl 1 rfl 94 arr HG.out iP (by have:=HN.out.1;omega) (by simp [Value.cells,Value.oneCell']) ?_)
  intro Y1 hP
  have HR:Hid (fU g 94 (n*8) (jm m) (k*8+2) Y1):=ji (k:=k*8+1) HN.out.1 HN.out.2 (by omega) (by rw [ju (by omega)];exact int_eq (by have:=HQ.out;omega)) hP
  replace HT:Hid (Touch [g] w Y1):=HT.out.trans hP.to
  clear hP HG HN
  obtain ⟨arr,hb,hn2,hc⟩:=HR.out
  have HG:Hid (Y1.heap[g]?=some (.cells arr 94 (0,0))):=hb
  have HN:Hid (n*8≤arr.size∧∀ i,i<k*8+2→arr[i]?=some (jm m i)):=⟨hn2,hc⟩
  clear hb hn2 hc HR
  go_wp2_with (refine fJ rfl 2 (.tmp 30) (.tmp 28) rfl g (k*8+2) (by simp [Act.eval]) (.int .i64 (q+1+1)) rfl 1 rfl 94 arr HG.out iP (by have:=HN.out.1;omega) (by simp [Value.cells,Value.oneCell']) ?_)
  intro Y2 hP
  have HR:Hid (fU g 94 (n*8) (jm m) (k*8+3) Y2):=ji (k:=k*8+2) HN.out.1 HN.out.2 (by omega) (by rw [ju (by omega)];exact int_eq (by have:=HQ.out;omega)) hP
  replace HT:Hid (Touch [g] w Y2):=HT.out.trans hP.to
  clear hP HG HN
  obtain ⟨arr,hb,hn2,hc⟩:=HR.out
  have HG:Hid (Y2.heap[g]?=some (.cells arr 94 (0,0))):=hb
  have HN:Hid (n*8≤arr.size∧∀ i,i<k*8+3→arr[i]?=some (jm m i)):=⟨hn2,hc⟩
  clear hb hn2 hc HR
  go_wp2_with (refine fJ rfl 2 (.tmp 38) (.tmp 35) rfl g (k*8+3) (by simp [Act.eval]) (.int .i64 (q+1+1+1)) rfl 1 rfl 94 arr HG.out iP (by have:=HN.out.1;omega) (by simp [Value.cells,Value.oneCell']) ?_)
  intro Y3 hP
  have HR:Hid (fU g 94 (n*8) (jm m) (k*8+4) Y3):=ji (k:=k*8+3) HN.out.1 HN.out.2 (by omega) (by rw [ju (by omega)];exact int_eq (by have:=HQ.out;omega)) hP
  replace HT:Hid (Touch [g] w Y3):=HT.out.trans hP.to
  clear hP HG HN
  obtain ⟨arr,hb,hn2,hc⟩:=HR.out
  have HG:Hid (Y3.heap[g]?=some (.cells arr 94 (0,0))):=hb
  have HN:Hid (n*8≤arr.size∧∀ i,i<k*8+4→arr[i]?=some (jm m i)):=⟨hn2,hc⟩
  clear hb hn2 hc HR
  go_wp2_with (refine fJ rfl 2 (.tmp 46) (.tmp 43) rfl g (k*8+4) (by simp [Act.eval]) (.int .i64 (q+1+1+1+1)) rfl 1 rfl 94 arr HG.out iP (by have:=HN.out.1;omega) (by simp [Value.cells,Value.oneCell']) ?_)
  intro Y4 hP
  have HR:Hid (fU g 94 (n*8) (jm m) (k*8+5) Y4):=ji (k:=k*8+4) HN.out.1 HN.out.2 (by omega) (by rw [ju (by omega)];exact int_eq (by have:=HQ.out;omega)) hP
  replace HT:Hid (Touch [g] w Y4):=HT.out.trans hP.to
  clear hP HG HN
  obtain ⟨arr,hb,hn2,hc⟩:=HR.out
  have HG:Hid (Y4.heap[g]?=some (.cells arr 94 (0,0))):=hb
  have HN:Hid (n*8≤arr.size∧∀ i,i<k*8+5→arr[i]?=some (jm m i)):=⟨hn2,hc⟩
  clear hb hn2 hc HR
  go_wp2_with (refine fJ rfl 2 (.tmp 54) (.tmp 51) rfl g (k*8+5) (by simp [Act.eval]) (.int .i64 (q+1+1+1+1+1)) rfl 1 rfl 94 arr HG.out iP (by have:=HN.out.1;omega) (by simp [Value.cells,Value.oneCell']) ?_)
  intro Y5 hP
  have HR:Hid (fU g 94 (n*8) (jm m) (k*8+6) Y5):=ji (k:=k*8+5) HN.out.1 HN.out.2 (by omega) (by rw [ju (by omega)];exact int_eq (by have:=HQ.out;omega)) hP
  replace HT:Hid (Touch [g] w Y5):=HT.out.trans hP.to
  clear hP HG HN
  obtain ⟨arr,hb,hn2,hc⟩:=HR.out
  have HG:Hid (Y5.heap[g]?=some (.cells arr 94 (0,0))):=hb
  have HN:Hid (n*8≤arr.size∧∀ i,i<k*8+6→arr[i]?=some (jm m i)):=⟨hn2,hc⟩
  clear hb hn2 hc HR
  go_wp2_with (refine fJ rfl 2 (.tmp 62) (.tmp 59) rfl g (k*8+6) (by simp [Act.eval]) (.int .i64 (q+1+1+1+1+1+1)) rfl 1 rfl 94 arr HG.out iP (by have:=HN.out.1;omega) (by simp [Value.cells,Value.oneCell']) ?_)
  intro Y6 hP
  have HR:Hid (fU g 94 (n*8) (jm m) (k*8+7) Y6):=ji (k:=k*8+6) HN.out.1 HN.out.2 (by omega) (by rw [ju (by omega)];exact int_eq (by have:=HQ.out;omega)) hP
  replace HT:Hid (Touch [g] w Y6):=HT.out.trans hP.to
  clear hP HG HN
  obtain ⟨arr,hb,hn2,hc⟩:=HR.out
  have HG:Hid (Y6.heap[g]?=some (.cells arr 94 (0,0))):=hb
  have HN:Hid (n*8≤arr.size∧∀ i,i<k*8+7→arr[i]?=some (jm m i)):=⟨hn2,hc⟩
  clear hb hn2 hc HR
  go_wp2_with fail
  have hk7:q+1+1+1+1+1+1+1=((m+k*8+7:Nat):Int):=by have:=HQ.out;omega
  rw [hk7]
  refine (nR (m+k*8+7) _ (by omega)).mono ?_
  rintro e wm ⟨rfl,hbm⟩
  replace HT:Hid (Touch [g] w wm):=HT.out.trans (Touch.gY hbm)
  replace HG:Hid (wm.heap[g]?=some (.cells arr 94 (0,0))):=(hbm.block _ (fG HG.out)).trans HG.out
  clear hbm
  go_wp2_with (refine fJ rfl 9 (.tmp 71) (.tmp 68) rfl g (k*8+7) (by simp [Act.eval]) (.string (mt (m+k*8+7))) rfl 1 rfl 94 arr HG.out (by kernel_rfl) (by have:=HN.out.1;omega) (by simp [Value.cells,Value.oneCell']) ?_)
  intro Y7 hP
  have HR:Hid (fU g 94 (n*8) (jm m) (k*8+8) Y7):=ji (k:=k*8+7) HN.out.1 HN.out.2 (by omega) yw hP
  replace HT:Hid (Touch [g] w Y7):=HT.out.trans hP.to
  clear hP HG HN
  go_wp2_with fail
  go_roundw
  case rel=>exact ⟨k+1,_,by omega,by go_num,rfl,by unfold Hid;omega,by show fU _ _ _ _ ((k+1)*8) _;rw [show (k+1)*8=k*8+8 by omega];exact HR.out,HT⟩
  case measure=>simp [intOf];omega
 obtain rfl:k=n:=by omega
 go_wp2_with fail
 go_ret
 exact ⟨iM HQ.out,HR.out,HT.out⟩
end Go.Proofs.YtjaobmbcmjgjgaaGreatDoor
