import Derived.Test.YtjaobmbcmjgjgaaGreatDoorA20
namespace Go.Proofs.YtjaobmbcmjgjgaaGreatDoor
set_option maxRecDepth 10000
set_option maxHeartbeats 4000000
open Go.RowKit
set_option linter.unusedVariables false
set_option linter.unusedSimpArgs false
theorem cH {p:Prop} (h:p:=by
 clear hb HC hB
 go_wp2_with fail
 refine hK.out _ _ HC1.out (fun hHeld=>?_)
 clear hK K
 try simp only [Act.put,PZ]
 refine tN ?_
 refine dnq ?_
 clear hHeld HC1
 go_wp2_with fail
 go_roundw
 case rel=>exact ⟨k+1,by omega,by go_num,HB1.out⟩
 case measure=>simp [intOf];omega):p:=h
theorem gO {oi:Oper} {ev:Operand→Value} {w:World} (ty:TypeId) (n:Nat) (d:TypeDesc) (hu:Tryz.prog.underlying ty=some d) (hd:d.isRow=true) (hi:(Tryz.prog.info? ty).map (·.size)=some n) (x:Operand) (ho:oi.op=.load ty x) (b off:Nat) (hx:ev x=.pointer (some ⟨b,off,none⟩)) (cs:Array Value) (hs:cs.size=n)
  (hc:∀ j,j<n→w.cell? ⟨b,off+j,none⟩=cs[j]?):(execOp ev oi).run Tryz.prog w=.ok (.value (.agg cs)) w:=by
 have hl:=run_loadVar_mid (P:=Tryz.prog) w b off ty cs.toList d (fun j v hv=>by
  have hj:j<n:=by
   have:=(List.getElem?_eq_some_iff.1 hv).1
   rw [Array.length_toList] at this
   omega
  rw [hc j hj,←Array.getElem?_toList]
  exact hv) hu hd (by rw [hi,Array.length_toList,hs])
 rw [Array.toArray_toList] at hl
 unfold execOp
 simp only [ho,hx,Instr.loadAt,Instr.sureAddr,Sem.run_bind,Sem.run_pure,Result.andThen_ok,hl]
theorem tJ (k d s p:Int) (b:ByteArray) (w:World) :
  Calls Tryz.prog 122 #[.agg #[.int .i64 k,.int .i64 d,.int .i64 s,.int .i64 p,.string b],.agg #[.int .i64 k,.int .i64 d,.int .i64 s,.int .i64 p,.string b]] w fun e w'=>e=.returned (.bool true)∧Below w.heap.size w w':=by
 go_enter Tryz.func122,Tryz.ntmps122
 go_wp2
 go_ret
 exact ⟨rfl,(((Below.refl _ _).alloc (Nat.le_refl _) _).alloc (by simp) _)⟩
theorem rF (C:Cfg) (w:World) :
  Calls Tryz.prog 28 #[.agg C.cells,.agg C.cells] w fun e w'=>e=.returned (.bool true)∧Below w.heap.size w w':=by
 unfold Cfg.cells
 go_enter Tryz.func28,Tryz.ntmps28
 go_wp2_with fail
 go_ret
 exact ⟨rfl,by go_grown⟩
structure Two (w:World) (A B:Array Value) (t:TypeId) (W:World):Prop where
 a:W.heap[w.heap.size]?=some (.cells A t (0,0))
 b:W.heap[w.heap.size+1]?=some (.cells B t (0,0))
 bel:Below w.heap.size w W
theorem Two.start (w:World) (A B:Array Value) (t:TypeId):Two w A B t ((w.alloc (.cells A t)).alloc (.cells B t)):=by
 have e1:(w.alloc (.cells A t)).heap.size=w.heap.size+1:=by simp
 refine ⟨(fY _ (by omega)).trans (fK _ _),?_,((Below.refl _ _).alloc (Nat.le_refl _) _).alloc (by omega) _⟩
 rw [←e1]
 exact fK _ _
theorem Two.up {w W W':World} {A B:Array Value} {t:TypeId} (h:Two w A B t W) (hb:Below W.heap.size W W'):Two w A B t W' :=
 ⟨(hb.block _ (fG h.a)).trans h.a,(hb.block _ (fG h.b)).trans h.b,h.bel.trans (hb.mono h.bel.size)⟩
theorem rD (x:Pkt) (w:World) :
  Calls Tryz.prog 80 #[.agg x.cells,.agg x.cells] w fun e w'=>e=.returned (.bool true)∧Below w.heap.size w w':=by
 obtain ⟨W,eW⟩:∃ W,(w.alloc (.cells x.cells 94)).alloc (.cells x.cells 94)=W:=⟨_,rfl⟩
 have HX:Hid (Two w x.cells x.cells 94 W):=by rw [←eW];exact Two.start _ _ _ _
 have c0:W.cell? ⟨w.heap.size,0,none⟩=some (.int .i64 x.id):=fF HX.out.a 0
 have d0:W.cell? ⟨w.heap.size+1,0,none⟩=some (.int .i64 x.id):=fF HX.out.b 0
 have c1:W.cell? ⟨w.heap.size,1,none⟩=some (.int .i64 x.inn):=fF HX.out.a 1
 have d1:W.cell? ⟨w.heap.size+1,1,none⟩=some (.int .i64 x.inn):=fF HX.out.b 1
 have c2:W.cell? ⟨w.heap.size,2,none⟩=some (.int .i64 x.refs):=fF HX.out.a 2
 have d2:W.cell? ⟨w.heap.size+1,2,none⟩=some (.int .i64 x.refs):=fF HX.out.b 2
 have c3:W.cell? ⟨w.heap.size,3,none⟩=some (.int .i64 x.k):=fF HX.out.a 3
 have d3:W.cell? ⟨w.heap.size+1,3,none⟩=some (.int .i64 x.k):=fF HX.out.b 3
 have c4:W.cell? ⟨w.heap.size,4,none⟩=some (.int .i64 x.d):=fF HX.out.a 4
 have d4:W.cell? ⟨w.heap.size+1,4,none⟩=some (.int .i64 x.d):=fF HX.out.b 4
 have c5:W.cell? ⟨w.heap.size,5,none⟩=some (.int .i64 x.s):=fF HX.out.a 5
 have d5:W.cell? ⟨w.heap.size+1,5,none⟩=some (.int .i64 x.s):=fF HX.out.b 5
 have c6:W.cell? ⟨w.heap.size,6,none⟩=some (.int .i64 x.p):=fF HX.out.a 6
 have d6:W.cell? ⟨w.heap.size+1,6,none⟩=some (.int .i64 x.p):=fF HX.out.b 6
 have c7:W.cell? ⟨w.heap.size,7,none⟩=some (.string x.b):=fF HX.out.a 7
 have d7:W.cell? ⟨w.heap.size+1,7,none⟩=some (.string x.b):=fF HX.out.b 7
 go_enter Tryz.func80,Tryz.ntmps80
 go_wp2_with fail
 clear eW
 refine (tJ x.k x.d x.s x.p x.b _).mono ?_
 rintro e w1 ⟨rfl,hb⟩
 have B:=(HX.out.up hb).bel
 clear c0 d0 c1 d1 c2 d2 c3 d3 c4 d4 c5 d5 c6 d6 c7 d7
 clear hb
 go_wp2_with fail
 go_ret
 exact ⟨rfl,B⟩
theorem AJ {w w1:World} {g o:Nat} {cs:Array Value} (h:∀ j,j<8→w.cell? ⟨g,o+j,none⟩=cs[j]?) (hs:cs.size=8) (hb:Below w.heap.size w w1):∀ j,j<8→w1.cell? ⟨g,o+j,none⟩=cs[j]?:=by
 intro j hj
 have h2:=h j hj
 rw [Array.getElem?_eq_getElem (by omega)] at h2
 exact ((hb.cell (p:=⟨g,o+j,none⟩) (iI h2)).trans h2).trans (Array.getElem?_eq_getElem (by omega)).symm
theorem rC (a1 a2:Option Addr) (n c1 c2:Nat) (K1:Nat→Pkt) (w:World) (hn:n≤1048576) (h1:kK w a1 n K1) (h2:kK w a2 n K1) :
  Calls Tryz.prog 31 #[.slice a1 n c1,.slice a2 n c2] w fun e w'=>e=.returned (.bool true)∧Below w.heap.size w w':=by
 have H1:Hid (kK w a1 n K1):=h1
 have H2:Hid (kK w a2 n K1):=h2
 clear h1 h2
 go_enter Tryz.func31,Tryz.ntmps31
 go_wp2_with fail
 go_loopw [5] (fun i wr=>∃ k:Nat,k≤n∧i=.int .i64 k∧Below w.heap.size w wr) (fun i _=>n-(intOf i).toNat)
 case atStart=>exact ⟨0,Nat.zero_le _,rfl,Below.refl _ _⟩
 obtain ⟨k,hk,rfl,hB⟩:=hrel
 by_cases hlt:k<n
 ·
  have hlt':(k:Int)<n:=by omega
  obtain ⟨g,o,ha,hc⟩:=(H1.out.up hB.drew) k hlt
  obtain ⟨g2,o2,ha2,hc2⟩:=(H2.out.up hB.drew) k hlt
  subst ha ha2
  have HC:Hid ((∀ j,j<8→wr.drew.cell? ⟨g,o+k*8+j,none⟩=(K1 k).cells[j]?)∧∀ j,j<8→wr.drew.cell? ⟨g2,o2+k*8+j,none⟩=(K1 k).cells[j]?):=⟨hc,hc2⟩
  clear hc hc2
  go_wp2_with fail
  refine wp_region_held_drew (S:=fun w'=>(∀ j,j<8→w'.cell? ⟨g,o+k*8+j,none⟩=(K1 k).cells[j]?)∧∀ j,j<8→w'.cell? ⟨g2,o2+k*8+j,none⟩=(K1 k).cells[j]?) (by kernel_rfl) HC.out (fun hHeld=>?_)
  refine t0 ?_
  iterate 2 refine tN ?_
  refine tC 3 20 (v:=.agg (K1 k).cells) ?_ ?_
  ·
   intro wx hSw
   exact gO 94 8 _ Tryz.underlying94 rfl j6 (.tmp 19) rfl g (o+k*8) rfl (K1 k).cells rfl hSw.1
  try simp only [Act.put,PZ]
  iterate 3 refine tN ?_
  refine tC 7 24 (v:=.agg (K1 k).cells) ?_ ?_
  ·
   intro wx hSw
   exact gO 94 8 _ Tryz.underlying94 rfl j6 (.tmp 23) rfl g2 (o2+k*8) rfl (K1 k).cells rfl hSw.2
  try simp only [Act.put,PZ]
  refine rq1 8 (fun K hK=>?_)
  go_simp
  refine (rD (K1 k) _).mono ?_
  rintro e w1 ⟨rfl,hb⟩
  have HB1:Hid (Below w.heap.size w w1):=hB.drew.trans (hb.mono hB.drew.size)
  have HC1:Hid ((∀ j,j<8→w1.cell? ⟨g,o+k*8+j,none⟩=(K1 k).cells[j]?)∧∀ j,j<8→w1.cell? ⟨g2,o2+k*8+j,none⟩=(K1 k).cells[j]?):=⟨AJ HC.out.1 rfl hb,AJ HC.out.2 rfl hb⟩
  exact cH
 obtain rfl:k=n:=by omega
 go_wp2_with fail
 go_ret
 exact ⟨rfl,hB⟩
theorem vr (l1 l2:Lng) (w:World) (hs:l1.Small) (h1:mh w l1) (h2:mh w l2) (ha:gk l1 l2) :
  Calls Tryz.prog 81 #[.agg l1.cells,.agg l2.cells] w fun e w'=>e=.returned (.bool true)∧Below w.heap.size w w':=by
 have HS:Hid l1.Small:=hs
 have H1:Hid (mh w l1):=h1
 have H2:Hid (mh w l2):=h2
 have HG:Hid (Alike l1.R l2.R):=ha.r
 have ez:l2.uz=l1.uz:=ha.z
 have el:l2.uL=l1.uL:=ha.l
 have et:l2.t=l1.t:=ha.t
 have hbb:(l1.st != l1.st)=false:=by cases l1.st <;> rfl
 obtain ⟨W,eW⟩:∃ W,(w.alloc (.cells l1.cells 99)).alloc (.cells l2.cells 99)=W:=⟨_,rfl⟩
 have HX:Hid (Two w l1.cells l2.cells 99 W):=by rw [←eW];exact Two.start _ _ _ _
 have HEB:Hid (l2.cells=#[.bool l1.st,.slice l2.aT l1.nT l2.cT,.slice l2.aU l1.nU l2.cU,.slice l2.R.aQ l2.R.nQ l2.R.cQ,.slice l2.R.aD l2.R.nD l2.R.cD,.int .i64 l2.R.turn,.bool l2.R.fresh,.slice l2.R.aS l2.R.nS l2.R.cS]):=by
  show l2.cells=_
  unfold Lng.cells
  rw [ha.st,ha.nT,ha.nU]
 have c0:W.cell? ⟨w.heap.size,0,none⟩=some (.bool l1.st):=fF HX.out.a 0
 have d0:W.cell? ⟨w.heap.size+1,0,none⟩=some (.bool l1.st):=by rw [fF HX.out.b 0,HEB.out];rfl
 have c1:W.cell? ⟨w.heap.size,1,none⟩=some (.slice l1.aT l1.nT l1.cT):=fF HX.out.a 1
 have d1:W.cell? ⟨w.heap.size+1,1,none⟩=some (.slice l2.aT l1.nT l2.cT):=by rw [fF HX.out.b 1,HEB.out];rfl
 have c2:W.cell? ⟨w.heap.size,2,none⟩=some (.slice l1.aU l1.nU l1.cU):=fF HX.out.a 2
 have d2:W.cell? ⟨w.heap.size+1,2,none⟩=some (.slice l2.aU l1.nU l2.cU):=by rw [fF HX.out.b 2,HEB.out];rfl
 have HNU:Hid (l2.nU=l1.nU):=ha.nU
 have HT2:Hid (fW w l2.aT l1.nT fun i=>.int .i64 (l1.t i)):=by have:=h2.t;rw [ha.nT,et] at this;exact this
 have HU2:Hid (fW w l2.aU l1.nU fun i=>.slice (l2.uA i) (l1.uL i) (l2.uC i)):=by have:=h2.u;rw [ha.nU,el] at this;exact this
 have HZ2:Hid (∀ i,i<l1.nU→fW w (l2.uA i) (l1.uL i) fun j=>.int .i64 (l1.uz i j)):=by have:=h2.z;rw [ha.nU,el,ez] at this;exact this
 clear hs h1 h2 ha ez el et
 go_enter Tryz.func81,Tryz.ntmps81
 go_wp2_with fail
 clear eW c0 d0 c1 d1 c2 d2
 refine (lp l1.aT l2.aT l1.nT l1.cT l2.cT l1.t _ HS.out.t (H1.out.t.up HX.out.bel) (HT2.out.up HX.out.bel)).mono ?_
 rintro e w1 ⟨rfl,hS⟩
 replace HX:Hid (Two w l1.cells l2.cells 99 w1):=HX.out.up (hS.below _)
 clear hS
 have c2:w1.cell? ⟨w.heap.size,2,none⟩=some (.slice l1.aU l1.nU l1.cU):=fF HX.out.a 2
 have d2:w1.cell? ⟨w.heap.size+1,2,none⟩=some (.slice l2.aU l1.nU l2.cU):=by rw [fF HX.out.b 2,HEB.out];rfl
 go_wp2_with fail
 clear c2 d2
 refine (pw l1.aU l2.aU l1.nU l1.cU l2.cU l1.uA l2.uA l1.uL l1.uC l2.uC l1.uz _ HS.out.u HS.out.z (H1.out.u.up HX.out.bel) (HU2.out.up HX.out.bel) (fun i hi=>(H1.out.z i hi).up HX.out.bel) (fun i hi=>(HZ2.out i hi).up HX.out.bel)).mono ?_
 rintro e w2 ⟨rfl,hS⟩
 replace HX:Hid (Two w l1.cells l2.cells 99 w2):=HX.out.up (hS.below _)
 clear hS
 have c3:w2.cell? ⟨w.heap.size,3,none⟩=some (.slice l1.R.aQ l1.R.nQ l1.R.cQ):=fF HX.out.a 3
 have d3:w2.cell? ⟨w.heap.size+1,3,none⟩=some (.slice l2.R.aQ l2.R.nQ l2.R.cQ):=fF HX.out.b 3
 have c4:w2.cell? ⟨w.heap.size,4,none⟩=some (.slice l1.R.aD l1.R.nD l1.R.cD):=fF HX.out.a 4
 have d4:w2.cell? ⟨w.heap.size+1,4,none⟩=some (.slice l2.R.aD l2.R.nD l2.R.cD):=fF HX.out.b 4
 have c5:w2.cell? ⟨w.heap.size,5,none⟩=some (.int .i64 l1.R.turn):=fF HX.out.a 5
 have d5:w2.cell? ⟨w.heap.size+1,5,none⟩=some (.int .i64 l2.R.turn):=fF HX.out.b 5
 have c6:w2.cell? ⟨w.heap.size,6,none⟩=some (.bool l1.R.fresh):=fF HX.out.a 6
 have d6:w2.cell? ⟨w.heap.size+1,6,none⟩=some (.bool l2.R.fresh):=fF HX.out.b 6
 have c7:w2.cell? ⟨w.heap.size,7,none⟩=some (.slice l1.R.aS l1.R.nS l1.R.cS):=fF HX.out.a 7
 have d7:w2.cell? ⟨w.heap.size+1,7,none⟩=some (.slice l2.R.aS l2.R.nS l2.R.cS):=fF HX.out.b 7
 go_wp2_with fail
 clear c3 d3 c4 d4 c5 d5 c6 d6 c7 d7
 refine (vq l1.R l2.R _ HS.out.r (H1.out.r.up HX.out.bel) (H2.out.r.up HX.out.bel) HG.out.nQ HG.out.q HG.out.nD HG.out.d HG.out.t HG.out.f HG.out.nS HG.out.l HG.out.z).mono ?_
 rintro e w3 ⟨rfl,hb⟩
 have B:=(HX.out.up hb).bel
 clear hb
 go_wp2_with fail
 go_ret
 exact ⟨rfl,B⟩
theorem tI (a1 a2:Option Addr) (n c1 c2:Nat) (L1 L2:Nat→Lng) (w:World) (hn:n≤1048576) (h1:pP w a1 n L1) (h2:pP w a2 n L2) (hs:∀ i,i<n→(L1 i).Small) (q1:∀ i,i<n→mh w (L1 i)) (q2:∀ i,i<n→mh w (L2 i)) (hl:∀ i,i<n→gk (L1 i) (L2 i)) :
  Calls Tryz.prog 32 #[.slice a1 n c1,.slice a2 n c2] w fun e w'=>e=.returned (.bool true)∧Below w.heap.size w w':=by
 have H1:Hid (pP w a1 n L1):=h1
 have H2:Hid (pP w a2 n L2):=h2
 have HS:Hid (∀ i,i<n→(L1 i).Small):=hs
 have Q1:Hid (∀ i,i<n→mh w (L1 i)):=q1
 have Q2:Hid (∀ i,i<n→mh w (L2 i)):=q2
 have HA:Hid (∀ i,i<n→gk (L1 i) (L2 i)):=hl
 clear h1 h2 hs q1 q2 hl
 go_enter Tryz.func32,Tryz.ntmps32
 go_wp2_with fail
 go_loopw [5] (fun i wr=>∃ k:Nat,k≤n∧i=.int .i64 k∧Below w.heap.size w wr) (fun i _=>n-(intOf i).toNat)
 case atStart=>exact ⟨0,Nat.zero_le _,rfl,Below.refl _ _⟩
 obtain ⟨k,hk,rfl,hB⟩:=hrel
 by_cases hlt:k<n
 ·
  have hlt':(k:Int)<n:=by omega
  obtain ⟨g,o,ha,hc⟩:=(H1.out.up hB.drew) k hlt
  obtain ⟨g2,o2,ha2,hc2⟩:=(H2.out.up hB.drew) k hlt
  subst ha ha2
  have HC:Hid ((∀ j,j<8→wr.drew.cell? ⟨g,o+k*8+j,none⟩=(L1 k).cells[j]?)∧∀ j,j<8→wr.drew.cell? ⟨g2,o2+k*8+j,none⟩=(L2 k).cells[j]?):=⟨hc,hc2⟩
  clear hc hc2
  go_wp2_with fail
  refine wp_region_held_drew (S:=fun w'=>(∀ j,j<8→w'.cell? ⟨g,o+k*8+j,none⟩=(L1 k).cells[j]?)∧∀ j,j<8→w'.cell? ⟨g2,o2+k*8+j,none⟩=(L2 k).cells[j]?) (by kernel_rfl) HC.out (fun hHeld=>?_)
  refine t0 ?_
  iterate 2 refine tN ?_
  refine tC 3 20 (v:=.agg (L1 k).cells) ?_ ?_
  ·
   intro wx hSw
   exact gO 99 8 _ Tryz.underlying99 rfl ir (.tmp 19) rfl g (o+k*8) rfl (L1 k).cells rfl hSw.1
  try simp only [Act.put,PZ]
  iterate 3 refine tN ?_
  refine tC 7 24 (v:=.agg (L2 k).cells) ?_ ?_
  ·
   intro wx hSw
   exact gO 99 8 _ Tryz.underlying99 rfl ir (.tmp 23) rfl g2 (o2+k*8) rfl (L2 k).cells rfl hSw.2
  try simp only [Act.put,PZ]
  refine rq1 8 (fun K hK=>?_)
  go_simp
  refine (vr (L1 k) (L2 k) _ (HS.out k hlt) ((Q1.out k hlt).up hB.drew) ((Q2.out k hlt).up hB.drew) (HA.out k hlt)).mono ?_
  rintro e w1 ⟨rfl,hb⟩
  have HB1:Hid (Below w.heap.size w w1):=hB.drew.trans (hb.mono hB.drew.size)
  have HC1:Hid ((∀ j,j<8→w1.cell? ⟨g,o+k*8+j,none⟩=(L1 k).cells[j]?)∧∀ j,j<8→w1.cell? ⟨g2,o2+k*8+j,none⟩=(L2 k).cells[j]?):=⟨AJ HC.out.1 rfl hb,AJ HC.out.2 rfl hb⟩
  exact cH
 obtain rfl:k=n:=by omega
 go_wp2_with fail
 go_ret
 exact ⟨rfl,hB⟩
theorem jV (A B:Swg) (w:World) (hs:A.Small) (h1:jL w A) (h2:jL w B) (ha:fP A B) :
  Calls Tryz.prog 10 #[.agg A.cells,.agg B.cells] w fun e w'=>e=.returned (.bool true)∧Below w.heap.size w w':=by
 have HS:Hid A.Small:=hs
 have H1:Hid (jL w A):=h1
 have HN:Hid (gw A.N B.N):=ha.n
 have HL:Hid (∀ i,i<A.nL→gk (A.L i) (B.L i)):=ha.l
 have HE2:Hid (iu w B.aE A.nE A.e):=by have:=h2.e;rw [ha.nE,ha.e] at this;exact this
 have HN2:Hid (jo w B.N):=h2.n
 have HK2:Hid (kK w B.aK A.nK A.K):=by have:=h2.k;rw [ha.nK,ha.k] at this;exact this
 have HL2:Hid (pP w B.aL A.nL B.L):=by have:=h2.l;rw [ha.nL] at this;exact this
 have HQ2:Hid (∀ i,i<A.nL→mh w (B.L i)):=by have:=h2.ls;rw [ha.nL] at this;exact this
 have eB:B.cells=#[.int .i64 A.C.p,.int .i64 A.C.c,.int .i64 A.C.xo,.int .i64 A.C.xn,.int .i64 A.C.hd,.int .i64 A.C.lo,.int .i64 A.C.dl,.int .i64 A.now,.int .i64 A.nx,.slice B.aE A.nE B.cE,.slice B.N.aU B.N.nU B.N.cU,.int .i64 B.N.lo,.slice B.N.aP B.N.nP B.N.cP,.slice B.aK A.nK B.cK,.slice B.aL A.nL B.cL,.int .i64 A.dr,.int .i64 A.lst]:=by
  unfold Swg.cells
  rw [ha.c,ha.now,ha.nx,ha.nE,ha.nK,ha.nL,ha.dr,ha.lst]
 obtain ⟨W,eW⟩:∃ W,(w.alloc (.cells A.cells 43)).alloc (.cells B.cells 43)=W:=⟨_,rfl⟩
 have HX:Hid (Two w A.cells B.cells 43 W):=by rw [←eW];exact Two.start _ _ _ _
 have HEB:Hid (B.cells=#[.int .i64 A.C.p,.int .i64 A.C.c,.int .i64 A.C.xo,.int .i64 A.C.xn,.int .i64 A.C.hd,.int .i64 A.C.lo,.int .i64 A.C.dl,.int .i64 A.now,.int .i64 A.nx,.slice B.aE A.nE B.cE,.slice B.N.aU B.N.nU B.N.cU,.int .i64 B.N.lo,.slice B.N.aP B.N.nP B.N.cP,.slice B.aK A.nK B.cK,.slice B.aL A.nL B.cL,.int .i64 A.dr,.int .i64 A.lst]):=eB
 clear hs h1 h2 ha eB
 have c0:W.cell? ⟨w.heap.size,0,none⟩=some (.int .i64 A.C.p):=fF HX.out.a 0
 have d0:W.cell? ⟨w.heap.size+1,0,none⟩=some (.int .i64 A.C.p):=by rw [fF HX.out.b 0,HEB.out];rfl
 have c1:W.cell? ⟨w.heap.size,1,none⟩=some (.int .i64 A.C.c):=fF HX.out.a 1
 have d1:W.cell? ⟨w.heap.size+1,1,none⟩=some (.int .i64 A.C.c):=by rw [fF HX.out.b 1,HEB.out];rfl
 have c2:W.cell? ⟨w.heap.size,2,none⟩=some (.int .i64 A.C.xo):=fF HX.out.a 2
 have d2:W.cell? ⟨w.heap.size+1,2,none⟩=some (.int .i64 A.C.xo):=by rw [fF HX.out.b 2,HEB.out];rfl
 have c3:W.cell? ⟨w.heap.size,3,none⟩=some (.int .i64 A.C.xn):=fF HX.out.a 3
 have d3:W.cell? ⟨w.heap.size+1,3,none⟩=some (.int .i64 A.C.xn):=by rw [fF HX.out.b 3,HEB.out];rfl
 have c4:W.cell? ⟨w.heap.size,4,none⟩=some (.int .i64 A.C.hd):=fF HX.out.a 4
 have d4:W.cell? ⟨w.heap.size+1,4,none⟩=some (.int .i64 A.C.hd):=by rw [fF HX.out.b 4,HEB.out];rfl
 have c5:W.cell? ⟨w.heap.size,5,none⟩=some (.int .i64 A.C.lo):=fF HX.out.a 5
 have d5:W.cell? ⟨w.heap.size+1,5,none⟩=some (.int .i64 A.C.lo):=by rw [fF HX.out.b 5,HEB.out];rfl
 have c6:W.cell? ⟨w.heap.size,6,none⟩=some (.int .i64 A.C.dl):=fF HX.out.a 6
 have d6:W.cell? ⟨w.heap.size+1,6,none⟩=some (.int .i64 A.C.dl):=by rw [fF HX.out.b 6,HEB.out];rfl
 go_enter Tryz.func10,Tryz.ntmps10
 go_wp2_with fail
 clear eW
 clear c0 d0 c1 d1 c2 d2 c3 d3 c4 d4 c5 d5 c6 d6
 refine (rF A.C _).mono ?_
 rintro e w1 ⟨rfl,hb⟩
 replace HX:Hid (Two w A.cells B.cells 43 w1):=HX.out.up hb
 clear hb
 have c7:w1.cell? ⟨w.heap.size,7,none⟩=some (.int .i64 A.now):=fF HX.out.a 7
 have d7:w1.cell? ⟨w.heap.size+1,7,none⟩=some (.int .i64 A.now):=by rw [fF HX.out.b 7,HEB.out];rfl
 have c8:w1.cell? ⟨w.heap.size,8,none⟩=some (.int .i64 A.nx):=fF HX.out.a 8
 have d8:w1.cell? ⟨w.heap.size+1,8,none⟩=some (.int .i64 A.nx):=by rw [fF HX.out.b 8,HEB.out];rfl
 have c9:w1.cell? ⟨w.heap.size,9,none⟩=some (.slice A.aE A.nE A.cE):=fF HX.out.a 9
 have d9:w1.cell? ⟨w.heap.size+1,9,none⟩=some (.slice B.aE A.nE B.cE):=by rw [fF HX.out.b 9,HEB.out];rfl
 go_wp2_with fail
 clear c7 d7 c8 d8 c9 d9
 refine (xH A.aE B.aE A.nE A.cE B.cE A.e _ HS.out.e (H1.out.e.up HX.out.bel) (HE2.out.up HX.out.bel)).mono ?_
 rintro e w2 ⟨rfl,hb⟩
 replace HX:Hid (Two w A.cells B.cells 43 w2):=HX.out.up hb
 clear hb
 have c10:w2.cell? ⟨w.heap.size,10,none⟩=some (.slice A.N.aU A.N.nU A.N.cU):=fF HX.out.a 10
 have d10:w2.cell? ⟨w.heap.size+1,10,none⟩=some (.slice B.N.aU B.N.nU B.N.cU):=by rw [fF HX.out.b 10,HEB.out];rfl
 have c11:w2.cell? ⟨w.heap.size,11,none⟩=some (.int .i64 A.N.lo):=fF HX.out.a 11
 have d11:w2.cell? ⟨w.heap.size+1,11,none⟩=some (.int .i64 B.N.lo):=by rw [fF HX.out.b 11,HEB.out];rfl
 have c12:w2.cell? ⟨w.heap.size,12,none⟩=some (.slice A.N.aP A.N.nP A.N.cP):=fF HX.out.a 12
 have d12:w2.cell? ⟨w.heap.size+1,12,none⟩=some (.slice B.N.aP B.N.nP B.N.cP):=by rw [fF HX.out.b 12,HEB.out];rfl
 go_wp2_with fail
 clear c10 d10 c11 d11 c12 d12
 refine (tO A.N B.N _ HS.out.n (H1.out.n.up HX.out.bel) (HN2.out.up HX.out.bel) HN.out).mono ?_
 rintro e w3 ⟨rfl,hb⟩
 replace HX:Hid (Two w A.cells B.cells 43 w3):=HX.out.up hb
 clear hb
 have c13:w3.cell? ⟨w.heap.size,13,none⟩=some (.slice A.aK A.nK A.cK):=fF HX.out.a 13
 have d13:w3.cell? ⟨w.heap.size+1,13,none⟩=some (.slice B.aK A.nK B.cK):=by rw [fF HX.out.b 13,HEB.out];rfl
 go_wp2_with fail
 clear c13 d13
 refine (rC A.aK B.aK A.nK A.cK B.cK A.K _ HS.out.k (H1.out.k.up HX.out.bel) (HK2.out.up HX.out.bel)).mono ?_
 rintro e w4 ⟨rfl,hb⟩
 replace HX:Hid (Two w A.cells B.cells 43 w4):=HX.out.up hb
 clear hb
 have c14:w4.cell? ⟨w.heap.size,14,none⟩=some (.slice A.aL A.nL A.cL):=fF HX.out.a 14
 have d14:w4.cell? ⟨w.heap.size+1,14,none⟩=some (.slice B.aL A.nL B.cL):=by rw [fF HX.out.b 14,HEB.out];rfl
 go_wp2_with fail
 clear c14 d14
 refine (tI A.aL B.aL A.nL A.cL B.cL A.L B.L _ HS.out.l (H1.out.l.up HX.out.bel) (HL2.out.up HX.out.bel) HS.out.ls (fun i hi=>(H1.out.ls i hi).up HX.out.bel) (fun i hi=>(HQ2.out i hi).up HX.out.bel) HL.out).mono ?_
 rintro e w5 ⟨rfl,hb⟩
 replace HX:Hid (Two w A.cells B.cells 43 w5):=HX.out.up hb
 clear hb
 have c15:w5.cell? ⟨w.heap.size,15,none⟩=some (.int .i64 A.dr):=fF HX.out.a 15
 have d15:w5.cell? ⟨w.heap.size+1,15,none⟩=some (.int .i64 A.dr):=by rw [fF HX.out.b 15,HEB.out];rfl
 have c16:w5.cell? ⟨w.heap.size,16,none⟩=some (.int .i64 A.lst):=fF HX.out.a 16
 have d16:w5.cell? ⟨w.heap.size+1,16,none⟩=some (.int .i64 A.lst):=by rw [fF HX.out.b 16,HEB.out];rfl
 have B9:=HX.out.bel
 go_wp2_with fail
 go_ret
 exact ⟨rfl,B9⟩
end Go.Proofs.YtjaobmbcmjgjgaaGreatDoor
