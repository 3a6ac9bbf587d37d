import Derived.Test.YthicmlolanifhaaGreatK11
namespace Go.Proofs.YthicmlolanifhaaGreat
set_option maxRecDepth 100000
open Go.RowKit
set_option linter.unusedVariables false
set_option linter.unusedSimpArgs false
theorem bw {p:Prop} (h:p:=by
 intro wx hSw
 have hS1:=hSw
 obtain ⟨c1,c2,c3,c4,c5,c6,c7⟩:=lb7 hS1
 go_simp
 try (first | (with_reducible rfl) | omega | (simp;omega))):p:=h
theorem bx {p:Prop} (h:p:=by
 refine tX ?_
 refine dnq ?_
 have B9:=under hB1
 clear q1 hHeld hB1 hB
 exact br):p:=h
theorem bz {p:Prop} (h:p:=by
 refine dnq ?_
 have B9:=under hB3
 clear q1 q2 q3 hHeld hB1 hB2 hB3 hB
 exact br):p:=h
def qf (i:Nat):Int:=if i=0 then 2 else 4
theorem tR (w:World):iq (w.alloc (.cells #[.int .i64 2,.int .i64 4] 2)) (some ⟨w.heap.size,0,none⟩) 2 fun i=>.int .i64 (qf i):=by
 intro i hi
 refine ⟨w.heap.size,0,rfl,?_⟩
 rw [Nat.zero_add,gM (gV w _)]
 rcases i with _ | _ | i
 ·
  rfl
 ·
  rfl
 omega
theorem rI (w:World):Calls Tryz.prog 108 #[] w fun e w'=>e=.returned (.slice (some ⟨w.heap.size,0,none⟩) 2 2)∧w'=w.alloc (.cells #[.int .i64 2,.int .i64 4] 2):=by
 go_enter Tryz.func108,Tryz.ntmps108
 go_wp2
 go_ret
 exact ⟨rfl,rfl⟩
theorem iJ {w W:World} {A:Array Value} {t:TypeId} (h:Below (w.heap.size+1) (w.alloc (.cells A t)) W):W.heap[w.heap.size]?=some (.cells A t (0,0)):=(h.block _ (by omega)).trans (gV _ _)
theorem lf {w:World} {a:Option Addr} {n g o k:Nat} {f:Nat→Value} (h:iq w a n f) (ha:a=some ⟨g,o,none⟩) (hk:k<n):w.cell? ⟨g,o+k,none⟩=some (f k):=by
 obtain ⟨g',o',e,hc⟩:=h k hk
 rw [ha] at e
 cases e
 exact hc
theorem sZ {R:Rnd} (h:R.Small):R.Fit:=⟨Nat.le_trans h.q (by unfold maxLen;omega),Nat.le_trans h.d (by unfold maxLen;omega),Nat.le_trans h.s (by unfold maxLen;omega),fun i hi=>Nat.le_trans (h.l i hi) (by unfold maxLen;omega)⟩
def ta (m:Nat) (Kp:Nat→Pkt) (l:Lng) (c:Nat):Prop:=nj (l.uL c) (l.uz c) (c:Int) m Kp∧l.uL c=l.R.L c∧∀ i,i<l.uL c→∀ j,j<m→(Kp j).id=l.uz c i→l.R.z c i=(Kp j).cl
open Classical in
theorem yF (n:Nat) (z:Nat→Int) (m:Nat) (Kp:Nat→Pkt) (h:∀ i,i<n→∃ j,j<m∧(Kp j).id=z i):∃ q:Nat→Int,∀ i,i<n→∃ j,j<m∧(Kp j).id=z i∧q i=(Kp j).cl:=by
 refine ⟨fun i=>if h:∃ j,j<m∧(Kp j).id=z i then (Kp h.choose).cl else 0,fun i hi=>?_⟩
 have hx:=h i hi
 refine ⟨hx.choose,hx.choose_spec.1,hx.choose_spec.2,?_⟩
 show (if h:∃ j,j<m∧(Kp j).id=z i then (Kp h.choose).cl else 0)=_
 rw [dif_pos hx]
set_option maxHeartbeats 4000000 in
theorem yS (l:Lng) (aK:Option Addr) (m cK:Nat) (Kp:Nat→Pkt) (nx p:Int) (w:World) (hs:l.Small) (hr:tH w l) (hk:mI w aK m Kp) (hP:jS nx p m Kp) (ok:Bool) (hok:ok=true↔lB m Kp l) :
  Calls Tryz.prog 75 #[.agg l.cells,.slice aK m cK] w fun e w'=>e=.returned (.bool ok)∧Below w.heap.size w w':=by
 have HO:Hid (ok=true↔lB m Kp l):=hok
 have HR:Hid (tH w l):=hr
 have HK:Hid (mI w aK m Kp):=hk
 have HPk:Hid (jS nx p m Kp):=hP
 have HSm:Hid l.Small:=hs
 have HFit:Hid l.R.Fit:=sZ hs.r
 have hm:m≤1000:=hP.le
 have hnU:l.nU≤1048576:=hs.u
 have hnQ:l.R.nQ≤1048576:=hs.r.q
 have hB:Below (w.heap.size+1) (w.alloc (.cells l.cells 48)) (w.alloc (.cells l.cells 48)):=Below.refl _ _
 obtain ⟨rk,hrk⟩:=je l.R.Ok
 have HRk:Hid (rk=true↔l.R.Ok):=hrk
 obtain ⟨ek,hek⟩:=je (l.R.nQ=2∧∀ i,i<l.R.nQ→l.R.q i=qf i)
 have HEk:Hid (ek=true↔l.R.nQ=2∧∀ i,i<l.R.nQ→l.R.q i=qf i):=hek
 clear hok hr hk hP hs hrk hek
 go_enter Tryz.func75,Tryz.ntmps75
 go_wp2_with fail
 cases rk
 ·
  have HF:Hid (ok=false):=by
   rw [Hid,Bool.eq_false_iff]
   intro e
   exact absurd (HRk.out.2 (HO.out.1 e).r) (by simp)
  have HRn:Hid (¬ l.R.Ok):=fun h=>absurd (HRk.out.2 h) (by simp)
  refine wp_region_held_drew (S:=fun w'=>w'.heap[w.heap.size]?=some (.cells l.cells 48 (0,0))) (by kernel_rfl) (iJ hB.drew) (fun hHeld=>?_)
  have Hcs:Hid (∀ wx:World,(fun w':World=>w'.heap[w.heap.size]?=some (.cells l.cells 48 (0,0))) wx→wx.cell? ⟨w.heap.size,1,none⟩=some (.slice l.aT l.nT l.cT)∧wx.cell? ⟨w.heap.size,2,none⟩=some (.slice l.aU l.nU l.cU)∧wx.cell? ⟨w.heap.size,3,none⟩=some (.slice l.R.aQ l.R.nQ l.R.cQ)∧wx.cell? ⟨w.heap.size,4,none⟩=some (.slice l.R.aD l.R.nD l.R.cD)∧wx.cell? ⟨w.heap.size,5,none⟩=some (.int .i64 l.R.turn)∧wx.cell? ⟨w.heap.size,6,none⟩=some (.bool l.R.fresh)∧wx.cell? ⟨w.heap.size,7,none⟩=some (.slice l.R.aS l.R.nS l.R.cS)):=fun wx hSw=>by
   have hS1:=hSw
   obtain ⟨c1,c2,c3,c4,c5,c6,c7⟩:=lb7 hS1
   exact ⟨c1,c2,c3,c4,c5,c6,c7⟩
  refine tX0 ?_
  refine tX ?_
  refine rq1 2 (fun K hK=>?_)
  go_simp
  refine (me l.R _ HFit.out (HR.out.r.up (under hB.drew)) false ⟨fun h=>(by cases h),fun h=>absurd h HRn.out⟩).mono ?_
  rintro e w1 ⟨rfl,hb⟩
  have hB1:=next hB.drew hb
  clear hb
  have q1:=iJ hB1
  go_wp2_with fail
  refine hK.out _ _ q1 (fun hHeld=>?_)
  clear hK K
  try simp only [Act.put,PZ]
  iterate 2 refine tX ?_
  iterate 6 refine sN ?_
  iterate 2 refine tX ?_
  iterate 8 refine sN ?_
  exact bx
 have HRo:Hid l.R.Ok:=HRk.out.1 rfl
 cases ek
 ·
  have HQn:Hid (¬ (l.R.nQ=2∧∀ i,i<l.R.nQ→l.R.q i=qf i)):=fun h=>absurd (HEk.out.2 h) (by simp)
  have HF:Hid (ok=false):=by
   rw [Hid,Bool.eq_false_iff]
   intro e
   have ho:=HO.out.1 e
   refine absurd (HEk.out.2 ⟨ho.n,fun i hi=>?_⟩) (by simp)
   rw [ho.n] at hi
   rcases i with _ | _ | i
   ·
    exact ho.q0
   ·
    exact ho.q1
   omega
  refine wp_region_held_drew (S:=fun w'=>w'.heap[w.heap.size]?=some (.cells l.cells 48 (0,0))) (by kernel_rfl) (iJ hB.drew) (fun hHeld=>?_)
  have Hcs:Hid (∀ wx:World,(fun w':World=>w'.heap[w.heap.size]?=some (.cells l.cells 48 (0,0))) wx→wx.cell? ⟨w.heap.size,1,none⟩=some (.slice l.aT l.nT l.cT)∧wx.cell? ⟨w.heap.size,2,none⟩=some (.slice l.aU l.nU l.cU)∧wx.cell? ⟨w.heap.size,3,none⟩=some (.slice l.R.aQ l.R.nQ l.R.cQ)∧wx.cell? ⟨w.heap.size,4,none⟩=some (.slice l.R.aD l.R.nD l.R.cD)∧wx.cell? ⟨w.heap.size,5,none⟩=some (.int .i64 l.R.turn)∧wx.cell? ⟨w.heap.size,6,none⟩=some (.bool l.R.fresh)∧wx.cell? ⟨w.heap.size,7,none⟩=some (.slice l.R.aS l.R.nS l.R.cS)):=fun wx hSw=>by
   have hS1:=hSw
   obtain ⟨c1,c2,c3,c4,c5,c6,c7⟩:=lb7 hS1
   exact ⟨c1,c2,c3,c4,c5,c6,c7⟩
  refine tX0 ?_
  refine tX ?_
  refine rq1 2 (fun K hK=>?_)
  go_simp
  refine (me l.R _ HFit.out (HR.out.r.up (under hB.drew)) true ⟨fun _=>HRo.out,fun _=>rfl⟩).mono ?_
  rintro e w1 ⟨rfl,hb⟩
  have hB1:=next hB.drew hb
  clear hb
  have q1:=iJ hB1
  go_wp2_with fail
  refine hK.out _ _ q1 (fun hHeld=>?_)
  clear hK K
  try simp only [Act.put,PZ]
  iterate 5 refine tX ?_
  refine rq1 8 (fun K hK=>?_)
  go_simp
  refine (rI _).mono ?_
  rintro e w2 ⟨rfl,e2⟩
  have hb:Below w1.heap.size w1 w2:=by rw [e2];exact (Below.refl _ _).alloc (Nat.le_refl _) _
  have hq2:iq w2 (some ⟨w1.heap.size,0,none⟩) 2 fun i=>.int .i64 (qf i):=by rw [e2];exact tR w1
  have hB2:=next hB1 hb
  clear hb e2
  have q2:=iJ hB2
  go_wp2_with fail
  refine hK.out _ _ q2 (fun hHeld=>?_)
  clear hK K
  try simp only [Act.put,PZ]
  refine rq1 9 (fun K hK=>?_)
  go_simp
  refine (lO l.R.aQ (some ⟨w1.heap.size,0,none⟩) l.R.nQ 2 l.R.cQ 2 l.R.q qf _ HSm.out.r.q (by omega) (HR.out.r.q.up (under hB2)) hq2 false ⟨fun h=>(by cases h),fun h=>absurd h HQn.out⟩).mono ?_
  rintro e w3 ⟨rfl,hSm⟩
  have hB3:=next hB2 (hSm.below _)
  clear hSm hq2
  have q3:=iJ hB3
  go_wp2_with fail
  refine hK.out _ _ q3 (fun hHeld=>?_)
  clear hK K
  try simp only [Act.put,PZ]
  iterate 3 refine tX ?_
  iterate 8 refine sN ?_
  refine tX ?_
  exact bz
 have HQo:Hid (l.R.nQ=2∧∀ i,i<l.R.nQ→l.R.q i=qf i):=HEk.out.1 rfl
 have e2:=HQo.out.1
 by_cases hU:l.nU=2
 ·
  have hU':((l.nU:Int) != (l.R.nQ:Int))=false:=by simp;omega
  have hU'':(l.nU:Int)=(l.R.nQ:Int):=by omega
  have HU2:Hid (l.nU=2):=hU
  have HE2:Hid (l.R.nQ=2):=e2
  clear e2 hU
  refine wp_region_held_drew (S:=fun w'=>w'.heap[w.heap.size]?=some (.cells l.cells 48 (0,0))) (by kernel_rfl) (iJ hB.drew) (fun hHeld=>?_)
  have Hcs:Hid (∀ wx:World,(fun w':World=>w'.heap[w.heap.size]?=some (.cells l.cells 48 (0,0))) wx→wx.cell? ⟨w.heap.size,1,none⟩=some (.slice l.aT l.nT l.cT)∧wx.cell? ⟨w.heap.size,2,none⟩=some (.slice l.aU l.nU l.cU)∧wx.cell? ⟨w.heap.size,3,none⟩=some (.slice l.R.aQ l.R.nQ l.R.cQ)∧wx.cell? ⟨w.heap.size,4,none⟩=some (.slice l.R.aD l.R.nD l.R.cD)∧wx.cell? ⟨w.heap.size,5,none⟩=some (.int .i64 l.R.turn)∧wx.cell? ⟨w.heap.size,6,none⟩=some (.bool l.R.fresh)∧wx.cell? ⟨w.heap.size,7,none⟩=some (.slice l.R.aS l.R.nS l.R.cS)):=fun wx hSw=>by
   have hS1:=hSw
   obtain ⟨c1,c2,c3,c4,c5,c6,c7⟩:=lb7 hS1
   exact ⟨c1,c2,c3,c4,c5,c6,c7⟩
  refine tX0 ?_
  refine tX ?_
  refine rq1 2 (fun K hK=>?_)
  go_simp
  refine (me l.R _ HFit.out (HR.out.r.up (under hB.drew)) true ⟨fun _=>HRo.out,fun _=>rfl⟩).mono ?_
  rintro e w1 ⟨rfl,hb⟩
  have hB1:=next hB.drew hb
  clear hb
  have q1:=iJ hB1
  go_wp2_with fail
  refine hK.out _ _ q1 (fun hHeld=>?_)
  clear hK K
  try simp only [Act.put,PZ]
  iterate 5 refine tX ?_
  refine rq1 8 (fun K hK=>?_)
  go_simp
  refine (rI _).mono ?_
  rintro e w2 ⟨rfl,e2⟩
  have hb:Below w1.heap.size w1 w2:=by rw [e2];exact (Below.refl _ _).alloc (Nat.le_refl _) _
  have hq2:iq w2 (some ⟨w1.heap.size,0,none⟩) 2 fun i=>.int .i64 (qf i):=by rw [e2];exact tR w1
  have hB2:=next hB1 hb
  clear hb e2
  have q2:=iJ hB2
  go_wp2_with fail
  refine hK.out _ _ q2 (fun hHeld=>?_)
  clear hK K
  try simp only [Act.put,PZ]
  refine rq1 9 (fun K hK=>?_)
  go_simp
  refine (lO l.R.aQ (some ⟨w1.heap.size,0,none⟩) l.R.nQ 2 l.R.cQ 2 l.R.q qf _ HSm.out.r.q (by omega) (HR.out.r.q.up (under hB2)) hq2 true ⟨fun _=>HQo.out,fun _=>rfl⟩).mono ?_
  rintro e w3 ⟨rfl,hSm⟩
  have hB3:=next hB2 (hSm.below _)
  clear hSm hq2
  have q3:=iJ hB3
  go_wp2_with fail
  refine hK.out _ _ q3 (fun hHeld=>?_)
  clear hK K
  try simp only [Act.put,PZ]
  iterate 10 refine tX ?_
  refine tC 20 27 (v:=.bool false) ?_ ?_
  · exact bw
  try simp only [Act.put,PZ]
  refine tX ?_
  refine dnq ?_
  clear hU' hU''
  have e2:=HE2.out
  have hU:=HU2.out
  have hB:=hB3
  clear q1 q2 q3 hHeld hB1 hB2 hB3
  have HnS:Hid (l.R.nS=2):=HRo.out.s.trans e2
  have c2:w3.cell? ⟨w.heap.size,2,none⟩=some (.slice l.aU l.nU l.cU):=gM (iJ hB) 2
  clear hU e2
  go_wp2_with fail
  clear c2
  go_loopw [32] (fun i wr=>∃ k:Nat,k≤l.nU∧i=.int .i64 k∧(∀ c,c<k→ta m Kp l c)∧Below (w.heap.size+1) (w.alloc (.cells l.cells 48)) wr) (fun i _=>l.nU-(intOf i).toNat)
  case atStart=>exact ⟨0,Nat.zero_le _,rfl,fun c hc=>by omega,hB⟩
  clear hB
  obtain ⟨k,hk,rfl,hall,hB⟩:=hrel
  have HA:Hid (∀ c,c<k→ta m Kp l c):=hall
  clear hall
  by_cases hlt:k<l.nU
  ·
   have hlt':(k:Int)<l.nU:=by omega
   have hltS:k<l.R.nS:=by have:=HnS.out;have:=HU2.out;omega
   have hltS':(k:Int)<l.R.nS:=by omega
   obtain ⟨gu,ou,eu,u1⟩:=(HR.out.u.up (under hB)) k hlt
   obtain ⟨gs,os,eS,_⟩:=HR.out.r.s k hltS
   have HaS:Hid (l.R.aS=some ⟨gs,os,none⟩):=eS
   dsimp only at u1
   rw [eu]
   obtain ⟨ik,hik⟩:=je (nj (l.uL k) (l.uz k) (k:Int) m Kp)
   have HIk:Hid (ik=true↔nj (l.uL k) (l.uz k) (k:Int) m Kp):=hik
   clear hik eS
   go_wp2_with fail
   clear u1 eu
   cases ik
   ·
    have HIn:Hid (¬ nj (l.uL k) (l.uz k) (k:Int) m Kp):=fun h=>absurd (HIk.out.2 h) (by simp)
    have HF:Hid (ok=false):=by
     rw [Hid,Bool.eq_false_iff]
     intro e
     have hu2:=HU2.out
     exact absurd (HIk.out.2 ((HO.out.1 e).z k (by omega)).1) (by simp)
    refine wp_region_held_drew (S:=fun w'=>w'.heap[w.heap.size]?=some (.cells l.cells 48 (0,0))∧w'.cell? ⟨gs,os+k,none⟩=some (.slice (l.R.A k) (l.R.L k) (l.R.C k))) (by kernel_rfl) ⟨iJ hB.drew,lf (HR.out.r.s.up (under hB.drew)) HaS.out hltS⟩ (fun hHeld=>?_)
    have Hcs:Hid (∀ wx:World,(fun w':World=>w'.heap[w.heap.size]?=some (.cells l.cells 48 (0,0))∧w'.cell? ⟨gs,os+k,none⟩=some (.slice (l.R.A k) (l.R.L k) (l.R.C k))) wx→wx.cell? ⟨w.heap.size,1,none⟩=some (.slice l.aT l.nT l.cT)∧wx.cell? ⟨w.heap.size,2,none⟩=some (.slice l.aU l.nU l.cU)∧wx.cell? ⟨w.heap.size,3,none⟩=some (.slice l.R.aQ l.R.nQ l.R.cQ)∧wx.cell? ⟨w.heap.size,4,none⟩=some (.slice l.R.aD l.R.nD l.R.cD)∧wx.cell? ⟨w.heap.size,5,none⟩=some (.int .i64 l.R.turn)∧wx.cell? ⟨w.heap.size,6,none⟩=some (.bool l.R.fresh)∧wx.cell? ⟨w.heap.size,7,none⟩=some (.slice (some ⟨gs,os,none⟩) l.R.nS l.R.cS)):=fun wx hSw=>by
     obtain ⟨hS1,hS2⟩:=hSw
     obtain ⟨c1,c2,c3,c4,c5,c6,c7⟩:=lb7 hS1
     rw [HaS.out] at c7
     exact ⟨c1,c2,c3,c4,c5,c6,c7⟩
    refine tX0 ?_
    iterate 2 refine tX ?_
    refine rq1 3 (fun K hK=>?_)
    go_simp
    refine (pF (l.uA k) (l.uL k) (l.uC k) (l.uz k) (k:Int) aK m cK Kp _ (HSm.out.z k hlt) (by omega) ((HR.out.z k hlt).up (under hB.drew)) (HK.out.up (under hB.drew)) HPk.out.up false ⟨fun h=>(by cases h),fun h=>absurd h HIn.out⟩).mono ?_
    rintro e w1 ⟨rfl,hb⟩
    have hB1:=next hB.drew hb
    clear hb
    have q1:_∧_:=⟨iJ hB1,lf (HR.out.r.s.up (under hB1)) HaS.out hltS⟩
    go_wp2_with fail
    refine hK.out _ _ q1 (fun hHeld=>?_)
    clear hK K
    try simp only [Act.put,PZ]
    iterate 2 refine tX ?_
    iterate 11 refine sN ?_
    exact bx
   have HIo:Hid (nj (l.uL k) (l.uz k) (k:Int) m Kp):=HIk.out.1 rfl
   obtain ⟨q,hq⟩:=yF (l.uL k) (l.uz k) m Kp (fun i hi=>by
    obtain ⟨⟨j,hj,e1,_⟩,_⟩:=HIo.out i hi
    exact ⟨j,hj,e1⟩)
   have HQ:Hid (∀ i,i<l.uL k→∃ j,j<m∧(Kp j).id=l.uz k i∧q i=(Kp j).cl):=hq
   obtain ⟨eq,heq⟩:=je (l.R.L k=l.uL k∧∀ i,i<l.R.L k→l.R.z k i=q i)
   have HEq:Hid (eq=true↔l.R.L k=l.uL k∧∀ i,i<l.R.L k→l.R.z k i=q i):=heq
   clear hq heq
   cases eq
   ·
    have HEn:Hid (¬ (l.R.L k=l.uL k∧∀ i,i<l.R.L k→l.R.z k i=q i)):=fun h=>absurd (HEq.out.2 h) (by simp)
    have HF:Hid (ok=false):=by
     rw [Hid,Bool.eq_false_iff]
     intro e
     have hu2:=HU2.out
     obtain ⟨_,h2,h3⟩:=(HO.out.1 e).z k (by omega)
     refine absurd (HEq.out.2 ⟨h2.symm,fun i hi=>?_⟩) (by simp)
     rw [←h2] at hi
     obtain ⟨j,hj,e1,e2⟩:=HQ.out i hi
     rw [e2]
     exact h3 i hi j hj e1
    refine wp_region_held_drew (S:=fun w'=>w'.heap[w.heap.size]?=some (.cells l.cells 48 (0,0))∧w'.cell? ⟨gs,os+k,none⟩=some (.slice (l.R.A k) (l.R.L k) (l.R.C k))) (by kernel_rfl) ⟨iJ hB.drew,lf (HR.out.r.s.up (under hB.drew)) HaS.out hltS⟩ (fun hHeld=>?_)
    have Hcs:Hid (∀ wx:World,(fun w':World=>w'.heap[w.heap.size]?=some (.cells l.cells 48 (0,0))∧w'.cell? ⟨gs,os+k,none⟩=some (.slice (l.R.A k) (l.R.L k) (l.R.C k))) wx→wx.cell? ⟨w.heap.size,1,none⟩=some (.slice l.aT l.nT l.cT)∧wx.cell? ⟨w.heap.size,2,none⟩=some (.slice l.aU l.nU l.cU)∧wx.cell? ⟨w.heap.size,3,none⟩=some (.slice l.R.aQ l.R.nQ l.R.cQ)∧wx.cell? ⟨w.heap.size,4,none⟩=some (.slice l.R.aD l.R.nD l.R.cD)∧wx.cell? ⟨w.heap.size,5,none⟩=some (.int .i64 l.R.turn)∧wx.cell? ⟨w.heap.size,6,none⟩=some (.bool l.R.fresh)∧wx.cell? ⟨w.heap.size,7,none⟩=some (.slice (some ⟨gs,os,none⟩) l.R.nS l.R.cS)):=fun wx hSw=>by
     obtain ⟨hS1,hS2⟩:=hSw
     obtain ⟨c1,c2,c3,c4,c5,c6,c7⟩:=lb7 hS1
     rw [HaS.out] at c7
     exact ⟨c1,c2,c3,c4,c5,c6,c7⟩
    refine tX0 ?_
    iterate 2 refine tX ?_
    refine rq1 3 (fun K hK=>?_)
    go_simp
    refine (pF (l.uA k) (l.uL k) (l.uC k) (l.uz k) (k:Int) aK m cK Kp _ (HSm.out.z k hlt) (by omega) ((HR.out.z k hlt).up (under hB.drew)) (HK.out.up (under hB.drew)) HPk.out.up true ⟨fun _=>HIo.out,fun _=>rfl⟩).mono ?_
    rintro e w1 ⟨rfl,hb⟩
    have hB1:=next hB.drew hb
    clear hb
    have q1:_∧_:=⟨iJ hB1,lf (HR.out.r.s.up (under hB1)) HaS.out hltS⟩
    go_wp2_with fail
    refine hK.out _ _ q1 (fun hHeld=>?_)
    clear hK K
    try simp only [Act.put,PZ]
    iterate 10 refine tX ?_
    refine rq1 14 (fun K hK=>?_)
    go_simp
    refine (qD (l.uA k) (l.uL k) (l.uC k) (l.uz k) aK m cK Kp nx p q _ (HSm.out.z k hlt) ((HR.out.z k hlt).up (under hB1)) (HK.out.up (under hB1)) HPk.out HQ.out).mono ?_
    rintro e w2 ⟨a2,c2',rfl,hrow,hb⟩
    have hB2:=next hB1 hb
    clear hb
    have q2:_∧_:=⟨iJ hB2,lf (HR.out.r.s.up (under hB2)) HaS.out hltS⟩
    go_wp2_with fail
    refine hK.out _ _ q2 (fun hHeld=>?_)
    clear hK K
    try simp only [Act.put,PZ]
    refine rq1 15 (fun K hK=>?_)
    go_simp
    refine (lO (l.R.A k) a2 (l.R.L k) (l.uL k) (l.R.C k) c2' (l.R.z k) q _ (HSm.out.r.l k hltS) (HSm.out.z k hlt) ((HR.out.r.z k hltS).up (under hB2)) hrow false ⟨fun h=>(by cases h),fun h=>absurd h HEn.out⟩).mono ?_
    rintro e w3 ⟨rfl,hSm⟩
    have hB3:=next hB2 (hSm.below _)
    clear hSm hrow
    have q3:_∧_:=⟨iJ hB3,lf (HR.out.r.s.up (under hB3)) HaS.out hltS⟩
    go_wp2_with fail
    refine hK.out _ _ q3 (fun hHeld=>?_)
    clear hK K
    try simp only [Act.put,PZ]
    iterate 2 refine tX ?_
    exact bz
   have HEo:Hid (l.R.L k=l.uL k∧∀ i,i<l.R.L k→l.R.z k i=q i):=HEq.out.1 rfl
   have HQp:Hid (ta m Kp l k):=by
    obtain ⟨h2,h3⟩:=HEq.out.1 rfl
    refine ⟨HIo.out,h2.symm,fun i hi j hj e1=>?_⟩
    obtain ⟨j',hj',e1',e2⟩:=HQ.out i hi
    obtain rfl:=mM HPk.out.up hj hj' (e1.trans e1'.symm)
    rw [h3 i (by omega),e2]
   refine wp_region_held_drew (S:=fun w'=>w'.heap[w.heap.size]?=some (.cells l.cells 48 (0,0))∧w'.cell? ⟨gs,os+k,none⟩=some (.slice (l.R.A k) (l.R.L k) (l.R.C k))) (by kernel_rfl) ⟨iJ hB.drew,lf (HR.out.r.s.up (under hB.drew)) HaS.out hltS⟩ (fun hHeld=>?_)
   have Hcs:Hid (∀ wx:World,(fun w':World=>w'.heap[w.heap.size]?=some (.cells l.cells 48 (0,0))∧w'.cell? ⟨gs,os+k,none⟩=some (.slice (l.R.A k) (l.R.L k) (l.R.C k))) wx→wx.cell? ⟨w.heap.size,1,none⟩=some (.slice l.aT l.nT l.cT)∧wx.cell? ⟨w.heap.size,2,none⟩=some (.slice l.aU l.nU l.cU)∧wx.cell? ⟨w.heap.size,3,none⟩=some (.slice l.R.aQ l.R.nQ l.R.cQ)∧wx.cell? ⟨w.heap.size,4,none⟩=some (.slice l.R.aD l.R.nD l.R.cD)∧wx.cell? ⟨w.heap.size,5,none⟩=some (.int .i64 l.R.turn)∧wx.cell? ⟨w.heap.size,6,none⟩=some (.bool l.R.fresh)∧wx.cell? ⟨w.heap.size,7,none⟩=some (.slice (some ⟨gs,os,none⟩) l.R.nS l.R.cS)):=fun wx hSw=>by
    obtain ⟨hS1,hS2⟩:=hSw
    obtain ⟨c1,c2,c3,c4,c5,c6,c7⟩:=lb7 hS1
    rw [HaS.out] at c7
    exact ⟨c1,c2,c3,c4,c5,c6,c7⟩
   refine tX0 ?_
   iterate 2 refine tX ?_
   refine rq1 3 (fun K hK=>?_)
   go_simp
   refine (pF (l.uA k) (l.uL k) (l.uC k) (l.uz k) (k:Int) aK m cK Kp _ (HSm.out.z k hlt) (by omega) ((HR.out.z k hlt).up (under hB.drew)) (HK.out.up (under hB.drew)) HPk.out.up true ⟨fun _=>HIo.out,fun _=>rfl⟩).mono ?_
   rintro e w1 ⟨rfl,hb⟩
   have hB1:=next hB.drew hb
   clear hb
   have q1:_∧_:=⟨iJ hB1,lf (HR.out.r.s.up (under hB1)) HaS.out hltS⟩
   go_wp2_with fail
   refine hK.out _ _ q1 (fun hHeld=>?_)
   clear hK K
   try simp only [Act.put,PZ]
   iterate 10 refine tX ?_
   refine rq1 14 (fun K hK=>?_)
   go_simp
   refine (qD (l.uA k) (l.uL k) (l.uC k) (l.uz k) aK m cK Kp nx p q _ (HSm.out.z k hlt) ((HR.out.z k hlt).up (under hB1)) (HK.out.up (under hB1)) HPk.out HQ.out).mono ?_
   rintro e w2 ⟨a2,c2',rfl,hrow,hb⟩
   have hB2:=next hB1 hb
   clear hb
   have q2:_∧_:=⟨iJ hB2,lf (HR.out.r.s.up (under hB2)) HaS.out hltS⟩
   go_wp2_with fail
   refine hK.out _ _ q2 (fun hHeld=>?_)
   clear hK K
   try simp only [Act.put,PZ]
   refine rq1 15 (fun K hK=>?_)
   go_simp
   refine (lO (l.R.A k) a2 (l.R.L k) (l.uL k) (l.R.C k) c2' (l.R.z k) q _ (HSm.out.r.l k hltS) (HSm.out.z k hlt) ((HR.out.r.z k hltS).up (under hB2)) hrow true ⟨fun _=>HEo.out,fun _=>rfl⟩).mono ?_
   rintro e w3 ⟨rfl,hSm⟩
   have hB3:=next hB2 (hSm.below _)
   clear hSm hrow
   have q3:_∧_:=⟨iJ hB3,lf (HR.out.r.s.up (under hB3)) HaS.out hltS⟩
   go_wp2_with fail
   refine hK.out _ _ q3 (fun hHeld=>?_)
   clear hK K
   try simp only [Act.put,PZ]
   iterate 2 refine tX ?_
   refine dnq ?_
   clear q1 q2 q3 hHeld hB1 hB2 hB
   go_wp2_with fail
   go_roundw
   case rel=>exact ⟨k+1,by omega,by go_num,fun c hc=>by
    by_cases e:c=k
    ·
     subst e;exact HQp.out
    ·
     exact HA.out c (by omega),hB3⟩
   case measure=>simp [intOf];omega
  obtain rfl:k=l.nU:=by omega
  have hge:¬ ((l.nU:Nat):Int)<((l.nU:Nat):Int):=by omega
  obtain ⟨tk,htk⟩:=je (nj l.nT l.t 2 m Kp)
  have HTk:Hid (tk=true↔nj l.nT l.t 2 m Kp):=htk
  have HE:Hid (tk=ok):=by
   rw [Hid,Bool.eq_iff_iff,HO.out,htk]
   have hq:=HQo.out
   have hu2:=HU2.out
   exact ⟨fun h=>⟨HRo.out,hq.1,hq.2 0 (by omega),hq.2 1 (by omega),hu2,fun c hc=>HA.out c (by omega),h⟩,fun h=>h.t⟩
  have c1:wr.cell? ⟨w.heap.size,1,none⟩=some (.slice l.aT l.nT l.cT):=gM (iJ hB) 1
  clear htk
  go_wp2_with fail
  refine (pF l.aT l.nT l.cT l.t 2 aK m cK Kp _ HSm.out.t (by omega) (HR.out.t.up (under hB)) (HK.out.up (under hB)) HPk.out.up tk HTk.out).mono ?_
  rintro e w5 ⟨rfl,hb⟩
  have B9:=under (next hB hb)
  clear hb hB c1
  rw [HE.out]
  go_wp2_with fail
  go_ret
  exact ⟨rfl,B9⟩
 have hU':((l.nU:Int) != (l.R.nQ:Int))=true:=by simp;omega
 have hU2:¬ ((l.nU:Int)=(l.R.nQ:Int)):=by omega
 have HF:Hid (ok=false):=by
  rw [Hid,Bool.eq_false_iff]
  intro e
  exact hU (HO.out.1 e).u
 clear hU e2
 refine wp_region_held_drew (S:=fun w'=>w'.heap[w.heap.size]?=some (.cells l.cells 48 (0,0))) (by kernel_rfl) (iJ hB.drew) (fun hHeld=>?_)
 have Hcs:Hid (∀ wx:World,(fun w':World=>w'.heap[w.heap.size]?=some (.cells l.cells 48 (0,0))) wx→wx.cell? ⟨w.heap.size,1,none⟩=some (.slice l.aT l.nT l.cT)∧wx.cell? ⟨w.heap.size,2,none⟩=some (.slice l.aU l.nU l.cU)∧wx.cell? ⟨w.heap.size,3,none⟩=some (.slice l.R.aQ l.R.nQ l.R.cQ)∧wx.cell? ⟨w.heap.size,4,none⟩=some (.slice l.R.aD l.R.nD l.R.cD)∧wx.cell? ⟨w.heap.size,5,none⟩=some (.int .i64 l.R.turn)∧wx.cell? ⟨w.heap.size,6,none⟩=some (.bool l.R.fresh)∧wx.cell? ⟨w.heap.size,7,none⟩=some (.slice l.R.aS l.R.nS l.R.cS)):=fun wx hSw=>by
  have hS1:=hSw
  obtain ⟨c1,c2,c3,c4,c5,c6,c7⟩:=lb7 hS1
  exact ⟨c1,c2,c3,c4,c5,c6,c7⟩
 refine tX0 ?_
 refine tX ?_
 refine rq1 2 (fun K hK=>?_)
 go_simp
 refine (me l.R _ HFit.out (HR.out.r.up (under hB.drew)) true ⟨fun _=>HRo.out,fun _=>rfl⟩).mono ?_
 rintro e w1 ⟨rfl,hb⟩
 have hB1:=next hB.drew hb
 clear hb
 have q1:=iJ hB1
 go_wp2_with fail
 refine hK.out _ _ q1 (fun hHeld=>?_)
 clear hK K
 try simp only [Act.put,PZ]
 iterate 5 refine tX ?_
 refine rq1 8 (fun K hK=>?_)
 go_simp
 refine (rI _).mono ?_
 rintro e w2 ⟨rfl,e2⟩
 have hb:Below w1.heap.size w1 w2:=by rw [e2];exact (Below.refl _ _).alloc (Nat.le_refl _) _
 have hq2:iq w2 (some ⟨w1.heap.size,0,none⟩) 2 fun i=>.int .i64 (qf i):=by rw [e2];exact tR w1
 have hB2:=next hB1 hb
 clear hb e2
 have q2:=iJ hB2
 go_wp2_with fail
 refine hK.out _ _ q2 (fun hHeld=>?_)
 clear hK K
 try simp only [Act.put,PZ]
 refine rq1 9 (fun K hK=>?_)
 go_simp
 refine (lO l.R.aQ (some ⟨w1.heap.size,0,none⟩) l.R.nQ 2 l.R.cQ 2 l.R.q qf _ HSm.out.r.q (by omega) (HR.out.r.q.up (under hB2)) hq2 true ⟨fun _=>HQo.out,fun _=>rfl⟩).mono ?_
 rintro e w3 ⟨rfl,hSm⟩
 have hB3:=next hB2 (hSm.below _)
 clear hSm hq2
 have q3:=iJ hB3
 go_wp2_with fail
 refine hK.out _ _ q3 (fun hHeld=>?_)
 clear hK K
 try simp only [Act.put,PZ]
 iterate 10 refine tX ?_
 refine tC 20 27 (v:=.bool true) ?_ ?_
 · exact bw
 try simp only [Act.put,PZ]
 refine tX ?_
 refine dnq ?_
 have B9:=under hB3
 clear q1 q2 q3 hHeld hB1 hB2 hB3
 clear hB
 exact br
end Go.Proofs.YthicmlolanifhaaGreat
