import Derived.Test.YtjippgbmmlcgoaaGreatDoorB11
namespace Go.Proofs.YtjippgbmmlcgoaaGreatDoor
set_option maxRecDepth 100000
open Go.RowKit
set_option linter.unusedVariables false
set_option linter.unusedSimpArgs false
variable {p:Prop} {w:World}
theorem bB (h:p:=by
 intro wx hSw
 have hS1:=hSw
 obtain ⟨c1,c2,c3,c4,c5,c6,c7⟩:=lb7 hS1
 go_simp
 try (first | (with_reducible rfl) | omega | (simp;omega))):p:=h
theorem bC (h:p:=by
 refine tX ?_
 refine dnq ?_
 have B9:=under hB1
 clear q1 hHeld hB1 hB
 exact bx):p:=h
theorem bD (h:p:=by
 refine dnq ?_
 have B9:=under hB3
 clear q1 q2 q3 hHeld hB1 hB2 hB3 hB
 exact bx):p:=h
def qf (i:Nat):Int:=if i=0 then 2 else 4
theorem uy (w:World):iP (w.alloc (.cells #[.int .i64 2,.int .i64 4] 2)) (some ⟨w.heap.size,0,none⟩) 2 fun i=>.int .i64 (qf i):=by
 intro i hi
 refine ⟨w.heap.size,0,rfl,?_⟩
 rw [Nat.zero_add,ie (im w _)]
 rcases i with _ | _ | i
 ·
  rfl
 ·
  rfl
 omega
theorem sC (w:World):Calls Tryz.prog 104 #[] w fun e w'=>e=.returned (.slice (some ⟨w.heap.size,0,none⟩) 2 2)∧w'=w.alloc (.cells #[.int .i64 2,.int .i64 4] 2):=by
 go_enter Tryz.func104,Tryz.ntmps104
 go_wp2
 go_ret
 exact ⟨rfl,rfl⟩
theorem iZ {W:World} {A:Array Value} {t:TypeId} (h:Below (w.heap.size+1) (w.alloc (.cells A t)) W):W.heap[w.heap.size]?=some (.cells A t (0,0)):=(h.block _ (by omega)).trans (im _ _)
theorem ly {a:Option Addr} {n g o k:Nat} {f:Nat→Value} (h:iP w a n f) (ha:a=some ⟨g,o,none⟩) (hk:k<n):w.cell? ⟨g,o+k,none⟩=some (f k):=by
 obtain ⟨g',o',e,hc⟩:=h k hk
 rw [ha] at e
 cases e
 exact hc
theorem tO {R:Rnd} (h:R.Small):R.Fit:=⟨Nat.le_trans h.q (by unfold maxLen;omega),Nat.le_trans h.d (by unfold maxLen;omega),Nat.le_trans h.s (by unfold maxLen;omega),fun i hi=>Nat.le_trans (h.l i hi) (by unfold maxLen;omega)⟩
def yO (m:Nat) (Kp:Nat→Pkt) (l:Lng) (c:Nat):Prop:=pD (l.uL c) (l.uz c) (c:Int) m Kp∧l.uL c=l.R.L c∧∀ i,i<l.uL c→∀ j,j<m→(Kp j).id=l.uz c i→l.R.z c i=(Kp j).cl
open Classical in
theorem zG (n:Nat) (z:Nat→Int) (m:Nat) (Kp:Nat→Pkt) (h:∀ i,i<n→∃ j,j<m∧(Kp j).id=z i):∃ q:Nat→Int,∀ i,i<n→∃ j,j<m∧(Kp j).id=z i∧q i=(Kp j).cl:=by
 refine ⟨fun i=>if h:∃ j,j<m∧(Kp j).id=z i then (Kp h.choose).cl else 0,fun i hi=>?_⟩
 have hx:=h i hi
 refine ⟨hx.choose,hx.choose_spec.1,hx.choose_spec.2,?_⟩
 show (if h:∃ j,j<m∧(Kp j).id=z i then (Kp h.choose).cl else 0)=_
 rw [dif_pos hx]
set_option maxHeartbeats 9000000 in
theorem zW (l:Lng) (aK:Option Addr) (m cK:Nat) (Kp:Nat→Pkt) (nx p:Int) (w:World) (hs:l.Small) (hr:zo w l) (hk:pI w aK m Kp) (hP:lQ nx p m Kp) (ok:Bool) (hok:ok=true↔nN m Kp l) :
  Calls Tryz.prog 71 #[.agg l.cells,.slice aK m cK] w fun e w'=>e=.returned (.bool ok)∧Below w.heap.size w w':=by
 have HO:=aa hok
 have HR:=aa hr
 have HK:=aa hk
 have HPk:=aa hP
 have HSm:=aa hs
 have HFit:=aa (tO hs.r)
 have hm:m≤1000:=hP.le
 have hnU:l.nU≤1048576:=hs.u
 have hnQ:l.R.nQ≤1048576:=hs.r.q
 have hB:Below (w.heap.size+1) (w.alloc (.cells l.cells 47)) (w.alloc (.cells l.cells 47)):=Below.refl _ _
 obtain ⟨rk,hrk⟩:=ju l.R.Ok
 have HRk:=aa hrk
 obtain ⟨ek,hek⟩:=ju (l.R.nQ=2∧∀ i,i<l.R.nQ→l.R.q i=qf i)
 have HEk:=aa hek
 clear hok hr hk hP hs hrk hek
 go_enter Tryz.func71,Tryz.ntmps71
 go_wp2_with fail
 cases rk
 ·
  have HF:Hid (ok=false):=by
   rw [Hid,Bool.eq_false_iff]
   intro e
   exact absurd (HRk.2 (HO.1 e).r) (by simp)
  have HRn:Hid (¬ l.R.Ok):=fun h=>absurd (HRk.2 h) (by simp)
  refine wp_region_held_drew (S:=fun w'=>w'.heap[w.heap.size]?=some (.cells l.cells 47 (0,0))) (by kernel_rfl) (iZ hB.drew) (fun hHeld=>?_)
  have Hcs:Hid (∀ wx:World,(fun w':World=>w'.heap[w.heap.size]?=some (.cells l.cells 47 (0,0))) wx→wx.cell? ⟨w.heap.size,1,none⟩=some (.slice l.aT l.nT l.cT)∧wx.cell? ⟨w.heap.size,2,none⟩=some (.slice l.aU l.nU l.cU)∧wx.cell? ⟨w.heap.size,3,none⟩=some (.slice l.R.aQ l.R.nQ l.R.cQ)∧wx.cell? ⟨w.heap.size,4,none⟩=some (.slice l.R.aD l.R.nD l.R.cD)∧wx.cell? ⟨w.heap.size,5,none⟩=some (.int .i64 l.R.turn)∧wx.cell? ⟨w.heap.size,6,none⟩=some (.bool l.R.fresh)∧wx.cell? ⟨w.heap.size,7,none⟩=some (.slice l.R.aS l.R.nS l.R.cS)):=fun wx hSw=>by
   have hS1:=hSw
   obtain ⟨c1,c2,c3,c4,c5,c6,c7⟩:=lb7 hS1
   exact ⟨c1,c2,c3,c4,c5,c6,c7⟩
  refine tX0 ?_
  refine tX ?_
  refine rq1 2 (fun K hK=>?_)
  go_simp
  refine (lO l.R _ HFit (HR.r.up (under hB.drew)) false ⟨fun h=>(by cases h),fun h=>absurd h HRn⟩).mono ?_
  rintro e w1 ⟨rfl,hb⟩
  have hB1:=next hB.drew hb
  clear hb
  have q1:=iZ hB1
  go_wp2_with fail
  refine ah (hK _ _ q1) ?_
  intro hHeld
  clear hK K
  iterate 2 refine tX ?_
  iterate 6 refine sN ?_
  iterate 2 refine tX ?_
  iterate 8 refine sN ?_
  exact bC
 have HRo:Hid l.R.Ok:=HRk.1 rfl
 cases ek
 ·
  have HQn:Hid (¬ (l.R.nQ=2∧∀ i,i<l.R.nQ→l.R.q i=qf i)):=fun h=>absurd (HEk.2 h) (by simp)
  have HF:Hid (ok=false):=by
   rw [Hid,Bool.eq_false_iff]
   intro e
   have ho:=HO.1 e
   refine absurd (HEk.2 ⟨ho.n,fun i hi=>?_⟩) (by simp)
   rw [ho.n] at hi
   rcases i with _ | _ | i
   ·
    exact ho.q0
   ·
    exact ho.q1
   omega
  refine wp_region_held_drew (S:=fun w'=>w'.heap[w.heap.size]?=some (.cells l.cells 47 (0,0))) (by kernel_rfl) (iZ hB.drew) (fun hHeld=>?_)
  have Hcs:Hid (∀ wx:World,(fun w':World=>w'.heap[w.heap.size]?=some (.cells l.cells 47 (0,0))) wx→wx.cell? ⟨w.heap.size,1,none⟩=some (.slice l.aT l.nT l.cT)∧wx.cell? ⟨w.heap.size,2,none⟩=some (.slice l.aU l.nU l.cU)∧wx.cell? ⟨w.heap.size,3,none⟩=some (.slice l.R.aQ l.R.nQ l.R.cQ)∧wx.cell? ⟨w.heap.size,4,none⟩=some (.slice l.R.aD l.R.nD l.R.cD)∧wx.cell? ⟨w.heap.size,5,none⟩=some (.int .i64 l.R.turn)∧wx.cell? ⟨w.heap.size,6,none⟩=some (.bool l.R.fresh)∧wx.cell? ⟨w.heap.size,7,none⟩=some (.slice l.R.aS l.R.nS l.R.cS)):=fun wx hSw=>by
   have hS1:=hSw
   obtain ⟨c1,c2,c3,c4,c5,c6,c7⟩:=lb7 hS1
   exact ⟨c1,c2,c3,c4,c5,c6,c7⟩
  refine tX0 ?_
  refine tX ?_
  refine rq1 2 (fun K hK=>?_)
  go_simp
  refine (lO l.R _ HFit (HR.r.up (under hB.drew)) true ⟨fun _=>HRo.out,fun _=>rfl⟩).mono ?_
  rintro e w1 ⟨rfl,hb⟩
  have hB1:=next hB.drew hb
  clear hb
  have q1:=iZ hB1
  go_wp2_with fail
  refine ah (hK _ _ q1) ?_
  intro hHeld
  clear hK K
  iterate 5 refine tX ?_
  refine rq1 8 (fun K hK=>?_)
  go_simp
  refine (sC _).mono ?_
  rintro e w2 ⟨rfl,e2⟩
  have hb:Below w1.heap.size w1 w2:=by rw [e2];exact (Below.refl _ _).alloc (Nat.le_refl _) _
  have hq2:iP w2 (some ⟨w1.heap.size,0,none⟩) 2 fun i=>.int .i64 (qf i):=by rw [e2];exact uy w1
  have hB2:=next hB1 hb
  clear hb e2
  have q2:=iZ hB2
  go_wp2_with fail
  refine ah (hK _ _ q2) ?_
  intro hHeld
  clear hK K
  refine rq1 9 (fun K hK=>?_)
  go_simp
  refine (ml l.R.aQ (some ⟨w1.heap.size,0,none⟩) l.R.nQ 2 l.R.cQ 2 l.R.q qf _ HSm.r.q (by omega) (HR.r.q.up (under hB2)) hq2 false ⟨fun h=>(by cases h),fun h=>absurd h HQn⟩).mono ?_
  rintro e w3 ⟨rfl,hSm⟩
  have hB3:=next hB2 (hSm.below _)
  clear hSm hq2
  have q3:=iZ hB3
  go_wp2_with fail
  refine ah (hK _ _ q3) ?_
  intro hHeld
  clear hK K
  iterate 3 refine tX ?_
  iterate 8 refine sN ?_
  refine tX ?_
  exact bD
 have HQo:Hid (l.R.nQ=2∧∀ i,i<l.R.nQ→l.R.q i=qf i):=HEk.1 rfl
 have e2:=HQo.1
 by_cases hU:l.nU=2
 ·
  have hU':((l.nU:Int) != (l.R.nQ:Int))=false:=by simp;omega
  have hU'':(l.nU:Int)=(l.R.nQ:Int):=by omega
  have HU2:=aa hU
  have HE2:=aa e2
  clear e2 hU
  refine wp_region_held_drew (S:=fun w'=>w'.heap[w.heap.size]?=some (.cells l.cells 47 (0,0))) (by kernel_rfl) (iZ hB.drew) (fun hHeld=>?_)
  have Hcs:Hid (∀ wx:World,(fun w':World=>w'.heap[w.heap.size]?=some (.cells l.cells 47 (0,0))) wx→wx.cell? ⟨w.heap.size,1,none⟩=some (.slice l.aT l.nT l.cT)∧wx.cell? ⟨w.heap.size,2,none⟩=some (.slice l.aU l.nU l.cU)∧wx.cell? ⟨w.heap.size,3,none⟩=some (.slice l.R.aQ l.R.nQ l.R.cQ)∧wx.cell? ⟨w.heap.size,4,none⟩=some (.slice l.R.aD l.R.nD l.R.cD)∧wx.cell? ⟨w.heap.size,5,none⟩=some (.int .i64 l.R.turn)∧wx.cell? ⟨w.heap.size,6,none⟩=some (.bool l.R.fresh)∧wx.cell? ⟨w.heap.size,7,none⟩=some (.slice l.R.aS l.R.nS l.R.cS)):=fun wx hSw=>by
   have hS1:=hSw
   obtain ⟨c1,c2,c3,c4,c5,c6,c7⟩:=lb7 hS1
   exact ⟨c1,c2,c3,c4,c5,c6,c7⟩
  refine tX0 ?_
  refine tX ?_
  refine rq1 2 (fun K hK=>?_)
  go_simp
  refine (lO l.R _ HFit (HR.r.up (under hB.drew)) true ⟨fun _=>HRo.out,fun _=>rfl⟩).mono ?_
  rintro e w1 ⟨rfl,hb⟩
  have hB1:=next hB.drew hb
  clear hb
  have q1:=iZ hB1
  go_wp2_with fail
  refine ah (hK _ _ q1) ?_
  intro hHeld
  clear hK K
  iterate 5 refine tX ?_
  refine rq1 8 (fun K hK=>?_)
  go_simp
  refine (sC _).mono ?_
  rintro e w2 ⟨rfl,e2⟩
  have hb:Below w1.heap.size w1 w2:=by rw [e2];exact (Below.refl _ _).alloc (Nat.le_refl _) _
  have hq2:iP w2 (some ⟨w1.heap.size,0,none⟩) 2 fun i=>.int .i64 (qf i):=by rw [e2];exact uy w1
  have hB2:=next hB1 hb
  clear hb e2
  have q2:=iZ hB2
  go_wp2_with fail
  refine ah (hK _ _ q2) ?_
  intro hHeld
  clear hK K
  refine rq1 9 (fun K hK=>?_)
  go_simp
  refine (ml l.R.aQ (some ⟨w1.heap.size,0,none⟩) l.R.nQ 2 l.R.cQ 2 l.R.q qf _ HSm.r.q (by omega) (HR.r.q.up (under hB2)) hq2 true ⟨fun _=>HQo.out,fun _=>rfl⟩).mono ?_
  rintro e w3 ⟨rfl,hSm⟩
  have hB3:=next hB2 (hSm.below _)
  clear hSm hq2
  have q3:=iZ hB3
  go_wp2_with fail
  refine ah (hK _ _ q3) ?_
  intro hHeld
  clear hK K
  iterate 10 refine tX ?_
  refine tC 20 27 (v:=.bool false) ?_ ?_
  · exact bB
  try simp only [Act.put,PZ]
  refine tX ?_
  refine dnq ?_
  clear hU' hU''
  have e2:=HE2.out
  have hU:=HU2.out
  have hB:=hB3
  clear q1 q2 q3 hHeld hB1 hB2 hB3
  have HnS:=aa (HRo.s.trans e2)
  have c2:w3.cell? ⟨w.heap.size,2,none⟩=some (.slice l.aU l.nU l.cU):=ie (iZ hB) 2
  clear hU e2
  go_wp2_with fail
  clear c2
  go_loopw [32] (fun i wr=>∃ k:Nat,k≤l.nU∧i=.int .i64 k∧(∀ c,c<k→yO m Kp l c)∧Below (w.heap.size+1) (w.alloc (.cells l.cells 47)) wr) (fun i _=>l.nU-(intOf i).toNat)
  case atStart=>exact ⟨0,Nat.zero_le _,rfl,fun c hc=>by omega,hB⟩
  clear hB
  obtain ⟨k,hk,rfl,hall,hB⟩:=hrel
  have HA:=aa hall
  clear hall
  by_cases hlt:k<l.nU
  ·
   have hlt':(k:Int)<l.nU:=by omega
   have hltS:k<l.R.nS:=by have:=HnS.out;have:=HU2.out;omega
   have hltS':(k:Int)<l.R.nS:=by omega
   obtain ⟨gu,ou,eu,u1⟩:=(HR.u.up (under hB)) k hlt
   obtain ⟨gs,os,eS,_⟩:=HR.r.s k hltS
   have HaS:=aa eS
   dsimp only at u1
   rw [eu]
   obtain ⟨ik,hik⟩:=ju (pD (l.uL k) (l.uz k) (k:Int) m Kp)
   have HIk:=aa hik
   clear hik eS
   go_wp2_with fail
   clear u1 eu
   cases ik
   ·
    have HIn:Hid (¬ pD (l.uL k) (l.uz k) (k:Int) m Kp):=fun h=>absurd (HIk.2 h) (by simp)
    have HF:Hid (ok=false):=by
     rw [Hid,Bool.eq_false_iff]
     intro e
     have hu2:=HU2.out
     exact absurd (HIk.2 ((HO.1 e).z k (by omega)).1) (by simp)
    refine wp_region_held_drew (S:=fun w'=>w'.heap[w.heap.size]?=some (.cells l.cells 47 (0,0))∧w'.cell? ⟨gs,os+k,none⟩=some (.slice (l.R.A k) (l.R.L k) (l.R.C k))) (by kernel_rfl) ⟨iZ hB.drew,ly (HR.r.s.up (under hB.drew)) HaS hltS⟩ (fun hHeld=>?_)
    have Hcs:Hid (∀ wx:World,(fun w':World=>w'.heap[w.heap.size]?=some (.cells l.cells 47 (0,0))∧w'.cell? ⟨gs,os+k,none⟩=some (.slice (l.R.A k) (l.R.L k) (l.R.C k))) wx→wx.cell? ⟨w.heap.size,1,none⟩=some (.slice l.aT l.nT l.cT)∧wx.cell? ⟨w.heap.size,2,none⟩=some (.slice l.aU l.nU l.cU)∧wx.cell? ⟨w.heap.size,3,none⟩=some (.slice l.R.aQ l.R.nQ l.R.cQ)∧wx.cell? ⟨w.heap.size,4,none⟩=some (.slice l.R.aD l.R.nD l.R.cD)∧wx.cell? ⟨w.heap.size,5,none⟩=some (.int .i64 l.R.turn)∧wx.cell? ⟨w.heap.size,6,none⟩=some (.bool l.R.fresh)∧wx.cell? ⟨w.heap.size,7,none⟩=some (.slice (some ⟨gs,os,none⟩) l.R.nS l.R.cS)):=fun wx hSw=>by
     obtain ⟨hS1,hS2⟩:=hSw
     obtain ⟨c1,c2,c3,c4,c5,c6,c7⟩:=lb7 hS1
     rw [HaS.out] at c7
     exact ⟨c1,c2,c3,c4,c5,c6,c7⟩
    refine tX0 ?_
    iterate 2 refine tX ?_
    refine rq1 3 (fun K hK=>?_)
    go_simp
    refine (qc (l.uA k) (l.uL k) (l.uC k) (l.uz k) (k:Int) aK m cK Kp _ (HSm.z k hlt) (by omega) ((HR.z k hlt).up (under hB.drew)) (HK.up (under hB.drew)) HPk.up false ⟨fun h=>(by cases h),fun h=>absurd h HIn⟩).mono ?_
    rintro e w1 ⟨rfl,hb⟩
    have hB1:=next hB.drew hb
    clear hb
    have q1:_∧_:=⟨iZ hB1,ly (HR.r.s.up (under hB1)) HaS hltS⟩
    go_wp2_with fail
    refine ah (hK _ _ q1) ?_
    intro hHeld
    clear hK K
    iterate 2 refine tX ?_
    iterate 11 refine sN ?_
    exact bC
   have HIo:Hid (pD (l.uL k) (l.uz k) (k:Int) m Kp):=HIk.1 rfl
   obtain ⟨q,hq⟩:=zG (l.uL k) (l.uz k) m Kp (fun i hi=>by
    obtain ⟨⟨j,hj,e1,_⟩,_⟩:=HIo i hi
    exact ⟨j,hj,e1⟩)
   have HQ:=aa hq
   obtain ⟨eq,heq⟩:=ju (l.R.L k=l.uL k∧∀ i,i<l.R.L k→l.R.z k i=q i)
   have HEq:=aa heq
   clear hq heq
   cases eq
   ·
    have HEn:Hid (¬ (l.R.L k=l.uL k∧∀ i,i<l.R.L k→l.R.z k i=q i)):=fun h=>absurd (HEq.2 h) (by simp)
    have HF:Hid (ok=false):=by
     rw [Hid,Bool.eq_false_iff]
     intro e
     have hu2:=HU2.out
     obtain ⟨_,h2,h3⟩:=(HO.1 e).z k (by omega)
     refine absurd (HEq.2 ⟨h2.symm,fun i hi=>?_⟩) (by simp)
     rw [←h2] at hi
     obtain ⟨j,hj,e1,e2⟩:=HQ i hi
     rw [e2]
     exact h3 i hi j hj e1
    refine wp_region_held_drew (S:=fun w'=>w'.heap[w.heap.size]?=some (.cells l.cells 47 (0,0))∧w'.cell? ⟨gs,os+k,none⟩=some (.slice (l.R.A k) (l.R.L k) (l.R.C k))) (by kernel_rfl) ⟨iZ hB.drew,ly (HR.r.s.up (under hB.drew)) HaS hltS⟩ (fun hHeld=>?_)
    have Hcs:Hid (∀ wx:World,(fun w':World=>w'.heap[w.heap.size]?=some (.cells l.cells 47 (0,0))∧w'.cell? ⟨gs,os+k,none⟩=some (.slice (l.R.A k) (l.R.L k) (l.R.C k))) wx→wx.cell? ⟨w.heap.size,1,none⟩=some (.slice l.aT l.nT l.cT)∧wx.cell? ⟨w.heap.size,2,none⟩=some (.slice l.aU l.nU l.cU)∧wx.cell? ⟨w.heap.size,3,none⟩=some (.slice l.R.aQ l.R.nQ l.R.cQ)∧wx.cell? ⟨w.heap.size,4,none⟩=some (.slice l.R.aD l.R.nD l.R.cD)∧wx.cell? ⟨w.heap.size,5,none⟩=some (.int .i64 l.R.turn)∧wx.cell? ⟨w.heap.size,6,none⟩=some (.bool l.R.fresh)∧wx.cell? ⟨w.heap.size,7,none⟩=some (.slice (some ⟨gs,os,none⟩) l.R.nS l.R.cS)):=fun wx hSw=>by
     obtain ⟨hS1,hS2⟩:=hSw
     obtain ⟨c1,c2,c3,c4,c5,c6,c7⟩:=lb7 hS1
     rw [HaS.out] at c7
     exact ⟨c1,c2,c3,c4,c5,c6,c7⟩
    refine tX0 ?_
    iterate 2 refine tX ?_
    refine rq1 3 (fun K hK=>?_)
    go_simp
    refine (qc (l.uA k) (l.uL k) (l.uC k) (l.uz k) (k:Int) aK m cK Kp _ (HSm.z k hlt) (by omega) ((HR.z k hlt).up (under hB.drew)) (HK.up (under hB.drew)) HPk.up true ⟨fun _=>HIo.out,fun _=>rfl⟩).mono ?_
    rintro e w1 ⟨rfl,hb⟩
    have hB1:=next hB.drew hb
    clear hb
    have q1:_∧_:=⟨iZ hB1,ly (HR.r.s.up (under hB1)) HaS hltS⟩
    go_wp2_with fail
    refine ah (hK _ _ q1) ?_
    intro hHeld
    clear hK K
    iterate 10 refine tX ?_
    refine rq1 14 (fun K hK=>?_)
    go_simp
    refine (rz (l.uA k) (l.uL k) (l.uC k) (l.uz k) aK m cK Kp nx p q _ (HSm.z k hlt) ((HR.z k hlt).up (under hB1)) (HK.up (under hB1)) HPk HQ).mono ?_
    rintro e w2 ⟨a2,c2',rfl,hrow,hb⟩
    have hB2:=next hB1 hb
    clear hb
    have q2:_∧_:=⟨iZ hB2,ly (HR.r.s.up (under hB2)) HaS hltS⟩
    go_wp2_with fail
    refine ah (hK _ _ q2) ?_
    intro hHeld
    clear hK K
    refine rq1 15 (fun K hK=>?_)
    go_simp
    refine (ml (l.R.A k) a2 (l.R.L k) (l.uL k) (l.R.C k) c2' (l.R.z k) q _ (HSm.r.l k hltS) (HSm.z k hlt) ((HR.r.z k hltS).up (under hB2)) hrow false ⟨fun h=>(by cases h),fun h=>absurd h HEn⟩).mono ?_
    rintro e w3 ⟨rfl,hSm⟩
    have hB3:=next hB2 (hSm.below _)
    clear hSm hrow
    have q3:_∧_:=⟨iZ hB3,ly (HR.r.s.up (under hB3)) HaS hltS⟩
    go_wp2_with fail
    refine ah (hK _ _ q3) ?_
    intro hHeld
    clear hK K
    iterate 2 refine tX ?_
    exact bD
   have HEo:Hid (l.R.L k=l.uL k∧∀ i,i<l.R.L k→l.R.z k i=q i):=HEq.1 rfl
   have HQp:Hid (yO m Kp l k):=by
    obtain ⟨h2,h3⟩:=HEq.1 rfl
    refine ⟨HIo,h2.symm,fun i hi j hj e1=>?_⟩
    obtain ⟨j',hj',e1',e2⟩:=HQ i hi
    obtain rfl:=nr HPk.up hj hj' (e1.trans e1'.symm)
    rw [h3 i (by omega),e2]
   refine wp_region_held_drew (S:=fun w'=>w'.heap[w.heap.size]?=some (.cells l.cells 47 (0,0))∧w'.cell? ⟨gs,os+k,none⟩=some (.slice (l.R.A k) (l.R.L k) (l.R.C k))) (by kernel_rfl) ⟨iZ hB.drew,ly (HR.r.s.up (under hB.drew)) HaS hltS⟩ (fun hHeld=>?_)
   have Hcs:Hid (∀ wx:World,(fun w':World=>w'.heap[w.heap.size]?=some (.cells l.cells 47 (0,0))∧w'.cell? ⟨gs,os+k,none⟩=some (.slice (l.R.A k) (l.R.L k) (l.R.C k))) wx→wx.cell? ⟨w.heap.size,1,none⟩=some (.slice l.aT l.nT l.cT)∧wx.cell? ⟨w.heap.size,2,none⟩=some (.slice l.aU l.nU l.cU)∧wx.cell? ⟨w.heap.size,3,none⟩=some (.slice l.R.aQ l.R.nQ l.R.cQ)∧wx.cell? ⟨w.heap.size,4,none⟩=some (.slice l.R.aD l.R.nD l.R.cD)∧wx.cell? ⟨w.heap.size,5,none⟩=some (.int .i64 l.R.turn)∧wx.cell? ⟨w.heap.size,6,none⟩=some (.bool l.R.fresh)∧wx.cell? ⟨w.heap.size,7,none⟩=some (.slice (some ⟨gs,os,none⟩) l.R.nS l.R.cS)):=fun wx hSw=>by
    obtain ⟨hS1,hS2⟩:=hSw
    obtain ⟨c1,c2,c3,c4,c5,c6,c7⟩:=lb7 hS1
    rw [HaS.out] at c7
    exact ⟨c1,c2,c3,c4,c5,c6,c7⟩
   refine tX0 ?_
   iterate 2 refine tX ?_
   refine rq1 3 (fun K hK=>?_)
   go_simp
   refine (qc (l.uA k) (l.uL k) (l.uC k) (l.uz k) (k:Int) aK m cK Kp _ (HSm.z k hlt) (by omega) ((HR.z k hlt).up (under hB.drew)) (HK.up (under hB.drew)) HPk.up true ⟨fun _=>HIo.out,fun _=>rfl⟩).mono ?_
   rintro e w1 ⟨rfl,hb⟩
   have hB1:=next hB.drew hb
   clear hb
   have q1:_∧_:=⟨iZ hB1,ly (HR.r.s.up (under hB1)) HaS hltS⟩
   go_wp2_with fail
   refine ah (hK _ _ q1) ?_
   intro hHeld
   clear hK K
   iterate 10 refine tX ?_
   refine rq1 14 (fun K hK=>?_)
   go_simp
   refine (rz (l.uA k) (l.uL k) (l.uC k) (l.uz k) aK m cK Kp nx p q _ (HSm.z k hlt) ((HR.z k hlt).up (under hB1)) (HK.up (under hB1)) HPk HQ).mono ?_
   rintro e w2 ⟨a2,c2',rfl,hrow,hb⟩
   have hB2:=next hB1 hb
   clear hb
   have q2:_∧_:=⟨iZ hB2,ly (HR.r.s.up (under hB2)) HaS hltS⟩
   go_wp2_with fail
   refine ah (hK _ _ q2) ?_
   intro hHeld
   clear hK K
   refine rq1 15 (fun K hK=>?_)
   go_simp
   refine (ml (l.R.A k) a2 (l.R.L k) (l.uL k) (l.R.C k) c2' (l.R.z k) q _ (HSm.r.l k hltS) (HSm.z k hlt) ((HR.r.z k hltS).up (under hB2)) hrow true ⟨fun _=>HEo.out,fun _=>rfl⟩).mono ?_
   rintro e w3 ⟨rfl,hSm⟩
   have hB3:=next hB2 (hSm.below _)
   clear hSm hrow
   have q3:_∧_:=⟨iZ hB3,ly (HR.r.s.up (under hB3)) HaS hltS⟩
   go_wp2_with fail
   refine ah (hK _ _ q3) ?_
   intro hHeld
   clear hK K
   iterate 2 refine tX ?_
   refine dnq ?_
   clear q1 q2 q3 hHeld hB1 hB2 hB
   go_wp2_with fail
   go_roundw
   case rel=>exact ⟨k+1,by omega,by go_num,fun c hc=>by
    by_cases e:c=k
    ·
     subst e;exact HQp.out
    ·
     exact HA c (by omega),hB3⟩
   case measure=>simp [intOf];omega
  obtain rfl:k=l.nU:=by omega
  have hge:¬ ((l.nU:Nat):Int)<((l.nU:Nat):Int):=by omega
  obtain ⟨tk,htk⟩:=ju (pD l.nT l.t 2 m Kp)
  have HTk:=aa htk
  have HE:Hid (tk=ok):=by
   rw [Hid,Bool.eq_iff_iff,HO.out,htk]
   have hq:=HQo.out
   have hu2:=HU2.out
   exact ⟨fun h=>⟨HRo,hq.1,hq.2 0 (by omega),hq.2 1 (by omega),hu2,fun c hc=>HA c (by omega),h⟩,fun h=>h.t⟩
  have c1:wr.cell? ⟨w.heap.size,1,none⟩=some (.slice l.aT l.nT l.cT):=ie (iZ hB) 1
  clear htk
  go_wp2_with fail
  refine (qc l.aT l.nT l.cT l.t 2 aK m cK Kp _ HSm.t (by omega) (HR.t.up (under hB)) (HK.up (under hB)) HPk.up tk HTk).mono ?_
  rintro e w5 ⟨rfl,hb⟩
  have B9:=under (next hB hb)
  clear hb hB c1
  rw [HE.out]
  go_wp2_with fail
  go_ret
  exact ⟨rfl,B9⟩
 have hU':((l.nU:Int) != (l.R.nQ:Int))=true:=by simp;omega
 have hU2:¬ ((l.nU:Int)=(l.R.nQ:Int)):=by omega
 have HF:Hid (ok=false):=by
  rw [Hid,Bool.eq_false_iff]
  intro e
  exact hU (HO.1 e).u
 clear hU e2
 refine wp_region_held_drew (S:=fun w'=>w'.heap[w.heap.size]?=some (.cells l.cells 47 (0,0))) (by kernel_rfl) (iZ hB.drew) (fun hHeld=>?_)
 have Hcs:Hid (∀ wx:World,(fun w':World=>w'.heap[w.heap.size]?=some (.cells l.cells 47 (0,0))) wx→wx.cell? ⟨w.heap.size,1,none⟩=some (.slice l.aT l.nT l.cT)∧wx.cell? ⟨w.heap.size,2,none⟩=some (.slice l.aU l.nU l.cU)∧wx.cell? ⟨w.heap.size,3,none⟩=some (.slice l.R.aQ l.R.nQ l.R.cQ)∧wx.cell? ⟨w.heap.size,4,none⟩=some (.slice l.R.aD l.R.nD l.R.cD)∧wx.cell? ⟨w.heap.size,5,none⟩=some (.int .i64 l.R.turn)∧wx.cell? ⟨w.heap.size,6,none⟩=some (.bool l.R.fresh)∧wx.cell? ⟨w.heap.size,7,none⟩=some (.slice l.R.aS l.R.nS l.R.cS)):=fun wx hSw=>by
  have hS1:=hSw
  obtain ⟨c1,c2,c3,c4,c5,c6,c7⟩:=lb7 hS1
  exact ⟨c1,c2,c3,c4,c5,c6,c7⟩
 refine tX0 ?_
 refine tX ?_
 refine rq1 2 (fun K hK=>?_)
 go_simp
 refine (lO l.R _ HFit (HR.r.up (under hB.drew)) true ⟨fun _=>HRo.out,fun _=>rfl⟩).mono ?_
 rintro e w1 ⟨rfl,hb⟩
 have hB1:=next hB.drew hb
 clear hb
 have q1:=iZ hB1
 go_wp2_with fail
 refine ah (hK _ _ q1) ?_
 intro hHeld
 clear hK K
 iterate 5 refine tX ?_
 refine rq1 8 (fun K hK=>?_)
 go_simp
 refine (sC _).mono ?_
 rintro e w2 ⟨rfl,e2⟩
 have hb:Below w1.heap.size w1 w2:=by rw [e2];exact (Below.refl _ _).alloc (Nat.le_refl _) _
 have hq2:iP w2 (some ⟨w1.heap.size,0,none⟩) 2 fun i=>.int .i64 (qf i):=by rw [e2];exact uy w1
 have hB2:=next hB1 hb
 clear hb e2
 have q2:=iZ hB2
 go_wp2_with fail
 refine ah (hK _ _ q2) ?_
 intro hHeld
 clear hK K
 refine rq1 9 (fun K hK=>?_)
 go_simp
 refine (ml l.R.aQ (some ⟨w1.heap.size,0,none⟩) l.R.nQ 2 l.R.cQ 2 l.R.q qf _ HSm.r.q (by omega) (HR.r.q.up (under hB2)) hq2 true ⟨fun _=>HQo.out,fun _=>rfl⟩).mono ?_
 rintro e w3 ⟨rfl,hSm⟩
 have hB3:=next hB2 (hSm.below _)
 clear hSm hq2
 have q3:=iZ hB3
 go_wp2_with fail
 refine ah (hK _ _ q3) ?_
 intro hHeld
 clear hK K
 iterate 10 refine tX ?_
 refine tC 20 27 (v:=.bool true) ?_ ?_
 · exact bB
 try simp only [Act.put,PZ]
 refine tX ?_
 refine dnq ?_
 have B9:=under hB3
 clear q1 q2 q3 hHeld hB1 hB2 hB3
 clear hB
 exact bx
