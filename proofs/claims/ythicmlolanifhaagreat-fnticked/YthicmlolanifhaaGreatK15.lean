import Derived.Test.YthicmlolanifhaaGreatK14
namespace Go.Proofs.YthicmlolanifhaaGreat
set_option maxRecDepth 100000
set_option maxHeartbeats 9000000
open Go.RowKit
set_option linter.unusedVariables false
set_option linter.unusedSimpArgs false
theorem bB {p:Prop} (h:p:=by
 intro wx hSw
 have d1:wx.cell? ⟨wr.heap.size,1,none⟩=some (.int .i64 (S.K k).inn):=gM hSw 1
 have d3:wx.cell? ⟨wr.heap.size,3,none⟩=some (.int .i64 (S.K k).k):=gM hSw 3
 have d4:wx.cell? ⟨wr.heap.size,4,none⟩=some (.int .i64 (S.K k).d):=gM hSw 4
 have d5:wx.cell? ⟨wr.heap.size,5,none⟩=some (.int .i64 (S.K k).s):=gM hSw 5
 have d6:wx.cell? ⟨wr.heap.size,6,none⟩=some (.int .i64 (S.K k).p):=gM hSw 6
 have d7:wx.cell? ⟨wr.heap.size,7,none⟩=some (.string (S.K k).b):=gM hSw 7
 go_simp
 try with_reducible rfl):p:=h
theorem bC {p:Prop} (h:p:=by
 go_wp2_with fail
 refine hK.out _ _ q3 (fun hHeld=>?_)
 clear hK K
 try simp only [Act.put,PZ]
 refine dnq ?_
 clear q2 q3 hHeld
 go_wp2_with fail
 go_roundw
 case rel=>exact ⟨k+1,by omega,by go_num,HH3.out⟩
 case measure=>simp [intOf];omega):p:=h
theorem bD {p:Prop} (h:p:=by
 have hne:=HN.out k (by omega)
 have he:((S.K k).id == id)=false:=by simp [hne]
 have HNe:Hid ((S.K k).id≠id):=hne
 clear hne
 go_wp2_with fail
 go_round
 case rel=>exact ⟨k+1,by omega,by go_num⟩
 case measure=>simp [intOf];omega):p:=h
theorem nilP (x : Int) (w : World) : (nilAhead 327 155 (.agg #[.int .i64 x]) "loop.example/g00355/impl.change").run Tryz.prog w = .ok (some false) w := by kernel_rfl
theorem nilL (w : World) : (nilAhead 327 153 (.agg #[]) "loop.example/g00355/impl.change").run Tryz.prog w = .ok (some false) w := by kernel_rfl
theorem sD (port prio:Int) (w:World) (h:prio=2):Calls Tryz.prog 76 #[.int .i64 port,.int .i64 prio] w fun e w'=>e=.returned (.iface 155 (.agg #[.int .i64 port]))∧w'=w:=by
 subst h
 exact uB port w
theorem xg (g gU nU cU i:Nat) (inn:Int) (hin:inn=(i:Int)) (v1 v2:Value) (u:Nat→Int) (y:Int) (w:World) (hi:i<nU) (hm:nU≤1048576) (k:w.heap[g]?=some (.cells #[.slice (some ⟨gU,0,none⟩) nU cU,v1,v2] 30 (0,0))) (hr:iD gU 2 nU (fun i=>.int .i64 (u i)) nU w) (h1:-10000≤u i+y) (h2:u i+y≤10000) :
  Calls Tryz.prog 189 #[.agg #[.int .i64 inn],.pointer (some ⟨g,0,none⟩),.int .i64 y] w fun e w'=>e=.returned (.tuple #[])∧iD gU 2 nU (fun k=>.int .i64 (sj u i y k)) nU w'∧Touch [gU] w w':=by
 subst hin
 exact sy g gU nU cU i v1 v2 u y w hi hm k hr h1 h2
structure tI (S:Swg) (w:World) (k:Nat) (wr:World):Prop where
 c:wr.heap[w.heap.size+2]?=some (.cells #[.slice (some ⟨w.heap.size+1,0,none⟩) S.N.nU S.N.nU,.int .i64 (iB S.K k),.slice none 0 0] 30 (0,0))
 r:iD (w.heap.size+1) 2 S.N.nU (fun i=>.int .i64 (jv S.K i k)) S.N.nU wr
 b:Below (w.heap.size+1) (w.alloc (.cells S.cells 34)) wr
theorem tI.up {S:Swg} {w:World} {k:Nat} {wr W:World} (h:tI S w k wr) (hb:Below wr.heap.size wr W):tI S w k W :=
 ⟨(hb.block _ (gO h.c)).trans h.c,h.r.jB (hb.block _ h.r.lt),next h.b hb⟩
theorem tI.drew {S:Swg} {w:World} {k:Nat} {wr:World} (h:tI S w k wr):tI S w k wr.drew:=h.up ((Below.refl _ _).drew)
theorem tI.port {S:Swg} {w:World} {k ii:Nat} {wr W:World} (h:tI S w k wr) (hp:(S.K k).p=2) (hi:(S.K k).inn=(ii:Int)) (hr:iD (w.heap.size+1) 2 S.N.nU (fun i=>.int .i64 (sj (fun i=>jv S.K i k) ii (S.K k).cl i)) S.N.nU W) (ht:Touch [w.heap.size+1] wr W):tI S w (k+1) W:=by
 refine ⟨?_,hr.zC (fun i _=>?_),h.b.trans (ht.below (by have:=upper h.b;omega) (fun x hx=>by simp at hx;omega))⟩
 ·
  refine ((ht.block _ (gO h.c) (by simp)).trans h.c).trans ?_
  have e:iB S.K (k+1)=iB S.K k:=by show iB S.K k+(if (S.K k).p=2 then 0 else _)=_;rw [if_pos hp];omega
  rw [e]
 have e:jv S.K i (k+1)=sj (fun i=>jv S.K i k) ii (S.K k).cl i:=by
  show jv S.K i k+(if (S.K k).p=2∧(S.K k).inn=(i:Int) then _ else 0)=_
  unfold sj
  by_cases e:i=ii
  ·
   subst e;rw [if_pos ⟨hp,hi⟩,if_pos rfl]
  rw [if_neg (fun h=>e (by have:=h.2;omega)),if_neg e];dsimp only;omega
 rw [e]
theorem tI.Cm {S:Swg} {w:World} {k:Nat} {wr W:World} (h:tI S w k wr) (hp:(S.K k).p≠2) (hk:W.heap[w.heap.size+2]?=some (.cells #[.slice (some ⟨w.heap.size+1,0,none⟩) S.N.nU S.N.nU,.int .i64 (iB S.K k+(S.K k).cl),.slice none 0 0] 30 (0,0))) (ht:Touch [w.heap.size+2] wr W):tI S w (k+1) W:=by
 refine ⟨?_,(h.r.jB (ht.block _ h.r.lt (by simp))).zC (fun i _=>?_),h.b.trans (ht.below (by have:=upper h.b;omega) (fun x hx=>by simp at hx;omega))⟩
 ·
  have e:iB S.K (k+1)=iB S.K k+(S.K k).cl:=by show iB S.K k+(if (S.K k).p=2 then 0 else _)=_;rw [if_neg hp]
  rw [e];exact hk
 have e:jv S.K i (k+1)=jv S.K i k:=by
  show jv S.K i k+(if (S.K k).p=2∧(S.K k).inn=(i:Int) then _ else 0)=_
  rw [if_neg (fun h=>hp h.1)];omega
 rw [e]
theorem AU (S:Swg) (w:World) (hs:S.Small) (hr:jK w S) (hP:jS S.nx S.C.p S.nK S.K) (hn:(S.N.nU:Int)=S.C.p) (h4:S.N.nU≤4) (h0:0<S.N.nU) (ok:Bool) (hok:ok=true↔S.y8) :
  Calls Tryz.prog 36 #[.agg S.cells] w fun e w'=>e=.returned (.bool ok)∧Below w.heap.size w w':=by
 have HO:Hid (ok=true↔S.y8):=hok
 have HR:Hid (jK w S):=hr
 have HP:Hid (jS S.nx S.C.p S.nK S.K):=hP
 have hnK:S.nK≤1000:=hP.le
 have HNp:Hid ((S.N.nU:Int)=S.C.p):=hn
 clear hn
 have hB:Below (w.heap.size+1) (w.alloc (.cells S.cells 34)) (w.alloc (.cells S.cells 34)):=Below.refl _ _
 have c10:World.cell? (w.alloc (.cells S.cells 34)) ⟨w.heap.size,10,none⟩=some (.slice S.N.aU S.N.nU S.N.cU):=boxed hB 10
 have mk:∀ W,_:=px S.N.nU (by omega)
 have kZ:(World.alloc (w.alloc (.cells S.cells 34)) (.cells (jV S.N.nU) 2)).heap[w.heap.size+1]?=some (.cells (jV S.N.nU) 2 (0,0)):=by
  have:=gV (w.alloc (.cells S.cells 34)) (.cells (jV S.N.nU) 2)
  simpa using this
 have HH0:Hid (tI S w 0 (World.alloc (World.alloc (w.alloc (.cells S.cells 34)) (.cells (jV S.N.nU) 2)) (.cells #[.slice (some ⟨w.heap.size+1,0,none⟩) S.N.nU S.N.nU,.int .i64 0,.slice none 0 0] 30))):=by
  have hbZ:Below (w.heap.size+1) (w.alloc (.cells S.cells 34)) (World.alloc (w.alloc (.cells S.cells 34)) (.cells (jV S.N.nU) 2)):=hB.alloc (by simp) _
  have hbW:=(Below.refl (World.alloc (w.alloc (.cells S.cells 34)) (.cells (jV S.N.nU) 2)).heap.size (World.alloc (w.alloc (.cells S.cells 34)) (.cells (jV S.N.nU) 2))).alloc (Nat.le_refl _) (.cells #[.slice (some ⟨w.heap.size+1,0,none⟩) S.N.nU S.N.nU,.int .i64 0,.slice none 0 0] 30)
  refine ⟨?_,?_,next hbZ hbW⟩
  ·
   have:=gV (World.alloc (w.alloc (.cells S.cells 34)) (.cells (jV S.N.nU) 2)) (.cells #[.slice (some ⟨w.heap.size+1,0,none⟩) S.N.nU S.N.nU,.int .i64 0,.slice none 0 0] 30)
   rw [show (World.alloc (w.alloc (.cells S.cells 34)) (.cells (jV S.N.nU) 2)).heap.size=w.heap.size+2 by simp] at this
   exact this
  have hz:=o8 kZ
  exact (hz.jB (hbW.block _ hz.lt)).zC (fun i _=>rfl)
 have c13:World.cell? (World.alloc (World.alloc (w.alloc (.cells S.cells 34)) (.cells (jV S.N.nU) 2)) (.cells #[.slice (some ⟨w.heap.size+1,0,none⟩) S.N.nU S.N.nU,.int .i64 0,.slice none 0 0] 30)) ⟨w.heap.size,13,none⟩=some (.slice S.aK S.nK S.cK):=boxed HH0.out.b 13
 clear hok hr hP hs hB kZ
 go_enter Tryz.func36,Tryz.ntmps36
 go_wp2_with fail
 generalize World.alloc (World.alloc (w.alloc (.cells S.cells 34)) (.cells (jV S.N.nU) 2)) (.cells #[.slice (some ⟨w.heap.size+1,0,none⟩) S.N.nU S.N.nU,.int .i64 0,.slice none 0 0] 30)=W0 at *
 clear mk c10 c13
 go_loopw [15] (fun x wr=>∃ k:Nat,k≤S.nK∧x=.int .i64 k∧tI S w k wr) (fun x _=>S.nK-(intOf x).toNat)
 case atStart=>exact ⟨0,Nat.zero_le _,rfl,HH0.out⟩
 clear HH0
 obtain ⟨k,hk,rfl,hH⟩:=hrel
 have HH:Hid (tI S w k wr):=hH
 clear hH
 by_cases hlt:k<S.nK
 ·
  have hlt':(k:Int)<S.nK:=by omega
  have hB:=HH.out.b
  obtain ⟨g,o,ea,hc⟩:=(HR.out.up (under hB)).k k hlt
  obtain ⟨V,eV⟩:∃ V,wr.alloc (.cells (S.K k).cells 50)=V:=⟨_,rfl⟩
  have hbV:Below wr.heap.size wr V:=by rw [←eV];exact (Below.refl _ _).alloc (Nat.le_refl _) _
  have kV0:V.heap[wr.heap.size]?=some (.cells (S.K k).cells 50 (0,0)):=by rw [←eV];exact gV _ _
  have kV:V.drew.heap[wr.heap.size]?=some (.cells (S.K k).cells 50 (0,0)):=kV0
  have HV:Hid (tI S w k V):=HH.out.up hbV
  have HLw:Hid (w.heap.size+2<wr.heap.size):=gO HH.out.c
  have Hf:Hid (S.K k).nq:=(HP.out.one k hlt).2.2
  have hle:=Hf.out.le
  have hcl:=Hf.out.cl
  have HsU:Hid (∀ ii:Nat,0≤jv S.K ii k∧jv S.K ii k≤5*(k:Int)):=fun ii=>wX HP.out k (by omega)
  have HsL:Hid (0≤iB S.K k∧iB S.K k≤5*(k:Int)):=pf HP.out k (by omega)
  obtain ⟨ii,hin⟩:∃ ii:Nat,(S.K k).inn=(ii:Int):=⟨(S.K k).inn.toNat,by have:=(HP.out.one k hlt).2.1;omega⟩
  have hii:ii<S.N.nU:=by have:=(HP.out.one k hlt).2.1;have:=HNp.out;omega
  have Hin:Hid ((S.K k).inn=(ii:Int)):=hin
  rw [ea]
  clear hbV kV0 ea hB HH hin
  go_wp2_with (first | refine la rfl (.tmp 17) rfl g (o+k*8) rfl (S.K k) hc ?_ | refine iY 50 8 qA rfl (.tmp 5) (.tmp 18) rfl (S.K k).cells _ rfl rfl rfl rfl rfl (Pkt.one _) (eV▸?_))
  clear hc
  by_cases hpr:(S.K k).p=2
  ·
   have Hpr:Hid ((S.K k).p=2):=hpr
   clear hpr
   refine wp_region_held_drew (S:=fun w'=>w'.heap[wr.heap.size]?=some (.cells (S.K k).cells 50 (0,0))) (by kernel_rfl) kV (fun hHeld=>?_)
   have Hcs:Hid (∀ wx:World,(fun w':World=>w'.heap[wr.heap.size]?=some (.cells (S.K k).cells 50 (0,0))) wx→wx.cell? ⟨wr.heap.size,1,none⟩=some (.int .i64 (S.K k).inn)∧wx.cell? ⟨wr.heap.size,3,none⟩=some (.int .i64 (S.K k).k)∧wx.cell? ⟨wr.heap.size,4,none⟩=some (.int .i64 (S.K k).d)∧wx.cell? ⟨wr.heap.size,5,none⟩=some (.int .i64 (S.K k).s)∧wx.cell? ⟨wr.heap.size,6,none⟩=some (.int .i64 (S.K k).p)∧wx.cell? ⟨wr.heap.size,7,none⟩=some (.string (S.K k).b)):=fun wx hSw=>by
    have d1:wx.cell? ⟨wr.heap.size,1,none⟩=some (.int .i64 (S.K k).inn):=gM hSw 1
    have d3:wx.cell? ⟨wr.heap.size,3,none⟩=some (.int .i64 (S.K k).k):=gM hSw 3
    have d4:wx.cell? ⟨wr.heap.size,4,none⟩=some (.int .i64 (S.K k).d):=gM hSw 4
    have d5:wx.cell? ⟨wr.heap.size,5,none⟩=some (.int .i64 (S.K k).s):=gM hSw 5
    have d6:wx.cell? ⟨wr.heap.size,6,none⟩=some (.int .i64 (S.K k).p):=gM hSw 6
    have d7:wx.cell? ⟨wr.heap.size,7,none⟩=some (.string (S.K k).b):=gM hSw 7
    exact ⟨d1,d3,d4,d5,d6,d7⟩
   refine tX0 ?_
   iterate 4 refine tX ?_
   refine tC 6 25 (v:=?_) ?_ ?_
   rotate_left
   · exact bB
   try simp only [Act.put,PZ]
   refine tC 7 26 (v:=?_) ?_ ?_
   rotate_left
   · exact bB
   try simp only [Act.put,PZ]
   refine rq1 5 (fun K hK=>?_)
   go_simp
   refine (sD _ _ _ Hpr.out).mono ?_
   rintro e wq ⟨rfl,hwq⟩
   subst hwq
   go_wp2_with fail
   refine hK.out _ _ kV (fun hHeld=>?_)
   clear hK K
   try simp only [Act.put,PZ]
   refine tC 9 28 (v:=?_) ?_ ?_
   rotate_left
   · exact bB
   try simp only [Act.put,PZ]
   refine tC 10 29 (v:=?_) ?_ ?_
   rotate_left
   ·
    intro wx hSw
    have hna:=nilP (S.K k).inn wx
    go_simp
    try with_reducible rfl
   try simp only [Act.put,PZ]
   refine tC 11 30 (v:=?_) ?_ ?_
   rotate_left
   · exact bB
   try simp only [Act.put,PZ]
   refine rq1 8 (fun K hK=>?_)
   go_simp
   refine (nR _ _ _ _ _ _ (by unfold maxLen;omega)).mono ?_
   rintro e w2 ⟨rfl,hb⟩
   rw [YthicmlolanifhaaGreat.u5 Hf.out]
   have hH2:=HV.out.drew.up hb
   have q2:w2.heap[wr.heap.size]?=some (.cells (S.K k).cells 50 (0,0)):=(hb.block _ (gO kV)).trans kV
   have HH2:Hid (tI S w k w2):=hH2
   clear hb hH2
   go_wp2_with fail
   refine hK.out _ _ q2 (fun hHeld=>?_)
   clear hK K
   try simp only [Act.put,PZ]
   refine rq1 12 (fun K hK=>?_)
   go_simp
   try go_invoke
   refine (xg (w.heap.size+2) (w.heap.size+1) S.N.nU S.N.nU ii _ Hin.out _ _ (fun i=>jv S.K i k) (S.K k).cl _ hii (by omega) HH2.out.c HH2.out.r (by have:=HsU.out ii;omega) (by have:=HsU.out ii;omega)).mono ?_
   rintro e w3 ⟨rfl,hr3,ht3⟩
   have HH3:Hid (tI S w (k+1) w3):=HH2.out.port Hpr.out Hin.out hr3 ht3
   have q3:w3.heap[wr.heap.size]?=some (.cells (S.K k).cells 50 (0,0)):=(ht3.block _ (gO q2) (by have:=HLw.out;simp;omega)).trans q2
   clear hr3 ht3
   exact bC
  have Hpr:Hid ((S.K k).p≠2):=hpr
  clear hpr
  refine wp_region_held_drew (S:=fun w'=>w'.heap[wr.heap.size]?=some (.cells (S.K k).cells 50 (0,0))) (by kernel_rfl) kV (fun hHeld=>?_)
  have Hcs:Hid (∀ wx:World,(fun w':World=>w'.heap[wr.heap.size]?=some (.cells (S.K k).cells 50 (0,0))) wx→wx.cell? ⟨wr.heap.size,1,none⟩=some (.int .i64 (S.K k).inn)∧wx.cell? ⟨wr.heap.size,3,none⟩=some (.int .i64 (S.K k).k)∧wx.cell? ⟨wr.heap.size,4,none⟩=some (.int .i64 (S.K k).d)∧wx.cell? ⟨wr.heap.size,5,none⟩=some (.int .i64 (S.K k).s)∧wx.cell? ⟨wr.heap.size,6,none⟩=some (.int .i64 (S.K k).p)∧wx.cell? ⟨wr.heap.size,7,none⟩=some (.string (S.K k).b)):=fun wx hSw=>by
   have d1:wx.cell? ⟨wr.heap.size,1,none⟩=some (.int .i64 (S.K k).inn):=gM hSw 1
   have d3:wx.cell? ⟨wr.heap.size,3,none⟩=some (.int .i64 (S.K k).k):=gM hSw 3
   have d4:wx.cell? ⟨wr.heap.size,4,none⟩=some (.int .i64 (S.K k).d):=gM hSw 4
   have d5:wx.cell? ⟨wr.heap.size,5,none⟩=some (.int .i64 (S.K k).s):=gM hSw 5
   have d6:wx.cell? ⟨wr.heap.size,6,none⟩=some (.int .i64 (S.K k).p):=gM hSw 6
   have d7:wx.cell? ⟨wr.heap.size,7,none⟩=some (.string (S.K k).b):=gM hSw 7
   exact ⟨d1,d3,d4,d5,d6,d7⟩
  refine tX0 ?_
  iterate 4 refine tX ?_
  refine tC 6 25 (v:=?_) ?_ ?_
  rotate_left
  · exact bB
  try simp only [Act.put,PZ]
  refine tC 7 26 (v:=?_) ?_ ?_
  rotate_left
  · exact bB
  try simp only [Act.put,PZ]
  refine rq1 5 (fun K hK=>?_)
  go_simp
  refine (sF _ _ _ Hpr.out).mono ?_
  rintro e wq ⟨rfl,hwq⟩
  subst hwq
  go_wp2_with fail
  refine hK.out _ _ kV (fun hHeld=>?_)
  clear hK K
  try simp only [Act.put,PZ]
  refine tC 9 28 (v:=?_) ?_ ?_
  rotate_left
  · exact bB
  try simp only [Act.put,PZ]
  refine tC 10 29 (v:=?_) ?_ ?_
  rotate_left
  ·
   intro wx hSw
   have hna:=nilL wx
   go_simp
   try with_reducible rfl
  try simp only [Act.put,PZ]
  refine tC 11 30 (v:=?_) ?_ ?_
  rotate_left
  · exact bB
  try simp only [Act.put,PZ]
  refine rq1 8 (fun K hK=>?_)
  go_simp
  refine (nR _ _ _ _ _ _ (by unfold maxLen;omega)).mono ?_
  rintro e w2 ⟨rfl,hb⟩
  rw [YthicmlolanifhaaGreat.u5 Hf.out]
  have hH2:=HV.out.drew.up hb
  have q2:w2.heap[wr.heap.size]?=some (.cells (S.K k).cells 50 (0,0)):=(hb.block _ (gO kV)).trans kV
  have HH2:Hid (tI S w k w2):=hH2
  clear hb hH2
  go_wp2_with fail
  refine hK.out _ _ q2 (fun hHeld=>?_)
  clear hK K
  try simp only [Act.put,PZ]
  refine rq1 12 (fun K hK=>?_)
  go_simp
  try go_invoke
  refine (rF (w.heap.size+2) _ _ (iB S.K k) (S.K k).cl _ HH2.out.c (by have:=HsL.out;omega) (by have:=HsL.out;omega)).mono ?_
  rintro e w3 ⟨rfl,hk3,ht3⟩
  have HH3:Hid (tI S w (k+1) w3):=HH2.out.Cm Hpr.out hk3 ht3
  have q3:w3.heap[wr.heap.size]?=some (.cells (S.K k).cells 50 (0,0)):=(ht3.block _ (gO q2) (by have:=HLw.out;simp;omega)).trans q2
  clear hk3 ht3
  exact bC
 obtain rfl:k=S.nK:=by omega
 have hge:¬ ((S.nK:Nat):Int)<((S.nK:Nat):Int):=by omega
 have hB:=HH.out.b
 have c10:wr.cell? ⟨w.heap.size,10,none⟩=some (.slice S.N.aU S.N.nU S.N.cU):=boxed hB 10
 have c11:wr.cell? ⟨w.heap.size,11,none⟩=some (.int .i64 S.N.lo):=boxed hB 11
 have e0:wr.cell? ⟨w.heap.size+2,0,none⟩=some (.slice (some ⟨w.heap.size+1,0,none⟩) S.N.nU S.N.nU):=gM HH.out.c 0
 have e1:wr.cell? ⟨w.heap.size+2,1,none⟩=some (.int .i64 (iB S.K S.nK)):=gM HH.out.c 1
 by_cases hlo:iB S.K S.nK=S.N.lo
 ·
  have hlo':(iB S.K S.nK == S.N.lo)=true:=by simp [hlo]
  obtain ⟨uk,huk⟩:=je (∀ i,i<S.N.nU→jv S.K i S.nK=S.N.u i)
  have HUk:Hid (uk=true↔∀ i,i<S.N.nU→jv S.K i S.nK=S.N.u i):=huk
  have HE:Hid (uk=ok):=by
   rw [Hid,Bool.eq_iff_iff,HO.out,huk]
   exact ⟨fun h=>⟨hlo.symm,fun i hi=>(h i hi).symm⟩,fun h i hi=>(h.2 i hi).symm⟩
  clear hlo huk
  go_wp2_with fail
  refine (lO (some ⟨w.heap.size+1,0,none⟩) S.N.aU S.N.nU S.N.nU S.N.nU S.N.cU (fun i=>jv S.K i S.nK) S.N.u _ (by omega) (by omega) HH.out.r.read (HR.out.n.u.up (under hB)) uk ⟨fun h=>⟨rfl,HUk.out.1 h⟩,fun h=>HUk.out.2 h.2⟩).mono ?_
  rintro e w3 ⟨rfl,hSm⟩
  have B9:=under (next hB (hSm.below _))
  clear hSm c10 c11 e0 e1 hB HH
  rw [HE.out]
  go_wp2_with fail
  go_ret
  exact ⟨rfl,B9⟩
 have hlo':(iB S.K S.nK == S.N.lo)=false:=by simp [hlo]
 have HF:Hid (ok=false):=by
  rw [Hid,Bool.eq_false_iff]
  intro e
  exact hlo (HO.out.1 e).1.symm
 have B9:=under hB
 have Hlo:Hid (¬ iB S.K S.nK=S.N.lo):=hlo
 clear hlo
 go_wp2_with fail
 go_ret
 exact ⟨gZ (by first | exact HF.out.symm | (rw [HF.out];simp;exact Hlo.out)),B9⟩
theorem Cnt.Ok.cfg {C:Cfg} {N:Cnt} (h:Cnt.Ok C N):(2≤C.p∧C.p≤4)∧(N.nU:Int)=C.p:=by
 have h1:=h.c
 have h2:=h.nU
 exact ⟨by have:=h1.num.p;omega,by omega⟩
theorem pG (S:Swg) (w:World) (hs:S.Small) (hr:jK w S) (ok:Bool) (hok:ok=true↔S.Ok) :
  Calls Tryz.prog 11 #[.agg S.cells] w fun e w'=>e=.returned (.bool ok)∧Below w.heap.size w w':=by
 have HO:Hid (ok=true↔S.Ok):=hok
 have HR:Hid (jK w S):=hr
 have HS:Hid S.Small:=hs
 obtain ⟨W,eW⟩:∃ W,w.alloc (.cells S.cells 34)=W:=⟨_,rfl⟩
 have hB:Below (w.heap.size+1) (w.alloc (.cells S.cells 34)) W:=by rw [eW];exact Below.refl _ _
 have HNB:Hid (∀ {wi wj:World},Below (w.heap.size+1) (w.alloc (.cells S.cells 34)) wi→Below wi.heap.size wi wj→Below (w.heap.size+1) (w.alloc (.cells S.cells 34)) wj):=fun h k=>next h k
 have HKB:Hid (∀ {wi:World},Below (w.heap.size+1) (w.alloc (.cells S.cells 34)) wi→wi.heap[w.heap.size]?=some (.cells S.cells 34 (0,0))):=fun h=>iJ h
 have HUB:Hid (∀ {wi:World},Below (w.heap.size+1) (w.alloc (.cells S.cells 34)) wi→Below w.heap.size w wi):=fun h=>under h
 have hb0:=HUB.out hB
 have kS:=HKB.out hB
 have c0:W.cell? ⟨w.heap.size,0,none⟩=some (.int .i64 S.C.p):=gM kS 0
 have c1:W.cell? ⟨w.heap.size,1,none⟩=some (.int .i64 S.C.c):=gM kS 1
 have c2:W.cell? ⟨w.heap.size,2,none⟩=some (.int .i64 S.C.xo):=gM kS 2
 have c3:W.cell? ⟨w.heap.size,3,none⟩=some (.int .i64 S.C.xn):=gM kS 3
 have c4:W.cell? ⟨w.heap.size,4,none⟩=some (.int .i64 S.C.hd):=gM kS 4
 have c5:W.cell? ⟨w.heap.size,5,none⟩=some (.int .i64 S.C.lo):=gM kS 5
 have c6:W.cell? ⟨w.heap.size,6,none⟩=some (.int .i64 S.C.dl):=gM kS 6
 have c10:W.cell? ⟨w.heap.size,10,none⟩=some (.slice S.N.aU S.N.nU S.N.cU):=gM kS 10
 have c11:W.cell? ⟨w.heap.size,11,none⟩=some (.int .i64 S.N.lo):=gM kS 11
 have c12:W.cell? ⟨w.heap.size,12,none⟩=some (.slice S.N.aP S.N.nP S.N.cP):=gM kS 12
 clear hok hr hs kS
 obtain ⟨b0,h0⟩:=je (Cnt.Ok S.C S.N)
 have G0:Hid (b0=true↔Cnt.Ok S.C S.N):=h0
 clear h0
 obtain ⟨b1,h1⟩:=je (S.Df)
 have G1:Hid (b1=true↔S.Df):=h1
 clear h1
 obtain ⟨b2,h2⟩:=je (S.seen)
 have G2:Hid (b2=true↔S.seen):=h2
 clear h2
 obtain ⟨b3,h3⟩:=je (jS S.nx S.C.p S.nK S.K)
 have G3:Hid (b3=true↔jS S.nx S.C.p S.nK S.K):=h3
 clear h3
 obtain ⟨b4,h4⟩:=je (S.vV)
 have G4:Hid (b4=true↔S.vV):=h4
 clear h4
 obtain ⟨b5,h5⟩:=je (S.yD)
 have G5:Hid (b5=true↔S.yD):=h5
 clear h5
 obtain ⟨b6,h6⟩:=je (S.y8)
 have G6:Hid (b6=true↔S.y8):=h6
 clear h6
 have HB0:Hid (Below (w.heap.size+1) (w.alloc (.cells S.cells 34)) W):=hB
 clear hB
 go_enter Tryz.func11,Tryz.ntmps11
 go_wp2_with fail
 clear c0 c1 c2 c3 c4 c5 c6 c10 c11 c12 eW
 refine (uS S.C S.N _ HS.out.n.fit (HR.out.n.up hb0) b0 G0.out).mono ?_
 rintro e w1 ⟨rfl,hb⟩
 have HB1:Hid (Below (w.heap.size+1) (w.alloc (.cells S.cells 34)) w1):=HNB.out HB0.out hb
 clear hb hb0 HB0
 cases b0
 ·
  have HF:Hid (ok=false):=by
   rw [Hid,Bool.eq_false_iff]
   intro e
   exact absurd (G0.out.2 (HO.out.1 e).n) (by simp)
  have B9:=HUB.out HB1.out
  exact br
 have P0:Hid (Cnt.Ok S.C S.N):=G0.out.1 rfl
 have hk0:=HKB.out HB1.out
 have HK0:Hid (w1.heap[w.heap.size]?=some (.cells S.cells 34 (0,0))):=hk0
 clear hk0 G0
 go_wp2_with (refine kk (.tmp 1) rfl (by kernel_rfl) w.heap.size rfl S HK0.out ?_)
 clear HK0
 refine (wh S _ b1 G1.out).mono ?_
 rintro e w2 ⟨rfl,hb⟩
 have HB2:Hid (Below (w.heap.size+1) (w.alloc (.cells S.cells 34)) w2):=HNB.out HB1.out hb
 clear hb HB1
 cases b1
 ·
  have HF:Hid (ok=false):=by
   rw [Hid,Bool.eq_false_iff]
   intro e
   exact absurd (G1.out.2 (HO.out.1 e).nums) (by simp)
  have B9:=HUB.out HB2.out
  exact br
 have P1:Hid (S.Df):=G1.out.1 rfl
 have hk1:=HKB.out HB2.out
 have HK1:Hid (w2.heap[w.heap.size]?=some (.cells S.cells 34 (0,0))):=hk1
 clear hk1 G1
 go_wp2_with (refine kk (.tmp 1) rfl (by kernel_rfl) w.heap.size rfl S HK1.out ?_)
 clear HK1
 refine (AR S _ HS.out.e (HR.out.e.up (HUB.out HB2.out)) (by have:=P0.out.cfg;omega) (by have:=P0.out.cfg;omega) b2 G2.out).mono ?_
 rintro e w3 ⟨rfl,hb⟩
 have HB3:Hid (Below (w.heap.size+1) (w.alloc (.cells S.cells 34)) w3):=HNB.out HB2.out hb
 clear hb HB2
 cases b2
 ·
  have HF:Hid (ok=false):=by
   rw [Hid,Bool.eq_false_iff]
   intro e
   exact absurd (G2.out.2 (HO.out.1 e).seen) (by simp)
  have B9:=HUB.out HB3.out
  exact br
 have P2:Hid (S.seen):=G2.out.1 rfl
 have hk2:=HKB.out HB3.out
 have HK2:Hid (w3.heap[w.heap.size]?=some (.cells S.cells 34 (0,0))):=hk2
 clear hk2 G2
 go_wp2_with (refine kk (.tmp 1) rfl (by kernel_rfl) w.heap.size rfl S HK2.out ?_)
 clear HK2
 refine (wg S _ HS.out (HR.out.k.up (HUB.out HB3.out)) (by have:=P0.out.cfg;omega) (by have:=P0.out.cfg;omega) P1.out.nx.1 P1.out.nx.2 b3 G3.out).mono ?_
 rintro e w4 ⟨rfl,hb⟩
 have HB4:Hid (Below (w.heap.size+1) (w.alloc (.cells S.cells 34)) w4):=HNB.out HB3.out hb
 clear hb HB3
 cases b3
 ·
  have HF:Hid (ok=false):=by
   rw [Hid,Bool.eq_false_iff]
   intro e
   exact absurd (G3.out.2 (HO.out.1 e).k) (by simp)
  have B9:=HUB.out HB4.out
  exact br
 have P3:Hid (jS S.nx S.C.p S.nK S.K):=G3.out.1 rfl
 have hk3:=HKB.out HB4.out
 have HK3:Hid (w4.heap[w.heap.size]?=some (.cells S.cells 34 (0,0))):=hk3
 clear hk3 G3
 go_wp2_with (refine kk (.tmp 1) rfl (by kernel_rfl) w.heap.size rfl S HK3.out ?_)
 clear HK3
 refine (y2 S _ HS.out (HR.out.up (HUB.out HB4.out)) P3.out b4 G4.out).mono ?_
 rintro e w5 ⟨rfl,hb⟩
 have HB5:Hid (Below (w.heap.size+1) (w.alloc (.cells S.cells 34)) w5):=HNB.out HB4.out hb
 clear hb HB4
 cases b4
 ·
  have HF:Hid (ok=false):=by
   rw [Hid,Bool.eq_false_iff]
   intro e
   exact absurd (G4.out.2 ⟨(HO.out.1 e).nl,(HO.out.1 e).l⟩) (by simp)
  have B9:=HUB.out HB5.out
  exact br
 have P4:Hid (S.vV):=G4.out.1 rfl
 have hk4:=HKB.out HB5.out
 have HK4:Hid (w5.heap[w.heap.size]?=some (.cells S.cells 34 (0,0))):=hk4
 clear hk4 G4
 go_wp2_with (refine kk (.tmp 1) rfl (by kernel_rfl) w.heap.size rfl S HK4.out ?_)
 clear HK4
 refine (AS S _ HS.out (HR.out.up (HUB.out HB5.out)) P3.out P4.out.2 (by have:=P0.out.cfg;have:=P4.out.1;omega) P1.out.nx.2 b5 G5.out).mono ?_
 rintro e w6 ⟨rfl,hb⟩
 have HB6:Hid (Below (w.heap.size+1) (w.alloc (.cells S.cells 34)) w6):=HNB.out HB5.out hb
 clear hb HB5
 cases b5
 ·
  have HF:Hid (ok=false):=by
   rw [Hid,Bool.eq_false_iff]
   intro e
   exact absurd (G5.out.2 (HO.out.1 e).refs) (by simp)
  have B9:=HUB.out HB6.out
  exact br
 have P5:Hid (S.yD):=G5.out.1 rfl
 have hk5:=HKB.out HB6.out
 have HK5:Hid (w6.heap[w.heap.size]?=some (.cells S.cells 34 (0,0))):=hk5
 clear hk5 G5
 go_wp2_with (refine kk (.tmp 1) rfl (by kernel_rfl) w.heap.size rfl S HK5.out ?_)
 clear HK5
 refine (AU S _ HS.out (HR.out.up (HUB.out HB6.out)) P3.out P0.out.cfg.2 (by have:=P0.out.cfg;omega) (by have:=P0.out.cfg;omega) b6 G6.out).mono ?_
 rintro e w7 ⟨rfl,hb⟩
 have HB7:Hid (Below (w.heap.size+1) (w.alloc (.cells S.cells 34)) w7):=HNB.out HB6.out hb
 clear hb HB6
 have HE:Hid (b6=ok):=by
  rw [Hid,Bool.eq_iff_iff,HO.out,G6.out]
  exact ⟨fun h=>⟨P0.out,P1.out,P2.out,P3.out,P4.out.1,P4.out.2,P5.out,h⟩,fun h=>h.held⟩
 have B9:=HUB.out HB7.out
 rw [HE.out]
 go_wp2_with fail
 go_ret
 exact ⟨rfl,B9⟩
theorem nM (S:Swg) (id:Int) (w:World) (hn:S.nK≤1048576) (hr:mI w S.aK S.nK S.K) (j:Nat) (hj:j<S.nK) (hid:(S.K j).id=id) (hno:∀ i,i<j→(S.K i).id≠id) :
  Calls Tryz.prog 69 #[.agg S.cells,.int .i64 id] w fun e w'=>e=.returned (.int .i64 (j:Int))∧Below w.heap.size w w':=by
 have HR:Hid (mI w S.aK S.nK S.K):=hr
 have HN:Hid (∀ i,i<j→(S.K i).id≠id):=hno
 have HI:Hid ((S.K j).id=id):=hid
 have hB:Below (w.heap.size+1) (w.alloc (.cells S.cells 34)) (w.alloc (.cells S.cells 34)):=Below.refl _ _
 clear hr hno hid
 go_enter Tryz.func69,Tryz.ntmps69
 go_wp2_with fail
 go_loop [5] (fun x=>∃ k:Nat,k≤j∧x=.int .i64 k) (fun x=>j+1-(intOf x).toNat)
 case atStart=>exact ⟨0,Nat.zero_le _,rfl⟩
 obtain ⟨k,hk,rfl⟩:=hrel
 have hlt:(k:Int)<S.nK:=by omega
 obtain ⟨g,o,ea,hc⟩:=(HR.out.up (under hB)) k (by omega)
 have c13:(w.alloc (.cells S.cells 34)).cell? ⟨w.heap.size,13,none⟩=some (.slice (some ⟨g,o,none⟩) S.nK S.cK):=(boxed hB 13).trans (by rw [←ea];rfl)
 have c0:(w.alloc (.cells S.cells 34)).cell? ⟨g,o+k*8,none⟩=some (.int .i64 (S.K k).id):=hc 0 (by omega)
 clear hc ea
 by_cases e:k=j
 ·
  subst e
  have he:((S.K k).id == id)=true:=by simp [HI.out]
  have he2:(S.K k).id=id:=HI.out
  exact bh
 exact bD
theorem rJ (S:Swg) (id:Int) (w:World) (hn:S.nK≤1048576) (hr:mI w S.aK S.nK S.K) (hno:∀ i,i<S.nK→(S.K i).id≠id) :
  Calls Tryz.prog 69 #[.agg S.cells,.int .i64 id] w fun e w'=>e=.returned (.int .i64 (-1))∧Below w.heap.size w w':=by
 have HR:Hid (mI w S.aK S.nK S.K):=hr
 have HN:Hid (∀ i,i<S.nK→(S.K i).id≠id):=hno
 have hB:Below (w.heap.size+1) (w.alloc (.cells S.cells 34)) (w.alloc (.cells S.cells 34)):=Below.refl _ _
 clear hr hno
 go_enter Tryz.func69,Tryz.ntmps69
 go_wp2_with fail
 go_loop [5] (fun x=>∃ k:Nat,k≤S.nK∧x=.int .i64 k) (fun x=>S.nK-(intOf x).toNat)
 case atStart=>exact ⟨0,Nat.zero_le _,rfl⟩
 obtain ⟨k,hk,rfl⟩:=hrel
 by_cases hlt:k<S.nK
 ·
  have hlt':(k:Int)<S.nK:=by omega
  obtain ⟨g,o,ea,hc⟩:=(HR.out.up (under hB)) k (by omega)
  have c13:(w.alloc (.cells S.cells 34)).cell? ⟨w.heap.size,13,none⟩=some (.slice (some ⟨g,o,none⟩) S.nK S.cK):=(boxed hB 13).trans (by rw [←ea];rfl)
  have c0:(w.alloc (.cells S.cells 34)).cell? ⟨g,o+k*8,none⟩=some (.int .i64 (S.K k).id):=hc 0 (by omega)
  clear hc ea
  exact bD
 obtain rfl:k=S.nK:=by omega
 have hge:¬ ((S.nK:Nat):Int)<((S.nK:Nat):Int):=by omega
 have c13:(w.alloc (.cells S.cells 34)).cell? ⟨w.heap.size,13,none⟩=some (.slice S.aK S.nK S.cK):=boxed hB 13
 exact bh
theorem vZ (a:Option Addr) (n c:Nat) (z:Nat→Int) (x:Int) (w:World) (hn:n≤1048576) (hr:iq w a n fun i=>.int .i64 (z i)) (ok:Bool) (hok:ok=true↔∃ i,i<n∧z i=x) :
  Calls Tryz.prog 63 #[.slice a n c,.int .i64 x] w fun e w'=>e=.returned (.bool ok)∧w'=w:=by
 have HR:Hid (iq w a n fun i=>.int .i64 (z i)):=hr
 have HO:Hid (ok=true↔∃ i,i<n∧z i=x):=hok
 clear hr hok
 go_enter Tryz.func63,Tryz.ntmps63
 go_wp2_with fail
 go_loop [5] (fun y=>∃ k:Nat,k≤n∧y=.int .i64 k∧∀ i,i<k→z i≠x) (fun y=>n-(intOf y).toNat)
 case atStart=>exact ⟨0,Nat.zero_le _,rfl,fun i hi=>by omega⟩
 obtain ⟨k,hk,rfl,hall⟩:=hrel
 have HA:Hid (∀ i,i<k→z i≠x):=hall
 clear hall
 by_cases hlt:k<n
 ·
  have hlt':(k:Int)<n:=by omega
  obtain ⟨g,o,rfl,c0⟩:=HR.out k hlt
  dsimp only at c0
  by_cases e:z k=x
  ·
   have he:(z k == x)=true:=by simp [e]
   have HT:Hid (ok=true):=HO.out.2 ⟨k,hlt,e⟩
   have He:Hid (z k=x):=e
   clear e
   go_wp2_with fail
   go_ret
   exact ⟨gZ HT.out.symm,rfl⟩
  have he:(z k == x)=false:=by simp [e]
  have He:Hid (¬ z k=x):=e
  clear e
  go_wp2_with fail
  go_round
  case rel=>exact ⟨k+1,by omega,by go_num,fun i hi=>by
   by_cases e:i=k
   ·
    subst e;exact He.out
   ·
    exact HA.out i (by omega)⟩
  case measure=>simp [intOf];omega
 obtain rfl:k=n:=by omega
 have hge:¬ ((k:Nat):Int)<((k:Nat):Int):=by omega
 have HF:Hid (ok=false):=by
  rw [Hid,Bool.eq_false_iff]
  intro e
  obtain ⟨i,hi,e2⟩:=HO.out.1 e
  exact HA.out i hi e2
 go_wp2_with fail
 go_ret
 exact ⟨gZ HF.out.symm,rfl⟩
end Go.Proofs.YthicmlolanifhaaGreat
