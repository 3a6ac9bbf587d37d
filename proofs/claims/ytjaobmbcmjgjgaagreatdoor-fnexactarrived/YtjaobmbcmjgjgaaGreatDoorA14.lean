import Derived.Test.YtjaobmbcmjgjgaaGreatDoorA13
namespace Go.Proofs.YtjaobmbcmjgjgaaGreatDoor
set_option maxRecDepth 100000
set_option maxHeartbeats 8000000
open Go.RowKit
set_option linter.unusedVariables false
set_option linter.unusedSimpArgs false
theorem bz {p:Prop} (h:p:=by
 intro wx hSw
 have d1:wx.cell? ⟨wr.heap.size,1,none⟩=some (.int .i64 (S.K k).inn):=fF hSw 1
 have d3:wx.cell? ⟨wr.heap.size,3,none⟩=some (.int .i64 (S.K k).k):=fF hSw 3
 have d4:wx.cell? ⟨wr.heap.size,4,none⟩=some (.int .i64 (S.K k).d):=fF hSw 4
 have d5:wx.cell? ⟨wr.heap.size,5,none⟩=some (.int .i64 (S.K k).s):=fF hSw 5
 have d6:wx.cell? ⟨wr.heap.size,6,none⟩=some (.int .i64 (S.K k).p):=fF hSw 6
 have d7:wx.cell? ⟨wr.heap.size,7,none⟩=some (.string (S.K k).b):=fF hSw 7
 go_simp
 try with_reducible rfl):p:=h
theorem bA {p:Prop} (h:p:=by
 go_wp2_with fail
 refine hK.out _ _ q3 (fun hHeld=>?_)
 clear hK K
 try simp only [Act.put,PZ]
 refine dnq ?_
 clear q2 q3 hHeld
 go_wp2_with fail
 go_roundw
 case rel=>exact ⟨k+1,by omega,by go_num,HH3.out⟩
 case measure=>simp [intOf];omega):p:=h
theorem bB {p:Prop} (h:p:=by
 iterate 16 refine sN ?_
 refine tN ?_
 exact bD):p:=h
theorem bC {p:Prop} (h:p:=by
 have hne:=HN.out k (by omega)
 have he:((S.K k).id == id)=false:=by simp [hne]
 have HNe:Hid ((S.K k).id≠id):=hne
 clear hne
 go_wp2_with fail
 go_round
 case rel=>exact ⟨k+1,by omega,by go_num⟩
 case measure=>simp [intOf];omega):p:=h
theorem bD {p:Prop} (h:p:=by
 refine dnq ?_
 go_wp2_with fail
 go_ret
 exact ⟨fO HF.out.symm,hB.drew⟩):p:=h
theorem nilP (x : Int) (w : World) : (nilAhead 399 175 (.agg #[.int .i64 x]) "loop.example/g00355/impl.change").run Tryz.prog w = .ok (some false) w := by kernel_rfl
theorem nilL (w : World) : (nilAhead 399 173 (.agg #[]) "loop.example/g00355/impl.change").run Tryz.prog w = .ok (some false) w := by kernel_rfl
theorem pE (port prio:Int) (w:World) (h:prio=2):Calls Tryz.prog 108 #[.int .i64 port,.int .i64 prio] w fun e w'=>e=.returned (.iface 175 (.agg #[.int .i64 port]))∧w'=w:=by
 subst h
 exact mS port w
theorem uP (g gU nU cU i:Nat) (inn:Int) (hin:inn=(i:Int)) (v1 v2:Value) (u:Nat→Int) (y:Int) (w:World) (hi:i<nU) (hm:nU≤1048576) (k:w.heap[g]?=some (.cells #[.slice (some ⟨gU,0,none⟩) nU cU,v1,v2] 39 (0,0))) (hr:fU gU 2 nU (fun i=>.int .i64 (u i)) nU w) (h1:-10000≤u i+y) (h2:u i+y≤10000) :
  Calls Tryz.prog 219 #[.agg #[.int .i64 inn],.pointer (some ⟨g,0,none⟩),.int .i64 y] w fun e w'=>e=.returned (.tuple #[])∧fU gU 2 nU (fun k=>.int .i64 (mG u i y k)) nU w'∧Touch [gU] w w':=by
 subst hin
 exact ml g gU nU cU i v1 v2 u y w hi hm k hr h1 h2
structure qn (S:Swg) (w:World) (k:Nat) (wr:World):Prop where
 c:wr.heap[w.heap.size+2]?=some (.cells #[.slice (some ⟨w.heap.size+1,0,none⟩) S.N.nU S.N.nU,.int .i64 (gM S.K k),.slice none 0 0] 39 (0,0))
 r:fU (w.heap.size+1) 2 S.N.nU (fun i=>.int .i64 (jF S.K i k)) S.N.nU wr
 b:Below (w.heap.size+1) (w.alloc (.cells S.cells 43)) wr
theorem qn.up {S:Swg} {w:World} {k:Nat} {wr W:World} (h:qn S w k wr) (hb:Below wr.heap.size wr W):qn S w k W :=
 ⟨(hb.block _ (fG h.c)).trans h.c,h.r.iB (hb.block _ h.r.lt),next h.b hb⟩
theorem qn.drew {S:Swg} {w:World} {k:Nat} {wr:World} (h:qn S w k wr):qn S w k wr.drew:=h.up ((Below.refl _ _).drew)
theorem qn.port {S:Swg} {w:World} {k ii:Nat} {wr W:World} (h:qn S w k wr) (hp:(S.K k).p=2) (hi:(S.K k).inn=(ii:Int)) (hr:fU (w.heap.size+1) 2 S.N.nU (fun i=>.int .i64 (mG (fun i=>jF S.K i k) ii (S.K k).cl i)) S.N.nU W) (ht:Touch [w.heap.size+1] wr W):qn S w (k+1) W:=by
 refine ⟨?_,hr.Bh (fun i _=>?_),h.b.trans (ht.below (by have:=upper h.b;omega) (fun x hx=>by simp at hx;omega))⟩
 ·
  refine ((ht.block _ (fG h.c) (by simp)).trans h.c).trans ?_
  have e:gM S.K (k+1)=gM S.K k:=by show gM S.K k+(if (S.K k).p=2 then 0 else _)=_;rw [if_pos hp];omega
  rw [e]
 have e:jF S.K i (k+1)=mG (fun i=>jF S.K i k) ii (S.K k).cl i:=by
  show jF S.K i k+(if (S.K k).p=2∧(S.K k).inn=(i:Int) then _ else 0)=_
  unfold mG
  by_cases e:i=ii
  ·
   subst e;rw [if_pos ⟨hp,hi⟩,if_pos rfl]
  rw [if_neg (fun h=>e (by have:=h.2;omega)),if_neg e];dsimp only;omega
 rw [e]
theorem qn.AB {S:Swg} {w:World} {k:Nat} {wr W:World} (h:qn S w k wr) (hp:(S.K k).p≠2) (hk:W.heap[w.heap.size+2]?=some (.cells #[.slice (some ⟨w.heap.size+1,0,none⟩) S.N.nU S.N.nU,.int .i64 (gM S.K k+(S.K k).cl),.slice none 0 0] 39 (0,0))) (ht:Touch [w.heap.size+2] wr W):qn S w (k+1) W:=by
 refine ⟨?_,(h.r.iB (ht.block _ h.r.lt (by simp))).Bh (fun i _=>?_),h.b.trans (ht.below (by have:=upper h.b;omega) (fun x hx=>by simp at hx;omega))⟩
 ·
  have e:gM S.K (k+1)=gM S.K k+(S.K k).cl:=by show gM S.K k+(if (S.K k).p=2 then 0 else _)=_;rw [if_neg hp]
  rw [e];exact hk
 have e:jF S.K i (k+1)=jF S.K i k:=by
  show jF S.K i k+(if (S.K k).p=2∧(S.K k).inn=(i:Int) then _ else 0)=_
  rw [if_neg (fun h=>hp h.1)];omega
 rw [e]
theorem zg (S:Swg) (w:World) (hs:S.Small) (hr:jL w S) (hP:jE S.nx S.C.p S.nK S.K) (hn:(S.N.nU:Int)=S.C.p) (h4:S.N.nU≤4) (h0:0<S.N.nU) (ok:Bool) (hok:ok=true↔S.xz) :
  Calls Tryz.prog 68 #[.agg S.cells] w fun e w'=>e=.returned (.bool ok)∧Below w.heap.size w w':=by
 have HO:Hid (ok=true↔S.xz):=hok
 have HR:Hid (jL w S):=hr
 have HP:Hid (jE S.nx S.C.p S.nK S.K):=hP
 have hnK:S.nK≤1000:=hP.le
 have HNp:Hid ((S.N.nU:Int)=S.C.p):=hn
 clear hn
 have hB:Below (w.heap.size+1) (w.alloc (.cells S.cells 43)) (w.alloc (.cells S.cells 43)):=Below.refl _ _
 have c10:World.cell? (w.alloc (.cells S.cells 43)) ⟨w.heap.size,10,none⟩=some (.slice S.N.aU S.N.nU S.N.cU):=boxed hB 10
 have mk:∀ W,_:=mO S.N.nU (by omega)
 have kZ:(World.alloc (w.alloc (.cells S.cells 43)) (.cells (jM S.N.nU) 2)).heap[w.heap.size+1]?=some (.cells (jM S.N.nU) 2 (0,0)):=by
  have:=fK (w.alloc (.cells S.cells 43)) (.cells (jM S.N.nU) 2)
  simpa using this
 have HH0:Hid (qn S w 0 (World.alloc (World.alloc (w.alloc (.cells S.cells 43)) (.cells (jM S.N.nU) 2)) (.cells #[.slice (some ⟨w.heap.size+1,0,none⟩) S.N.nU S.N.nU,.int .i64 0,.slice none 0 0] 39))):=by
  have hbZ:Below (w.heap.size+1) (w.alloc (.cells S.cells 43)) (World.alloc (w.alloc (.cells S.cells 43)) (.cells (jM S.N.nU) 2)):=hB.alloc (by simp) _
  have hbW:=(Below.refl (World.alloc (w.alloc (.cells S.cells 43)) (.cells (jM S.N.nU) 2)).heap.size (World.alloc (w.alloc (.cells S.cells 43)) (.cells (jM S.N.nU) 2))).alloc (Nat.le_refl _) (.cells #[.slice (some ⟨w.heap.size+1,0,none⟩) S.N.nU S.N.nU,.int .i64 0,.slice none 0 0] 39)
  refine ⟨?_,?_,next hbZ hbW⟩
  ·
   have:=fK (World.alloc (w.alloc (.cells S.cells 43)) (.cells (jM S.N.nU) 2)) (.cells #[.slice (some ⟨w.heap.size+1,0,none⟩) S.N.nU S.N.nU,.int .i64 0,.slice none 0 0] 39)
   rw [show (World.alloc (w.alloc (.cells S.cells 43)) (.cells (jM S.N.nU) 2)).heap.size=w.heap.size+2 by simp] at this
   exact this
  have hz:=mI kZ
  exact (hz.iB (hbW.block _ hz.lt)).Bh (fun i _=>rfl)
 have c13:World.cell? (World.alloc (World.alloc (w.alloc (.cells S.cells 43)) (.cells (jM S.N.nU) 2)) (.cells #[.slice (some ⟨w.heap.size+1,0,none⟩) S.N.nU S.N.nU,.int .i64 0,.slice none 0 0] 39)) ⟨w.heap.size,13,none⟩=some (.slice S.aK S.nK S.cK):=boxed HH0.out.b 13
 clear hok hr hP hs hB kZ
 go_enter Tryz.func68,Tryz.ntmps68
 go_wp2_with fail
 generalize World.alloc (World.alloc (w.alloc (.cells S.cells 43)) (.cells (jM S.N.nU) 2)) (.cells #[.slice (some ⟨w.heap.size+1,0,none⟩) S.N.nU S.N.nU,.int .i64 0,.slice none 0 0] 39)=W0 at *
 clear mk c10 c13
 go_loopw [15] (fun x wr=>∃ k:Nat,k≤S.nK∧x=.int .i64 k∧qn S w k wr) (fun x _=>S.nK-(intOf x).toNat)
 case atStart=>exact ⟨0,Nat.zero_le _,rfl,HH0.out⟩
 clear HH0
 obtain ⟨k,hk,rfl,hH⟩:=hrel
 have HH:Hid (qn S w k wr):=hH
 clear hH
 by_cases hlt:k<S.nK
 ·
  have hlt':(k:Int)<S.nK:=by omega
  have hB:=HH.out.b
  obtain ⟨g,o,ea,hc⟩:=(HR.out.up (under hB)).k k hlt
  obtain ⟨V,eV⟩:∃ V,wr.alloc (.cells (S.K k).cells 94)=V:=⟨_,rfl⟩
  have hbV:Below wr.heap.size wr V:=by rw [←eV];exact (Below.refl _ _).alloc (Nat.le_refl _) _
  have kV0:V.heap[wr.heap.size]?=some (.cells (S.K k).cells 94 (0,0)):=by rw [←eV];exact fK _ _
  have kV:V.drew.heap[wr.heap.size]?=some (.cells (S.K k).cells 94 (0,0)):=kV0
  have HV:Hid (qn S w k V):=HH.out.up hbV
  have HLw:Hid (w.heap.size+2<wr.heap.size):=fG HH.out.c
  have Hf:Hid (S.K k).nr:=(HP.out.one k hlt).2.2
  have hle:=Hf.out.le
  have hcl:=Hf.out.cl
  have HsU:Hid (∀ ii:Nat,0≤jF S.K ii k∧jF S.K ii k≤5*(k:Int)):=fun ii=>x9 HP.out k (by omega)
  have HsL:Hid (0≤gM S.K k∧gM S.K k≤5*(k:Int)):=mM HP.out k (by omega)
  obtain ⟨ii,hin⟩:∃ ii:Nat,(S.K k).inn=(ii:Int):=⟨(S.K k).inn.toNat,by have:=(HP.out.one k hlt).2.1;omega⟩
  have hii:ii<S.N.nU:=by have:=(HP.out.one k hlt).2.1;have:=HNp.out;omega
  have Hin:Hid ((S.K k).inn=(ii:Int)):=hin
  rw [ea]
  clear hbV kV0 ea hB HH hin
  go_wp2_with (first | refine jA rfl (.tmp 17) rfl g (o+k*8) rfl (S.K k) hc ?_ | refine iQ 94 8 nZ rfl (.tmp 5) (.tmp 18) rfl (S.K k).cells _ rfl rfl rfl rfl rfl (Pkt.one _) (eV▸?_))
  clear hc
  by_cases hpr:(S.K k).p=2
  ·
   have Hpr:Hid ((S.K k).p=2):=hpr
   clear hpr
   refine wp_region_held_drew (S:=fun w'=>w'.heap[wr.heap.size]?=some (.cells (S.K k).cells 94 (0,0))) (by kernel_rfl) kV (fun hHeld=>?_)
   have Hcs:Hid (∀ wx:World,(fun w':World=>w'.heap[wr.heap.size]?=some (.cells (S.K k).cells 94 (0,0))) wx→wx.cell? ⟨wr.heap.size,1,none⟩=some (.int .i64 (S.K k).inn)∧wx.cell? ⟨wr.heap.size,3,none⟩=some (.int .i64 (S.K k).k)∧wx.cell? ⟨wr.heap.size,4,none⟩=some (.int .i64 (S.K k).d)∧wx.cell? ⟨wr.heap.size,5,none⟩=some (.int .i64 (S.K k).s)∧wx.cell? ⟨wr.heap.size,6,none⟩=some (.int .i64 (S.K k).p)∧wx.cell? ⟨wr.heap.size,7,none⟩=some (.string (S.K k).b)):=fun wx hSw=>by
    have d1:wx.cell? ⟨wr.heap.size,1,none⟩=some (.int .i64 (S.K k).inn):=fF hSw 1
    have d3:wx.cell? ⟨wr.heap.size,3,none⟩=some (.int .i64 (S.K k).k):=fF hSw 3
    have d4:wx.cell? ⟨wr.heap.size,4,none⟩=some (.int .i64 (S.K k).d):=fF hSw 4
    have d5:wx.cell? ⟨wr.heap.size,5,none⟩=some (.int .i64 (S.K k).s):=fF hSw 5
    have d6:wx.cell? ⟨wr.heap.size,6,none⟩=some (.int .i64 (S.K k).p):=fF hSw 6
    have d7:wx.cell? ⟨wr.heap.size,7,none⟩=some (.string (S.K k).b):=fF hSw 7
    exact ⟨d1,d3,d4,d5,d6,d7⟩
   refine tX0 ?_
   iterate 4 refine tX ?_
   refine tC 6 25 (v:=?_) ?_ ?_
   rotate_left
   · exact bz
   try simp only [Act.put,PZ]
   refine tC 7 26 (v:=?_) ?_ ?_
   rotate_left
   · exact bz
   try simp only [Act.put,PZ]
   refine rq1 5 (fun K hK=>?_)
   go_simp
   refine (pE _ _ _ Hpr.out).mono ?_
   rintro e wq ⟨rfl,hwq⟩
   subst hwq
   go_wp2_with fail
   refine hK.out _ _ kV (fun hHeld=>?_)
   clear hK K
   try simp only [Act.put,PZ]
   refine tC 9 28 (v:=?_) ?_ ?_
   rotate_left
   · exact bz
   try simp only [Act.put,PZ]
   refine tC 10 29 (v:=?_) ?_ ?_
   rotate_left
   ·
    intro wx hSw
    have hna:=nilP (S.K k).inn wx
    go_simp
    try with_reducible rfl
   try simp only [Act.put,PZ]
   refine tC 11 30 (v:=?_) ?_ ?_
   rotate_left
   · exact bz
   try simp only [Act.put,PZ]
   refine rq1 8 (fun K hK=>?_)
   go_simp
   refine (jl _ _ _ _ _ _ (by unfold maxLen;omega)).mono ?_
   rintro e w2 ⟨rfl,hb⟩
   rw [rS Hf.out]
   have hH2:=HV.out.drew.up hb
   have q2:w2.heap[wr.heap.size]?=some (.cells (S.K k).cells 94 (0,0)):=(hb.block _ (fG kV)).trans kV
   have HH2:Hid (qn S w k w2):=hH2
   clear hb hH2
   go_wp2_with fail
   refine hK.out _ _ q2 (fun hHeld=>?_)
   clear hK K
   try simp only [Act.put,PZ]
   refine rq1 12 (fun K hK=>?_)
   go_simp
   try go_invoke
   refine (uP (w.heap.size+2) (w.heap.size+1) S.N.nU S.N.nU ii _ Hin.out _ _ (fun i=>jF S.K i k) (S.K k).cl _ hii (by omega) HH2.out.c HH2.out.r (by have:=HsU.out ii;omega) (by have:=HsU.out ii;omega)).mono ?_
   rintro e w3 ⟨rfl,hr3,ht3⟩
   have HH3:Hid (qn S w (k+1) w3):=HH2.out.port Hpr.out Hin.out hr3 ht3
   have q3:w3.heap[wr.heap.size]?=some (.cells (S.K k).cells 94 (0,0)):=(ht3.block _ (fG q2) (by have:=HLw.out;simp;omega)).trans q2
   clear hr3 ht3
   exact bA
  have Hpr:Hid ((S.K k).p≠2):=hpr
  clear hpr
  refine wp_region_held_drew (S:=fun w'=>w'.heap[wr.heap.size]?=some (.cells (S.K k).cells 94 (0,0))) (by kernel_rfl) kV (fun hHeld=>?_)
  have Hcs:Hid (∀ wx:World,(fun w':World=>w'.heap[wr.heap.size]?=some (.cells (S.K k).cells 94 (0,0))) wx→wx.cell? ⟨wr.heap.size,1,none⟩=some (.int .i64 (S.K k).inn)∧wx.cell? ⟨wr.heap.size,3,none⟩=some (.int .i64 (S.K k).k)∧wx.cell? ⟨wr.heap.size,4,none⟩=some (.int .i64 (S.K k).d)∧wx.cell? ⟨wr.heap.size,5,none⟩=some (.int .i64 (S.K k).s)∧wx.cell? ⟨wr.heap.size,6,none⟩=some (.int .i64 (S.K k).p)∧wx.cell? ⟨wr.heap.size,7,none⟩=some (.string (S.K k).b)):=fun wx hSw=>by
   have d1:wx.cell? ⟨wr.heap.size,1,none⟩=some (.int .i64 (S.K k).inn):=fF hSw 1
   have d3:wx.cell? ⟨wr.heap.size,3,none⟩=some (.int .i64 (S.K k).k):=fF hSw 3
   have d4:wx.cell? ⟨wr.heap.size,4,none⟩=some (.int .i64 (S.K k).d):=fF hSw 4
   have d5:wx.cell? ⟨wr.heap.size,5,none⟩=some (.int .i64 (S.K k).s):=fF hSw 5
   have d6:wx.cell? ⟨wr.heap.size,6,none⟩=some (.int .i64 (S.K k).p):=fF hSw 6
   have d7:wx.cell? ⟨wr.heap.size,7,none⟩=some (.string (S.K k).b):=fF hSw 7
   exact ⟨d1,d3,d4,d5,d6,d7⟩
  refine tX0 ?_
  iterate 4 refine tX ?_
  refine tC 6 25 (v:=?_) ?_ ?_
  rotate_left
  · exact bz
  try simp only [Act.put,PZ]
  refine tC 7 26 (v:=?_) ?_ ?_
  rotate_left
  · exact bz
  try simp only [Act.put,PZ]
  refine rq1 5 (fun K hK=>?_)
  go_simp
  refine (mn _ _ _ Hpr.out).mono ?_
  rintro e wq ⟨rfl,hwq⟩
  subst hwq
  go_wp2_with fail
  refine hK.out _ _ kV (fun hHeld=>?_)
  clear hK K
  try simp only [Act.put,PZ]
  refine tC 9 28 (v:=?_) ?_ ?_
  rotate_left
  · exact bz
  try simp only [Act.put,PZ]
  refine tC 10 29 (v:=?_) ?_ ?_
  rotate_left
  ·
   intro wx hSw
   have hna:=nilL wx
   go_simp
   try with_reducible rfl
  try simp only [Act.put,PZ]
  refine tC 11 30 (v:=?_) ?_ ?_
  rotate_left
  · exact bz
  try simp only [Act.put,PZ]
  refine rq1 8 (fun K hK=>?_)
  go_simp
  refine (jl _ _ _ _ _ _ (by unfold maxLen;omega)).mono ?_
  rintro e w2 ⟨rfl,hb⟩
  rw [rS Hf.out]
  have hH2:=HV.out.drew.up hb
  have q2:w2.heap[wr.heap.size]?=some (.cells (S.K k).cells 94 (0,0)):=(hb.block _ (fG kV)).trans kV
  have HH2:Hid (qn S w k w2):=hH2
  clear hb hH2
  go_wp2_with fail
  refine hK.out _ _ q2 (fun hHeld=>?_)
  clear hK K
  try simp only [Act.put,PZ]
  refine rq1 12 (fun K hK=>?_)
  go_simp
  try go_invoke
  refine (lW (w.heap.size+2) _ _ (gM S.K k) (S.K k).cl _ HH2.out.c (by have:=HsL.out;omega) (by have:=HsL.out;omega)).mono ?_
  rintro e w3 ⟨rfl,hk3,ht3⟩
  have HH3:Hid (qn S w (k+1) w3):=HH2.out.AB Hpr.out hk3 ht3
  have q3:w3.heap[wr.heap.size]?=some (.cells (S.K k).cells 94 (0,0)):=(ht3.block _ (fG q2) (by have:=HLw.out;simp;omega)).trans q2
  clear hk3 ht3
  exact bA
 obtain rfl:k=S.nK:=by omega
 have hge:¬ ((S.nK:Nat):Int)<((S.nK:Nat):Int):=by omega
 have hB:=HH.out.b
 have c10:wr.cell? ⟨w.heap.size,10,none⟩=some (.slice S.N.aU S.N.nU S.N.cU):=boxed hB 10
 have c11:wr.cell? ⟨w.heap.size,11,none⟩=some (.int .i64 S.N.lo):=boxed hB 11
 have e0:wr.cell? ⟨w.heap.size+2,0,none⟩=some (.slice (some ⟨w.heap.size+1,0,none⟩) S.N.nU S.N.nU):=fF HH.out.c 0
 have e1:wr.cell? ⟨w.heap.size+2,1,none⟩=some (.int .i64 (gM S.K S.nK)):=fF HH.out.c 1
 by_cases hlo:gM S.K S.nK=S.N.lo
 ·
  have hlo':(gM S.K S.nK == S.N.lo)=true:=by simp [hlo]
  obtain ⟨uk,huk⟩:=iw (∀ i,i<S.N.nU→jF S.K i S.nK=S.N.u i)
  have HUk:Hid (uk=true↔∀ i,i<S.N.nU→jF S.K i S.nK=S.N.u i):=huk
  have HE:Hid (uk=ok):=by
   rw [Hid,Bool.eq_iff_iff,HO.out,huk]
   exact ⟨fun h=>⟨hlo.symm,fun i hi=>(h i hi).symm⟩,fun h i hi=>(h.2 i hi).symm⟩
  clear hlo huk
  go_wp2_with fail
  refine (jY (some ⟨w.heap.size+1,0,none⟩) S.N.aU S.N.nU S.N.nU S.N.nU S.N.cU (fun i=>jF S.K i S.nK) S.N.u _ (by omega) (by omega) HH.out.r.read (HR.out.n.u.up (under hB)) uk ⟨fun h=>⟨rfl,HUk.out.1 h⟩,fun h=>HUk.out.2 h.2⟩).mono ?_
  rintro e w3 ⟨rfl,hSm⟩
  have B9:=under (next hB (hSm.below _))
  clear hSm c10 c11 e0 e1 hB HH
  rw [HE.out]
  go_wp2_with fail
  go_ret
  exact ⟨rfl,B9⟩
 have hlo':(gM S.K S.nK == S.N.lo)=false:=by simp [hlo]
 have HF:Hid (ok=false):=by
  rw [Hid,Bool.eq_false_iff]
  intro e
  exact hlo (HO.out.1 e).1.symm
 have B9:=under hB
 have Hlo:Hid (¬ gM S.K S.nK=S.N.lo):=hlo
 clear hlo
 go_wp2_with fail
 go_ret
 exact ⟨fO (by first | exact HF.out.symm | (rw [HF.out];simp;exact Hlo.out)),B9⟩
theorem Cnt.Ok.cfg {C:Cfg} {N:Cnt} (h:Cnt.Ok C N):(2≤C.p∧C.p≤4)∧(N.nU:Int)=C.p:=by
 have h1:=h.c
 have h2:=h.nU
 exact ⟨by have:=h1.num.p;omega,by omega⟩
theorem rf (S:Swg) (w:World) (hs:S.Small) (hr:jL w S) (ok:Bool) (hok:ok=true↔S.Ok) :
  Calls Tryz.prog 24 #[.agg S.cells] w fun e w'=>e=.returned (.bool ok)∧Below w.heap.size w w':=by
 have HO:Hid (ok=true↔S.Ok):=hok
 have HR:Hid (jL w S):=hr
 have HS:Hid S.Small:=hs
 obtain ⟨W,eW⟩:∃ W,w.alloc (.cells S.cells 43)=W:=⟨_,rfl⟩
 have hB:Below (w.heap.size+1) (w.alloc (.cells S.cells 43)) W:=by rw [eW];exact Below.refl _ _
 have HNB:Hid (∀ {wi wj:World},Below (w.heap.size+1) (w.alloc (.cells S.cells 43)) wi→Below wi.heap.size wi wj→Below (w.heap.size+1) (w.alloc (.cells S.cells 43)) wj):=fun h k=>next h k
 have HKB:Hid (∀ {wi:World},Below (w.heap.size+1) (w.alloc (.cells S.cells 43)) wi→wi.heap[w.heap.size]?=some (.cells S.cells 43 (0,0))):=fun h=>gF h
 have HUB:Hid (∀ {wi:World},Below (w.heap.size+1) (w.alloc (.cells S.cells 43)) wi→Below w.heap.size w wi):=fun h=>under h
 have hb0:=HUB.out hB
 have kS:=HKB.out hB
 have c0:W.cell? ⟨w.heap.size,0,none⟩=some (.int .i64 S.C.p):=fF kS 0
 have c1:W.cell? ⟨w.heap.size,1,none⟩=some (.int .i64 S.C.c):=fF kS 1
 have c2:W.cell? ⟨w.heap.size,2,none⟩=some (.int .i64 S.C.xo):=fF kS 2
 have c3:W.cell? ⟨w.heap.size,3,none⟩=some (.int .i64 S.C.xn):=fF kS 3
 have c4:W.cell? ⟨w.heap.size,4,none⟩=some (.int .i64 S.C.hd):=fF kS 4
 have c5:W.cell? ⟨w.heap.size,5,none⟩=some (.int .i64 S.C.lo):=fF kS 5
 have c6:W.cell? ⟨w.heap.size,6,none⟩=some (.int .i64 S.C.dl):=fF kS 6
 have c10:W.cell? ⟨w.heap.size,10,none⟩=some (.slice S.N.aU S.N.nU S.N.cU):=fF kS 10
 have c11:W.cell? ⟨w.heap.size,11,none⟩=some (.int .i64 S.N.lo):=fF kS 11
 have c12:W.cell? ⟨w.heap.size,12,none⟩=some (.slice S.N.aP S.N.nP S.N.cP):=fF kS 12
 clear hok hr hs kS
 obtain ⟨b0,h0⟩:=iw (Cnt.Ok S.C S.N)
 have G0:Hid (b0=true↔Cnt.Ok S.C S.N):=h0
 clear h0
 obtain ⟨b1,h1⟩:=iw (S.Bu)
 have G1:Hid (b1=true↔S.Bu):=h1
 clear h1
 obtain ⟨b2,h2⟩:=iw (S.seen)
 have G2:Hid (b2=true↔S.seen):=h2
 clear h2
 obtain ⟨b3,h3⟩:=iw (jE S.nx S.C.p S.nK S.K)
 have G3:Hid (b3=true↔jE S.nx S.C.p S.nK S.K):=h3
 clear h3
 obtain ⟨b4,h4⟩:=iw (S.te)
 have G4:Hid (b4=true↔S.te):=h4
 clear h4
 obtain ⟨b5,h5⟩:=iw (S.wS)
 have G5:Hid (b5=true↔S.wS):=h5
 clear h5
 obtain ⟨b6,h6⟩:=iw (S.xz)
 have G6:Hid (b6=true↔S.xz):=h6
 clear h6
 have HB0:Hid (Below (w.heap.size+1) (w.alloc (.cells S.cells 43)) W):=hB
 clear hB
 go_enter Tryz.func24,Tryz.ntmps24
 go_wp2_with fail
 clear c0 c1 c2 c3 c4 c5 c6 c10 c11 c12 eW
 refine (jS S.C S.N _ HS.out.n.fit (HR.out.n.up hb0) b0 G0.out).mono ?_
 rintro e w1 ⟨rfl,hb⟩
 have HB1:Hid (Below (w.heap.size+1) (w.alloc (.cells S.cells 43)) w1):=HNB.out HB0.out hb
 clear hb hb0 HB0
 cases b0
 ·
  have HF:Hid (ok=false):=by
   rw [Hid,Bool.eq_false_iff]
   intro e
   exact absurd (G0.out.2 (HO.out.1 e).n) (by simp)
  have B9:=HUB.out HB1.out
  exact bo
 have P0:Hid (Cnt.Ok S.C S.N):=G0.out.1 rfl
 have hk0:=HKB.out HB1.out
 have HK0:Hid (w1.heap[w.heap.size]?=some (.cells S.cells 43 (0,0))):=hk0
 clear hk0 G0
 go_wp2_with (refine je (.tmp 1) rfl (by kernel_rfl) w.heap.size rfl S HK0.out ?_)
 clear HK0
 refine (tr S _ b1 G1.out).mono ?_
 rintro e w2 ⟨rfl,hb⟩
 have HB2:Hid (Below (w.heap.size+1) (w.alloc (.cells S.cells 43)) w2):=HNB.out HB1.out hb
 clear hb HB1
 cases b1
 ·
  have HF:Hid (ok=false):=by
   rw [Hid,Bool.eq_false_iff]
   intro e
   exact absurd (G1.out.2 (HO.out.1 e).oy) (by simp)
  have B9:=HUB.out HB2.out
  exact bo
 have P1:Hid (S.Bu):=G1.out.1 rfl
 have hk1:=HKB.out HB2.out
 have HK1:Hid (w2.heap[w.heap.size]?=some (.cells S.cells 43 (0,0))):=hk1
 clear hk1 G1
 go_wp2_with (refine je (.tmp 1) rfl (by kernel_rfl) w.heap.size rfl S HK1.out ?_)
 clear HK1
 refine (ze S _ HS.out.e (HR.out.e.up (HUB.out HB2.out)) (by have:=P0.out.cfg;omega) (by have:=P0.out.cfg;omega) b2 G2.out).mono ?_
 rintro e w3 ⟨rfl,hb⟩
 have HB3:Hid (Below (w.heap.size+1) (w.alloc (.cells S.cells 43)) w3):=HNB.out HB2.out hb
 clear hb HB2
 cases b2
 ·
  have HF:Hid (ok=false):=by
   rw [Hid,Bool.eq_false_iff]
   intro e
   exact absurd (G2.out.2 (HO.out.1 e).seen) (by simp)
  have B9:=HUB.out HB3.out
  exact bo
 have P2:Hid (S.seen):=G2.out.1 rfl
 have hk2:=HKB.out HB3.out
 have HK2:Hid (w3.heap[w.heap.size]?=some (.cells S.cells 43 (0,0))):=hk2
 clear hk2 G2
 go_wp2_with (refine je (.tmp 1) rfl (by kernel_rfl) w.heap.size rfl S HK2.out ?_)
 clear HK2
 refine (tp S _ HS.out (HR.out.k.up (HUB.out HB3.out)) (by have:=P0.out.cfg;omega) (by have:=P0.out.cfg;omega) P1.out.nx.1 P1.out.nx.2 b3 G3.out).mono ?_
 rintro e w4 ⟨rfl,hb⟩
 have HB4:Hid (Below (w.heap.size+1) (w.alloc (.cells S.cells 43)) w4):=HNB.out HB3.out hb
 clear hb HB3
 cases b3
 ·
  have HF:Hid (ok=false):=by
   rw [Hid,Bool.eq_false_iff]
   intro e
   exact absurd (G3.out.2 (HO.out.1 e).k) (by simp)
  have B9:=HUB.out HB4.out
  exact bo
 have P3:Hid (jE S.nx S.C.p S.nK S.K):=G3.out.1 rfl
 have hk3:=HKB.out HB4.out
 have HK3:Hid (w4.heap[w.heap.size]?=some (.cells S.cells 43 (0,0))):=hk3
 clear hk3 G3
 go_wp2_with (refine je (.tmp 1) rfl (by kernel_rfl) w.heap.size rfl S HK3.out ?_)
 clear HK3
 refine (xv S _ HS.out (HR.out.up (HUB.out HB4.out)) P3.out b4 G4.out).mono ?_
 rintro e w5 ⟨rfl,hb⟩
 have HB5:Hid (Below (w.heap.size+1) (w.alloc (.cells S.cells 43)) w5):=HNB.out HB4.out hb
 clear hb HB4
 cases b4
 ·
  have HF:Hid (ok=false):=by
   rw [Hid,Bool.eq_false_iff]
   intro e
   exact absurd (G4.out.2 ⟨(HO.out.1 e).nl,(HO.out.1 e).l⟩) (by simp)
  have B9:=HUB.out HB5.out
  exact bo
 have P4:Hid (S.te):=G4.out.1 rfl
 have hk4:=HKB.out HB5.out
 have HK4:Hid (w5.heap[w.heap.size]?=some (.cells S.cells 43 (0,0))):=hk4
 clear hk4 G4
 go_wp2_with (refine je (.tmp 1) rfl (by kernel_rfl) w.heap.size rfl S HK4.out ?_)
 clear HK4
 refine (zf S _ HS.out (HR.out.up (HUB.out HB5.out)) P3.out P4.out.2 (by have:=P0.out.cfg;have:=P4.out.1;omega) P1.out.nx.2 b5 G5.out).mono ?_
 rintro e w6 ⟨rfl,hb⟩
 have HB6:Hid (Below (w.heap.size+1) (w.alloc (.cells S.cells 43)) w6):=HNB.out HB5.out hb
 clear hb HB5
 cases b5
 ·
  have HF:Hid (ok=false):=by
   rw [Hid,Bool.eq_false_iff]
   intro e
   exact absurd (G5.out.2 (HO.out.1 e).refs) (by simp)
  have B9:=HUB.out HB6.out
  exact bo
 have P5:Hid (S.wS):=G5.out.1 rfl
 have hk5:=HKB.out HB6.out
 have HK5:Hid (w6.heap[w.heap.size]?=some (.cells S.cells 43 (0,0))):=hk5
 clear hk5 G5
 go_wp2_with (refine je (.tmp 1) rfl (by kernel_rfl) w.heap.size rfl S HK5.out ?_)
 clear HK5
 refine (zg S _ HS.out (HR.out.up (HUB.out HB6.out)) P3.out P0.out.cfg.2 (by have:=P0.out.cfg;omega) (by have:=P0.out.cfg;omega) b6 G6.out).mono ?_
 rintro e w7 ⟨rfl,hb⟩
 have HB7:Hid (Below (w.heap.size+1) (w.alloc (.cells S.cells 43)) w7):=HNB.out HB6.out hb
 clear hb HB6
 have HE:Hid (b6=ok):=by
  rw [Hid,Bool.eq_iff_iff,HO.out,G6.out]
  exact ⟨fun h=>⟨P0.out,P1.out,P2.out,P3.out,P4.out.1,P4.out.2,P5.out,h⟩,fun h=>h.held⟩
 have B9:=HUB.out HB7.out
 rw [HE.out]
 go_wp2_with fail
 go_ret
 exact ⟨rfl,B9⟩
theorem nI (a:Option Addr) (n cap:Nat) (f:Nat→Ent) (w:World) (hn:n≤maxLen) (h:iu w a n f) (ok:Bool) (hok:ok=true↔jr n f) :
  Calls Tryz.prog 47 #[.slice a n cap] w fun e w'=>e=.returned (.bool ok)∧Below w.heap.size w w':=by
 have HO:Hid (ok=true↔jr n f):=hok
 have HR:Hid (iu w a n f):=h
 clear hok h
 have hm:(n:Int)≤9223372036854775807:=by unfold maxLen at hn;omega
 go_enter Tryz.func47,Tryz.ntmps47
 go_wp2_with fail
 go_loopw [3] (fun i wr=>∃ k:Nat,k≤n∧i=.int .i64 k∧iE k f∧kJ w wr) (fun i _=>n-(intOf i).toNat)
 case atStart=>exact ⟨0,Nat.zero_le _,rfl,fun i hi=>by omega,kJ.refl _⟩
 obtain ⟨k,hk,rfl,hall,hS⟩:=hrel
 have HA:Hid (iE k f):=hall
 clear hall
 have hB:Below w.heap.size w wr:=hS.below _
 by_cases hlt:k<n
 ·
  have hlt':(k:Int)<n:=by omega
  obtain ⟨g,o,rfl,c1,c2,c3⟩:=(HR.out.up hB) k hlt
  have HN:Hid (¬ (jK (f k)∧(0<k→(f (k-1)).m<(f k).m))→ok=false):=fun hh=>by
   rw [Bool.eq_false_iff]
   intro e
   exact hh ((HO.out.1 e).2 k hlt)
  generalize hx:f k=x at *
  obtain ⟨m,p,t⟩:=x
  dsimp only at c1 c2 c3
  by_cases hm0:1≤m∧m≤20
  ·
   have HM:Hid (1≤m∧m≤20):=hm0
   have hm:decide (1≤m∧m≤20)=true:=decide_eq_true hm0
   clear hm0
   by_cases hp0:0≤p∧p≤3
   ·
    have HP:Hid (0≤p∧p≤3):=hp0
    have hp:decide (0≤p∧p≤3)=true:=decide_eq_true hp0
    clear hp0
    by_cases ht0:0≤t∧t≤1000000000
    ·
     have HT:Hid (0≤t∧t≤1000000000):=ht0
     have ht:decide (0≤t∧t≤1000000000)=true:=decide_eq_true ht0
     clear ht0
     have HE:Hid (jK ⟨m,p,t⟩):=⟨HM.out,HP.out,HT.out⟩
     by_cases h0:k=0
     ·
      subst h0
      have HS:Hid (iE (0+1) f):=HA.out.step (by rw [hx];exact HE.out) (fun h=>by omega)
      simp only [Nat.zero_mul,Nat.add_zero] at c1 c2 c3
      have hlt0:(0:Int)<n:=by omega
      clear hlt'
      go_wp2_with fail
      refine wp_region_held_drew (S:=fun w'=>w'.cell? ⟨g,o,none⟩=some (.int .i64 m)∧w'.cell? ⟨g,o+1,none⟩=some (.int .i64 p)∧w'.cell? ⟨g,o+2,none⟩=some (.int .i64 t)) (by kernel_rfl) ⟨c1,c2,c3⟩ (fun hHeld=>?_)
      refine t0 ?_
      iterate 4 refine tN ?_
      refine rq1 5 (fun K hK=>?_)
      go_simp
      refine (j5 _ _).mono ?_
      rintro e w1 ⟨rfl,rfl⟩
      rw [hm]
      go_wp2_with fail
      refine hK.out _ _ ⟨c1,c2,c3⟩ (fun hHeld=>?_)
      clear hK K
      try simp only [Act.put,PZ]
      iterate 7 refine tN ?_
      refine rq1 13 (fun K hK=>?_)
      go_simp
      refine (fT _ _ _ _).mono ?_
      rintro e w1 ⟨rfl,rfl⟩
      rw [hp]
      go_wp2_with fail
      refine hK.out _ _ ⟨c1,c2,c3⟩ (fun hHeld=>?_)
      clear hK K
      try simp only [Act.put,PZ]
      iterate 8 refine tN ?_
      refine rq1 22 (fun K hK=>?_)
      go_simp
      refine (fT _ _ _ _).mono ?_
      rintro e w1 ⟨rfl,rfl⟩
      rw [ht]
      go_wp2_with fail
      refine hK.out _ _ ⟨c1,c2,c3⟩ (fun hHeld=>?_)
      clear hK K
      try simp only [Act.put,PZ]
      iterate 6 refine tN ?_
      iterate 12 refine sN ?_
      iterate 2 refine tN ?_
      refine dnq ?_
      go_wp2_with fail
      go_roundw
      case rel=>exact ⟨1,by omega,by go_num,HS.out,hS.drewN 1⟩
      case measure=>simp [intOf];omega
     obtain ⟨j,rfl⟩:∃ j,k=j+1:=⟨k-1,by omega⟩
     have hj':(j:Int)<n:=by omega
     have hjj:(0:Int)<(j:Int)+1:=by omega
     have hj0:(0:Int)≤(j:Int)+1:=by omega
     have hj1:(j:Int)+1<n:=by omega
     have hwj:IntKind.i64.wrap (j:Int)=(j:Int):=j0 _ (by omega) (by omega)
     obtain ⟨g',o',eg,cP,_,_⟩:=(HR.out.up hB) j (by omega)
     cases eg
     by_cases hq:(f j).m<m
     ·
      have HS:Hid (iE (j+1+1) f):=HA.out.step (by rw [hx];exact HE.out) (fun h=>by rw [hx];exact hq)
      generalize (f j).m=q at *
      have hq':¬ m≤q:=by omega
      go_wp2_with fail
      refine wp_region_held_drew (S:=fun w'=>w'.cell? ⟨g,o+(j+1)*3,none⟩=some (.int .i64 m)∧w'.cell? ⟨g,o+(j+1)*3+1,none⟩=some (.int .i64 p)∧w'.cell? ⟨g,o+(j+1)*3+2,none⟩=some (.int .i64 t)∧w'.cell? ⟨g,o+j*3,none⟩=some (.int .i64 q)) (by kernel_rfl) ⟨c1,c2,c3,cP⟩ (fun hHeld=>?_)
      refine t0 ?_
      iterate 4 refine tN ?_
      refine rq1 5 (fun K hK=>?_)
      go_simp
      refine (j5 _ _).mono ?_
      rintro e w1 ⟨rfl,rfl⟩
      rw [hm]
      go_wp2_with fail
      refine hK.out _ _ ⟨c1,c2,c3,cP⟩ (fun hHeld=>?_)
      clear hK K
      try simp only [Act.put,PZ]
      iterate 7 refine tN ?_
      refine rq1 13 (fun K hK=>?_)
      go_simp
      refine (fT _ _ _ _).mono ?_
      rintro e w1 ⟨rfl,rfl⟩
      rw [hp]
      go_wp2_with fail
      refine hK.out _ _ ⟨c1,c2,c3,cP⟩ (fun hHeld=>?_)
      clear hK K
      try simp only [Act.put,PZ]
      iterate 8 refine tN ?_
      refine rq1 22 (fun K hK=>?_)
      go_simp
      refine (fT _ _ _ _).mono ?_
      rintro e w1 ⟨rfl,rfl⟩
      rw [ht]
      go_wp2_with fail
      refine hK.out _ _ ⟨c1,c2,c3,cP⟩ (fun hHeld=>?_)
      clear hK K
      try simp only [Act.put,PZ]
      iterate 20 refine tN ?_
      refine dnq ?_
      go_wp2_with fail
      go_roundw
      case rel=>exact ⟨j+1+1,by omega,by go_num,HS.out,hS.drewN 1⟩
      case measure=>simp [intOf];omega
     have HF:Hid (ok=false):=HN.out (fun h=>hq (h.2 (by omega)))
     generalize (f j).m=q at *
     have hq':m≤q:=by omega
     go_wp2_with fail
     refine wp_region_held_drew (S:=fun w'=>w'.cell? ⟨g,o+(j+1)*3,none⟩=some (.int .i64 m)∧w'.cell? ⟨g,o+(j+1)*3+1,none⟩=some (.int .i64 p)∧w'.cell? ⟨g,o+(j+1)*3+2,none⟩=some (.int .i64 t)∧w'.cell? ⟨g,o+j*3,none⟩=some (.int .i64 q)) (by kernel_rfl) ⟨c1,c2,c3,cP⟩ (fun hHeld=>?_)
     refine t0 ?_
     iterate 4 refine tN ?_
     refine rq1 5 (fun K hK=>?_)
     go_simp
     refine (j5 _ _).mono ?_
     rintro e w1 ⟨rfl,rfl⟩
     rw [hm]
     go_wp2_with fail
     refine hK.out _ _ ⟨c1,c2,c3,cP⟩ (fun hHeld=>?_)
     clear hK K
     try simp only [Act.put,PZ]
     iterate 7 refine tN ?_
     refine rq1 13 (fun K hK=>?_)
     go_simp
     refine (fT _ _ _ _).mono ?_
     rintro e w1 ⟨rfl,rfl⟩
     rw [hp]
     go_wp2_with fail
     refine hK.out _ _ ⟨c1,c2,c3,cP⟩ (fun hHeld=>?_)
     clear hK K
     try simp only [Act.put,PZ]
     iterate 8 refine tN ?_
     refine rq1 22 (fun K hK=>?_)
     go_simp
     refine (fT _ _ _ _).mono ?_
     rintro e w1 ⟨rfl,rfl⟩
     rw [ht]
     go_wp2_with fail
     refine hK.out _ _ ⟨c1,c2,c3,cP⟩ (fun hHeld=>?_)
     clear hK K
     try simp only [Act.put,PZ]
     iterate 20 refine tN ?_
     exact bD
    have HF:Hid (ok=false):=HN.out (fun h=>ht0 h.1.2.2)
    have ht:decide (0≤t∧t≤1000000000)=false:=decide_eq_false ht0
    clear ht0
    go_wp2_with fail
    refine wp_region_held_drew (S:=fun w'=>w'.cell? ⟨g,o+k*3,none⟩=some (.int .i64 m)∧w'.cell? ⟨g,o+k*3+1,none⟩=some (.int .i64 p)∧w'.cell? ⟨g,o+k*3+2,none⟩=some (.int .i64 t)) (by kernel_rfl) ⟨c1,c2,c3⟩ (fun hHeld=>?_)
    refine t0 ?_
    iterate 4 refine tN ?_
    refine rq1 5 (fun K hK=>?_)
    go_simp
    refine (j5 _ _).mono ?_
    rintro e w1 ⟨rfl,rfl⟩
    rw [hm]
    go_wp2_with fail
    refine hK.out _ _ ⟨c1,c2,c3⟩ (fun hHeld=>?_)
    clear hK K
    try simp only [Act.put,PZ]
    iterate 7 refine tN ?_
    refine rq1 13 (fun K hK=>?_)
    go_simp
    refine (fT _ _ _ _).mono ?_
    rintro e w1 ⟨rfl,rfl⟩
    rw [hp]
    go_wp2_with fail
    refine hK.out _ _ ⟨c1,c2,c3⟩ (fun hHeld=>?_)
    clear hK K
    try simp only [Act.put,PZ]
    iterate 8 refine tN ?_
    refine rq1 22 (fun K hK=>?_)
    go_simp
    refine (fT _ _ _ _).mono ?_
    rintro e w1 ⟨rfl,rfl⟩
    rw [ht]
    go_wp2_with fail
    refine hK.out _ _ ⟨c1,c2,c3⟩ (fun hHeld=>?_)
    clear hK K
    try simp only [Act.put,PZ]
    iterate 3 refine tN ?_
    exact bB
   have HF:Hid (ok=false):=HN.out (fun h=>hp0 h.1.2.1)
   have hp:decide (0≤p∧p≤3)=false:=decide_eq_false hp0
   clear hp0
   go_wp2_with fail
   refine wp_region_held_drew (S:=fun w'=>w'.cell? ⟨g,o+k*3,none⟩=some (.int .i64 m)∧w'.cell? ⟨g,o+k*3+1,none⟩=some (.int .i64 p)∧w'.cell? ⟨g,o+k*3+2,none⟩=some (.int .i64 t)) (by kernel_rfl) ⟨c1,c2,c3⟩ (fun hHeld=>?_)
   refine t0 ?_
   iterate 4 refine tN ?_
   refine rq1 5 (fun K hK=>?_)
   go_simp
   refine (j5 _ _).mono ?_
   rintro e w1 ⟨rfl,rfl⟩
   rw [hm]
   go_wp2_with fail
   refine hK.out _ _ ⟨c1,c2,c3⟩ (fun hHeld=>?_)
   clear hK K
   try simp only [Act.put,PZ]
   iterate 7 refine tN ?_
   refine rq1 13 (fun K hK=>?_)
   go_simp
   refine (fT _ _ _ _).mono ?_
   rintro e w1 ⟨rfl,rfl⟩
   rw [hp]
   go_wp2_with fail
   refine hK.out _ _ ⟨c1,c2,c3⟩ (fun hHeld=>?_)
   clear hK K
   try simp only [Act.put,PZ]
   iterate 3 refine tN ?_
   iterate 7 refine sN ?_
   iterate 2 refine tN ?_
   exact bB
  have HF:Hid (ok=false):=HN.out (fun h=>hm0 h.1.1)
  have hm:decide (1≤m∧m≤20)=false:=decide_eq_false hm0
  clear hm0
  go_wp2_with fail
  refine wp_region_held_drew (S:=fun w'=>w'.cell? ⟨g,o+k*3,none⟩=some (.int .i64 m)∧w'.cell? ⟨g,o+k*3+1,none⟩=some (.int .i64 p)∧w'.cell? ⟨g,o+k*3+2,none⟩=some (.int .i64 t)) (by kernel_rfl) ⟨c1,c2,c3⟩ (fun hHeld=>?_)
  refine t0 ?_
  iterate 4 refine tN ?_
  refine rq1 5 (fun K hK=>?_)
  go_simp
  refine (j5 _ _).mono ?_
  rintro e w1 ⟨rfl,rfl⟩
  rw [hm]
  go_wp2_with fail
  refine hK.out _ _ ⟨c1,c2,c3⟩ (fun hHeld=>?_)
  clear hK K
  try simp only [Act.put,PZ]
  iterate 2 refine tN ?_
  iterate 7 refine sN ?_
  iterate 2 refine tN ?_
  iterate 7 refine sN ?_
  iterate 2 refine tN ?_
  exact bB
 obtain rfl:k=n:=by omega
 by_cases h8:k≤8
 ·
  have h8':(k:Int)≤8:=by omega
  have HT:Hid (ok=true):=HO.out.2 ⟨h8,HA.out⟩
  go_wp2_with fail
  go_ret
  exact ⟨fO HT.out.symm,hB⟩
 have h8':¬ (k:Int)≤8:=by omega
 have HF:Hid (ok=false):=by
  show ok=false
  rw [Bool.eq_false_iff]
  intro e
  exact h8 (HO.out.1 e).1
 go_wp2_with fail
 go_ret
 exact ⟨fO HF.out.symm,hB⟩
theorem nY (S:Swg) (id:Int) (w:World) (hn:S.nK≤1048576) (hr:kK w S.aK S.nK S.K) (j:Nat) (hj:j<S.nK) (hid:(S.K j).id=id) (hno:∀ i,i<j→(S.K i).id≠id) :
  Calls Tryz.prog 94 #[.agg S.cells,.int .i64 id] w fun e w'=>e=.returned (.int .i64 (j:Int))∧Below w.heap.size w w':=by
 have HR:Hid (kK w S.aK S.nK S.K):=hr
 have HN:Hid (∀ i,i<j→(S.K i).id≠id):=hno
 have HI:Hid ((S.K j).id=id):=hid
 have hB:Below (w.heap.size+1) (w.alloc (.cells S.cells 43)) (w.alloc (.cells S.cells 43)):=Below.refl _ _
 clear hr hno hid
 go_enter Tryz.func94,Tryz.ntmps94
 go_wp2_with fail
 go_loop [5] (fun x=>∃ k:Nat,k≤j∧x=.int .i64 k) (fun x=>j+1-(intOf x).toNat)
 case atStart=>exact ⟨0,Nat.zero_le _,rfl⟩
 obtain ⟨k,hk,rfl⟩:=hrel
 have hlt:(k:Int)<S.nK:=by omega
 obtain ⟨g,o,ea,hc⟩:=(HR.out.up (under hB)) k (by omega)
 have c13:(w.alloc (.cells S.cells 43)).cell? ⟨w.heap.size,13,none⟩=some (.slice (some ⟨g,o,none⟩) S.nK S.cK):=(boxed hB 13).trans (by rw [←ea];rfl)
 have c0:(w.alloc (.cells S.cells 43)).cell? ⟨g,o+k*8,none⟩=some (.int .i64 (S.K k).id):=hc 0 (by omega)
 clear hc ea
 by_cases e:k=j
 ·
  subst e
  have he:((S.K k).id == id)=true:=by simp [HI.out]
  have he2:(S.K k).id=id:=HI.out
  exact bg
 exact bC
theorem pe (S:Swg) (id:Int) (w:World) (hn:S.nK≤1048576) (hr:kK w S.aK S.nK S.K) (hno:∀ i,i<S.nK→(S.K i).id≠id) :
  Calls Tryz.prog 94 #[.agg S.cells,.int .i64 id] w fun e w'=>e=.returned (.int .i64 (-1))∧Below w.heap.size w w':=by
 have HR:Hid (kK w S.aK S.nK S.K):=hr
 have HN:Hid (∀ i,i<S.nK→(S.K i).id≠id):=hno
 have hB:Below (w.heap.size+1) (w.alloc (.cells S.cells 43)) (w.alloc (.cells S.cells 43)):=Below.refl _ _
 clear hr hno
 go_enter Tryz.func94,Tryz.ntmps94
 go_wp2_with fail
 go_loop [5] (fun x=>∃ k:Nat,k≤S.nK∧x=.int .i64 k) (fun x=>S.nK-(intOf x).toNat)
 case atStart=>exact ⟨0,Nat.zero_le _,rfl⟩
 obtain ⟨k,hk,rfl⟩:=hrel
 by_cases hlt:k<S.nK
 ·
  have hlt':(k:Int)<S.nK:=by omega
  obtain ⟨g,o,ea,hc⟩:=(HR.out.up (under hB)) k (by omega)
  have c13:(w.alloc (.cells S.cells 43)).cell? ⟨w.heap.size,13,none⟩=some (.slice (some ⟨g,o,none⟩) S.nK S.cK):=(boxed hB 13).trans (by rw [←ea];rfl)
  have c0:(w.alloc (.cells S.cells 43)).cell? ⟨g,o+k*8,none⟩=some (.int .i64 (S.K k).id):=hc 0 (by omega)
  clear hc ea
  exact bC
 obtain rfl:k=S.nK:=by omega
 have hge:¬ ((S.nK:Nat):Int)<((S.nK:Nat):Int):=by omega
 have c13:(w.alloc (.cells S.cells 43)).cell? ⟨w.heap.size,13,none⟩=some (.slice S.aK S.nK S.cK):=boxed hB 13
 exact bg
theorem tg (a:Option Addr) (n c:Nat) (z:Nat→Int) (x:Int) (w:World) (hn:n≤1048576) (hr:fW w a n fun i=>.int .i64 (z i)) (ok:Bool) (hok:ok=true↔∃ i,i<n∧z i=x) :
  Calls Tryz.prog 49 #[.slice a n c,.int .i64 x] w fun e w'=>e=.returned (.bool ok)∧w'=w:=by
 have HR:Hid (fW w a n fun i=>.int .i64 (z i)):=hr
 have HO:Hid (ok=true↔∃ i,i<n∧z i=x):=hok
 clear hr hok
 go_enter Tryz.func49,Tryz.ntmps49
 go_wp2_with fail
 go_loop [5] (fun y=>∃ k:Nat,k≤n∧y=.int .i64 k∧∀ i,i<k→z i≠x) (fun y=>n-(intOf y).toNat)
 case atStart=>exact ⟨0,Nat.zero_le _,rfl,fun i hi=>by omega⟩
 obtain ⟨k,hk,rfl,hall⟩:=hrel
 have HA:Hid (∀ i,i<k→z i≠x):=hall
 clear hall
 by_cases hlt:k<n
 ·
  have hlt':(k:Int)<n:=by omega
  obtain ⟨g,o,rfl,c0⟩:=HR.out k hlt
  dsimp only at c0
  by_cases e:z k=x
  ·
   have he:(z k == x)=true:=by simp [e]
   have HT:Hid (ok=true):=HO.out.2 ⟨k,hlt,e⟩
   have He:Hid (z k=x):=e
   clear e
   go_wp2_with fail
   go_ret
   exact ⟨fO HT.out.symm,rfl⟩
  have he:(z k == x)=false:=by simp [e]
  have He:Hid (¬ z k=x):=e
  clear e
  go_wp2_with fail
  go_round
  case rel=>exact ⟨k+1,by omega,by go_num,fun i hi=>by
   by_cases e:i=k
   ·
    subst e;exact He.out
   ·
    exact HA.out i (by omega)⟩
  case measure=>simp [intOf];omega
 obtain rfl:k=n:=by omega
 have hge:¬ ((k:Nat):Int)<((k:Nat):Int):=by omega
 have HF:Hid (ok=false):=by
  rw [Hid,Bool.eq_false_iff]
  intro e
  obtain ⟨i,hi,e2⟩:=HO.out.1 e
  exact HA.out i hi e2
 go_wp2_with fail
 go_ret
 exact ⟨fO HF.out.symm,rfl⟩
end Go.Proofs.YtjaobmbcmjgjgaaGreatDoor
