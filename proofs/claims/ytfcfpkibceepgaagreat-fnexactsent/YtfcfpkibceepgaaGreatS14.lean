import Derived.Test.YtfcfpkibceepgaaGreatS13
namespace Go.Proofs.YtfcfpkibceepgaaGreat
set_option maxRecDepth 100000
set_option maxHeartbeats 8000000
open Go.RowKit
set_option linter.unusedVariables false
set_option linter.unusedSimpArgs false
theorem bA {p:Prop} (h:p:=by
 intro wx hSw
 have d1:wx.cell? ⟨wr.heap.size,1,none⟩=some (.int .i64 (S.K k).inn):=fG hSw 1
 have d3:wx.cell? ⟨wr.heap.size,3,none⟩=some (.int .i64 (S.K k).k):=fG hSw 3
 have d4:wx.cell? ⟨wr.heap.size,4,none⟩=some (.int .i64 (S.K k).d):=fG hSw 4
 have d5:wx.cell? ⟨wr.heap.size,5,none⟩=some (.int .i64 (S.K k).s):=fG hSw 5
 have d6:wx.cell? ⟨wr.heap.size,6,none⟩=some (.int .i64 (S.K k).p):=fG hSw 6
 have d7:wx.cell? ⟨wr.heap.size,7,none⟩=some (.string (S.K k).b):=fG hSw 7
 go_simp
 try with_reducible rfl):p:=h
theorem bB {p:Prop} (h:p:=by
 go_wp2_with fail
 refine hK.out _ _ q3 (fun hHeld=>?_)
 clear hK K
 try simp only [Act.put,PZ]
 refine dnq ?_
 clear q2 q3 hHeld
 go_wp2_with fail
 go_roundw
 case rel=>exact ⟨k+1,by omega,by go_num,HH3.out⟩
 case measure=>simp [intOf];omega):p:=h
theorem bC {p:Prop} (h:p:=by
 have hne:=HN.out k (by omega)
 have he:((S.K k).id == id)=false:=by simp [hne]
 have HNe:Hid ((S.K k).id≠id):=hne
 clear hne
 go_wp2_with fail
 go_round
 case rel=>exact ⟨k+1,by omega,by go_num⟩
 case measure=>simp [intOf];omega):p:=h
theorem nilP (x : Int) (w : World) : (nilAhead 325 173 (.agg #[.int .i64 x]) "loop.example/g00355/impl.change").run Tryz.prog w = .ok (some false) w := by kernel_rfl
theorem nilL (w : World) : (nilAhead 325 171 (.agg #[]) "loop.example/g00355/impl.change").run Tryz.prog w = .ok (some false) w := by kernel_rfl
theorem pW (port prio:Int) (w:World) (h:prio=2):Calls Tryz.prog 110 #[.int .i64 port,.int .i64 prio] w fun e w'=>e=.returned (.iface 173 (.agg #[.int .i64 port]))∧w'=w:=by
 subst h
 exact nj port w
theorem vc (g gU nU cU i:Nat) (inn:Int) (hin:inn=(i:Int)) (v1 v2:Value) (u:Nat→Int) (y:Int) (w:World) (hi:i<nU) (hm:nU≤1048576) (k:w.heap[g]?=some (.cells #[.slice (some ⟨gU,0,none⟩) nU cU,v1,v2] 36 (0,0))) (hr:fV gU 2 nU (fun i=>.int .i64 (u i)) nU w) (h1:-10000≤u i+y) (h2:u i+y≤10000) :
  Calls Tryz.prog 184 #[.agg #[.int .i64 inn],.pointer (some ⟨g,0,none⟩),.int .i64 y] w fun e w'=>e=.returned (.tuple #[])∧fV gU 2 nU (fun k=>.int .i64 (nv u i y k)) nU w'∧Touch [gU] w w':=by
 subst hin
 exact mC g gU nU cU i v1 v2 u y w hi hm k hr h1 h2
structure qK (S:Swg) (w:World) (k:Nat) (wr:World):Prop where
 c:wr.heap[w.heap.size+2]?=some (.cells #[.slice (some ⟨w.heap.size+1,0,none⟩) S.N.nU S.N.nU,.int .i64 (g3 S.K k),.slice none 0 0] 36 (0,0))
 r:fV (w.heap.size+1) 2 S.N.nU (fun i=>.int .i64 (jn S.K i k)) S.N.nU wr
 b:Below (w.heap.size+1) (w.alloc (.cells S.cells 40)) wr
theorem qK.up {S:Swg} {w:World} {k:Nat} {wr W:World} (h:qK S w k wr) (hb:Below wr.heap.size wr W):qK S w k W :=
 ⟨(hb.block _ (fH h.c)).trans h.c,h.r.ir (hb.block _ h.r.lt),next h.b hb⟩
theorem qK.drew {S:Swg} {w:World} {k:Nat} {wr:World} (h:qK S w k wr):qK S w k wr.drew:=h.up ((Below.refl _ _).drew)
theorem qK.port {S:Swg} {w:World} {k ii:Nat} {wr W:World} (h:qK S w k wr) (hp:(S.K k).p=2) (hi:(S.K k).inn=(ii:Int)) (hr:fV (w.heap.size+1) 2 S.N.nU (fun i=>.int .i64 (nv (fun i=>jn S.K i k) ii (S.K k).cl i)) S.N.nU W) (ht:Touch [w.heap.size+1] wr W):qK S w (k+1) W:=by
 refine ⟨?_,hr.yk (fun i _=>?_),h.b.trans (ht.below (by have:=upper h.b;omega) (fun x hx=>by simp at hx;omega))⟩
 ·
  refine ((ht.block _ (fH h.c) (by simp)).trans h.c).trans ?_
  have e:g3 S.K (k+1)=g3 S.K k:=by show g3 S.K k+(if (S.K k).p=2 then 0 else _)=_;rw [if_pos hp];omega
  rw [e]
 have e:jn S.K i (k+1)=nv (fun i=>jn S.K i k) ii (S.K k).cl i:=by
  show jn S.K i k+(if (S.K k).p=2∧(S.K k).inn=(i:Int) then _ else 0)=_
  unfold nv
  by_cases e:i=ii
  ·
   subst e;rw [if_pos ⟨hp,hi⟩,if_pos rfl]
  rw [if_neg (fun h=>e (by have:=h.2;omega)),if_neg e];dsimp only;omega
 rw [e]
theorem qK.A3 {S:Swg} {w:World} {k:Nat} {wr W:World} (h:qK S w k wr) (hp:(S.K k).p≠2) (hk:W.heap[w.heap.size+2]?=some (.cells #[.slice (some ⟨w.heap.size+1,0,none⟩) S.N.nU S.N.nU,.int .i64 (g3 S.K k+(S.K k).cl),.slice none 0 0] 36 (0,0))) (ht:Touch [w.heap.size+2] wr W):qK S w (k+1) W:=by
 refine ⟨?_,(h.r.ir (ht.block _ h.r.lt (by simp))).yk (fun i _=>?_),h.b.trans (ht.below (by have:=upper h.b;omega) (fun x hx=>by simp at hx;omega))⟩
 ·
  have e:g3 S.K (k+1)=g3 S.K k+(S.K k).cl:=by show g3 S.K k+(if (S.K k).p=2 then 0 else _)=_;rw [if_neg hp]
  rw [e];exact hk
 have e:jn S.K i (k+1)=jn S.K i k:=by
  show jn S.K i k+(if (S.K k).p=2∧(S.K k).inn=(i:Int) then _ else 0)=_
  rw [if_neg (fun h=>hp h.1)];omega
 rw [e]
theorem zI (S:Swg) (w:World) (hs:S.Small) (hr:j4 w S) (hP:iT S.nx S.C.p S.nK S.K) (hn:(S.N.nU:Int)=S.C.p) (h4:S.N.nU≤4) (h0:0<S.N.nU) (ok:Bool) (hok:ok=true↔S.xT) :
  Calls Tryz.prog 71 #[.agg S.cells] w fun e w'=>e=.returned (.bool ok)∧Below w.heap.size w w':=by
 have HO:Hid (ok=true↔S.xT):=hok
 have HR:Hid (j4 w S):=hr
 have HP:Hid (iT S.nx S.C.p S.nK S.K):=hP
 have hnK:S.nK≤1000:=hP.le
 have HNp:Hid ((S.N.nU:Int)=S.C.p):=hn
 clear hn
 have hB:Below (w.heap.size+1) (w.alloc (.cells S.cells 40)) (w.alloc (.cells S.cells 40)):=Below.refl _ _
 have c10:World.cell? (w.alloc (.cells S.cells 40)) ⟨w.heap.size,10,none⟩=some (.slice S.N.aU S.N.nU S.N.cU):=boxed hB 10
 have mk:∀ W,_:=nh S.N.nU (by omega)
 have kZ:(World.alloc (w.alloc (.cells S.cells 40)) (.cells (jL S.N.nU) 2)).heap[w.heap.size+1]?=some (.cells (jL S.N.nU) 2 (0,0)):=by
  have:=fL (w.alloc (.cells S.cells 40)) (.cells (jL S.N.nU) 2)
  simpa using this
 have HH0:Hid (qK S w 0 (World.alloc (World.alloc (w.alloc (.cells S.cells 40)) (.cells (jL S.N.nU) 2)) (.cells #[.slice (some ⟨w.heap.size+1,0,none⟩) S.N.nU S.N.nU,.int .i64 0,.slice none 0 0] 36))):=by
  have hbZ:Below (w.heap.size+1) (w.alloc (.cells S.cells 40)) (World.alloc (w.alloc (.cells S.cells 40)) (.cells (jL S.N.nU) 2)):=hB.alloc (by simp) _
  have hbW:=(Below.refl (World.alloc (w.alloc (.cells S.cells 40)) (.cells (jL S.N.nU) 2)).heap.size (World.alloc (w.alloc (.cells S.cells 40)) (.cells (jL S.N.nU) 2))).alloc (Nat.le_refl _) (.cells #[.slice (some ⟨w.heap.size+1,0,none⟩) S.N.nU S.N.nU,.int .i64 0,.slice none 0 0] 36)
  refine ⟨?_,?_,next hbZ hbW⟩
  ·
   have:=fL (World.alloc (w.alloc (.cells S.cells 40)) (.cells (jL S.N.nU) 2)) (.cells #[.slice (some ⟨w.heap.size+1,0,none⟩) S.N.nU S.N.nU,.int .i64 0,.slice none 0 0] 36)
   rw [show (World.alloc (w.alloc (.cells S.cells 40)) (.cells (jL S.N.nU) 2)).heap.size=w.heap.size+2 by simp] at this
   exact this
  have hz:=m9 kZ
  exact (hz.ir (hbW.block _ hz.lt)).yk (fun i _=>rfl)
 have c13:World.cell? (World.alloc (World.alloc (w.alloc (.cells S.cells 40)) (.cells (jL S.N.nU) 2)) (.cells #[.slice (some ⟨w.heap.size+1,0,none⟩) S.N.nU S.N.nU,.int .i64 0,.slice none 0 0] 36)) ⟨w.heap.size,13,none⟩=some (.slice S.aK S.nK S.cK):=boxed HH0.out.b 13
 clear hok hr hP hs hB kZ
 go_enter Tryz.func71,Tryz.ntmps71
 go_wp2_with fail
 generalize World.alloc (World.alloc (w.alloc (.cells S.cells 40)) (.cells (jL S.N.nU) 2)) (.cells #[.slice (some ⟨w.heap.size+1,0,none⟩) S.N.nU S.N.nU,.int .i64 0,.slice none 0 0] 36)=W0 at *
 clear mk c10 c13
 go_loopw [15] (fun x wr=>∃ k:Nat,k≤S.nK∧x=.int .i64 k∧qK S w k wr) (fun x _=>S.nK-(intOf x).toNat)
 case atStart=>exact ⟨0,Nat.zero_le _,rfl,HH0.out⟩
 clear HH0
 obtain ⟨k,hk,rfl,hH⟩:=hrel
 have HH:Hid (qK S w k wr):=hH
 clear hH
 by_cases hlt:k<S.nK
 ·
  have hlt':(k:Int)<S.nK:=by omega
  have hB:=HH.out.b
  obtain ⟨g,o,ea,hc⟩:=(HR.out.up (under hB)).k k hlt
  obtain ⟨V,eV⟩:∃ V,wr.alloc (.cells (S.K k).cells 97)=V:=⟨_,rfl⟩
  have hbV:Below wr.heap.size wr V:=by rw [←eV];exact (Below.refl _ _).alloc (Nat.le_refl _) _
  have kV0:V.heap[wr.heap.size]?=some (.cells (S.K k).cells 97 (0,0)):=by rw [←eV];exact fL _ _
  have kV:V.drew.heap[wr.heap.size]?=some (.cells (S.K k).cells 97 (0,0)):=kV0
  have HV:Hid (qK S w k V):=HH.out.up hbV
  have HLw:Hid (w.heap.size+2<wr.heap.size):=fH HH.out.c
  have Hf:Hid (S.K k).pR:=(HP.out.one k hlt).2.2
  have hle:=Hf.out.le
  have hcl:=Hf.out.cl
  have HsU:Hid (∀ ii:Nat,0≤jn S.K ii k∧jn S.K ii k≤5*(k:Int)):=fun ii=>u4 HP.out k (by omega)
  have HsL:Hid (0≤g3 S.K k∧g3 S.K k≤5*(k:Int)):=wI HP.out k (by omega)
  obtain ⟨ii,hin⟩:∃ ii:Nat,(S.K k).inn=(ii:Int):=⟨(S.K k).inn.toNat,by have:=(HP.out.one k hlt).2.1;omega⟩
  have hii:ii<S.N.nU:=by have:=(HP.out.one k hlt).2.1;have:=HNp.out;omega
  have Hin:Hid ((S.K k).inn=(ii:Int)):=hin
  rw [ea]
  clear hbV kV0 ea hB HH hin
  go_wp2_with (first | refine iF rfl (.tmp 17) rfl g (o+k*8) rfl (S.K k) hc ?_ | refine gZ 97 8 mI rfl (.tmp 5) (.tmp 18) rfl (S.K k).cells _ rfl rfl rfl rfl rfl (Pkt.one _) (eV▸?_))
  clear hc
  by_cases hpr:(S.K k).p=2
  ·
   have Hpr:Hid ((S.K k).p=2):=hpr
   clear hpr
   refine wp_region_held_drew (S:=fun w'=>w'.heap[wr.heap.size]?=some (.cells (S.K k).cells 97 (0,0))) (by kernel_rfl) kV (fun hHeld=>?_)
   have Hcs:Hid (∀ wx:World,(fun w':World=>w'.heap[wr.heap.size]?=some (.cells (S.K k).cells 97 (0,0))) wx→wx.cell? ⟨wr.heap.size,1,none⟩=some (.int .i64 (S.K k).inn)∧wx.cell? ⟨wr.heap.size,3,none⟩=some (.int .i64 (S.K k).k)∧wx.cell? ⟨wr.heap.size,4,none⟩=some (.int .i64 (S.K k).d)∧wx.cell? ⟨wr.heap.size,5,none⟩=some (.int .i64 (S.K k).s)∧wx.cell? ⟨wr.heap.size,6,none⟩=some (.int .i64 (S.K k).p)∧wx.cell? ⟨wr.heap.size,7,none⟩=some (.string (S.K k).b)):=fun wx hSw=>by
    have d1:wx.cell? ⟨wr.heap.size,1,none⟩=some (.int .i64 (S.K k).inn):=fG hSw 1
    have d3:wx.cell? ⟨wr.heap.size,3,none⟩=some (.int .i64 (S.K k).k):=fG hSw 3
    have d4:wx.cell? ⟨wr.heap.size,4,none⟩=some (.int .i64 (S.K k).d):=fG hSw 4
    have d5:wx.cell? ⟨wr.heap.size,5,none⟩=some (.int .i64 (S.K k).s):=fG hSw 5
    have d6:wx.cell? ⟨wr.heap.size,6,none⟩=some (.int .i64 (S.K k).p):=fG hSw 6
    have d7:wx.cell? ⟨wr.heap.size,7,none⟩=some (.string (S.K k).b):=fG hSw 7
    exact ⟨d1,d3,d4,d5,d6,d7⟩
   refine tX0 ?_
   iterate 4 refine tX ?_
   refine tC 6 25 (v:=?_) ?_ ?_
   rotate_left
   · exact bA
   try simp only [Act.put,PZ]
   refine tC 7 26 (v:=?_) ?_ ?_
   rotate_left
   · exact bA
   try simp only [Act.put,PZ]
   refine rq1 5 (fun K hK=>?_)
   go_simp
   refine (pW _ _ _ Hpr.out).mono ?_
   rintro e wq ⟨rfl,hwq⟩
   subst hwq
   go_wp2_with fail
   refine hK.out _ _ kV (fun hHeld=>?_)
   clear hK K
   try simp only [Act.put,PZ]
   refine tC 9 28 (v:=?_) ?_ ?_
   rotate_left
   · exact bA
   try simp only [Act.put,PZ]
   refine tC 10 29 (v:=?_) ?_ ?_
   rotate_left
   ·
    intro wx hSw
    have hna:=nilP (S.K k).inn wx
    go_simp
    try with_reducible rfl
   try simp only [Act.put,PZ]
   refine tC 11 30 (v:=?_) ?_ ?_
   rotate_left
   · exact bA
   try simp only [Act.put,PZ]
   refine rq1 8 (fun K hK=>?_)
   go_simp
   refine (ko _ _ _ _ _ _ (by unfold maxLen;omega)).mono ?_
   rintro e w2 ⟨rfl,hb⟩
   rw [sf Hf.out]
   have hH2:=HV.out.drew.up hb
   have q2:w2.heap[wr.heap.size]?=some (.cells (S.K k).cells 97 (0,0)):=(hb.block _ (fH kV)).trans kV
   have HH2:Hid (qK S w k w2):=hH2
   clear hb hH2
   go_wp2_with fail
   refine hK.out _ _ q2 (fun hHeld=>?_)
   clear hK K
   try simp only [Act.put,PZ]
   refine rq1 12 (fun K hK=>?_)
   go_simp
   try go_invoke
   refine (vc (w.heap.size+2) (w.heap.size+1) S.N.nU S.N.nU ii _ Hin.out _ _ (fun i=>jn S.K i k) (S.K k).cl _ hii (by omega) HH2.out.c HH2.out.r (by have:=HsU.out ii;omega) (by have:=HsU.out ii;omega)).mono ?_
   rintro e w3 ⟨rfl,hr3,ht3⟩
   have HH3:Hid (qK S w (k+1) w3):=HH2.out.port Hpr.out Hin.out hr3 ht3
   have q3:w3.heap[wr.heap.size]?=some (.cells (S.K k).cells 97 (0,0)):=(ht3.block _ (fH q2) (by have:=HLw.out;simp;omega)).trans q2
   clear hr3 ht3
   exact bB
  have Hpr:Hid ((S.K k).p≠2):=hpr
  clear hpr
  refine wp_region_held_drew (S:=fun w'=>w'.heap[wr.heap.size]?=some (.cells (S.K k).cells 97 (0,0))) (by kernel_rfl) kV (fun hHeld=>?_)
  have Hcs:Hid (∀ wx:World,(fun w':World=>w'.heap[wr.heap.size]?=some (.cells (S.K k).cells 97 (0,0))) wx→wx.cell? ⟨wr.heap.size,1,none⟩=some (.int .i64 (S.K k).inn)∧wx.cell? ⟨wr.heap.size,3,none⟩=some (.int .i64 (S.K k).k)∧wx.cell? ⟨wr.heap.size,4,none⟩=some (.int .i64 (S.K k).d)∧wx.cell? ⟨wr.heap.size,5,none⟩=some (.int .i64 (S.K k).s)∧wx.cell? ⟨wr.heap.size,6,none⟩=some (.int .i64 (S.K k).p)∧wx.cell? ⟨wr.heap.size,7,none⟩=some (.string (S.K k).b)):=fun wx hSw=>by
   have d1:wx.cell? ⟨wr.heap.size,1,none⟩=some (.int .i64 (S.K k).inn):=fG hSw 1
   have d3:wx.cell? ⟨wr.heap.size,3,none⟩=some (.int .i64 (S.K k).k):=fG hSw 3
   have d4:wx.cell? ⟨wr.heap.size,4,none⟩=some (.int .i64 (S.K k).d):=fG hSw 4
   have d5:wx.cell? ⟨wr.heap.size,5,none⟩=some (.int .i64 (S.K k).s):=fG hSw 5
   have d6:wx.cell? ⟨wr.heap.size,6,none⟩=some (.int .i64 (S.K k).p):=fG hSw 6
   have d7:wx.cell? ⟨wr.heap.size,7,none⟩=some (.string (S.K k).b):=fG hSw 7
   exact ⟨d1,d3,d4,d5,d6,d7⟩
  refine tX0 ?_
  iterate 4 refine tX ?_
  refine tC 6 25 (v:=?_) ?_ ?_
  rotate_left
  · exact bA
  try simp only [Act.put,PZ]
  refine tC 7 26 (v:=?_) ?_ ?_
  rotate_left
  · exact bA
  try simp only [Act.put,PZ]
  refine rq1 5 (fun K hK=>?_)
  go_simp
  refine (mH _ _ _ Hpr.out).mono ?_
  rintro e wq ⟨rfl,hwq⟩
  subst hwq
  go_wp2_with fail
  refine hK.out _ _ kV (fun hHeld=>?_)
  clear hK K
  try simp only [Act.put,PZ]
  refine tC 9 28 (v:=?_) ?_ ?_
  rotate_left
  · exact bA
  try simp only [Act.put,PZ]
  refine tC 10 29 (v:=?_) ?_ ?_
  rotate_left
  ·
   intro wx hSw
   have hna:=nilL wx
   go_simp
   try with_reducible rfl
  try simp only [Act.put,PZ]
  refine tC 11 30 (v:=?_) ?_ ?_
  rotate_left
  · exact bA
  try simp only [Act.put,PZ]
  refine rq1 8 (fun K hK=>?_)
  go_simp
  refine (ko _ _ _ _ _ _ (by unfold maxLen;omega)).mono ?_
  rintro e w2 ⟨rfl,hb⟩
  rw [sf Hf.out]
  have hH2:=HV.out.drew.up hb
  have q2:w2.heap[wr.heap.size]?=some (.cells (S.K k).cells 97 (0,0)):=(hb.block _ (fH kV)).trans kV
  have HH2:Hid (qK S w k w2):=hH2
  clear hb hH2
  go_wp2_with fail
  refine hK.out _ _ q2 (fun hHeld=>?_)
  clear hK K
  try simp only [Act.put,PZ]
  refine rq1 12 (fun K hK=>?_)
  go_simp
  try go_invoke
  refine (l7 (w.heap.size+2) _ _ (g3 S.K k) (S.K k).cl _ HH2.out.c (by have:=HsL.out;omega) (by have:=HsL.out;omega)).mono ?_
  rintro e w3 ⟨rfl,hk3,ht3⟩
  have HH3:Hid (qK S w (k+1) w3):=HH2.out.A3 Hpr.out hk3 ht3
  have q3:w3.heap[wr.heap.size]?=some (.cells (S.K k).cells 97 (0,0)):=(ht3.block _ (fH q2) (by have:=HLw.out;simp;omega)).trans q2
  clear hk3 ht3
  exact bB
 obtain rfl:k=S.nK:=by omega
 have hge:¬ ((S.nK:Nat):Int)<((S.nK:Nat):Int):=by omega
 have hB:=HH.out.b
 have c10:wr.cell? ⟨w.heap.size,10,none⟩=some (.slice S.N.aU S.N.nU S.N.cU):=boxed hB 10
 have c11:wr.cell? ⟨w.heap.size,11,none⟩=some (.int .i64 S.N.lo):=boxed hB 11
 have e0:wr.cell? ⟨w.heap.size+2,0,none⟩=some (.slice (some ⟨w.heap.size+1,0,none⟩) S.N.nU S.N.nU):=fG HH.out.c 0
 have e1:wr.cell? ⟨w.heap.size+2,1,none⟩=some (.int .i64 (g3 S.K S.nK)):=fG HH.out.c 1
 by_cases hlo:g3 S.K S.nK=S.N.lo
 ·
  have hlo':(g3 S.K S.nK == S.N.lo)=true:=by simp [hlo]
  obtain ⟨uk,huk⟩:=iA (∀ i,i<S.N.nU→jn S.K i S.nK=S.N.u i)
  have HUk:Hid (uk=true↔∀ i,i<S.N.nU→jn S.K i S.nK=S.N.u i):=huk
  have HE:Hid (uk=ok):=by
   rw [Hid,Bool.eq_iff_iff,HO.out,huk]
   exact ⟨fun h=>⟨hlo.symm,fun i hi=>(h i hi).symm⟩,fun h i hi=>(h.2 i hi).symm⟩
  clear hlo huk
  go_wp2_with fail
  refine (jW (some ⟨w.heap.size+1,0,none⟩) S.N.aU S.N.nU S.N.nU S.N.nU S.N.cU (fun i=>jn S.K i S.nK) S.N.u _ (by omega) (by omega) HH.out.r.read (HR.out.n.u.up (under hB)) uk ⟨fun h=>⟨rfl,HUk.out.1 h⟩,fun h=>HUk.out.2 h.2⟩).mono ?_
  rintro e w3 ⟨rfl,hSm⟩
  have B9:=under (next hB (hSm.below _))
  clear hSm c10 c11 e0 e1 hB HH
  rw [HE.out]
  go_wp2_with fail
  go_ret
  exact ⟨rfl,B9⟩
 have hlo':(g3 S.K S.nK == S.N.lo)=false:=by simp [hlo]
 have HF:Hid (ok=false):=by
  rw [Hid,Bool.eq_false_iff]
  intro e
  exact hlo (HO.out.1 e).1.symm
 have B9:=under hB
 have Hlo:Hid (¬ g3 S.K S.nK=S.N.lo):=hlo
 clear hlo
 go_wp2_with fail
 go_ret
 exact ⟨fQ (by first | exact HF.out.symm | (rw [HF.out];simp;exact Hlo.out)),B9⟩
theorem Cnt.Ok.cfg {C:Cfg} {N:Cnt} (h:Cnt.Ok C N):(2≤C.p∧C.p≤4)∧(N.nU:Int)=C.p:=by
 have h1:=h.c
 have h2:=h.nU
 exact ⟨by have:=h1.num.p;omega,by omega⟩
theorem rM (S:Swg) (w:World) (hs:S.Small) (hr:j4 w S) (ok:Bool) (hok:ok=true↔S.Ok) :
  Calls Tryz.prog 26 #[.agg S.cells] w fun e w'=>e=.returned (.bool ok)∧Below w.heap.size w w':=by
 have HO:Hid (ok=true↔S.Ok):=hok
 have HR:Hid (j4 w S):=hr
 have HS:Hid S.Small:=hs
 obtain ⟨W,eW⟩:∃ W,w.alloc (.cells S.cells 40)=W:=⟨_,rfl⟩
 have hB:Below (w.heap.size+1) (w.alloc (.cells S.cells 40)) W:=by rw [eW];exact Below.refl _ _
 have HNB:Hid (∀ {wi wj:World},Below (w.heap.size+1) (w.alloc (.cells S.cells 40)) wi→Below wi.heap.size wi wj→Below (w.heap.size+1) (w.alloc (.cells S.cells 40)) wj):=fun h k=>next h k
 have HKB:Hid (∀ {wi:World},Below (w.heap.size+1) (w.alloc (.cells S.cells 40)) wi→wi.heap[w.heap.size]?=some (.cells S.cells 40 (0,0))):=fun h=>gV h
 have HUB:Hid (∀ {wi:World},Below (w.heap.size+1) (w.alloc (.cells S.cells 40)) wi→Below w.heap.size w wi):=fun h=>under h
 have hb0:=HUB.out hB
 have kS:=HKB.out hB
 have c0:W.cell? ⟨w.heap.size,0,none⟩=some (.int .i64 S.C.p):=fG kS 0
 have c1:W.cell? ⟨w.heap.size,1,none⟩=some (.int .i64 S.C.c):=fG kS 1
 have c2:W.cell? ⟨w.heap.size,2,none⟩=some (.int .i64 S.C.xo):=fG kS 2
 have c3:W.cell? ⟨w.heap.size,3,none⟩=some (.int .i64 S.C.xn):=fG kS 3
 have c4:W.cell? ⟨w.heap.size,4,none⟩=some (.int .i64 S.C.hd):=fG kS 4
 have c5:W.cell? ⟨w.heap.size,5,none⟩=some (.int .i64 S.C.lo):=fG kS 5
 have c6:W.cell? ⟨w.heap.size,6,none⟩=some (.int .i64 S.C.dl):=fG kS 6
 have c10:W.cell? ⟨w.heap.size,10,none⟩=some (.slice S.N.aU S.N.nU S.N.cU):=fG kS 10
 have c11:W.cell? ⟨w.heap.size,11,none⟩=some (.int .i64 S.N.lo):=fG kS 11
 have c12:W.cell? ⟨w.heap.size,12,none⟩=some (.slice S.N.aP S.N.nP S.N.cP):=fG kS 12
 clear hok hr hs kS
 obtain ⟨b0,h0⟩:=iA (Cnt.Ok S.C S.N)
 have G0:Hid (b0=true↔Cnt.Ok S.C S.N):=h0
 clear h0
 obtain ⟨b1,h1⟩:=iA (S.BE)
 have G1:Hid (b1=true↔S.BE):=h1
 clear h1
 obtain ⟨b2,h2⟩:=iA (S.seen)
 have G2:Hid (b2=true↔S.seen):=h2
 clear h2
 obtain ⟨b3,h3⟩:=iA (iT S.nx S.C.p S.nK S.K)
 have G3:Hid (b3=true↔iT S.nx S.C.p S.nK S.K):=h3
 clear h3
 obtain ⟨b4,h4⟩:=iA (S.tz)
 have G4:Hid (b4=true↔S.tz):=h4
 clear h4
 obtain ⟨b5,h5⟩:=iA (S.xp)
 have G5:Hid (b5=true↔S.xp):=h5
 clear h5
 obtain ⟨b6,h6⟩:=iA (S.xT)
 have G6:Hid (b6=true↔S.xT):=h6
 clear h6
 have HB0:Hid (Below (w.heap.size+1) (w.alloc (.cells S.cells 40)) W):=hB
 clear hB
 go_enter Tryz.func26,Tryz.ntmps26
 go_wp2_with fail
 clear c0 c1 c2 c3 c4 c5 c6 c10 c11 c12 eW
 refine (jP S.C S.N _ HS.out.n.fit (HR.out.n.up hb0) b0 G0.out).mono ?_
 rintro e w1 ⟨rfl,hb⟩
 have HB1:Hid (Below (w.heap.size+1) (w.alloc (.cells S.cells 40)) w1):=HNB.out HB0.out hb
 clear hb hb0 HB0
 cases b0
 ·
  have HF:Hid (ok=false):=by
   rw [Hid,Bool.eq_false_iff]
   intro e
   exact absurd (G0.out.2 (HO.out.1 e).n) (by simp)
  have B9:=HUB.out HB1.out
  exact bq
 have P0:Hid (Cnt.Ok S.C S.N):=G0.out.1 rfl
 have hk0:=HKB.out HB1.out
 have HK0:Hid (w1.heap[w.heap.size]?=some (.cells S.cells 40 (0,0))):=hk0
 clear hk0 G0
 go_wp2_with (refine jm (.tmp 1) rfl (by kernel_rfl) w.heap.size rfl S HK0.out ?_)
 clear HK0
 refine (ug S _ b1 G1.out).mono ?_
 rintro e w2 ⟨rfl,hb⟩
 have HB2:Hid (Below (w.heap.size+1) (w.alloc (.cells S.cells 40)) w2):=HNB.out HB1.out hb
 clear hb HB1
 cases b1
 ·
  have HF:Hid (ok=false):=by
   rw [Hid,Bool.eq_false_iff]
   intro e
   exact absurd (G1.out.2 (HO.out.1 e).nums) (by simp)
  have B9:=HUB.out HB2.out
  exact bq
 have P1:Hid (S.BE):=G1.out.1 rfl
 have hk1:=HKB.out HB2.out
 have HK1:Hid (w2.heap[w.heap.size]?=some (.cells S.cells 40 (0,0))):=hk1
 clear hk1 G1
 go_wp2_with (refine jm (.tmp 1) rfl (by kernel_rfl) w.heap.size rfl S HK1.out ?_)
 clear HK1
 refine (zG S _ HS.out.e (HR.out.e.up (HUB.out HB2.out)) (by have:=P0.out.cfg;omega) (by have:=P0.out.cfg;omega) b2 G2.out).mono ?_
 rintro e w3 ⟨rfl,hb⟩
 have HB3:Hid (Below (w.heap.size+1) (w.alloc (.cells S.cells 40)) w3):=HNB.out HB2.out hb
 clear hb HB2
 cases b2
 ·
  have HF:Hid (ok=false):=by
   rw [Hid,Bool.eq_false_iff]
   intro e
   exact absurd (G2.out.2 (HO.out.1 e).seen) (by simp)
  have B9:=HUB.out HB3.out
  exact bq
 have P2:Hid (S.seen):=G2.out.1 rfl
 have hk2:=HKB.out HB3.out
 have HK2:Hid (w3.heap[w.heap.size]?=some (.cells S.cells 40 (0,0))):=hk2
 clear hk2 G2
 go_wp2_with (refine jm (.tmp 1) rfl (by kernel_rfl) w.heap.size rfl S HK2.out ?_)
 clear HK2
 refine (uf S _ HS.out (HR.out.k.up (HUB.out HB3.out)) (by have:=P0.out.cfg;omega) (by have:=P0.out.cfg;omega) P1.out.nx.1 P1.out.nx.2 b3 G3.out).mono ?_
 rintro e w4 ⟨rfl,hb⟩
 have HB4:Hid (Below (w.heap.size+1) (w.alloc (.cells S.cells 40)) w4):=HNB.out HB3.out hb
 clear hb HB3
 cases b3
 ·
  have HF:Hid (ok=false):=by
   rw [Hid,Bool.eq_false_iff]
   intro e
   exact absurd (G3.out.2 (HO.out.1 e).k) (by simp)
  have B9:=HUB.out HB4.out
  exact bq
 have P3:Hid (iT S.nx S.C.p S.nK S.K):=G3.out.1 rfl
 have hk3:=HKB.out HB4.out
 have HK3:Hid (w4.heap[w.heap.size]?=some (.cells S.cells 40 (0,0))):=hk3
 clear hk3 G3
 go_wp2_with (refine jm (.tmp 1) rfl (by kernel_rfl) w.heap.size rfl S HK3.out ?_)
 clear HK3
 refine (xO S _ HS.out (HR.out.up (HUB.out HB4.out)) P3.out b4 G4.out).mono ?_
 rintro e w5 ⟨rfl,hb⟩
 have HB5:Hid (Below (w.heap.size+1) (w.alloc (.cells S.cells 40)) w5):=HNB.out HB4.out hb
 clear hb HB4
 cases b4
 ·
  have HF:Hid (ok=false):=by
   rw [Hid,Bool.eq_false_iff]
   intro e
   exact absurd (G4.out.2 ⟨(HO.out.1 e).nl,(HO.out.1 e).l⟩) (by simp)
  have B9:=HUB.out HB5.out
  exact bq
 have P4:Hid (S.tz):=G4.out.1 rfl
 have hk4:=HKB.out HB5.out
 have HK4:Hid (w5.heap[w.heap.size]?=some (.cells S.cells 40 (0,0))):=hk4
 clear hk4 G4
 go_wp2_with (refine jm (.tmp 1) rfl (by kernel_rfl) w.heap.size rfl S HK4.out ?_)
 clear HK4
 refine (zH S _ HS.out (HR.out.up (HUB.out HB5.out)) P3.out P4.out.2 (by have:=P0.out.cfg;have:=P4.out.1;omega) P1.out.nx.2 b5 G5.out).mono ?_
 rintro e w6 ⟨rfl,hb⟩
 have HB6:Hid (Below (w.heap.size+1) (w.alloc (.cells S.cells 40)) w6):=HNB.out HB5.out hb
 clear hb HB5
 cases b5
 ·
  have HF:Hid (ok=false):=by
   rw [Hid,Bool.eq_false_iff]
   intro e
   exact absurd (G5.out.2 (HO.out.1 e).refs) (by simp)
  have B9:=HUB.out HB6.out
  exact bq
 have P5:Hid (S.xp):=G5.out.1 rfl
 have hk5:=HKB.out HB6.out
 have HK5:Hid (w6.heap[w.heap.size]?=some (.cells S.cells 40 (0,0))):=hk5
 clear hk5 G5
 go_wp2_with (refine jm (.tmp 1) rfl (by kernel_rfl) w.heap.size rfl S HK5.out ?_)
 clear HK5
 refine (zI S _ HS.out (HR.out.up (HUB.out HB6.out)) P3.out P0.out.cfg.2 (by have:=P0.out.cfg;omega) (by have:=P0.out.cfg;omega) b6 G6.out).mono ?_
 rintro e w7 ⟨rfl,hb⟩
 have HB7:Hid (Below (w.heap.size+1) (w.alloc (.cells S.cells 40)) w7):=HNB.out HB6.out hb
 clear hb HB6
 have HE:Hid (b6=ok):=by
  rw [Hid,Bool.eq_iff_iff,HO.out,G6.out]
  exact ⟨fun h=>⟨P0.out,P1.out,P2.out,P3.out,P4.out.1,P4.out.2,P5.out,h⟩,fun h=>h.held⟩
 have B9:=HUB.out HB7.out
 rw [HE.out]
 go_wp2_with fail
 go_ret
 exact ⟨rfl,B9⟩
theorem ma (S:Swg) (id:Int) (w:World) (hn:S.nK≤1048576) (hr:jN w S.aK S.nK S.K) (j:Nat) (hj:j<S.nK) (hid:(S.K j).id=id) (hno:∀ i,i<j→(S.K i).id≠id) :
  Calls Tryz.prog 58 #[.agg S.cells,.int .i64 id] w fun e w'=>e=.returned (.int .i64 (j:Int))∧Below w.heap.size w w':=by
 have HR:Hid (jN w S.aK S.nK S.K):=hr
 have HN:Hid (∀ i,i<j→(S.K i).id≠id):=hno
 have HI:Hid ((S.K j).id=id):=hid
 have hB:Below (w.heap.size+1) (w.alloc (.cells S.cells 40)) (w.alloc (.cells S.cells 40)):=Below.refl _ _
 clear hr hno hid
 go_enter Tryz.func58,Tryz.ntmps58
 go_wp2_with fail
 go_loop [5] (fun x=>∃ k:Nat,k≤j∧x=.int .i64 k) (fun x=>j+1-(intOf x).toNat)
 case atStart=>exact ⟨0,Nat.zero_le _,rfl⟩
 obtain ⟨k,hk,rfl⟩:=hrel
 have hlt:(k:Int)<S.nK:=by omega
 obtain ⟨g,o,ea,hc⟩:=(HR.out.up (under hB)) k (by omega)
 have c13:(w.alloc (.cells S.cells 40)).cell? ⟨w.heap.size,13,none⟩=some (.slice (some ⟨g,o,none⟩) S.nK S.cK):=(boxed hB 13).trans (by rw [←ea];rfl)
 have c0:(w.alloc (.cells S.cells 40)).cell? ⟨g,o+k*8,none⟩=some (.int .i64 (S.K k).id):=hc 0 (by omega)
 clear hc ea
 by_cases e:k=j
 ·
  subst e
  have he:((S.K k).id == id)=true:=by simp [HI.out]
  have he2:(S.K k).id=id:=HI.out
  exact bj
 exact bC
theorem pB (S:Swg) (id:Int) (w:World) (hn:S.nK≤1048576) (hr:jN w S.aK S.nK S.K) (hno:∀ i,i<S.nK→(S.K i).id≠id) :
  Calls Tryz.prog 58 #[.agg S.cells,.int .i64 id] w fun e w'=>e=.returned (.int .i64 (-1))∧Below w.heap.size w w':=by
 have HR:Hid (jN w S.aK S.nK S.K):=hr
 have HN:Hid (∀ i,i<S.nK→(S.K i).id≠id):=hno
 have hB:Below (w.heap.size+1) (w.alloc (.cells S.cells 40)) (w.alloc (.cells S.cells 40)):=Below.refl _ _
 clear hr hno
 go_enter Tryz.func58,Tryz.ntmps58
 go_wp2_with fail
 go_loop [5] (fun x=>∃ k:Nat,k≤S.nK∧x=.int .i64 k) (fun x=>S.nK-(intOf x).toNat)
 case atStart=>exact ⟨0,Nat.zero_le _,rfl⟩
 obtain ⟨k,hk,rfl⟩:=hrel
 by_cases hlt:k<S.nK
 ·
  have hlt':(k:Int)<S.nK:=by omega
  obtain ⟨g,o,ea,hc⟩:=(HR.out.up (under hB)) k (by omega)
  have c13:(w.alloc (.cells S.cells 40)).cell? ⟨w.heap.size,13,none⟩=some (.slice (some ⟨g,o,none⟩) S.nK S.cK):=(boxed hB 13).trans (by rw [←ea];rfl)
  have c0:(w.alloc (.cells S.cells 40)).cell? ⟨g,o+k*8,none⟩=some (.int .i64 (S.K k).id):=hc 0 (by omega)
  clear hc ea
  exact bC
 obtain rfl:k=S.nK:=by omega
 have hge:¬ ((S.nK:Nat):Int)<((S.nK:Nat):Int):=by omega
 have c13:(w.alloc (.cells S.cells 40)).cell? ⟨w.heap.size,13,none⟩=some (.slice S.aK S.nK S.cK):=boxed hB 13
 exact bj
theorem tI (a:Option Addr) (n c:Nat) (z:Nat→Int) (x:Int) (w:World) (hn:n≤1048576) (hr:fY w a n fun i=>.int .i64 (z i)) (ok:Bool) (hok:ok=true↔∃ i,i<n∧z i=x) :
  Calls Tryz.prog 52 #[.slice a n c,.int .i64 x] w fun e w'=>e=.returned (.bool ok)∧w'=w:=by
 have HR:Hid (fY w a n fun i=>.int .i64 (z i)):=hr
 have HO:Hid (ok=true↔∃ i,i<n∧z i=x):=hok
 clear hr hok
 go_enter Tryz.func52,Tryz.ntmps52
 go_wp2_with fail
 go_loop [5] (fun y=>∃ k:Nat,k≤n∧y=.int .i64 k∧∀ i,i<k→z i≠x) (fun y=>n-(intOf y).toNat)
 case atStart=>exact ⟨0,Nat.zero_le _,rfl,fun i hi=>by omega⟩
 obtain ⟨k,hk,rfl,hall⟩:=hrel
 have HA:Hid (∀ i,i<k→z i≠x):=hall
 clear hall
 by_cases hlt:k<n
 ·
  have hlt':(k:Int)<n:=by omega
  obtain ⟨g,o,rfl,c0⟩:=HR.out k hlt
  dsimp only at c0
  by_cases e:z k=x
  ·
   have he:(z k == x)=true:=by simp [e]
   have HT:Hid (ok=true):=HO.out.2 ⟨k,hlt,e⟩
   have He:Hid (z k=x):=e
   clear e
   go_wp2_with fail
   go_ret
   exact ⟨fQ HT.out.symm,rfl⟩
  have he:(z k == x)=false:=by simp [e]
  have He:Hid (¬ z k=x):=e
  clear e
  go_wp2_with fail
  go_round
  case rel=>exact ⟨k+1,by omega,by go_num,fun i hi=>by
   by_cases e:i=k
   ·
    subst e;exact He.out
   ·
    exact HA.out i (by omega)⟩
  case measure=>simp [intOf];omega
 obtain rfl:k=n:=by omega
 have hge:¬ ((k:Nat):Int)<((k:Nat):Int):=by omega
 have HF:Hid (ok=false):=by
  rw [Hid,Bool.eq_false_iff]
  intro e
  obtain ⟨i,hi,e2⟩:=HO.out.1 e
  exact HA.out i hi e2
 go_wp2_with fail
 go_ret
 exact ⟨fQ HF.out.symm,rfl⟩
end Go.Proofs.YtfcfpkibceepgaaGreat
