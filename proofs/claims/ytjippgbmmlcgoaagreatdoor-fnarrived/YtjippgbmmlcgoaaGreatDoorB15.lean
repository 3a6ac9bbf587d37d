import Derived.Test.YtjippgbmmlcgoaaGreatDoorB14
namespace Go.Proofs.YtjippgbmmlcgoaaGreatDoor
set_option maxRecDepth 100000
set_option maxHeartbeats 9000000
open Go.RowKit
set_option linter.unusedVariables false
set_option linter.unusedSimpArgs false
variable {k:Nat} {p:Prop} {S:Swg} {W w wr:World}
theorem Hh (h:p:=by
 intro wx hSw
 have d1:wx.cell? ⟨wr.heap.size,1,none⟩=some (.int .i64 (S.K k).inn):=ie hSw 1
 have d3:wx.cell? ⟨wr.heap.size,3,none⟩=some (.int .i64 (S.K k).k):=ie hSw 3
 have d4:wx.cell? ⟨wr.heap.size,4,none⟩=some (.int .i64 (S.K k).d):=ie hSw 4
 have d5:wx.cell? ⟨wr.heap.size,5,none⟩=some (.int .i64 (S.K k).s):=ie hSw 5
 have d6:wx.cell? ⟨wr.heap.size,6,none⟩=some (.int .i64 (S.K k).p):=ie hSw 6
 have d7:wx.cell? ⟨wr.heap.size,7,none⟩=some (.string (S.K k).b):=ie hSw 7
 go_simp
 try with_reducible rfl):p:=h
theorem bG (h:p:=by
 go_wp2_with fail
 refine ah (hK _ _ q3) ?_
 intro hHeld
 clear hK K
 refine dnq ?_
 clear q2 q3 hHeld
 go_wp2_with fail
 go_roundw
 case rel=>exact ⟨k+1,by omega,by go_num,HH3.out⟩
 case measure=>simp [intOf];omega):p:=h
theorem bH (h:p:=by
 have hne:=HN k (by omega)
 have he:((S.K k).id == id)=false:=by simp [hne]
 have HNe:=aa hne
 clear hne
 go_wp2_with fail
 go_round
 case rel=>exact ⟨k+1,by omega,by go_num⟩
 case measure=>simp [intOf];omega):p:=h
theorem nilP (x : Int) (w : World) : (nilAhead 373 156 (.agg #[.int .i64 x]) "loop.example/g00355/impl.change").run Tryz.prog w = .ok (some false) w := by kernel_rfl
theorem nilL (w : World) : (nilAhead 373 154 (.agg #[]) "loop.example/g00355/impl.change").run Tryz.prog w = .ok (some false) w := by kernel_rfl
theorem tj (port prio:Int) (w:World) (h:prio=2):Calls Tryz.prog 72 #[.int .i64 port,.int .i64 prio] w fun e w'=>e=.returned (.iface 156 (.agg #[.int .i64 port]))∧w'=w:=by
 subst h
 exact pW port w
theorem xX (g gU nU cU i:Nat) (inn:Int) (hin:inn=(i:Int)) (v1 v2:Value) (u:Nat→Int) (y:Int) (w:World) (hi:i<nU) (hm:nU≤1048576) (k:w.heap[g]?=some (.cells #[.slice (some ⟨gU,0,none⟩) nU cU,v1,v2] 30 (0,0))) (hr:ja gU 2 nU (fun i=>.int .i64 (u i)) nU w) (h1:-10000≤u i+y) (h2:u i+y≤10000) :
  Calls Tryz.prog 193 #[.agg #[.int .i64 inn],.pointer (some ⟨g,0,none⟩),.int .i64 y] w fun e w'=>e=.returned (.tuple #[])∧ja gU 2 nU (fun k=>.int .i64 (qt u i y k)) nU w'∧Touch [gU] w w':=by
 subst hin
 exact pg g gU nU cU i v1 v2 u y w hi hm k hr h1 h2
structure zp (S:Swg) (w:World) (k:Nat) (wr:World):Prop where
 c:wr.heap[w.heap.size+2]?=some (.cells #[.slice (some ⟨w.heap.size+1,0,none⟩) S.N.nU S.N.nU,.int .i64 (iM S.K k),.slice none 0 0] 30 (0,0))
 r:ja (w.heap.size+1) 2 S.N.nU (fun i=>.int .i64 (jI S.K i k)) S.N.nU wr
 b:Below (w.heap.size+1) (w.alloc (.cells S.cells 34)) wr
theorem zp.up (h:zp S w k wr) (hb:Below wr.heap.size wr W):zp S w k W :=
 ⟨(hb.block _ (ig h.c)).trans h.c,h.r.jQ (hb.block _ h.r.lt),next h.b hb⟩
theorem zp.drew (h:zp S w k wr):zp S w k wr.drew:=h.up ((Below.refl _ _).drew)
theorem zp.port {ii:Nat} (h:zp S w k wr) (hp:(S.K k).p=2) (hi:(S.K k).inn=(ii:Int)) (hr:ja (w.heap.size+1) 2 S.N.nU (fun i=>.int .i64 (qt (fun i=>jI S.K i k) ii (S.K k).cl i)) S.N.nU W) (ht:Touch [w.heap.size+1] wr W):zp S w (k+1) W:=by
 refine ⟨?_,hr.AM (fun i _=>?_),h.b.trans (ht.below (by have:=upper h.b;omega) (fun x hx=>by simp at hx;omega))⟩
 ·
  refine ((ht.block _ (ig h.c) (by simp)).trans h.c).trans ?_
  have e:iM S.K (k+1)=iM S.K k:=by show iM S.K k+(if (S.K k).p=2 then 0 else _)=_;rw [if_pos hp];omega
  rw [e]
 have e:jI S.K i (k+1)=qt (fun i=>jI S.K i k) ii (S.K k).cl i:=by
  show jI S.K i k+(if (S.K k).p=2∧(S.K k).inn=(i:Int) then _ else 0)=_
  unfold qt
  by_cases e:i=ii
  ·
   subst e;rw [if_pos ⟨hp,hi⟩,if_pos rfl]
  rw [if_neg (fun h=>e (by have:=h.2;omega)),if_neg e];dsimp only;omega
 rw [e]
theorem zp.Dm (h:zp S w k wr) (hp:(S.K k).p≠2) (hk:W.heap[w.heap.size+2]?=some (.cells #[.slice (some ⟨w.heap.size+1,0,none⟩) S.N.nU S.N.nU,.int .i64 (iM S.K k+(S.K k).cl),.slice none 0 0] 30 (0,0))) (ht:Touch [w.heap.size+2] wr W):zp S w (k+1) W:=by
 refine ⟨?_,(h.r.jQ (ht.block _ h.r.lt (by simp))).AM (fun i _=>?_),h.b.trans (ht.below (by have:=upper h.b;omega) (fun x hx=>by simp at hx;omega))⟩
 ·
  have e:iM S.K (k+1)=iM S.K k+(S.K k).cl:=by show iM S.K k+(if (S.K k).p=2 then 0 else _)=_;rw [if_neg hp]
  rw [e];exact hk
 have e:jI S.K i (k+1)=jI S.K i k:=by
  show jI S.K i k+(if (S.K k).p=2∧(S.K k).inn=(i:Int) then _ else 0)=_
  rw [if_neg (fun h=>hp h.1)];omega
 rw [e]
theorem BZ (S:Swg) (w:World) (hs:S.Small) (hr:lr w S) (hP:lQ S.nx S.C.p S.nK S.K) (hn:(S.N.nU:Int)=S.C.p) (h4:S.N.nU≤4) (h0:0<S.N.nU) (ok:Bool) (hok:ok=true↔S.Dx) :
  Calls Tryz.prog 31 #[.agg S.cells] w fun e w'=>e=.returned (.bool ok)∧Below w.heap.size w w':=by
 have HO:=aa hok
 have HR:=aa hr
 have HP:=aa hP
 have hnK:S.nK≤1000:=hP.le
 have HNp:=aa hn
 clear hn
 have hB:Below (w.heap.size+1) (w.alloc (.cells S.cells 34)) (w.alloc (.cells S.cells 34)):=Below.refl _ _
 have c10:World.cell? (w.alloc (.cells S.cells 34)) ⟨w.heap.size,10,none⟩=some (.slice S.N.aU S.N.nU S.N.cU):=boxed hB 10
 have mk:∀ W,_:=pT S.N.nU (by omega)
 have kZ:(World.alloc (w.alloc (.cells S.cells 34)) (.cells (jV S.N.nU) 2)).heap[w.heap.size+1]?=some (.cells (jV S.N.nU) 2 (0,0)):=by
  have:=im (w.alloc (.cells S.cells 34)) (.cells (jV S.N.nU) 2)
  simpa using this
 have HH0:Hid (zp S w 0 (World.alloc (World.alloc (w.alloc (.cells S.cells 34)) (.cells (jV S.N.nU) 2)) (.cells #[.slice (some ⟨w.heap.size+1,0,none⟩) S.N.nU S.N.nU,.int .i64 0,.slice none 0 0] 30))):=by
  have hbZ:Below (w.heap.size+1) (w.alloc (.cells S.cells 34)) (World.alloc (w.alloc (.cells S.cells 34)) (.cells (jV S.N.nU) 2)):=hB.alloc (by simp) _
  have hbW:=(Below.refl (World.alloc (w.alloc (.cells S.cells 34)) (.cells (jV S.N.nU) 2)).heap.size (World.alloc (w.alloc (.cells S.cells 34)) (.cells (jV S.N.nU) 2))).alloc (Nat.le_refl _) (.cells #[.slice (some ⟨w.heap.size+1,0,none⟩) S.N.nU S.N.nU,.int .i64 0,.slice none 0 0] 30)
  refine ⟨?_,?_,next hbZ hbW⟩
  ·
   have:=im (World.alloc (w.alloc (.cells S.cells 34)) (.cells (jV S.N.nU) 2)) (.cells #[.slice (some ⟨w.heap.size+1,0,none⟩) S.N.nU S.N.nU,.int .i64 0,.slice none 0 0] 30)
   rw [show (World.alloc (w.alloc (.cells S.cells 34)) (.cells (jV S.N.nU) 2)).heap.size=w.heap.size+2 by simp] at this
   exact this
  have hz:=pL kZ
  exact (hz.jQ (hbW.block _ hz.lt)).AM (fun i _=>rfl)
 have c13:World.cell? (World.alloc (World.alloc (w.alloc (.cells S.cells 34)) (.cells (jV S.N.nU) 2)) (.cells #[.slice (some ⟨w.heap.size+1,0,none⟩) S.N.nU S.N.nU,.int .i64 0,.slice none 0 0] 30)) ⟨w.heap.size,13,none⟩=some (.slice S.aK S.nK S.cK):=boxed HH0.b 13
 clear hok hr hP hs hB kZ
 go_enter Tryz.func31,Tryz.ntmps31
 go_wp2_with fail
 generalize World.alloc (World.alloc (w.alloc (.cells S.cells 34)) (.cells (jV S.N.nU) 2)) (.cells #[.slice (some ⟨w.heap.size+1,0,none⟩) S.N.nU S.N.nU,.int .i64 0,.slice none 0 0] 30)=W0 at *
 clear mk c10 c13
 go_loopw [15] (fun x wr=>∃ k:Nat,k≤S.nK∧x=.int .i64 k∧zp S w k wr) (fun x _=>S.nK-(intOf x).toNat)
 case atStart=>exact ⟨0,Nat.zero_le _,rfl,HH0.out⟩
 clear HH0
 obtain ⟨k,hk,rfl,hH⟩:=hrel
 have HH:=aa hH
 clear hH
 by_cases hlt:k<S.nK
 ·
  have hlt':(k:Int)<S.nK:=by omega
  have hB:=HH.b
  obtain ⟨g,o,ea,hc⟩:=(HR.up (under hB)).k k hlt
  obtain ⟨V,eV⟩:∃ V,wr.alloc (.cells (S.K k).cells 51)=V:=⟨_,rfl⟩
  have hbV:Below wr.heap.size wr V:=by rw [←eV];exact (Below.refl _ _).alloc (Nat.le_refl _) _
  have kV0:V.heap[wr.heap.size]?=some (.cells (S.K k).cells 51 (0,0)):=by rw [←eV];exact im _ _
  have kV:V.drew.heap[wr.heap.size]?=some (.cells (S.K k).cells 51 (0,0)):=kV0
  have HV:=aa (HH.up hbV)
  have HLw:=aa (ig HH.c)
  have Hf:=aa ((HP.one k hlt).2.2)
  have hle:=Hf.le
  have hcl:=Hf.cl
  have HsU:Hid (∀ ii:Nat,0≤jI S.K ii k∧jI S.K ii k≤5*(k:Int)):=fun ii=>xN HP k (by omega)
  have HsL:Hid (0≤iM S.K k∧iM S.K k≤5*(k:Int)):=pN HP k (by omega)
  obtain ⟨ii,hin⟩:∃ ii:Nat,(S.K k).inn=(ii:Int):=⟨(S.K k).inn.toNat,by have:=(HP.one k hlt).2.1;omega⟩
  have hii:ii<S.N.nU:=by have:=(HP.one k hlt).2.1;have:=HNp.out;omega
  have Hin:=aa hin
  rw [ea]
  clear hbV kV0 ea hB HH hin
  go_wp2_with (first | refine lx rfl (.tmp 17) rfl g (o+k*8) rfl (S.K k) hc ?_ | refine jo 51 8 rq rfl (.tmp 5) (.tmp 18) rfl (S.K k).cells _ rfl rfl rfl rfl rfl (Pkt.one _) (eV▸?_))
  clear hc
  by_cases hpr:(S.K k).p=2
  ·
   have Hpr:=aa hpr
   clear hpr
   refine wp_region_held_drew (S:=fun w'=>w'.heap[wr.heap.size]?=some (.cells (S.K k).cells 51 (0,0))) (by kernel_rfl) kV (fun hHeld=>?_)
   have Hcs:Hid (∀ wx:World,(fun w':World=>w'.heap[wr.heap.size]?=some (.cells (S.K k).cells 51 (0,0))) wx→wx.cell? ⟨wr.heap.size,1,none⟩=some (.int .i64 (S.K k).inn)∧wx.cell? ⟨wr.heap.size,3,none⟩=some (.int .i64 (S.K k).k)∧wx.cell? ⟨wr.heap.size,4,none⟩=some (.int .i64 (S.K k).d)∧wx.cell? ⟨wr.heap.size,5,none⟩=some (.int .i64 (S.K k).s)∧wx.cell? ⟨wr.heap.size,6,none⟩=some (.int .i64 (S.K k).p)∧wx.cell? ⟨wr.heap.size,7,none⟩=some (.string (S.K k).b)):=fun wx hSw=>by
    have d1:wx.cell? ⟨wr.heap.size,1,none⟩=some (.int .i64 (S.K k).inn):=ie hSw 1
    have d3:wx.cell? ⟨wr.heap.size,3,none⟩=some (.int .i64 (S.K k).k):=ie hSw 3
    have d4:wx.cell? ⟨wr.heap.size,4,none⟩=some (.int .i64 (S.K k).d):=ie hSw 4
    have d5:wx.cell? ⟨wr.heap.size,5,none⟩=some (.int .i64 (S.K k).s):=ie hSw 5
    have d6:wx.cell? ⟨wr.heap.size,6,none⟩=some (.int .i64 (S.K k).p):=ie hSw 6
    have d7:wx.cell? ⟨wr.heap.size,7,none⟩=some (.string (S.K k).b):=ie hSw 7
    exact ⟨d1,d3,d4,d5,d6,d7⟩
   refine tX0 ?_
   iterate 4 refine tX ?_
   refine tC 6 25 (v:=?_) ?_ ?_
   rotate_left
   · exact Hh
   try simp only [Act.put,PZ]
   refine tC 7 26 (v:=?_) ?_ ?_
   rotate_left
   · exact Hh
   try simp only [Act.put,PZ]
   refine rq1 5 (fun K hK=>?_)
   go_simp
   refine (tj _ _ _ Hpr).mono ?_
   rintro e wq ⟨rfl,hwq⟩
   subst hwq
   go_wp2_with fail
   refine ah (hK _ _ kV) ?_
   intro hHeld
   clear hK K
   refine tC 9 28 (v:=?_) ?_ ?_
   rotate_left
   · exact Hh
   try simp only [Act.put,PZ]
   refine tC 10 29 (v:=?_) ?_ ?_
   rotate_left
   ·
    intro wx hSw
    have hna:=nilP (S.K k).inn wx
    go_simp
    try with_reducible rfl
   try simp only [Act.put,PZ]
   refine tC 11 30 (v:=?_) ?_ ?_
   rotate_left
   · exact Hh
   try simp only [Act.put,PZ]
   refine rq1 8 (fun K hK=>?_)
   go_simp
   refine (kJ _ _ _ _ _ _ (by unfold maxLen;omega)).mono ?_
   rintro e w2 ⟨rfl,hb⟩
   rw [vJ Hf.out]
   have hH2:=HV.drew.up hb
   have q2:w2.heap[wr.heap.size]?=some (.cells (S.K k).cells 51 (0,0)):=(hb.block _ (ig kV)).trans kV
   have HH2:=aa hH2
   clear hb hH2
   go_wp2_with fail
   refine ah (hK _ _ q2) ?_
   intro hHeld
   clear hK K
   refine rq1 12 (fun K hK=>?_)
   go_simp
   try go_invoke
   refine (xX (w.heap.size+2) (w.heap.size+1) S.N.nU S.N.nU ii _ Hin _ _ (fun i=>jI S.K i k) (S.K k).cl _ hii (by omega) HH2.c HH2.r (by have:=HsU ii;omega) (by have:=HsU ii;omega)).mono ?_
   rintro e w3 ⟨rfl,hr3,ht3⟩
   have HH3:=aa (HH2.port Hpr Hin hr3 ht3)
   have q3:w3.heap[wr.heap.size]?=some (.cells (S.K k).cells 51 (0,0)):=(ht3.block _ (ig q2) (by have:=HLw.out;simp;omega)).trans q2
   clear hr3 ht3
   exact bG
  have Hpr:=aa hpr
  clear hpr
  refine wp_region_held_drew (S:=fun w'=>w'.heap[wr.heap.size]?=some (.cells (S.K k).cells 51 (0,0))) (by kernel_rfl) kV (fun hHeld=>?_)
  have Hcs:Hid (∀ wx:World,(fun w':World=>w'.heap[wr.heap.size]?=some (.cells (S.K k).cells 51 (0,0))) wx→wx.cell? ⟨wr.heap.size,1,none⟩=some (.int .i64 (S.K k).inn)∧wx.cell? ⟨wr.heap.size,3,none⟩=some (.int .i64 (S.K k).k)∧wx.cell? ⟨wr.heap.size,4,none⟩=some (.int .i64 (S.K k).d)∧wx.cell? ⟨wr.heap.size,5,none⟩=some (.int .i64 (S.K k).s)∧wx.cell? ⟨wr.heap.size,6,none⟩=some (.int .i64 (S.K k).p)∧wx.cell? ⟨wr.heap.size,7,none⟩=some (.string (S.K k).b)):=fun wx hSw=>by
   have d1:wx.cell? ⟨wr.heap.size,1,none⟩=some (.int .i64 (S.K k).inn):=ie hSw 1
   have d3:wx.cell? ⟨wr.heap.size,3,none⟩=some (.int .i64 (S.K k).k):=ie hSw 3
   have d4:wx.cell? ⟨wr.heap.size,4,none⟩=some (.int .i64 (S.K k).d):=ie hSw 4
   have d5:wx.cell? ⟨wr.heap.size,5,none⟩=some (.int .i64 (S.K k).s):=ie hSw 5
   have d6:wx.cell? ⟨wr.heap.size,6,none⟩=some (.int .i64 (S.K k).p):=ie hSw 6
   have d7:wx.cell? ⟨wr.heap.size,7,none⟩=some (.string (S.K k).b):=ie hSw 7
   exact ⟨d1,d3,d4,d5,d6,d7⟩
  refine tX0 ?_
  iterate 4 refine tX ?_
  refine tC 6 25 (v:=?_) ?_ ?_
  rotate_left
  · exact Hh
  try simp only [Act.put,PZ]
  refine tC 7 26 (v:=?_) ?_ ?_
  rotate_left
  · exact Hh
  try simp only [Act.put,PZ]
  refine rq1 5 (fun K hK=>?_)
  go_simp
  refine (pn _ _ _ Hpr).mono ?_
  rintro e wq ⟨rfl,hwq⟩
  subst hwq
  go_wp2_with fail
  refine ah (hK _ _ kV) ?_
  intro hHeld
  clear hK K
  refine tC 9 28 (v:=?_) ?_ ?_
  rotate_left
  · exact Hh
  try simp only [Act.put,PZ]
  refine tC 10 29 (v:=?_) ?_ ?_
  rotate_left
  ·
   intro wx hSw
   have hna:=nilL wx
   go_simp
   try with_reducible rfl
  try simp only [Act.put,PZ]
  refine tC 11 30 (v:=?_) ?_ ?_
  rotate_left
  · exact Hh
  try simp only [Act.put,PZ]
  refine rq1 8 (fun K hK=>?_)
  go_simp
  refine (kJ _ _ _ _ _ _ (by unfold maxLen;omega)).mono ?_
  rintro e w2 ⟨rfl,hb⟩
  rw [vJ Hf.out]
  have hH2:=HV.drew.up hb
  have q2:w2.heap[wr.heap.size]?=some (.cells (S.K k).cells 51 (0,0)):=(hb.block _ (ig kV)).trans kV
  have HH2:=aa hH2
  clear hb hH2
  go_wp2_with fail
  refine ah (hK _ _ q2) ?_
  intro hHeld
  clear hK K
  refine rq1 12 (fun K hK=>?_)
  go_simp
  try go_invoke
  refine (ov (w.heap.size+2) _ _ (iM S.K k) (S.K k).cl _ HH2.c (by have:=HsL.out;omega) (by have:=HsL.out;omega)).mono ?_
  rintro e w3 ⟨rfl,hk3,ht3⟩
  have HH3:=aa (HH2.Dm Hpr hk3 ht3)
  have q3:w3.heap[wr.heap.size]?=some (.cells (S.K k).cells 51 (0,0)):=(ht3.block _ (ig q2) (by have:=HLw.out;simp;omega)).trans q2
  clear hk3 ht3
  exact bG
 obtain rfl:k=S.nK:=by omega
 have hge:¬ ((S.nK:Nat):Int)<((S.nK:Nat):Int):=by omega
 have hB:=HH.b
 have c10:wr.cell? ⟨w.heap.size,10,none⟩=some (.slice S.N.aU S.N.nU S.N.cU):=boxed hB 10
 have c11:wr.cell? ⟨w.heap.size,11,none⟩=some (.int .i64 S.N.lo):=boxed hB 11
 have e0:wr.cell? ⟨w.heap.size+2,0,none⟩=some (.slice (some ⟨w.heap.size+1,0,none⟩) S.N.nU S.N.nU):=ie HH.c 0
 have e1:wr.cell? ⟨w.heap.size+2,1,none⟩=some (.int .i64 (iM S.K S.nK)):=ie HH.c 1
 by_cases hlo:iM S.K S.nK=S.N.lo
 ·
  have hlo':(iM S.K S.nK == S.N.lo)=true:=by simp [hlo]
  obtain ⟨uk,huk⟩:=ju (∀ i,i<S.N.nU→jI S.K i S.nK=S.N.u i)
  have HUk:=aa huk
  have HE:Hid (uk=ok):=by
   rw [Hid,Bool.eq_iff_iff,HO.out,huk]
   exact ⟨fun h=>⟨hlo.symm,fun i hi=>(h i hi).symm⟩,fun h i hi=>(h.2 i hi).symm⟩
  clear hlo huk
  go_wp2_with fail
  refine (ml (some ⟨w.heap.size+1,0,none⟩) S.N.aU S.N.nU S.N.nU S.N.nU S.N.cU (fun i=>jI S.K i S.nK) S.N.u _ (by omega) (by omega) HH.r.read (HR.n.u.up (under hB)) uk ⟨fun h=>⟨rfl,HUk.1 h⟩,fun h=>HUk.2 h.2⟩).mono ?_
  rintro e w3 ⟨rfl,hSm⟩
  have B9:=under (next hB (hSm.below _))
  clear hSm c10 c11 e0 e1 hB HH
  rw [HE.out]
  go_wp2_with fail
  go_ret
  exact ⟨rfl,B9⟩
 have hlo':(iM S.K S.nK == S.N.lo)=false:=by simp [hlo]
 have HF:Hid (ok=false):=by
  rw [Hid,Bool.eq_false_iff]
  intro e
  exact hlo (HO.1 e).1.symm
 have B9:=under hB
 have Hlo:=aa hlo
 clear hlo
 go_wp2_with fail
 go_ret
 exact ⟨iv (by first | exact HF.symm | (rw [HF.out];simp;exact Hlo)),B9⟩
theorem Cnt.Ok.cfg {C:Cfg} {N:Cnt} (h:Cnt.Ok C N):(2≤C.p∧C.p≤4)∧(N.nU:Int)=C.p:=by
 have h1:=h.c
 have h2:=h.nU
 exact ⟨by have:=h1.num.p;omega,by omega⟩
theorem nB (S:Swg) (w:World) (hs:S.Small) (hr:lr w S) (ok:Bool) (hok:ok=true↔S.Ok) :
  Calls Tryz.prog 9 #[.agg S.cells] w fun e w'=>e=.returned (.bool ok)∧Below w.heap.size w w':=by
 have HO:=aa hok
 have HR:=aa hr
 have HS:=aa hs
 obtain ⟨W,eW⟩:∃ W,w.alloc (.cells S.cells 34)=W:=⟨_,rfl⟩
 have hB:Below (w.heap.size+1) (w.alloc (.cells S.cells 34)) W:=by rw [eW];exact Below.refl _ _
 have HNB:Hid (∀ {wi wj:World},Below (w.heap.size+1) (w.alloc (.cells S.cells 34)) wi→Below wi.heap.size wi wj→Below (w.heap.size+1) (w.alloc (.cells S.cells 34)) wj):=fun h k=>next h k
 have HKB:Hid (∀ {wi:World},Below (w.heap.size+1) (w.alloc (.cells S.cells 34)) wi→wi.heap[w.heap.size]?=some (.cells S.cells 34 (0,0))):=fun h=>iZ h
 have HUB:Hid (∀ {wi:World},Below (w.heap.size+1) (w.alloc (.cells S.cells 34)) wi→Below w.heap.size w wi):=fun h=>under h
 have hb0:=HUB hB
 have kS:=HKB hB
 have c0:W.cell? ⟨w.heap.size,0,none⟩=some (.int .i64 S.C.p):=ie kS 0
 have c1:W.cell? ⟨w.heap.size,1,none⟩=some (.int .i64 S.C.c):=ie kS 1
 have c2:W.cell? ⟨w.heap.size,2,none⟩=some (.int .i64 S.C.xo):=ie kS 2
 have c3:W.cell? ⟨w.heap.size,3,none⟩=some (.int .i64 S.C.xn):=ie kS 3
 have c4:W.cell? ⟨w.heap.size,4,none⟩=some (.int .i64 S.C.hd):=ie kS 4
 have c5:W.cell? ⟨w.heap.size,5,none⟩=some (.int .i64 S.C.lo):=ie kS 5
 have c6:W.cell? ⟨w.heap.size,6,none⟩=some (.int .i64 S.C.dl):=ie kS 6
 have c10:W.cell? ⟨w.heap.size,10,none⟩=some (.slice S.N.aU S.N.nU S.N.cU):=ie kS 10
 have c11:W.cell? ⟨w.heap.size,11,none⟩=some (.int .i64 S.N.lo):=ie kS 11
 have c12:W.cell? ⟨w.heap.size,12,none⟩=some (.slice S.N.aP S.N.nP S.N.cP):=ie kS 12
 clear hok hr hs kS
 obtain ⟨b0,h0⟩:=ju (Cnt.Ok S.C S.N)
 have G0:=aa h0
 clear h0
 obtain ⟨b1,h1⟩:=ju (S.Fl)
 have G1:=aa h1
 clear h1
 obtain ⟨b2,h2⟩:=ju (S.seen)
 have G2:=aa h2
 clear h2
 obtain ⟨b3,h3⟩:=ju (lQ S.nx S.C.p S.nK S.K)
 have G3:=aa h3
 clear h3
 obtain ⟨b4,h4⟩:=ju (S.Bs)
 have G4:=aa h4
 clear h4
 obtain ⟨b5,h5⟩:=ju (S.C9)
 have G5:=aa h5
 clear h5
 obtain ⟨b6,h6⟩:=ju (S.Dx)
 have G6:=aa h6
 clear h6
 have HB0:=aa hB
 clear hB
 go_enter Tryz.func9,Tryz.ntmps9
 go_wp2_with fail
 clear c0 c1 c2 c3 c4 c5 c6 c10 c11 c12 eW
 refine (ma S.C S.N _ HS.n.fit (HR.n.up hb0) b0 G0.out).mono ?_
 rintro e w1 ⟨rfl,hb⟩
 have HB1:=aa (HNB HB0 hb)
 clear hb hb0 HB0
 cases b0
 ·
  have HF:Hid (ok=false):=by
   rw [Hid,Bool.eq_false_iff]
   intro e
   exact absurd (G0.out.2 (HO.1 e).n) (by simp)
  have B9:=HUB HB1.out
  exact bx
 have P0:Hid (Cnt.Ok S.C S.N):=G0.out.1 rfl
 have hk0:=HKB HB1.out
 have HK0:=aa hk0
 clear hk0 G0
 go_wp2_with (refine kD (.tmp 1) rfl (by kernel_rfl) w.heap.size rfl S HK0.out ?_)
 clear HK0
 refine (wY S _ b1 G1.out).mono ?_
 rintro e w2 ⟨rfl,hb⟩
 have HB2:=aa (HNB HB1 hb)
 clear hb HB1
 cases b1
 ·
  have HF:Hid (ok=false):=by
   rw [Hid,Bool.eq_false_iff]
   intro e
   exact absurd (G1.out.2 (HO.1 e).nums) (by simp)
  have B9:=HUB HB2.out
  exact bx
 have P1:Hid (S.Fl):=G1.out.1 rfl
 have hk1:=HKB HB2.out
 have HK1:=aa hk1
 clear hk1 G1
 go_wp2_with (refine kD (.tmp 1) rfl (by kernel_rfl) w.heap.size rfl S HK1.out ?_)
 clear HK1
 refine (BV S _ HS.e (HR.e.up (HUB HB2)) (by have:=P0.out.cfg;omega) (by have:=P0.out.cfg;omega) b2 G2.out).mono ?_
 rintro e w3 ⟨rfl,hb⟩
 have HB3:=aa (HNB HB2 hb)
 clear hb HB2
 cases b2
 ·
  have HF:Hid (ok=false):=by
   rw [Hid,Bool.eq_false_iff]
   intro e
   exact absurd (G2.out.2 (HO.1 e).seen) (by simp)
  have B9:=HUB HB3.out
  exact bx
 have P2:Hid (S.seen):=G2.out.1 rfl
 have hk2:=HKB HB3.out
 have HK2:=aa hk2
 clear hk2 G2
 go_wp2_with (refine kD (.tmp 1) rfl (by kernel_rfl) w.heap.size rfl S HK2.out ?_)
 clear HK2
 refine (wX S _ HS (HR.k.up (HUB HB3)) (by have:=P0.out.cfg;omega) (by have:=P0.out.cfg;omega) P1.out.nx.1 P1.out.nx.2 b3 G3.out).mono ?_
 rintro e w4 ⟨rfl,hb⟩
 have HB4:=aa (HNB HB3 hb)
 clear hb HB3
 cases b3
 ·
  have HF:Hid (ok=false):=by
   rw [Hid,Bool.eq_false_iff]
   intro e
   exact absurd (G3.out.2 (HO.1 e).k) (by simp)
  have B9:=HUB HB4.out
  exact bx
 have P3:Hid (lQ S.nx S.C.p S.nK S.K):=G3.out.1 rfl
 have hk3:=HKB HB4.out
 have HK3:=aa hk3
 clear hk3 G3
 go_wp2_with (refine kD (.tmp 1) rfl (by kernel_rfl) w.heap.size rfl S HK3.out ?_)
 clear HK3
 refine (Ag S _ HS (HR.up (HUB HB4)) P3.out b4 G4.out).mono ?_
 rintro e w5 ⟨rfl,hb⟩
 have HB5:=aa (HNB HB4 hb)
 clear hb HB4
 cases b4
 ·
  have HF:Hid (ok=false):=by
   rw [Hid,Bool.eq_false_iff]
   intro e
   exact absurd (G4.out.2 ⟨(HO.1 e).nl,(HO.1 e).l⟩) (by simp)
  have B9:=HUB HB5.out
  exact bx
 have P4:Hid (S.Bs):=G4.out.1 rfl
 have hk4:=HKB HB5.out
 have HK4:=aa hk4
 clear hk4 G4
 go_wp2_with (refine kD (.tmp 1) rfl (by kernel_rfl) w.heap.size rfl S HK4.out ?_)
 clear HK4
 refine (BW S _ HS (HR.up (HUB HB5)) P3.out P4.out.2 (by have:=P0.out.cfg;have:=P4.out.1;omega) P1.out.nx.2 b5 G5.out).mono ?_
 rintro e w6 ⟨rfl,hb⟩
 have HB6:=aa (HNB HB5 hb)
 clear hb HB5
 cases b5
 ·
  have HF:Hid (ok=false):=by
   rw [Hid,Bool.eq_false_iff]
   intro e
   exact absurd (G5.out.2 (HO.1 e).refs) (by simp)
  have B9:=HUB HB6.out
  exact bx
 have P5:Hid (S.C9):=G5.out.1 rfl
 have hk5:=HKB HB6.out
 have HK5:=aa hk5
 clear hk5 G5
 go_wp2_with (refine kD (.tmp 1) rfl (by kernel_rfl) w.heap.size rfl S HK5.out ?_)
 clear HK5
 refine (BZ S _ HS (HR.up (HUB HB6)) P3.out P0.out.cfg.2 (by have:=P0.out.cfg;omega) (by have:=P0.out.cfg;omega) b6 G6.out).mono ?_
 rintro e w7 ⟨rfl,hb⟩
 have HB7:=aa (HNB HB6 hb)
 clear hb HB6
 have HE:Hid (b6=ok):=by
  rw [Hid,Bool.eq_iff_iff,HO.out,G6.out]
  exact ⟨fun h=>⟨P0.out,P1.out,P2.out,P3.out,P4.out.1,P4.out.2,P5.out,h⟩,fun h=>h.held⟩
 have B9:=HUB HB7.out
 rw [HE.out]
 go_wp2_with fail
 go_ret
 exact ⟨rfl,B9⟩
theorem oy (S:Swg) (id:Int) (w:World) (hn:S.nK≤1048576) (hr:pI w S.aK S.nK S.K) (j:Nat) (hj:j<S.nK) (hid:(S.K j).id=id) (hno:∀ i,i<j→(S.K i).id≠id) :
  Calls Tryz.prog 95 #[.agg S.cells,.int .i64 id] w fun e w'=>e=.returned (.int .i64 (j:Int))∧Below w.heap.size w w':=by
 have HR:=aa hr
 have HN:=aa hno
 have HI:=aa hid
 have hB:Below (w.heap.size+1) (w.alloc (.cells S.cells 34)) (w.alloc (.cells S.cells 34)):=Below.refl _ _
 clear hr hno hid
 go_enter Tryz.func95,Tryz.ntmps95
 go_wp2_with fail
 go_loop [5] (fun x=>∃ k:Nat,k≤j∧x=.int .i64 k) (fun x=>j+1-(intOf x).toNat)
 case atStart=>exact ⟨0,Nat.zero_le _,rfl⟩
 obtain ⟨k,hk,rfl⟩:=hrel
 have hlt:(k:Int)<S.nK:=by omega
 obtain ⟨g,o,ea,hc⟩:=(HR.up (under hB)) k (by omega)
 have c13:(w.alloc (.cells S.cells 34)).cell? ⟨w.heap.size,13,none⟩=some (.slice (some ⟨g,o,none⟩) S.nK S.cK):=(boxed hB 13).trans (by rw [←ea];rfl)
 have c0:(w.alloc (.cells S.cells 34)).cell? ⟨g,o+k*8,none⟩=some (.int .i64 (S.K k).id):=hc 0 (by omega)
 clear hc ea
 by_cases e:k=j
 ·
  subst e
  have he:((S.K k).id == id)=true:=by simp [HI.out]
  have he2:(S.K k).id=id:=HI.out
  exact bo
 exact bH
theorem sD (S:Swg) (id:Int) (w:World) (hn:S.nK≤1048576) (hr:pI w S.aK S.nK S.K) (hno:∀ i,i<S.nK→(S.K i).id≠id) :
  Calls Tryz.prog 95 #[.agg S.cells,.int .i64 id] w fun e w'=>e=.returned (.int .i64 (-1))∧Below w.heap.size w w':=by
 have HR:=aa hr
 have HN:=aa hno
 have hB:Below (w.heap.size+1) (w.alloc (.cells S.cells 34)) (w.alloc (.cells S.cells 34)):=Below.refl _ _
 clear hr hno
 go_enter Tryz.func95,Tryz.ntmps95
 go_wp2_with fail
 go_loop [5] (fun x=>∃ k:Nat,k≤S.nK∧x=.int .i64 k) (fun x=>S.nK-(intOf x).toNat)
 case atStart=>exact ⟨0,Nat.zero_le _,rfl⟩
 obtain ⟨k,hk,rfl⟩:=hrel
 by_cases hlt:k<S.nK
 ·
  have hlt':(k:Int)<S.nK:=by omega
  obtain ⟨g,o,ea,hc⟩:=(HR.up (under hB)) k (by omega)
  have c13:(w.alloc (.cells S.cells 34)).cell? ⟨w.heap.size,13,none⟩=some (.slice (some ⟨g,o,none⟩) S.nK S.cK):=(boxed hB 13).trans (by rw [←ea];rfl)
  have c0:(w.alloc (.cells S.cells 34)).cell? ⟨g,o+k*8,none⟩=some (.int .i64 (S.K k).id):=hc 0 (by omega)
  clear hc ea
  exact bH
 obtain rfl:k=S.nK:=by omega
 have hge:¬ ((S.nK:Nat):Int)<((S.nK:Nat):Int):=by omega
 have c13:(w.alloc (.cells S.cells 34)).cell? ⟨w.heap.size,13,none⟩=some (.slice S.aK S.nK S.cK):=boxed hB 13
 exact bo
theorem wT (a:Option Addr) (n c:Nat) (z:Nat→Int) (x:Int) (w:World) (hn:n≤1048576) (hr:iP w a n fun i=>.int .i64 (z i)) (ok:Bool) (hok:ok=true↔∃ i,i<n∧z i=x) :
  Calls Tryz.prog 57 #[.slice a n c,.int .i64 x] w fun e w'=>e=.returned (.bool ok)∧w'=w:=by
 have HR:=aa hr
 have HO:=aa hok
 clear hr hok
 go_enter Tryz.func57,Tryz.ntmps57
 go_wp2_with fail
 go_loop [5] (fun y=>∃ k:Nat,k≤n∧y=.int .i64 k∧∀ i,i<k→z i≠x) (fun y=>n-(intOf y).toNat)
 case atStart=>exact ⟨0,Nat.zero_le _,rfl,fun i hi=>by omega⟩
 obtain ⟨k,hk,rfl,hall⟩:=hrel
 have HA:=aa hall
 clear hall
 by_cases hlt:k<n
 ·
  have hlt':(k:Int)<n:=by omega
  obtain ⟨g,o,rfl,c0⟩:=HR k hlt
  dsimp only at c0
  by_cases e:z k=x
  ·
   have he:(z k == x)=true:=by simp [e]
   have HT:Hid (ok=true):=HO.2 ⟨k,hlt,e⟩
   have He:=aa e
   clear e
   go_wp2_with fail
   go_ret
   exact ⟨iv HT.symm,rfl⟩
  have he:(z k == x)=false:=by simp [e]
  have He:=aa e
  clear e
  go_wp2_with fail
  go_round
  case rel=>exact ⟨k+1,by omega,by go_num,fun i hi=>by
   by_cases e:i=k
   ·
    subst e;exact He.out
   ·
    exact HA i (by omega)⟩
  case measure=>simp [intOf];omega
 obtain rfl:k=n:=by omega
 have hge:¬ ((k:Nat):Int)<((k:Nat):Int):=by omega
 have HF:Hid (ok=false):=by
  rw [Hid,Bool.eq_false_iff]
  intro e
  obtain ⟨i,hi,e2⟩:=HO.1 e
  exact HA i hi e2
 go_wp2_with fail
 go_ret
 exact ⟨iv HF.symm,rfl⟩
