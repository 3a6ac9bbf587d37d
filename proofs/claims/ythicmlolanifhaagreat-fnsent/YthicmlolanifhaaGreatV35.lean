import Derived.Test.YthicmlolanifhaaGreatV31
import Derived.Test.YthicmlolanifhaaGreatV34
import Derived.Lib.SmallJoins
namespace Go.Proofs.YthicmlolanifhaaGreat
set_option maxRecDepth 100000
set_option maxHeartbeats 9000000
open Go.RowKit
set_option linter.unusedVariables false
set_option linter.unusedSimpArgs false
variable {cs:Array Value} {A B:Cnt} {fs:List Pkt} {xs:List Value} {l:Lng} {base c0 g i m n n0:Nat} {c:Nat→Array Value} {F:Nat→Pkt} {a a0:Option Addr} {p:Prop} {t:TypeId} {v:Value} {W w w' w2:World}
theorem Io (h:p:=by
 refine ah (hK _ _) ?_
 clear hK K
 refine qg (by kernel_rfl) ?_ _
 obtain ⟨S1,eS⟩:∃ S1,({ S with N:=M }:Swg)=S1:=⟨_,rfl⟩
 replace hP:Put X2 X3 g S1.cells 34:=hP.cast (by rw [←eS];rfl)
 have hgs:g<w.heap.size:=iw HK.1
 have hT3:Touch [g] w X3:=(Touch.ji HB2.out).trans hP.to
 have k13:X3.cell? (Hh g 13)=some (.slice (some (Hh gk o)) S.nK S.cK):=by rw [←eK];exact (iv hP.blk 13).trans (by rw [←eS];rfl)
 have hpx:X3.heap[w.heap.size]?=some (.cells x.cells 50 (0,0)):=(hP.to.block _ (iw hT2.2) (by simp;omega)).trans hT2.2
 have hid0:X3.cell? (Hh w.heap.size 0)=some (.int .i64 x.id):=iv hpx 0
 have hrw:kd X3 gk o S.nK S.K:=HK.2.1.jR (hT3.block gk HK.2.1.lt (by simpa using fun e=>HK.2.2 e.symm))
 have HM3:Hid (jb X3 w.heap.size M∧iQ (lu S.N x.inn x.p (-x.cl)) M):=⟨⟨HM.1.u.low hP.to (fun y hy=>by simp at hy;omega),HM.1.p.low hP.to (fun y hy=>by simp at hy;omega)⟩,HM.2⟩
 have HS3:Hid (X3.heap[g]?=some (.cells S1.cells 34 (0,0))∧Touch [g] w X3∧kd X3 gk o S.nK S.K∧X3.cell? (Hh w.heap.size 0)=some (.int .i64 x.id)∧w.heap.size<X3.heap.size):=⟨hP.blk,hT3,hrw,hid0,iw hpx⟩
 clear hP hT3 hrw hid0 hpx hT2 HM
 go_wp2_with (first | (go_at_call 129;refine (xW gk o S.nK S.cK S.K w.heap.size x.id _ HJ.1 HJ.2.1 HS3.2.2.1 HS3.2.2.2.2 (by have:=HK.2.1.lt;omega) HS3.2.2.2.1 j HJ.2.2.1 HJ.2.2.2.1 HJ.2.2.2.2).mono ?_;rintro e X4 ⟨rfl,hr4,ht4⟩;have k4:X4.heap[g]?=some (.cells S1.cells 34 (0,0)):=(ht4.block g (iw HS3.1) (by simpa using HK.2.2)).trans HS3.1;have HX4:Hid (kd X4 gk o (S.nK-1) (rmK S.K j)∧Touch [gk] X3 X4):=⟨hr4,ht4⟩;clear hr4 ht4) | refine iA rfl 31 (.tmp 35) (.tmp 33) rfl g 13 rfl (.slice (some (Hh gk o)) (S.nK-1) S.cK) rfl 1 rfl 34 _ k4 Fi (Nat.le_of_ble_eq_true rfl) (by simp [Value.cells,Value.oneCell']) ?_)
 intro X5 hP5
 have hgk5:gk∉[g]:=by simpa using fun e=>HK.2.2 e.symm
 have e5:(S.less M j).aK=some (Hh gk o):=eK
 replace hP5:Put X4 X5 g (S.less M j).cells 34:=hP5.cast (by rw [←eS];unfold Swg.less Swg.cells;rw [eK];rfl)
 have HF:Hid (iQ (lu S.N x.inn x.p (-x.cl)) M∧jb X5 w.heap.size M∧X5.heap[g]?=some (.cells (S.less M j).cells 34 (0,0))∧kd X5 gk o (S.nK-1) (rmK S.K j)∧Touch [g,gk] w X5):=⟨HM3.2,⟨(HM3.1.u.low HX4.2 (fun y hy=>by have:=HK.2.1.lt;simp at hy;omega)).low hP5.to (fun y hy=>by simp at hy;omega),(HM3.1.p.low HX4.2 (fun y hy=>by have:=HK.2.1.lt;simp at hy;omega)).low hP5.to (fun y hy=>by simp at hy;omega)⟩,hP5.blk,HX4.1.jR (hP5.to.block gk HX4.1.lt hgk5),((HS3.2.1.mono (fun y hy=>by simp at hy;simp [hy])).trans (HX4.2.mono (fun y hy=>by simp at hy;simp [hy]))).trans (hP5.to.mono (fun y hy=>by simp at hy;simp [hy]))⟩
 clear hP5 k4 k13 eS e5
 go_wp2_with fail
 go_end0
 exact ⟨⟨_,rfl⟩,M,HF⟩):p:=h
theorem aG (h:p:=by
 exact ⟨h.e.iB ht (fun x hx=>far x _ (h.e.type x hx) (by decide)),h.u.iB ht (fun x hx=>far x _ (h.u.type x hx) (by decide)),h.p.iB ht (fun x hx=>far x _ (h.p.type x hx) (by decide)),h.k.iB ht (fun x hx=>far x _ (h.k.type x hx) (by decide)),h.l.iB ht (fun x hx=>far x _ (h.l.type x hx) (by decide)),fun i hi=>(h.ls i hi).As ht (fun x hx=>far x _ ((h.ls i hi).ty2 x hx) (by decide)) (fun x hx=>far x _ ((h.ls i hi).u.type x hx) (by decide)) (fun x hx=>far x _ ((h.ls i hi).s.type x hx) (by decide)),h.nd⟩):p:=h
theorem gH (h:p:=by
 clear hr hb3 HF
 go_wp2_with (at_builtin;refine Lib.wpList_append_run _ rfl _ _ _ _ rfl _ _ rfl rfl _ _ hr' ?_)
 go_roundw
 case rel=>exact ⟨k+1,_,_,by omega,by go_num,rfl,HX⟩
 case measure=>simp [intOf];omega):p:=h
theorem gO (h:p:=by
 have HK:=aa hP.blk
 have HB2:Hid (Below w.heap.size w X):=HX.bel.trans (hP.to.below HX.bel.size (fun x hx=>by simp at hx;omega))
 clear hP
 go_wp2_with fail
 rw [HF.1,HF.2.1,HF.2.2]
 exact bodyPost_ret (pH Tryz.results7 17 _ Tryz.underlying34 rfl iI _ _ (w.heap.size+1) lQ.cells rfl 34 HK.out rfl (.slice none 0 0) rfl (.bool false) rfl) rfl ⟨lQ,none,0,rfl,iE.refl _,(sq _ _).g,OG.nil _ _ _ _,HB2⟩):p:=h
theorem Ip (h:p:=by
 refine jd (rs:=[23]) (by kernel_rfl) (by simp) ?_
 refine iM.last rfl (fun K hK=>?_)
 refine jY (by kernel_rfl) none rfl 30 (.tmp 26) (.tmp 23) rfl g 10 rfl (.agg M.cells) rfl 3 rfl 34 _ hT2.1 Ch (Nat.le_of_ble_eq_true rfl) (by simp [Value.cells,Value.oneCell',Cnt.cells]) ?_
 intro X3 hP
 exact Io):p:=h
theorem gJ (h:p:=by
 exact ⟨by rw [←e];exact iy _ _,((Below.refl _ _).alloc (Nat.le_refl _) _).alloc (by omega) _⟩):p:=h
theorem Ch:(Tryz.prog.info? 30).map (·.size)=some 3:=by kernel_rfl
theorem Fi:(Tryz.prog.info? 31).map (·.size)=some 1:=by kernel_rfl
def Swg.less (S:Swg) (M:Cnt) (j:Nat):Swg:={ S with N:=M,nK:=S.nK-1,K:=rmK S.K j }
theorem BL (S:Swg) (x:Pkt) (g gk o j:Nat) (w:World) (kb:w.heap[g]?=some (.cells S.cells 34 (0,0))) (hf:S.N.Fit) (hN:mq w S.N) (hform:wm S.C S.N x.inn x.p x.cl) (hcn:Cnt.Ok S.C (lu S.N x.inn x.p (-x.cl))) (hcl:qa x.k x.d x.s x.p x.b.size=x.cl) (hbs:x.b.size≤maxLen)
  (eK:S.aK=some (Hh gk o)) (hn:S.nK≤1048576) (hnc:S.nK≤S.cK) (hrow:kd w gk o S.nK S.K) (hj:j<S.nK) (hid:(S.K j).id=x.id) (hne:∀ i,i<S.nK→i≠j→(S.K i).id≠x.id) (hg:g≠gk) :
  Calls Tryz.prog 95 #[.pointer (some (Hh g 0)),.agg x.cells] w fun e w'=>(∃ v,e=.returned v)∧∃ M,iQ (lu S.N x.inn x.p (-x.cl)) M∧jb w' w.heap.size M∧w'.heap[g]?=some (.cells (S.less M j).cells 34 (0,0))∧kd w' gk o (S.nK-1) (rmK S.K j)∧Touch [g,gk] w w':=by
 obtain ⟨V0,eV⟩:∃ V,w.alloc (.cells x.cells 50)=V:=⟨_,rfl⟩
 have HV:Hid (Below w.heap.size w V0∧V0.heap[w.heap.size]?=some (.cells x.cells 50 (0,0))∧V0.heap.size=w.heap.size+1):=by rw [Hid,←eV];exact ⟨(Below.refl _ _).alloc (Nat.le_refl _) _,iy _ _,by simp⟩
 have HK:Hid (w.heap[g]?=some (.cells S.cells 34 (0,0))∧kd w gk o S.nK S.K∧g≠gk):=⟨kb,hrow,hg⟩
 have HN:Hid (mq w S.N∧S.N.Fit∧wm S.C S.N x.inn x.p x.cl∧Cnt.Ok S.C (lu S.N x.inn x.p (-x.cl))):=⟨hN,hf,hform,hcn⟩
 have HJ:Hid (S.nK≤1048576∧S.nK≤S.cK∧j<S.nK∧(S.K j).id=x.id∧∀ i,i<S.nK→i≠j→(S.K i).id≠x.id):=⟨hn,hnc,hj,hid,hne⟩
 have HC:Hid (∀ wx:World,wx.heap[g]?=some (.cells S.cells 34 (0,0))→(wx.cell? (Hh g 0)=some (.int .i64 S.C.p)∧wx.cell? (Hh g 1)=some (.int .i64 S.C.c)∧wx.cell? (Hh g 2)=some (.int .i64 S.C.xo)∧wx.cell? (Hh g 3)=some (.int .i64 S.C.xn)∧wx.cell? (Hh g 4)=some (.int .i64 S.C.hd)∧wx.cell? (Hh g 5)=some (.int .i64 S.C.lo)∧wx.cell? (Hh g 6)=some (.int .i64 S.C.dl))∧wx.cell? (Hh g 10)=some (.slice S.N.aU S.N.nU S.N.cU)∧wx.cell? (Hh g 11)=some (.int .i64 S.N.lo)∧wx.cell? (Hh g 12)=some (.slice S.N.aP S.N.nP S.N.cP)) :=
  fun wx k=>⟨⟨iv k 0,iv k 1,iv k 2,iv k 3,iv k 4,iv k 5,iv k 6⟩,iv k 10,iv k 11,iv k 12⟩
 have HB:Hid (∀ wx:World,wx.heap[w.heap.size]?=some (.cells x.cells 50 (0,0))→wx.cell? (Hh w.heap.size 1)=some (.int .i64 x.inn)∧wx.cell? (Hh w.heap.size 3)=some (.int .i64 x.k)∧wx.cell? (Hh w.heap.size 4)=some (.int .i64 x.d)∧wx.cell? (Hh w.heap.size 5)=some (.int .i64 x.s)∧wx.cell? (Hh w.heap.size 6)=some (.int .i64 x.p)∧wx.cell? (Hh w.heap.size 7)=some (.string x.b)) :=
  fun wx k=>⟨iv k 1,iv k 3,iv k 4,iv k 5,iv k 6,iv k 7⟩
 clear kb hrow hg hN hf hform hcn hn hnc hj hid hne
 go_enter Tryz.func95,Tryz.ntmps95
 go_wp2_with fail
 try rw [eV]
 refine qc (fun w'=>w'.heap[g]?=some (.cells S.cells 34 (0,0))∧w'.heap[w.heap.size]?=some (.cells x.cells 50 (0,0))) 23 (by kernel_rfl) ?_
 have hd:Below V0.heap.size V0 V0.drew:=(Below.refl _ _).drew
 have HD:Hid (Below w.heap.size w V0.drew∧V0.drew.heap[w.heap.size]?=some (.cells x.cells 50 (0,0))):=⟨HV.1.trans (hd.mono HV.1.size),(hd.block _ (by rw [HV.2.2];omega)).trans HV.2.1⟩
 clear hd eV
 generalize V0.drew=V at *
 have hT0:V.heap[g]?=some (.cells S.cells 34 (0,0))∧V.heap[w.heap.size]?=some (.cells x.cells 50 (0,0)):=⟨(HD.1.block g (iw HK.1)).trans HK.1,HD.2⟩
 refine tG 0 5 hT0 ?_
 refine tG 1 6 hT0 ?_
 refine tG 2 7 hT0 ?_
 refine tG 3 8 hT0 ?_
 refine rp (i:=4) (some 9) (v:=?_) ?_ hT0 ?_
 rotate_left
 ·
  intro wx hSw
  obtain ⟨c0,c1,c2,c3,c4,c5,c6⟩:=(HC wx hSw.1).1
  exact dI
 try simp only [Act.put,PZ]
 refine tG 5 10 hT0 ?_
 refine tG 6 11 hT0 ?_
 refine tG 7 12 hT0 ?_
 refine rp (i:=8) (some 13) (v:=?_) ?_ hT0 ?_
 rotate_left
 ·
  intro wx hSw
  obtain ⟨c10,c11,c12⟩:=(HC wx hSw.1).2
  exact dI
 try simp only [Act.put,PZ]
 refine tG 9 14 hT0 ?_
 refine rp (i:=10) (some 15) (v:=?_) ?_ hT0 ?_
 rotate_left
 ·
  intro wx hSw
  have b1:=(HB wx hSw.2).1
  exact dI
 try simp only [Act.put,PZ]
 refine tG 11 16 hT0 ?_
 refine tG 12 17 hT0 ?_
 refine rp (i:=13) (some 18) (v:=?_) ?_ hT0 ?_
 rotate_left
 ·
  intro wx hSw
  have b6:=(HB wx hSw.2).2.2.2.2.1
  exact dI
 try simp only [Act.put,PZ]
 refine tG 14 19 hT0 ?_
 refine rp (i:=15) (some 20) (v:=?_) ?_ hT0 ?_
 rotate_left
 ·
  intro wx hSw
  obtain ⟨_,b3,b4,b5,b6,b7⟩:=HB wx hSw.2
  exact dI
 try simp only [Act.put,PZ]
 refine jd (rs:=[16]) (by kernel_rfl) (by simp) ?_
 refine iM.cons rfl (fun K hK=>?_) iM.nil
 go_simp
 refine (mY x.k x.d x.s x.p x.b _ hbs).mono ?_
 rintro e X1 ⟨rfl,hb⟩
 rw [hcl]
 have HB1:=aa (HD.1.trans (hb.mono HD.1.size))
 have hT1:X1.heap[g]?=some (.cells S.cells 34 (0,0))∧X1.heap[w.heap.size]?=some (.cells x.cells 50 (0,0)):=⟨(HB1.block g (iw HK.1)).trans HK.1,(hb.block _ (iw hT0.2)).trans hT0.2⟩
 clear hb hT0
 go_wp2_with fail
 refine hK _ _ hT1 ?_
 clear hK K
 try simp only [Act.put,PZ]
 refine jd (rs:=[17]) (by kernel_rfl) (by simp) ?_
 refine iM.cons rfl (fun K hK=>?_) iM.nil
 go_simp
 refine (vY S.C S.N x.inn x.p x.cl _ HN.2.1 (HN.1.up HB1) true ⟨fun _=>HN.2.2,fun _=>rfl⟩).mono ?_
 rintro e X2 ⟨M,rfl,hoM,hb,hAM⟩
 have HM:Hid (jb X2 w.heap.size M∧iQ (lu S.N x.inn x.p (-x.cl)) M):=⟨hoM.mono HB1.size,hAM⟩
 have HB2:=aa (HB1.trans (hb.mono HB1.size))
 have hT2:X2.heap[g]?=some (.cells S.cells 34 (0,0))∧X2.heap[w.heap.size]?=some (.cells x.cells 50 (0,0)):=⟨(HB2.block g (iw HK.1)).trans HK.1,(hb.block _ (iw hT1.2)).trans hT1.2⟩
 clear hb hT1 hoM hAM
 go_wp2_with fail
 refine hK _ _ hT2 ?_
 clear hK K
 try simp only [Act.put,PZ]
 refine tG 18 4 hT2 ?_
 refine tG 19 23 hT2 ?_
 refine jd (rs:=[20,21]) (by kernel_rfl) (by simp) ?_
 refine iM.cons rfl (fun K hK=>?_) (iM.cons rfl (fun K hK=>?_) iM.nil)
 ·
  go_simp
  refine hK _ _ hT2 ?_
  clear hK K
  try simp only [Act.put,PZ]
  refine jd (rs:=[21]) (by kernel_rfl) (by simp) ?_
  refine iM.cons rfl (fun K hK=>?_) iM.nil
  go_simp
  refine hK _ _ hT2 ?_
  clear hK K
  try simp only [Act.put,PZ]
  refine tG 22 26 hT2 ?_
  exact Ip
 go_simp
 refine hK _ _ hT2 ?_
 clear hK K
 try simp only [Act.put,PZ]
 refine tG 22 26 hT2 ?_
 refine jd (rs:=[20,23]) (by kernel_rfl) (by simp) ?_
 refine iM.cons rfl (fun K hK=>?_) (iM.last rfl (fun K hK=>?_))
 ·
  go_simp
  refine hK _ _ hT2 ?_
  clear hK K
  try simp only [Act.put,PZ]
  exact Ip
 refine jY (by kernel_rfl) none rfl 30 (.tmp 26) (.tmp 23) rfl g 10 rfl (.agg M.cells) rfl 3 rfl 34 _ hT2.1 Ch (Nat.le_of_ble_eq_true rfl) (by simp [Value.cells,Value.oneCell',Cnt.cells]) ?_
 intro X3 hP
 refine ah (hK _ _) ?_
 clear hK K
 refine jd (rs:=[20]) (by kernel_rfl) (by simp) ?_
 refine iM.late rfl (by kernel_rfl) (fun K hK=>?_)
 go_simp
 exact Io
theorem jK.GJ {gk n':Nat} {S:Swg} {M:Cnt} {K':Nat→Pkt} (h:jK w base S) {arr:Array Value} (kk:w.heap[gk]?=some (.cells arr 50 (0,0))) (kg:w.heap[g]?=some (.cells cs 34 (0,0))) (eK:S.aK=some (Hh gk 0)) (hb:base≤gk) (ht:Touch [g,gk] w w') (hr:kd w' gk 0 n' K') (hM:jb w' w.heap.size M):jK w' base { S with N:=M,nK:=n',K:=K' }:=by
 have hlt:=iw kk
 have far:∀ x t,(∃ cs,w.heap[x]?=some (.cells cs t (0,0)))→t≠50→t≠34→x∉[g,gk]:=by
  rintro x t ⟨cs,hx⟩ hne hne2 hy
  rcases List.mem_cons.1 hy with e | hy
  ·
   exact jN hx kg hne2 e
  exact jN hx kk hne (by simpa using hy)
 refine ⟨h.e.iB ht (fun x hx=>far x _ (h.e.type x hx) (by decide) (by decide)),hM.u.mono (by omega),hM.p.mono (by omega),?_,h.l.iB ht (fun x hx=>far x _ (h.l.type x hx) (by decide) (by decide)),fun i hi=>(h.ls i hi).As ht (fun x hx=>far x _ ((h.ls i hi).ty2 x hx) (by decide) (by decide)) (fun x hx=>far x _ ((h.ls i hi).u.type x hx) (by decide) (by decide)) (fun x hx=>far x _ ((h.ls i hi).s.type x hx) (by decide) (by decide)),?_⟩
 ·
  show VT 50 w' base S.aK (n'*8) (uq K')
  rw [eK]
  obtain ⟨arr',k1,k2,k3⟩:=hr
  refine .inr ⟨gk,rfl,hb,arr',k1,by omega,fun q hq=>?_⟩
  have:=k3 (q / 8) (by omega) (q % 8) (by omega)
  rw [show 0+q / 8*8+q % 8=q by omega,←mZ K' (q / 8) (q % 8) (by omega),show q / 8*8+q % 8=q by omega] at this
  exact this
 refine List.nodup_append.2 ⟨uV _ _,(List.nodup_append.1 h.nd).2.1,fun x hx y hy e=>?_⟩
 subst e
 have h1:=(hM.u.blk x hx).1
 simp only [List.mem_flatMap,List.mem_range] at hy
 obtain ⟨i,hi,hy⟩:=hy
 have:=((h.ls i hi).blk x hy).2
 omega
theorem Bo (K:Nat→Pkt) (j:Nat):rmK (jM K j) j=rmK K j:=by
 funext i
 unfold rmK jM
 by_cases h:i<j
 ·
  rw [if_pos h,if_pos h,if_neg (by omega)]
 rw [if_neg h,if_neg h,if_neg (by omega)]
theorem CG {x:Pkt} (h:x.pF):qa x.k x.d x.s x.p x.b.size=x.cl:=by
 unfold qa
 rw [h.2]
 rfl
theorem CD (K:Nat→Pkt) (j i:Nat):(jM K j i).id=(K i).id:=by
 unfold jM
 split <;> rfl
theorem vo (S:Swg) (l':Lng) (id:Int) (i j g base:Nat) (w:World) (kb:w.heap[g]?=some (.cells S.cells 34 (0,0))) (hbg:base≤g) (ho:iP w base S) (hi:i<S.nL) (hl:ni S.nK S.K (S.L i)) (hk:lC S.nx S.C.p S.nK S.K) (hm:pO (S.L i) l' id) (h0:id≠0) (hj:j<S.nK) (hid:(S.K j).id=id) (hr:(S.K j).refs=1) (hf:S.N.Fit) (hcap:S.nK≤S.cK) (hform:wm S.C S.N (S.K j).inn (S.K j).p (S.K j).cl) (hcn:Cnt.Ok S.C (lu S.N (S.K j).inn (S.K j).p (-(S.K j).cl))) (hfr:(S.K j).pF) :
  Calls Tryz.prog 59 #[.pointer (some (Hh g 0)),.int .i64 (i:Int)] w fun e w'=>∃ gm,e=.returned (.slice (some (Hh gm 0)) 1 1)∧w.heap.size≤gm∧w'.heap[gm]?=some (.cells #[.iface 150 (.agg (S.K j).frame)] 99 (0,0))∧∃ l2 M,iT l' l2∧iQ (lu S.N (S.K j).inn (S.K j).p (-(S.K j).cl)) M∧jK w' base { S.lane i l2 with N:=M,nK:=S.nK-1,K:=rmK S.K j }∧w'.heap[g]?=some (.cells (S.less M j).cells 34 (0,0))∧qw base w w':=by
 obtain ⟨gL,eL,hbL,hT⟩:=ho.next kb hi hl hm h0
 have HT:=aa hT
 have c14:w.cell? (Hh g 14)=some (.slice (some (Hh gL 0)) S.nL S.cL):=by rw [←eL];exact iv kb 14
 have hi1:(i:Int)<(S.nL:Int):=by omega
 have hi0:(0:Int)≤(i:Int):=by omega
 have HJ:Hid (j<S.nK∧(S.K j).id=id∧S.nK≤1048576∧∀ i,i<S.nK→0<i→(S.K (i-1)).id<(S.K i).id):=⟨hj,hid,by have:=hk.le;omega,hk.up⟩
 have HQ:Hid (S.N.Fit∧S.nK≤S.cK∧wm S.C S.N (S.K j).inn (S.K j).p (S.K j).cl∧Cnt.Ok S.C (lu S.N (S.K j).inn (S.K j).p (-(S.K j).cl))∧(S.K j).pF∧(∀ i,i<S.nK→i≠j→(S.K i).id≠(S.K j).id)∧base≤g):=⟨hf,hcap,hform,hcn,hfr,hk.only hj,hbg⟩
 have hw1:IntKind.i64.wrap ((S.K j).refs-1)=0:=by rw [hr];rfl
 clear kb ho hl hk hm hT hj hid h0 eL hf hcap hform hcn hfr hbg
 go_enter Tryz.func59,Tryz.ntmps59
 go_wp2_with fail
 refine HT.mono ?_
 rintro e w1 ⟨rfl,l2,hA,hO,hg1,hto⟩
 have HF1:Hid (iT l' l2∧jK w1 base (S.lane i l2)∧w1.heap[g]?=some (.cells S.cells 34 (0,0))∧qw base w w1):=⟨hA,hO,hg1,hto⟩
 obtain ⟨gk,eK,hbk,hrow⟩:=hO.F1 (j:=j) HJ.1
 have eK':S.aK=some (Hh gk 0):=eK
 have c13:w1.cell? (Hh g 13)=some (.slice (some (Hh gk 0)) S.nK S.cK):=by rw [←eK'];exact iv HF1.2.2.1 13
 have HP1:Hid (kd w1 gk 0 S.nK S.K∧base≤gk∧S.aK=some (Hh gk 0)):=⟨hrow,hbk,eK'⟩
 clear hA hO hg1 hto eK eK' hbk hrow c14
 go_wp2_with fail
 refine (mW gk 0 S.nK S.cK S.K id _ HJ.2.2.1 HP1.1.rd HJ.2.2.2 j HJ.1 HJ.2.1).mono ?_
 rintro e w2 ⟨rfl,hb⟩
 obtain ⟨arr,a1,a2,a3⟩:=HP1.1
 have b1:w2.heap[gk]?=some (.cells arr 50 (0,0)):=(hb.block gk (iw a1)).trans a1
 have HA:Hid (w2.heap[gk]?=some (.cells arr 50 (0,0))∧0+S.nK*8≤arr.size∧(∀ i,i<S.nK→∀ q,q<8→arr[0+i*8+q]?=(S.K i).cells[q]?)∧Below w1.heap.size w1 w2):=⟨b1,a2,a3,hb⟩
 have hjn:=HJ.1
 have c2:w2.cell? (Hh gk (0+j*8+2))=some (.int .i64 (S.K j).refs):=(iv b1 _).trans (a3 j hjn 2 (by omega))
 clear a1 a2 a3 hb c13 b1
 simp only [Nat.zero_add] at c2 ⊢
 go_wp2_with (refine iA rfl 2 (.tmp 33) (.tmp 31) rfl gk (j*8+2) rfl (.int .i64 0) rfl 1 rfl 50 arr HA.1 (by kernel_rfl) (by have:=HA.2.1;omega) (by simp [Value.cells,Value.oneCell']) ?_)
 intro W hP
 have hrowW:kd W gk 0 S.nK (jM S.K j):=kd.dec hjn HA.2.1 HA.2.2.1 (by rw [hr];simpa using hP)
 have HW:Hid (kd W gk 0 S.nK (jM S.K j)∧Touch [gk] w2 W∧W.heap.size=w2.heap.size):=⟨hrowW,hP.to,hP.size⟩
 obtain ⟨ar2,d1,d2,d3⟩:=hrowW
 have hdj:jM S.K j j={ S.K j with refs:=0 }:=by unfold jM;rw [if_pos rfl,hr];rfl
 have HL:Hid (∀ q,q<5→W.cell? (Hh gk (j*8+3+q))=(S.K j).frame[q]?):=fun q hq=>by
  have:=(iv d1 (j*8+3+q)).trans ((by rw [show j*8+3+q=0+j*8+(3+q) by omega];exact d3 j hjn (3+q) (by omega)):_=(jM S.K j j).cells[3+q]?)
  rw [this,hdj]
  have:q=0∨q=1∨q=2∨q=3∨q=4:=by omega
  rcases this with rfl | rfl | rfl | rfl | rfl <;> rfl
 obtain ⟨V,eV⟩:∃ V,W.alloc (.cells (S.K j).frame 150)=V:=⟨_,rfl⟩
 have HV:Hid (Below W.heap.size W V∧V.heap[W.heap.size]?=some (.cells (S.K j).frame 150 (0,0))∧V.heap.size=W.heap.size+1∧kd V gk 0 S.nK (jM S.K j)):=by
  rw [Hid,←eV]
  have hbb:Below W.heap.size W (W.alloc (.cells (S.K j).frame 150)):=(Below.refl _ _).alloc (Nat.le_refl _) _
  exact ⟨hbb,iy _ _,by simp,HW.1.jR (hbb.block gk (iw d1))⟩
 have c2V:V.cell? (Hh gk (j*8+2))=some (.int .i64 0):=(iv ((HV.1.block gk (iw d1)).trans d1) _).trans (by have:=d3 j hjn 2 (by omega);rw [Nat.zero_add,hdj] at this;exact this)
 have HLV:Hid (∀ q,q<8→V.cell? (Hh gk (j*8+q))=({ S.K j with refs:=0 }:Pkt).cells[q]?):=fun q hq=>by
  have:=(iv ((HV.1.block gk (iw d1)).trans d1) (j*8+q)).trans ((by rw [show j*8+q=0+j*8+q by omega];exact d3 j hjn q hq):_=(jM S.K j j).cells[q]?)
  rw [hdj] at this
  exact this
 clear hP d1 d2 d3 c2 hdj
 go_wp2_with (first | refine iC rfl 43 5 _ Tryz.underlying43 rfl pD (.tmp 36) rfl gk (j*8+3) rfl #[.int .i64 (S.K j).k,.int .i64 (S.K j).d,.int .i64 (S.K j).s,.int .i64 (S.K j).p,.string (S.K j).b] rfl HL.out ?_ | refine jl 150 5 (by kernel_rfl) rfl (.tmp 8) (.tmp 38) rfl (S.K j).frame _ rfl rfl rfl rfl rfl (by simp [Pkt.frame,Value.oneCell']) (eV▸?_) | refine iC rfl 50 8 _ Tryz.underlying50 rfl (by kernel_rfl) (.tmp 46) rfl gk (j*8) rfl ({ S.K j with refs:=0 }:Pkt).cells rfl HLV.out ?_)
 have hlk:=iw HA.1
 have hlg:=iw HF1.2.2.1
 have z2:=HA.2.2.2.size
 have zW:=HW.2.2
 have zV:=HV.2.2.1
 have hO2:=HF1.2.1.up HA.2.2.2
 have hO3:jK W base { S.lane i l2 with nK:=S.nK,K:=jM S.K j }:=hO2.GY HA.1 HP1.2.2 HP1.2.1 HW.2.1 HW.1
 have HOV:=aa (hO3.up HV.1)
 have kg2:=(HA.2.2.2.block g hlg).trans HF1.2.2.1
 have hgk:g∉[gk]:=fun h=>jN kg2 HA.1 (by decide) (by simpa using h)
 have hgk1:g≠gk:=fun e=>hgk (by simp [e])
 have kgW:=(HW.2.1.block g (iw kg2) hgk).trans kg2
 have HGV:=aa ((HV.1.block g (iw kgW)).trans kgW)
 have h1:=HF1.2.2.2.bel.size
 have hgk2:=HP1.2.1
 have s1:qw base w1 w2:=.up HA.2.2.2 (by have:=HP1.1.lt;omega)
 have s2:qw base w2 W:=.to HW.2.1 (by omega) (fun x hx=>by
  obtain rfl:x=gk:=by simpa using hx
  exact ⟨hgk2,_,_,HA.1,by decide⟩)
 have s3:qw base W V:=.up HV.1 (by omega)
 have HSV:Hid (qw base w V∧base≤V.heap.size∧w.heap.size≤V.heap.size):=⟨(HF1.2.2.2.trans s1).trans (s2.trans s3),by omega,by omega⟩
 clear hO2 hO3 kg2 hgk kgW s1 s2 s3 hlk hlg
 refine (BL { S with K:=jM S.K j } ({ S.K j with refs:=0 }:Pkt) g gk 0 j V HGV HQ.1 (show mq V S.N from ⟨HOV.u.read,HOV.p.read⟩) HQ.2.2.1 HQ.2.2.2.1 (CG HQ.2.2.2.2.1) (by have:=HQ.2.2.2.2.1.le;unfold maxLen;show (S.K j).b.size≤_;omega) HP1.2.2 HJ.2.2.1 HQ.2.1 HV.2.2.2 hjn (CD S.K j j) (fun a ha hne=>by show (jM S.K j a).id≠(S.K j).id;rw [CD];exact HQ.2.2.2.2.2.1 a ha hne) hgk1).mono ?_
 rintro e X ⟨⟨v,rfl⟩,M,hM,hOM,hgX,hrX,htX⟩
 have hrX':kd X gk 0 (S.nK-1) (rmK S.K j):=by
  have:=hrX
  simp only [Bo] at this
  exact this
 obtain ⟨av,av1,_⟩:=HV.2.2.2
 have hOX:jK X base { S.lane i l2 with N:=M,nK:=S.nK-1,K:=rmK S.K j }:=HOV.GJ av1 HGV HP1.2.2 hgk2 htX hrX' hOM
 have hgX':X.heap[g]?=some (.cells (S.less M j).cells 34 (0,0)):=hgX
 have sX:qw base V X:=.to htX HSV.2.1 (fun x hx=>by
  rcases List.mem_cons.1 hx with e | hx
  ·
   subst e;exact ⟨HQ.2.2.2.2.2.2,_,_,HGV.out,by decide⟩
  ·
   obtain rfl:x=gk:=by simpa using hx
   exact ⟨hgk2,_,_,av1,by decide⟩)
 have kX:X.heap[W.heap.size]?=some (.cells (S.K j).frame 150 (0,0)):=(htX.block _ (by omega) (fun hx=>by
  rcases List.mem_cons.1 hx with e | hx
  ·
   exact jN HGV HV.2.1 (by decide) e.symm
  ·
   exact jN av1 HV.2.1 (by decide) (by simpa using hx:W.heap.size=gk).symm)).trans HV.2.1
 have HB:Hid (∀ q,q<5→X.cell? (Hh W.heap.size (0+q))=(S.K j).frame[q]?):=fun q _=>by rw [Nat.zero_add];exact iv kX q
 have HX:Hid (iQ (lu S.N (S.K j).inn (S.K j).p (-(S.K j).cl)) M∧jK X base { S.lane i l2 with N:=M,nK:=S.nK-1,K:=rmK S.K j }∧X.heap[g]?=some (.cells (S.less M j).cells 34 (0,0))∧qw base V X∧V.heap.size≤X.heap.size):=⟨hM,hOX,hgX',sX,htX.size⟩
 clear hM hOM hgX hrX htX hrX' av1 hOX hgX' sX kX zW zV z2 h1
 go_wp2_with (refine iC rfl 150 5 _ Tryz.underlying150 rfl (by kernel_rfl) (.tmp 8) rfl W.heap.size 0 rfl (S.K j).frame rfl HB.out ?_)
 go_ret
 have z1:=HSV.2.2
 have z3:=HX.2.2.2.2
 have z4:=HSV.2.1
 refine ⟨X.heap.size,rfl,by omega,iy _ _,l2,M,HF1.1,HX.1,HX.2.1.up ((Below.refl _ _).alloc (Nat.le_refl _) _),(iN _ (iw HX.2.2.1)).trans HX.2.2.1,(HSV.1.trans HX.2.2.2.1).trans (.up ((Below.refl _ _).alloc (Nat.le_refl _) _) (by omega))⟩
def Gw (b:Bool):TypeId:=if b then 142 else 143
theorem De (S:Swg) (g gu gp i:Nat) (pa:Array Value) (w:World) (kb:w.heap[g]?=some (.cells S.cells 34 (0,0))) (eU:S.N.aU=some (Hh gu 0)) (eP:S.N.aP=some (Hh gp 0)) (hiU:i<S.N.nU) (hiP:i<S.N.nP) (hu:w.cell? (Hh gu i)=some (.int .i64 (S.N.u i))) (kp:w.heap[gp]?=some (.cells pa 4 (0,0))) (hp:pa[i]?=some (.bool (S.N.p i))) (hlu:gu<w.heap.size) :
  Calls Tryz.prog 58 #[.pointer (some (Hh g 0)),.int .i64 (i:Int)] w fun e w' =>
   (flN S.C S.N i=false∧e=.returned (.slice none 0 0)∧Below w.heap.size w w') ∨
   (flN S.C S.N i=true∧∃ gm,w.heap.size≤gm∧e=.returned (.slice (some (Hh gm 0)) 1 1)∧w'.heap[gm]?=some (.cells #[.iface (Gw (jc S.C (S.N.u i) (S.N.p i))) (.agg #[])] 99 (0,0))∧w'.heap[gp]?=some (.cells (pa.setIfInBounds i (.bool (jc S.C (S.N.u i) (S.N.p i)))) 4 (0,0))∧Touch [gp] w w'):=by
 have HK:Hid (w.heap[g]?=some (.cells S.cells 34 (0,0))∧w.heap[gp]?=some (.cells pa 4 (0,0))∧w.cell? (Hh gu i)=some (.int .i64 (S.N.u i))∧gu<w.heap.size):=⟨kb,kp,hu,hlu⟩
 have HPi:=aa hp
 have HE:Hid (S.N.aU=some (Hh gu 0)∧S.N.aP=some (Hh gp 0)):=⟨eU,eP⟩
 have hi1:(i:Int)<(S.N.nU:Int):=by omega
 have hi2:(i:Int)<(S.N.nP:Int):=by omega
 have hi0:(0:Int)≤(i:Int):=by omega
 have HC:Hid (∀ wx:World,wx.heap[g]?=some (.cells S.cells 34 (0,0))→wx.cell? (Hh g 0)=some (.int .i64 S.C.p)∧wx.cell? (Hh g 1)=some (.int .i64 S.C.c)∧wx.cell? (Hh g 2)=some (.int .i64 S.C.xo)∧wx.cell? (Hh g 3)=some (.int .i64 S.C.xn)∧wx.cell? (Hh g 4)=some (.int .i64 S.C.hd)∧wx.cell? (Hh g 5)=some (.int .i64 S.C.lo)∧wx.cell? (Hh g 6)=some (.int .i64 S.C.dl)) :=
  fun wx k=>⟨iv k 0,iv k 1,iv k 2,iv k 3,iv k 4,iv k 5,iv k 6⟩
 have HCu:Hid (∀ wx:World,wx.heap[g]?=some (.cells S.cells 34 (0,0))→wx.cell? (Hh g 10)=some (.slice (some (Hh gu 0)) S.N.nU S.N.cU)):=fun wx k=>by rw [←eU];exact iv k 10
 have HCp:Hid (∀ wx:World,wx.heap[g]?=some (.cells S.cells 34 (0,0))→wx.cell? (Hh g 12)=some (.slice (some (Hh gp 0)) S.N.nP S.N.cP)):=fun wx k=>by rw [←eP];exact iv k 12
 clear kb kp hu hp eU eP hlu
 go_enter Tryz.func58,Tryz.ntmps58
 go_wp2_with fail
 refine jv (fun w'=>w'.heap[g]?=some (.cells S.cells 34 (0,0))∧w'.cell? (Hh gu i)=some (.int .i64 (S.N.u i))∧w'.cell? (Hh gp i)=some (.bool (S.N.p i))) 21 (by kernel_rfl) ?_
 have hd:Below w.heap.size w w.drew:=(Below.refl _ _).drew
 have HX:Hid (w.drew.heap[g]?=some (.cells S.cells 34 (0,0))∧w.drew.cell? (Hh gu i)=some (.int .i64 (S.N.u i))∧w.drew.cell? (Hh gp i)=some (.bool (S.N.p i))):=⟨(hd.block g (iw HK.1)).trans HK.1,(World.cell?_of_block (w:=w) (a:=(Hh gu i)) (hd.block gu HK.2.2.2)).trans HK.2.2.1,(World.cell?_of_block (w:=w) (a:=(Hh gp i)) (hd.block gp (iw HK.2.1))).trans ((iv HK.2.1 i).trans HPi.out)⟩
 have HD:=aa hd
 clear hd
 generalize w.drew=V at *
 have hT0:=HX.out
 refine tE 0 6 hT0 ?_
 refine tE 1 7 hT0 ?_
 refine tE 2 8 hT0 ?_
 refine ko (i:=3) (some 9) (v:=?_) ?_ hT0 ?_
 rotate_left
 ·
  intro wx hSw
  obtain ⟨c0,c1,c2,c3,c4,c5,c6⟩:=HC wx hSw.1
  exact dI
 try simp only [Act.put,PZ]
 refine tE 4 10 hT0 ?_
 refine tE 5 11 hT0 ?_
 refine tE 6 12 hT0 ?_
 refine tE 7 13 hT0 ?_
 refine ko (i:=8) (some 14) (v:=?_) ?_ hT0 ?_
 rotate_left
 ·
  intro wx hSw
  have c10:=HCu wx hSw.1
  exact dI
 try simp only [Act.put,PZ]
 refine tE 9 15 hT0 ?_
 refine tE 10 16 hT0 ?_
 refine ko (i:=11) (some 17) (v:=?_) ?_ hT0 ?_
 rotate_left
 ·
  intro wx hSw
  have cu:=hSw.2.1
  exact dI
 try simp only [Act.put,PZ]
 refine tE 12 18 hT0 ?_
 refine tE 13 19 hT0 ?_
 refine tE 14 20 hT0 ?_
 refine tE 15 21 hT0 ?_
 refine ko (i:=16) (some 22) (v:=?_) ?_ hT0 ?_
 rotate_left
 ·
  intro wx hSw
  have c12:=HCp wx hSw.1
  exact dI
 try simp only [Act.put,PZ]
 refine tE 17 23 hT0 ?_
 refine tE 18 24 hT0 ?_
 refine ko (i:=19) (some 25) (v:=?_) ?_ hT0 ?_
 rotate_left
 ·
  intro wx hSw
  have cp:=hSw.2.2
  exact dI
 try simp only [Act.put,PZ]
 refine iz (rs:=[20]) (by kernel_rfl) (by simp) ?_
 refine ix.cons rfl (fun K hK=>?_) ix.nil
 go_simp
 refine (vG S.C (S.N.u i) (S.N.p i) _).mono ?_
 rintro e X1 ⟨rfl,hb⟩
 have hbw:Below w.heap.size w X1:=HD.trans (hb.mono HD.size)
 have HB:=aa hbw
 have k1:X1.heap[g]?=some (.cells S.cells 34 (0,0)):=(hbw.block g (iw HK.1)).trans HK.1
 have k2:X1.cell? (Hh gu i)=some (.int .i64 (S.N.u i)):=(World.cell?_of_block (w:=w) (a:=(Hh gu i)) (hbw.block gu HK.2.2.2)).trans HK.2.2.1
 have k4:X1.heap[gp]?=some (.cells pa 4 (0,0)):=(hbw.block gp (iw HK.2.1)).trans HK.2.1
 have k3:X1.cell? (Hh gp i)=some (.bool (S.N.p i)):=(iv k4 i).trans HPi.out
 have hT1:X1.heap[g]?=some (.cells S.cells 34 (0,0))∧X1.cell? (Hh gu i)=some (.int .i64 (S.N.u i))∧X1.cell? (Hh gp i)=some (.bool (S.N.p i)):=⟨k1,k2,k3⟩
 clear hb hbw hT0
 go_wp2_with fail
 refine hK _ _ hT1 ?_
 clear hK K
 try simp only [Act.put,PZ]
 refine iz (rs:=[21]) (by kernel_rfl) (by simp) ?_
 refine ix.last rfl (fun K hK=>?_)
 go_simp
 refine ah (hK _ _) ?_
 clear hK K
 refine jf (by kernel_rfl) ?_ _
 have c12:=HCp X1 k1
 have f4:=iF k4 i
 have HK4:=aa k4
 clear k1 k2 k4 hT1
 obtain ⟨q,eq⟩:∃ q,jc S.C (S.N.u i) (S.N.p i)=q:=⟨_,rfl⟩
 rw [eq]
 have HM:Hid (Touch [gp] w (X1.setCell (Hh gp i) (.bool q))∧(X1.setCell (Hh gp i) (.bool q)).heap[gp]?=some (.cells (pa.setIfInBounds i (.bool q)) 4 (0,0))∧(X1.setCell (Hh gp i) (.bool q)).heap.size=X1.heap.size):=⟨(Touch.ji HB.out).set (by simp) _ _,iO HK4 _,by simp⟩
 obtain ⟨p,hpp⟩:∃ p,S.N.p i=p:=⟨_,rfl⟩
 have HQ:Hid (flN S.C S.N i=!(q == p)∧jc S.C (S.N.u i) (S.N.p i)=q):=⟨by unfold flN;rw [eq,hpp],eq⟩
 rw [hpp] at k3 ⊢
 clear eq hpp
 cases q <;> cases p
 all_goals go_wp2_with fail
 all_goals go_ret
 all_goals first | exact .inl ⟨HQ.1,rfl,HB.out⟩ | skip
 all_goals refine .inr ⟨HQ.1,X1.heap.size,HB.size,?_,?_,?_,?_⟩
 all_goals first | rfl | exact HM.1.trans (Touch.ji ((Below.refl _ _).alloc (Nat.le_refl _) _)) | (rw [HQ.2];exact (iN _ (by rw [HM.2.2];exact iw HK4.out)).trans HM.2.1) | (rw [HQ.2,←HM.2.2];exact iy _ _)
theorem yV (h:iQ A B) (C:Cfg) (i:Nat):iQ (mn C A i) (mn C B i):=by
 obtain ⟨aU,nU,cU,u,lo,aP,nP,cP,pp⟩:=A
 obtain ⟨aU',nU',cU',u',lo',aP',nP',cP',pp'⟩:=B
 obtain ⟨h1,h2,h3,h4,h5⟩:=h
 dsimp only at h1 h2 h3 h4 h5
 subst h1 h2 h3 h4 h5
 exact ⟨rfl,rfl,rfl,rfl,rfl⟩
theorem CB (h:iQ A B) (C:Cfg) (i:Nat):flN C B i=flN C A i:=by unfold flN;rw [h.u,h.p]
theorem pO.tL {l' m:Lng} {id:Int} (h:pO l l' id) (ha:iT l m):∃ m',pO m m' id∧iT l' m':=by
 rcases h with ⟨h1,h2,rfl,rfl⟩ | ⟨hno,M,x,s,hp,⟨h1,rfl,rfl⟩ | ⟨c,h1,rfl,rfl⟩⟩
 ·
  refine ⟨_,.inl ⟨by rw [ha.nT];exact h1,by rw [ha.st];exact h2,by rw [ha.t],rfl⟩,?_⟩
  unfold Lng.Ex
  exact ⟨ha.st,by show m.nT-1=l.nT-1;rw [ha.nT],by show (fun i=>m.t (i+1))=fun i=>l.t (i+1);rw [ha.t],ha.nU,ha.l,ha.z,ha.r⟩
 ·
  obtain ⟨M',hp',hA⟩:=hp.tL ha.r
  exact ⟨_,.inr ⟨by rw [ha.nT,ha.st];exact hno,M',x,s,hp',.inl ⟨h1,rfl,rfl⟩⟩,⟨ha.st,ha.nT,ha.t,ha.nU,ha.l,ha.z,hA⟩⟩
 obtain ⟨M',hp',hA⟩:=hp.tL ha.r
 refine ⟨_,.inr ⟨by rw [ha.nT,ha.st];exact hno,M',x,s,hp',.inr ⟨c,h1,by rw [ha.z],rfl⟩⟩,?_⟩
 unfold Lng.Gg
 exact ⟨ha.st,ha.nT,ha.t,ha.nU,by show mj m.uL c (m.uL c-1)=mj l.uL c (l.uL c-1);rw [ha.l],by show sj m.uz c (fun j=>m.uz c (j+1))=sj l.uz c (fun j=>l.uz c (j+1));rw [ha.z],hA⟩
def AS (S S':Swg) (i:Nat) (fs:List Pkt):Prop :=
 ∃ l' id,pO (S.L i) l' id ∧
  ((id=0∧S'=S.lane i l'∧fs=[]) ∨
   (id≠0∧∃ j,j<S.nK∧(S.K j).id=id∧fs=[S.K j] ∧
    (((S.K j).refs≠1∧S'={ S.lane i l' with K:=jM S.K j }) ∨
    ((S.K j).refs=1∧S'={ S.lane i l' with nK:=S.nK-1,K:=rmK S.K j,N:=lu S.N (S.K j).inn (S.K j).p (-(S.K j).cl) }))))
def Swg.flip (S:Swg) (i:Nat):Swg:={ S with N:=mn S.C S.N i }
theorem mO.next {S S':Swg} (h:mO S S' i fs):∃ gs,AS (S.flip i) S' i gs∧fs=lr S.C S.N i++gs:=by
 obtain ⟨l',id,ht,⟨h0,h1,h2⟩ | ⟨h0,j,hj,hid,hf,hr⟩⟩:=h
 ·
  exact ⟨[],⟨l',id,ht,.inl ⟨h0,h1,rfl⟩⟩,by rw [List.append_nil];exact h2⟩
 exact ⟨[S.K j],⟨l',id,ht,.inr ⟨h0,j,hj,hid,rfl,hr⟩⟩,hf⟩
theorem nI {S P:Swg} (ha:iE S P) (i:Nat) {m:Lng} (hl:iT l m):iE (S.lane i l) (P.lane i m):=by
 refine ⟨ha.c,ha.now,ha.nx,ha.nE,ha.e,ha.n,ha.nK,ha.k,ha.nL,fun k hk=>?_,ha.dr,ha.lst⟩
 show iT (if k=i then l else S.L k) (if k=i then m else P.L k)
 split
 ·
  exact hl
 exact ha.l k hk
theorem AE {S P:Swg} (ha:iE S P) (i:Nat):iE (S.flip i) (P.flip i):=by
 refine ⟨ha.c,ha.now,ha.nx,ha.nE,ha.e,?_,ha.nK,ha.k,ha.nL,ha.l,ha.dr,ha.lst⟩
 show iQ (mn S.C S.N i) (mn P.C P.N i)
 rw [ha.c]
 exact yV ha.n _ _
theorem AS.tL {S S' P:Swg} (h:AS S S' i fs) (hi:i<S.nL) (ha:iE S P):∃ P',AS P P' i fs∧iE S' P':=by
 obtain ⟨l',id,ht,h⟩:=h
 obtain ⟨m',ht',hl⟩:=ht.tL (ha.l i hi)
 have hA:=nI ha i hl
 rcases h with ⟨h0,rfl,rfl⟩ | ⟨h0,j,hj,hid,rfl,⟨hr,rfl⟩ | ⟨hr,rfl⟩⟩
 ·
  exact ⟨_,⟨m',id,ht',.inl ⟨h0,rfl,rfl⟩⟩,hA⟩
 ·
  refine ⟨_,⟨m',id,ht',.inr ⟨h0,j,by rw [ha.nK];exact hj,by rw [ha.k];exact hid,by rw [ha.k],.inl ⟨by rw [ha.k];exact hr,rfl⟩⟩⟩,?_⟩
  exact ⟨hA.c,hA.now,hA.nx,hA.nE,hA.e,hA.n,hA.nK,by show jM P.K j=jM S.K j;rw [ha.k],hA.nL,hA.l,hA.dr,hA.lst⟩
 refine ⟨_,⟨m',id,ht',.inr ⟨h0,j,by rw [ha.nK];exact hj,by rw [ha.k];exact hid,by rw [ha.k],.inr ⟨by rw [ha.k];exact hr,rfl⟩⟩⟩,?_⟩
 refine ⟨hA.c,hA.now,hA.nx,hA.nE,hA.e,?_,by show P.nK-1=S.nK-1;rw [ha.nK],by show rmK P.K j=rmK S.K j;rw [ha.k],hA.nL,hA.l,hA.dr,hA.lst⟩
 show iQ (lu S.N (S.K j).inn (S.K j).p (-(S.K j).cl)) (lu P.N (P.K j).inn (P.K j).p (-(P.K j).cl))
 rw [ha.k]
 exact rQ ha.n _ _ _
def FJ (x:Pkt) (v:Value):Prop:=(∃ b,x=CW b∧v=.iface (Gw b) (.agg #[]))∨(v=.iface 150 (.agg x.frame)∧x.b.size≤40)
def A4 (w:World) (base:Nat) (fs:List Pkt) (v:Value):Prop:=(fs=[]∧v=.slice none 0 0)∨∃ gm x m,fs=[x]∧v=.slice (some (Hh gm 0)) 1 1∧base≤gm∧w.heap[gm]?=some (.cells #[m] 99 (0,0))∧FJ x m
theorem Swg.Ok.flip {S:Swg} (h:S.Ok) (i:Nat):(S.flip i).Ok:=⟨yU i h.n,⟨h.nums.now,h.nums.nx,h.nums.dr,h.nums.lst⟩,h.seen,h.k,h.nl,h.l,h.refs,h.held⟩
theorem wY (S S':Swg) (fs:List Pkt) (i g base:Nat) (w:World) (kb:w.heap[g]?=some (.cells S.cells 34 (0,0))) (hbg:base≤g) (ho:iP w base S) (hi:i<S.nL) (hok:S.Ok) (hf:S.N.Fit) (hm:AS S S' i fs) :
  Calls Tryz.prog 59 #[.pointer (some (Hh g 0)),.int .i64 (i:Int)] w fun e w'=>∃ v S2,e=.returned v∧A4 w' w.heap.size fs v∧iE S' S2∧jK w' base S2∧w'.heap[g]?=some (.cells S2.cells 34 (0,0))∧qw base w w':=by
 have hl:=hok.l i hi
 have hk:=hok.k
 obtain ⟨l',id,ht,⟨rfl,rfl,rfl⟩ | ⟨h0,j,hj,hid,rfl,⟨hr,rfl⟩ | ⟨hr,rfl⟩⟩⟩:=hm
 ·
  refine (vn S l' i g base w kb ho hi hl hk ht).mono ?_
  rintro e w' ⟨rfl,l2,hA,hO,hg,hs⟩
  exact ⟨_,S.lane i l2,rfl,.inl ⟨rfl,rfl⟩,nI (iE.refl S) i hA,hO,hg,hs⟩
 ·
  have hsm:=hok.uK hj
  have hnl:(S.nL:Int)≤4:=by rw [hok.nl];exact hok.n.c.num.p.2
  refine (vp S l' id i j g base w kb ho hi hl hk ht h0 hj hid ⟨by omega,by omega⟩).mono ?_
  rintro e w' ⟨gm,rfl,hgm,hm,l2,hA,hO,hg,hs⟩
  have hA2:=nI (iE.refl S) i hA
  exact ⟨_,{ S.lane i l2 with K:=jM S.K j },rfl,.inr ⟨gm,_,_,rfl,rfl,hgm,hm,.inr ⟨rfl,(hk.one j hj).2.2.le⟩⟩,⟨hA2.c,hA2.now,hA2.nx,hA2.nE,hA2.e,hA2.n,hA2.nK,rfl,hA2.nL,hA2.l,hA2.dr,hA2.lst⟩,hO,hg,hs⟩
 obtain ⟨hform,hcn⟩:=hok.rel hj
 refine (vo S l' id i j g base w kb hbg ho hi hl hk ht h0 hj hid hr hf ho.k.cap hform hcn (hk.one j hj).2.2).mono ?_
 rintro e w' ⟨gm,rfl,hgm,hm,l2,M,hA,hM,hO,hg,hs⟩
 have hA2:=nI (iE.refl S) i hA
 exact ⟨_,{ S.lane i l2 with N:=M,nK:=S.nK-1,K:=rmK S.K j },rfl,.inr ⟨gm,_,_,rfl,rfl,hgm,hm,.inr ⟨rfl,(hk.one j hj).2.2.le⟩⟩,⟨hA2.c,hA2.now,hA2.nx,hA2.nE,hA2.e,hM,rfl,rfl,hA2.nL,hA2.l,hA2.dr,hA2.lst⟩,hO,hg,hs⟩
theorem Cz {C:Cfg} {N:Cnt} (h:flN C N i=false):mn C N i=N:=by
 unfold flN at h
 have h2:jc C (N.u i) (N.p i)=N.p i:=by
  simpa using h
 unfold mn
 have:(fun j=>if j=i then jc C (N.u j) (N.p j) else N.p j)=N.p:=by
  funext j
  by_cases e:j=i
  ·
   subst e;rw [if_pos rfl];exact h2
  rw [if_neg e]
 rw [this]
theorem iP.flip {gp:Nat} {S:Swg} {pa:Array Value} (ho:iP w base S) (eP:S.N.aP=some (Hh gp 0)) (kp:w.heap[gp]?=some (.cells pa 4 (0,0))) (hW:W.heap[gp]?=some (.cells (pa.setIfInBounds i (.bool (jc S.C (S.N.u i) (S.N.p i)))) 4 (0,0))) (ht:Touch [gp] w W) (hi:i<S.N.nP):iP W base (S.flip i):=by
 have far:∀ x t,(∃ cs,w.heap[x]?=some (.cells cs t (0,0)))→t≠4→x∉[gp]:=by
  rintro x t ⟨cs,hx⟩ hne hy
  exact jN hx kp hne (by simpa using hy)
 refine ⟨ho.e.iB ht (fun x hx=>far x _ (ho.e.type x hx) (by decide)),⟨ho.n.u.iB ht (fun x hx=>far x _ (ho.n.u.type x hx) (by decide)),?_⟩,ho.k.iB ht (fun x hx=>far x _ (ho.k.type x hx) (by decide)),ho.l.box kp (by decide) (by decide) (by decide) ht,ho.un⟩
 show VT 4 W base S.N.aP S.N.nP fun j=>.bool (if j=i then jc S.C (S.N.u j) (S.N.p j) else S.N.p j)
 rcases ho.n.p with e | ⟨g,e,hb,arr,k1,k2,k3⟩
 ·
  omega
 have hg:g=gp:=by rw [eP] at e;simp at e;exact e.symm
 subst hg
 rw [kp] at k1
 simp at k1
 subst k1
 refine .inr ⟨g,e,hb,_,hW,by simp;exact k2,fun j hj=>?_⟩
 dsimp only
 by_cases c:j=i
 ·
  subst c
  rw [if_pos rfl,Array.getElem?_setIfInBounds_self_of_lt (by omega)]
 rw [if_neg c,Array.getElem?_setIfInBounds_ne (fun h=>c h.symm)]
 exact k3 j hj
theorem Bd (S:Swg) (i g base:Nat) (w:World) (kb:w.heap[g]?=some (.cells S.cells 34 (0,0))) (ho:iP w base S) (hiU:i<S.N.nU) (hiP:i<S.N.nP) :
  Calls Tryz.prog 58 #[.pointer (some (Hh g 0)),.int .i64 (i:Int)] w fun e w'=>∃ v,e=.returned v∧A4 w' w.heap.size (lr S.C S.N i) v∧iP w' base (S.flip i)∧w'.heap[g]?=some (.cells (S.flip i).cells 34 (0,0))∧qw base w w':=by
 rcases ho.n.u with e | ⟨gu,eU,hbu,au,u1,u2,u3⟩
 ·
  omega
 rcases ho.n.p with e | ⟨gp,eP,hbp,pa,p1,p2,p3⟩
 ·
  omega
 have hbase:base≤w.heap.size:=by have:=iw u1;omega
 refine (De S g gu gp i pa w kb eU eP hiU hiP ((iv u1 i).trans (u3 i hiU)) p1 (p3 i hiP) (iw u1)).mono ?_
 rintro e w' (⟨hfl,rfl,hb⟩ | ⟨hfl,gm,hgm,rfl,hm,hp,ht⟩)
 ·
  have e1:lr S.C S.N i=[]:=by unfold lr;rw [hfl];simp
  have e2:S.flip i=S:=by unfold Swg.flip;rw [Cz hfl]
  rw [e1,e2]
  exact ⟨_,rfl,.inl ⟨rfl,rfl⟩,⟨ho.e.up hb,ho.n.up hb,ho.k.up hb,ho.l.up hb,ho.un⟩,(hb.block g (iw kb)).trans kb,.up hb hbase⟩
 have e1:lr S.C S.N i=[CW (jc S.C (S.N.u i) (S.N.p i))]:=by unfold lr;rw [if_pos hfl]
 rw [e1]
 refine ⟨_,rfl,.inr ⟨gm,_,_,rfl,rfl,hgm,hm,.inl ⟨_,rfl,rfl⟩⟩,ho.flip eP p1 hp ht hiP,(ht.block g (iw kb) (fun hx=>jN kb p1 (by decide) (by simpa using hx))).trans kb,.to ht hbase (fun x hx=>by
  obtain rfl:x=gp:=by simpa using hx
  exact ⟨hbp,_,_,p1,by decide⟩)⟩
theorem qv {c:Nat} (t e:TypeId) (z:Value) (sz bytes:Nat) (hinfo:(Tryz.prog.info? e).map (fun i=>(i.zero,i.size,i.bytes))=some (some z,sz,bytes)) (hu:Tryz.prog.underlying t=some (.slice e)) (h:OG e sz W base a0 n0 c0 xs) :
  (Builtin.append_ #[t,t] t #[.slice a0 n0 c0,.slice none 0 c]).run Tryz.prog W=.ok (.slice a0 n0 c0) W:=by
 obtain ⟨i0,hi,hz0,hz1,hz2⟩:=info_parts hinfo
 rcases h.2 with ⟨e1,e2⟩ | ⟨g,cap,cur,e1,_,_,hn,_⟩
 ·
  cases e1
  simp [Builtin.append_,run_underlying hu,sizeOf,typeInfo,hi,Builtin.lenOf,Builtin.firstCells,loadCells,loadCellsFrom]
 cases e1
 simp [Builtin.append_,run_underlying hu,sizeOf,typeInfo,hi,Builtin.lenOf,Builtin.firstCells,loadCells,loadCellsFrom,storeCells,hn]
theorem rO {c:Nat} {xs0:List Value} (t e:TypeId) (z:Value) (sz bytes:Nat) (hinfo:(Tryz.prog.info? e).map (fun i=>(i.zero,i.size,i.bytes))=some (some z,sz,bytes)) (hu:Tryz.prog.underlying t=some (.slice e)) (hz:z.cells.size=sz) (hsz:0<sz) (hby:bytes≤1000)
  (h:OG e sz W base a0 n0 c0 xs0) (hb:base≤W.heap.size) (hn:n0+n≤1048576) (hl:xs.length=n*sz) (hr:CQ W a xs) (h1:∀ u∈xs,u.oneCell'=true) :
  ∃ a' c' W',(Builtin.append_ #[t,t] t #[.slice a0 n0 c0,.slice a n c]).run Tryz.prog W=.ok (.slice a' (n0+n) c') W'∧OG e sz W' base a' (n0+n) c' (xs0++xs)∧Touch (iR a0) W W'∧((a'=a0∧a0≠none)∨(∃ g,a'=some (Hh g 0)∧W.heap.size≤g)∨a'=none):=by
 have hbb:(n0+n)*bytes≤140737488355328:=by
  have:=Nat.mul_le_mul (show n0+n≤1048577 by omega) hby
  omega
 obtain ⟨i0,hi,hz0,hz1,hz2⟩:=info_parts hinfo
 cases a with
 | none =>
  have hx:xs=[]:=by
   cases xs with
   | nil=>rfl
   | cons x r =>
    obtain ⟨g,o,ha,_⟩:=hr 0 x rfl
    cases ha
  subst hx
  have hl':n*sz=0:=hl.symm
  have h0:n=0:=(Nat.mul_eq_zero.1 hl').resolve_right (by omega)
  subst h0
  refine ⟨a0,c0,W,qv t e z sz bytes hinfo hu h,by rw [List.append_nil];exact h,Touch.refl _ _,?_⟩
  cases a0 with
  | none=>exact .inr (.inr rfl)
  | some x=>exact .inl ⟨rfl,by simp⟩
 | some ad =>
  obtain ⟨v',W',hr',h2,h3,h4,h5⟩:=run_append_own_at (P:=Tryz.prog) W base t t e i0 z sz bytes hu hi hz0 hz1 hz2 hz hsz (.slice a0 n0 c0) n0 xs0 h ad n c xs hl (fun j u hj=>by
   obtain ⟨g,o,ha,hc⟩:=hr j u hj
   cases ha
   have e0:((Hh g o):Addr).add j=(Hh g (o+j)):=by unfold Addr.add;split <;> simp_all
   rw [e0]
   exact hc) h1 (by unfold maxLen;omega) hbb hb
  have ht:=Touch.sS (v:=.slice a0 n0 c0) h3
  rcases h2.2 with ⟨e1,e2⟩ | ⟨g,cap,cur,e1,_⟩
  ·
   subst e1
   refine ⟨none,0,W',?_,?_,ht,.inr (.inr rfl)⟩
   ·
    rw [hr',←e2]
   rw [←e2] at h2 ⊢;exact h2
  subst e1
  refine ⟨some (Hh g 0),cap,W',hr',h2,ht,?_⟩
  rcases h5 with h5 | h5
  ·
   left
   cases a0 with
   | none=>simp [Value.ownBlock] at h5
   | some x =>
    rcases h.2 with ⟨e3,_⟩ | ⟨g2,cap2,cur2,e3,_⟩
    ·
     cases e3
    cases e3
    simp [Value.ownBlock] at h5
    exact ⟨by rw [h5],by simp⟩
  right;left
  simp only [Value.ownBlock,Option.some.injEq] at h5
  exact ⟨g,rfl,by omega⟩
theorem AD (w:World) :
  Calls Tryz.prog 183 #[.agg #[]] w fun e w'=>e=.returned (.agg #[.int .i64 2,.int .i64 0,.int .i64 0,.int .i64 2,.string ⟨#[]⟩])∧Below w.heap.size w w':=by
 obtain ⟨V,eV⟩:∃ V,(w.alloc (.cells #[] 142)).alloc (.cells #[.int .i64 0,.int .i64 0,.int .i64 0,.int .i64 0,.string ⟨#[]⟩] 43)=V:=⟨_,rfl⟩
 have hV:V.heap[w.heap.size+1]?=some (.cells #[.int .i64 0,.int .i64 0,.int .i64 0,.int .i64 0,.string ⟨#[]⟩] 43 (0,0))∧Below w.heap.size w V:=by
  rw [←eV]
  have e:(w.alloc (.cells #[] 142)).heap.size=w.heap.size+1:=by simp
  exact gJ
 have HV:=aa hV
 clear hV
 go_enter Tryz.func183,Tryz.ntmps183
 go_wp2_with (refine iA rfl 43 (.tmp 2) (.tmp 3) rfl (w.heap.size+1) 0 rfl (.agg #[.int .i64 2,.int .i64 0,.int .i64 0,.int .i64 2,.string ⟨#[]⟩]) rfl 5 rfl 43 _ HV.1 ku (Nat.le_of_ble_eq_true rfl) (by simp [Value.cells,Value.oneCell']) ?_)
 intro W hP
 replace hP:Put V W (w.heap.size+1) #[.int .i64 2,.int .i64 0,.int .i64 0,.int .i64 2,.string ⟨#[]⟩] 43:=hP.cast rfl
 have HK:=aa hP.blk
 have HB:Hid (Below w.heap.size w W):=HV.2.trans (hP.to.below HV.2.size (fun x hx=>by simp at hx;omega))
 clear hP
 go_wp2_with fail
 exact bodyPost_ret (kr Tryz.results183 5 _ Tryz.underlying43 rfl ku _ _ (w.heap.size+1) #[.int .i64 2,.int .i64 0,.int .i64 0,.int .i64 2,.string ⟨#[]⟩] rfl 43 HK.out rfl) rfl ⟨rfl,HB⟩
theorem AB (w:World) :
  Calls Tryz.prog 184 #[.agg #[]] w fun e w'=>e=.returned (.agg #[.int .i64 3,.int .i64 0,.int .i64 0,.int .i64 2,.string ⟨#[]⟩])∧Below w.heap.size w w':=by
 obtain ⟨V,eV⟩:∃ V,(w.alloc (.cells #[] 143)).alloc (.cells #[.int .i64 0,.int .i64 0,.int .i64 0,.int .i64 0,.string ⟨#[]⟩] 43)=V:=⟨_,rfl⟩
 have hV:V.heap[w.heap.size+1]?=some (.cells #[.int .i64 0,.int .i64 0,.int .i64 0,.int .i64 0,.string ⟨#[]⟩] 43 (0,0))∧Below w.heap.size w V:=by
  rw [←eV]
  have e:(w.alloc (.cells #[] 143)).heap.size=w.heap.size+1:=by simp
  exact gJ
 have HV:=aa hV
 clear hV
 go_enter Tryz.func184,Tryz.ntmps184
 go_wp2_with (refine iA rfl 43 (.tmp 2) (.tmp 3) rfl (w.heap.size+1) 0 rfl (.agg #[.int .i64 3,.int .i64 0,.int .i64 0,.int .i64 2,.string ⟨#[]⟩]) rfl 5 rfl 43 _ HV.1 ku (Nat.le_of_ble_eq_true rfl) (by simp [Value.cells,Value.oneCell']) ?_)
 intro W hP
 replace hP:Put V W (w.heap.size+1) #[.int .i64 3,.int .i64 0,.int .i64 0,.int .i64 2,.string ⟨#[]⟩] 43:=hP.cast rfl
 have HK:=aa hP.blk
 have HB:Hid (Below w.heap.size w W):=HV.2.trans (hP.to.below HV.2.size (fun x hx=>by simp at hx;omega))
 clear hP
 go_wp2_with fail
 exact bodyPost_ret (kr Tryz.results184 5 _ Tryz.underlying43 rfl ku _ _ (w.heap.size+1) #[.int .i64 3,.int .i64 0,.int .i64 0,.int .i64 2,.string ⟨#[]⟩] rfl 43 HK.out rfl) rfl ⟨rfl,HB⟩
def RdT (m:Nat) (w:World) (a:Option Addr) (n:Nat) (c:Nat→Array Value):Prop:=∀ i,i<n→(c i).size=m∧∃ g o,a=some (Hh g o)∧∀ j,j<m→w.cell? (Hh g (o+i*m+j))=(c i)[j]?
theorem qP {o:Nat} (hs:cs.size=m) (hc:∀ j,j<m→w.cell? (Hh g (o+j))=cs[j]?) (hb:Below w.heap.size w w2):∀ j,j<m→w2.cell? (Hh g (o+j))=cs[j]?:=by
 intro j hj
 have h2:=hc j hj
 have h3:j<cs.size:=by omega
 rw [Array.getElem?_eq_getElem h3] at h2
 exact ((hb.cell (p:=(Hh g (o+j))) (la h2)).trans h2).trans (Array.getElem?_eq_getElem h3).symm
theorem RdT.up (h:RdT m w a n c) (hb:Below w.heap.size w w2):RdT m w2 a n c:=by
 intro i hi
 obtain ⟨hs,g,o,ha,hc⟩:=h i hi
 exact ⟨hs,g,o,ha,qP hs hc hb⟩
def RdF (w:World) (a:Option Addr) (n:Nat) (F:Nat→Pkt):Prop:=RdT 5 w a n fun i=>(F i).frame
theorem RdF.up (h:RdF w a n F) (hb:Below w.heap.size w w2):RdF w2 a n F:=RdT.up h hb
theorem RdF.at (h:RdF w a n F) (hi:i<n):∃ g o,a=some (Hh g o)∧∀ j,j<5→w.cell? (Hh g (o+i*5+j))=(F i).frame[j]?:=(h i hi).2
theorem Pkt.oneF (x:Pkt):x.frame.all (·.oneCell')=true:=by simp [Pkt.frame,Value.oneCell']
def yW (m:Nat) (c:Nat→Array Value) (j:Nat):Value:=((c (j / m))[j % m]?).getD (.bool false)
theorem zH {j:Nat} (h:j<m) (hs:(c i).size=m):some (yW m c (i*m+j))=(c i)[j]?:=by
 unfold yW
 have h0:0<m:=by omega
 rw [Nat.add_comm (i*m) j,Nat.add_mul_div_right _ _ h0,Nat.div_eq_of_lt h,Nat.zero_add,Nat.add_mul_mod_self_right,Nat.mod_eq_of_lt h,Array.getElem?_eq_getElem (by omega)]
 rfl
theorem EV (hm:0<m) (h:iX w a (n*m) (yW m c)) (hs:∀ i,i<n→(c i).size=m):RdT m w a n c:=by
 intro i hi
 have hlt:i*m+m≤n*m:=by rw [←Nat.succ_mul];exact Nat.mul_le_mul_right m hi
 obtain ⟨g,o,ha,h0⟩:=h (i*m) (by omega)
 refine ⟨hs i hi,g,o,ha,fun j hj=>?_⟩
 obtain ⟨g1,o1,ha1,h1⟩:=h (i*m+j) (by omega)
 rw [ha] at ha1
 cases ha1
 rw [zH hj (hs i hi)] at h1
 rw [Nat.add_assoc]
 exact h1
theorem vW:(Tryz.prog.info? 43).map (fun i=>(i.zero,i.size,i.bytes))=some (some (.agg #[.int .i64 0,.int .i64 0,.int .i64 0,.int .i64 0,.string ⟨#[]⟩]),5,48):=by kernel_rfl
theorem VG.mJ (h:VG t w base a (n*5) (yW 5 fun i=>(F i).frame)):RdF w a n F:=EV (by omega) h.read (fun _ _=>rfl)
def tV (n:Nat) (c:Nat→Array Value):List Value:=(List.range n).flatMap fun i=>(c i).toList
theorem rq (n:Nat) (c:Nat→Array Value):tV (n+1) c=tV n c++(c n).toList:=by simp [tV,List.range_succ]
theorem FU {c':Nat→Array Value} (h:∀ i,i<n→c i=c' i):tV n c=tV n c':=by
 induction n with
 | zero=>rfl
 | succ n ih=>rw [rq,rq,ih (fun i hi=>h i (by omega)),h n (by omega)]
theorem Be (hs:∀ i,i<n→(c i).size=m):(tV n c).length=n*m:=by
 induction n with
 | zero=>simp [tV]
 | succ n ih=>rw [rq,List.length_append,ih (fun i hi=>hs i (by omega)),Array.length_toList,hs n (by omega),Nat.succ_mul]
theorem FT (hs:∀ i,i<n→(c i).size=m):∀ j,j<n*m→(tV n c)[j]?=some (yW m c j):=by
 induction n with
 | zero=>intro j hj;omega
 | succ n ih =>
  intro j hj
  have hs':∀ i,i<n→(c i).size=m:=fun i hi=>hs i (by omega)
  rw [Nat.succ_mul] at hj
  rw [rq]
  by_cases e:j<n*m
  ·
   rw [List.getElem?_append_left (by rw [Be hs'];exact e)]
   exact ih hs' j e
  rw [List.getElem?_append_right (by rw [Be hs'];omega),Be hs',Array.getElem?_toList]
  have:=zH (c:=c) (i:=n) (j:=j-n*m) (m:=m) (by omega) (hs n (by omega))
  rw [show n*m+(j-n*m)=j by omega] at this
  exact this.symm
theorem OG.mJ {c:Nat} (h:OG t 5 w base a n c (tV n fun i=>(F i).frame)):RdF w a n F:=(h.vg (FT (fun _ _=>rfl))).mJ
theorem OG.new (V:World) (t:TypeId) (sz base:Nat) (hb:base≤V.heap.size):OG t sz (V.alloc (.cells #[] t)) base (some (Hh V.heap.size 0)) 0 0 [] :=
 ⟨by simp,.inr ⟨V.heap.size,0,#[],rfl,hb,iy _ _,Nat.le_refl _,Nat.zero_le _,by simp,by simp⟩⟩
theorem jK.far {S:Swg} {T:List Nat} (h:jK w base S) (ht:Touch T w w') (hT:∀ x∈T,∃ cs,w.heap[x]?=some (.cells cs 99 (0,0))):jK w' base S:=by
 have far:∀ x t,(∃ cs,w.heap[x]?=some (.cells cs t (0,0)))→t≠99→x∉T:=by
  rintro x t ⟨cs,hx⟩ hne hy
  obtain ⟨c2,k2⟩:=hT x hy
  exact jN hx k2 hne rfl
 exact aG
def fsF (fs:List Pkt) (i:Nat):Pkt:=(fs[i]?).getD zPk
theorem vU:(Tryz.prog.info? 99).map (fun i=>(i.zero,i.size,i.bytes))=some (some .nilIface,1,16):=by kernel_rfl
def Gr (w:World) (fs:List Pkt) (a:Option Addr):Prop:=∀ k,k<fs.length→∃ g o v,a=some (Hh g o)∧w.cell? (Hh g (o+k))=some v∧FJ (fsF fs k) v
theorem yL {ts gs:List Pkt} {v1 v2:Value} (h1:A4 w base ts v1) (h2:A4 w base gs v2) (hb:base≤w.heap.size) :
  ∃ a c W,(Builtin.append_ #[96,96] 96 #[v1,v2]).run Tryz.prog w=.ok (.slice a (ts++gs).length c) W∧Gr W (ts++gs) a∧∃ T,Touch T w W∧∀ x∈T,base≤x∧∃ cs,w.heap[x]?=some (.cells cs 99 (0,0)):=by
 have own:∀ {gm:Nat} {m:Value},w.heap[gm]?=some (.cells #[m] 99 (0,0))→OG 99 1 w 0 (some (Hh gm 0)) 1 1 [m]:=fun {gm m} hk=>⟨by simp,.inr ⟨gm,1,#[m],rfl,Nat.zero_le _,hk,by simp,by simp [maxLen],by simp,by simp⟩⟩
 have one:∀ {x:Pkt} {m:Value},FJ x m→∀ u∈[m],u.oneCell'=true:=fun {x m} hm u hu=>by
  obtain rfl:u=m:=by simpa using hu
  rcases hm with ⟨b,_,rfl⟩ | ⟨rfl,_⟩ <;> rfl
 rcases h1 with ⟨rfl,rfl⟩ | ⟨g1,x1,m1,rfl,rfl,hg1,hk1,hm1⟩
 ·
  rcases h2 with ⟨rfl,rfl⟩ | ⟨g2,x2,m2,rfl,rfl,hg2,hk2,hm2⟩
  ·
   exact ⟨none,0,w,qv _ _ _ 1 16 vU Tryz.underlying96 (OG.nil _ _ _ 0),fun k hk=>absurd hk (Nat.not_lt_zero _),[],Touch.refl _ _,by simp⟩
  obtain ⟨a',c',W',hr,ho,ht,_⟩:=rO (c:=1) (n:=1) 96 99 _ 1 16 vU Tryz.underlying96 rfl (by decide) (by decide) (OG.nil _ _ w 0) (Nat.zero_le _) (by decide) (xs:=[m2]) rfl (fun j u hj=>by
   have:j=0:=by cases j with
    | zero=>rfl
    | succ j=>simp at hj
   subst this
   simp at hj
   subst hj
   exact ⟨g2,0,rfl,iv hk2 0⟩) (one hm2)
  refine ⟨a',c',W',hr,fun k hk=>?_,iR none,ht,by simp [iR]⟩
  have hk0:k=0:=by simp at hk;omega
  subst hk0
  rcases ho.2 with ⟨_,e0⟩ | ⟨g,cap,cur,e,_,hbk,_,_,_,htk⟩
  ·
   omega
  cases e
  refine ⟨g,0,m2,rfl,?_,hm2⟩
  rw [iv hbk,←Array.getElem?_toList,Nat.zero_add,←List.getElem?_take_of_lt (show 0<(0+1)*1 by omega),htk]
  rfl
 rcases h2 with ⟨rfl,rfl⟩ | ⟨g2,x2,m2,rfl,rfl,hg2,hk2,hm2⟩
 ·
  refine ⟨_,_,w,qv _ _ _ 1 16 vU Tryz.underlying96 (own hk1),fun k hk=>?_,[],Touch.refl _ _,by simp⟩
  have hk0:k=0:=by simp at hk;omega
  subst hk0
  exact ⟨g1,0,m1,rfl,iv hk1 0,hm1⟩
 obtain ⟨a',c',W',hr,ho,ht,_⟩:=rO (c:=1) (n:=1) 96 99 _ 1 16 vU Tryz.underlying96 rfl (by decide) (by decide) (own hk1) (Nat.zero_le _) (by decide) (xs:=[m2]) rfl (fun j u hj=>by
  have:j=0:=by cases j with
   | zero=>rfl
   | succ j=>simp at hj
  subst this
  simp at hj
  subst hj
  exact ⟨g2,0,rfl,iv hk2 0⟩) (one hm2)
 refine ⟨a',c',W',hr,fun k hk=>?_,iR (some (Hh g1 0)),ht,fun x hx=>?_⟩
 ·
  have hk0:k=0∨k=1:=by simp at hk;omega
  rcases ho.2 with ⟨_,e0⟩ | ⟨g,cap,cur,e,_,hbk,_,_,_,htk⟩
  ·
   omega
  cases e
  rcases hk0 with rfl | rfl
  ·
   refine ⟨g,0,m1,rfl,?_,hm1⟩
   rw [iv hbk,←Array.getElem?_toList,Nat.zero_add,←List.getElem?_take_of_lt (show 0<(1+1)*1 by omega),htk]
   rfl
  refine ⟨g,0,m2,rfl,?_,hm2⟩
  rw [iv hbk,←Array.getElem?_toList,Nat.zero_add,←List.getElem?_take_of_lt (show 1<(1+1)*1 by omega),htk]
  rfl
 obtain rfl:x=g1:=by simpa [iR] using hx
 exact ⟨hg1,_,hk1⟩
theorem mO.len {S S':Swg} (h:mO S S' i fs):fs.length≤2:=by
 have ht:(lr S.C S.N i).length≤1:=by unfold lr;split <;> simp
 obtain ⟨l',id,_,⟨_,_,rfl⟩ | ⟨_,j,_,_,rfl,_⟩⟩:=h
 ·
  omega
 rw [List.length_append];simp;exact ht
theorem A4.stay {B:Nat} (h:A4 w base fs v) (hs:qw B w w'):A4 w' base fs v:=by
 rcases h with h | ⟨gm,x,m,h1,h2,h3,h4,h5⟩
 ·
  exact .inl h
 exact .inr ⟨gm,x,m,h1,h2,h3,hs.msg _ _ h4,h5⟩
theorem A4.mono {base':Nat} (h:A4 w base fs v) (hb:base'≤base):A4 w base' fs v:=by
 rcases h with h | ⟨gm,x,m,h1,h2,h3,h4,h5⟩
 ·
  exact .inl h
 exact .inr ⟨gm,x,m,h1,h2,Nat.le_trans hb h3,h4,h5⟩
theorem Gr.up (h:Gr w fs a) (hb:Below w.heap.size w w'):Gr w' fs a:=fun k hk=>by
 obtain ⟨g,o,v,e,hc,hm⟩:=h k hk
 exact ⟨g,o,v,e,(hb.cell (p:=(Hh g (o+k))) (la hc)).trans hc,hm⟩
theorem yw (S S':Swg) (fs:List Pkt) (i g base:Nat) (w:World) (kb:w.heap[g]?=some (.cells S.cells 34 (0,0))) (hbg:base≤g) (ho:iP w base S) (hi:i<S.nL) (hok:S.Ok) (hf:S.N.Fit) (hm:mO S S' i fs) :
  Calls Tryz.prog 25 #[.pointer (some (Hh g 0)),.int .i64 (i:Int)] w fun e w'=>∃ a c S2,e=.returned (.slice a fs.length c)∧OG 43 5 w' w.heap.size a fs.length c (tV fs.length fun i=>(fsF fs i).frame)∧iE S' S2∧jK w' base S2∧w'.heap[g]?=some (.cells S2.cells 34 (0,0))∧Below base w w':=by
 have hlen:=hm.len
 obtain ⟨gs,hn,efs⟩:=hm.next
 have hbw:base≤w.heap.size:=by have:=iw kb;omega
 have hiU:i<S.N.nU:=by have:=hok.nl;have:=hok.n.nU;omega
 have hiP:i<S.N.nP:=by have:=hok.nl;have:=hok.n.nP;omega
 have HT:=Bd S i g base w kb ho hiU hiP
 have HT:=aa HT
 have HM:Hid (AS (S.flip i) S' i gs∧fs=lr S.C S.N i++gs∧i<S.nL∧S.Ok∧S.N.Fit∧base≤g∧base≤w.heap.size∧fs.length≤2):=⟨hn,efs,hi,hok,hf,hbg,hbw,hlen⟩
 clear kb ho hi hok hf hm hn efs hiU hiP hbg hbw hlen
 go_enter Tryz.func25,Tryz.ntmps25
 go_wp2_with fail
 refine HT.mono ?_
 rintro e w1 ⟨v1,rfl,hm1,ho1,hg1,hs1⟩
 have H1:Hid (A4 w1 w.heap.size (lr S.C S.N i) v1∧qw base w w1):=⟨hm1,hs1⟩
 have HN:Hid (Calls Tryz.prog 59 #[.pointer (some (Hh g 0)),.int .i64 (i:Int)] w1 fun e w'=>∃ v S2,e=.returned v∧A4 w' w1.heap.size gs v∧iE S' S2∧jK w' base S2∧w'.heap[g]?=some (.cells S2.cells 34 (0,0))∧qw base w1 w'):=wY (S.flip i) S' gs i g base w1 hg1 HM.2.2.2.2.2.1 ho1 HM.2.2.1 (HM.2.2.2.1.flip i) ⟨HM.2.2.2.2.1.u,HM.2.2.2.2.1.p⟩ HM.1
 clear hm1 ho1 hg1 hs1 HT
 go_wp2_with fail
 refine HN.mono ?_
 rintro e w2 ⟨v2,S2,rfl,hm2,hA,hO,hg2,hs2⟩
 have z1:=H1.2.bel.size
 have z2:=hs2.bel.size
 obtain ⟨a,c,W,hrun,hR,T,hT,hTT⟩:=yL (H1.1.stay hs2) (hm2.mono z1) (by omega)
 rw [←HM.2.1] at hrun hR
 have hOW:=hO.far hT (fun x hx=>(hTT x hx).2)
 have hgW:W.heap[g]?=some (.cells S2.cells 34 (0,0)):=(hT.block g (iw hg2) (fun hx=>by
  obtain ⟨_,cs,hc⟩:=hTT g hx
  exact jN hg2 hc (by decide) rfl)).trans hg2
 have hBW:Below base w W:=(H1.2.bel.trans hs2.bel).trans (hT.below (by have:=HM.2.2.2.2.2.2.1;omega) (fun x hx=>by have:=(hTT x hx).1;have:=HM.2.2.2.2.2.2.1;omega))
 have HW:Hid (iE S' S2∧jK W base S2∧W.heap[g]?=some (.cells S2.cells 34 (0,0))∧Below base w W∧Gr W fs a∧w.heap.size≤W.heap.size):=⟨hA,hOW,hgW,hBW,hR,hBW.size⟩
 have hlen:=HM.2.2.2.2.2.2.2
 generalize hnn:fs.length=n at *
 clear hm2 hA hO hg2 hs2 hR hT hTT hOW hgW hBW HN H1 z1 z2
 go_wp2_with (at_builtin;refine Lib.wpList_append_run _ rfl _ _ _ _ rfl _ _ rfl rfl _ _ hrun ?_)
 clear hrun
 go_loopw [6,19] (fun s6 i wr=>∃ (k:Nat) (a1:Option Addr) (c1:Nat),k≤n∧i=.int .i64 k∧s6=.slice a1 k c1∧Hid (OG 43 5 wr W.heap.size a1 k c1 (tV k fun i=>(fsF fs i).frame)∧Below W.heap.size W wr)) (fun _ i _=>n-(intOf i).toNat)
 case atStart=>exact ⟨0,none,0,Nat.zero_le _,rfl,rfl,OG.nil _ _ _ _,Below.refl _ _⟩
 obtain ⟨k,a1,c1,hk,rfl,rfl,HK⟩:=hrel
 by_cases hlt:k<n
 ·
  have hlt':(k:Int)<n:=by omega
  obtain ⟨gm,o,v,ea,hc,hmv⟩:=(HW.2.2.2.2.1.up HK.2) k (by rw [hnn];exact hlt)
  subst ea
  have fin:∀ (w3:World),Below wr.heap.size wr w3→∃ g1 c3 X3,(Builtin.append_ #[37,37] 37 #[.slice a1 k c1,.slice (some (Hh w3.heap.size 0)) 1 1]).run Tryz.prog (w3.alloc (.cells (fsF fs k).frame 43))=.ok (.slice (some (Hh g1 0)) (k+1) c3) X3∧Hid (OG 43 5 X3 W.heap.size (some (Hh g1 0)) (k+1) c3 (tV (k+1) fun i=>(fsF fs i).frame)∧Below W.heap.size W X3):=fun w3 hb3=>by
   obtain ⟨g1,c3,X3,hr,hu,ht,_⟩:=me 37 43 _ 5 48 vW Tryz.underlying37 rfl (by decide) (by decide) (HK.1.up hb3) (by omega) (Nat.le_trans HK.2.size hb3.size) (fsF fs k).frame rfl (Pkt.oneF _)
   refine ⟨g1,c3,X3,hr,by rw [rq];exact hu,?_⟩
   exact (HK.2.trans (hb3.mono HK.2.size)).trans (ht.below (Nat.le_trans HK.2.size hb3.size) (fun x hx=>(HK.1.blk x hx).1))
  have HF:=aa fin
  clear fin HK
  rcases hmv with ⟨b,eF,rfl⟩ | ⟨rfl,hlim⟩
  ·
   cases b
   ·
    unfold Gw at hc
    simp only [Bool.false_eq_true,if_false] at hc
    rw [eF] at HF
    go_wp2_with fail
    refine (AB _).mono ?_
    rintro e w3 ⟨rfl,hb3⟩
    obtain ⟨g1,c3,X3,hr,HX⟩:=HF w3 hb3
    have hr':(Builtin.append_ #[37,37] 37 #[.slice a1 k c1,.slice (some (Hh w3.heap.size 0)) 1 1]).run Tryz.prog (w3.alloc (.cells #[.int .i64 3,.int .i64 0,.int .i64 0,.int .i64 2,.string ⟨#[]⟩] 43))=.ok (.slice (some (Hh g1 0)) (k+1) c3) X3:=hr
    exact gH
   unfold Gw at hc
   simp only [if_true] at hc
   rw [eF] at HF
   go_wp2_with fail
   refine (AD _).mono ?_
   rintro e w3 ⟨rfl,hb3⟩
   obtain ⟨g1,c3,X3,hr,HX⟩:=HF w3 hb3
   have hr':(Builtin.append_ #[37,37] 37 #[.slice a1 k c1,.slice (some (Hh w3.heap.size 0)) 1 1]).run Tryz.prog (w3.alloc (.cells #[.int .i64 2,.int .i64 0,.int .i64 0,.int .i64 2,.string ⟨#[]⟩] 43))=.ok (.slice (some (Hh g1 0)) (k+1) c3) X3:=hr
   exact gH
  generalize fsF fs k=x at *
  unfold Pkt.frame at hc
  go_wp2_with fail
  refine (AA x.k x.d x.s x.p x.b _ (by omega)).mono ?_
  rintro e w3 ⟨rfl,hb3⟩
  obtain ⟨g1,c3,X3,hr,HX⟩:=HF w3 hb3
  have hr':(Builtin.append_ #[37,37] 37 #[.slice a1 k c1,.slice (some (Hh w3.heap.size 0)) 1 1]).run Tryz.prog (w3.alloc (.cells #[.int .i64 x.k,.int .i64 x.d,.int .i64 x.s,.int .i64 x.p,.string x.b] 43))=.ok (.slice (some (Hh g1 0)) (k+1) c3) X3:=hr
  exact gH
 obtain rfl:k=n:=by omega
 go_wp2_with fail
 subst hnn
 go_ret
 have hb:=HK.2
 refine ⟨_,_,S2,rfl,HK.1.mono HW.2.2.2.2.2,HW.1,HW.2.1.up hb,(hb.block g (iw HW.2.2.1)).trans HW.2.2.1,HW.2.2.2.1.trans (hb.mono ?_)⟩
 have:=HM.2.2.2.2.2.2.1
 have:=HW.2.2.2.2.2
 omega
def yf (S S':Swg) (port:Int) (fs:List Pkt) (b:Bool):Prop :=
 (b=true∧S.Ok∧∃ i:Nat,port=(i:Int)∧i<S.nL∧mO S S' i fs)∨(b=false∧¬ (S.Ok∧0≤port∧port≤S.C.p-1)∧S'=lQ∧fs=[])
theorem zn (S:Swg) (port:Int):∃ S' fs b,yf S S' port fs b:=by
 by_cases h:S.Ok∧0≤port∧port≤S.C.p-1
 ·
  obtain ⟨i,rfl⟩:∃ i:Nat,port=(i:Int):=⟨port.toNat,by omega⟩
  have hi:i<S.nL:=by have:=h.1.nl;omega
  obtain ⟨S',fs,hm⟩:=EM h.1 hi
  exact ⟨S',fs,true,.inl ⟨rfl,h.1,i,rfl,hi,hm⟩⟩
 exact ⟨_,_,_,.inr ⟨rfl,h,rfl,rfl⟩⟩
theorem mO.tL {S S' P:Swg} (h:mO S S' i fs) (hi:i<S.nL) (ha:iE S P):∃ P',mO P P' i fs∧iE S' P':=by
 obtain ⟨gs,hn,e⟩:=h.next
 obtain ⟨P',hp,hA⟩:=hn.tL hi (AE ha i)
 refine ⟨P',?_,hA⟩
 have et:lr P.C P.N i=lr S.C S.N i:=by unfold lr;rw [ha.c,CB ha.n,ha.n.u,ha.n.p]
 obtain ⟨l',id,ht,⟨h0,h1,h2⟩ | ⟨h0,j,hj,hid,hf,hr⟩⟩:=hp
 ·
  exact ⟨l',id,ht,.inl ⟨h0,h1,by rw [et,e,h2,List.append_nil]⟩⟩
 exact ⟨l',id,ht,.inr ⟨h0,j,hj,hid,by rw [et,e,hf];rfl,hr⟩⟩
theorem jK.offB {S:Swg} (h:jK w base S) (hg:w.heap[g]?=some (.cells cs 34 (0,0))) (ht:Touch [g] w w'):jK w' base S:=by
 have far:∀ x t,(∃ cs,w.heap[x]?=some (.cells cs t (0,0)))→t≠34→x∉[g]:=by
  rintro x t ⟨cs,hx⟩ hne hy
  exact jN hx hg hne (by simpa using hy)
 exact aG
theorem Cl (S S':Swg) (port:Int) (fs:List Pkt) (w:World) (hs:S.Small) (hr:lN w S) (b:Bool) (hm:yf S S' port fs b) :
  Calls Tryz.prog 7 #[.agg S.cells,.int .i64 port] w fun e w'=>∃ S2 a c,e=.returned (.tuple #[.agg S2.cells,.slice a fs.length c,.bool b])∧iE S' S2∧jK w' w.heap.size S2∧OG 43 5 w' w.heap.size a fs.length c (tV fs.length fun i=>(fsF fs i).frame)∧Below w.heap.size w w':=by
 obtain ⟨ok,hok⟩:=jG S.Ok
 have HO:=aa hok
 have HM:=aa hm
 have HR:=aa hr
 have HS:=aa hs
 obtain ⟨W,eW⟩:∃ W,(w.alloc (.cells S.cells 34)).alloc (.cells ab 34)=W:=⟨_,rfl⟩
 have HX:Hid (Two w S.cells zSw 34 W):=by rw [←eW];exact Two.start _ _ _ _
 have HL:Hid (∀ j,j<17→W.cell? (Hh w.heap.size (0+j))=S.cells[j]?):=fun j _=>by rw [Nat.zero_add];exact iv HX.a j
 clear hs hr hok hm
 go_enter Tryz.func7,Tryz.ntmps7
 go_wp2_with (refine iC rfl 34 17 _ Tryz.underlying34 rfl iI (.tmp 2) rfl (w.heap.size) 0 rfl S.cells rfl HL.out ?_)
 clear eW HL
 refine (qT S _ HS (HR.up HX.bel) ok HO).mono ?_
 rintro e w1 ⟨rfl,hbl⟩
 replace HX:=aa (HX.up hbl)
 clear hbl
 have HD:=aa HX.b
 cases ok
 ·
  have HF:Hid (b=false∧S'=lQ∧fs=[]):=by
   rcases HM.out with ⟨_,h,_⟩ | ⟨h1,_,h2,h3⟩
   ·
    exact absurd (HO.2 h) (by simp)
   exact ⟨h1,h2,h3⟩
  go_wp2_with (refine iA rfl 34 (.tmp 4) (.tmp 18) rfl (w.heap.size+1) 0 rfl (.agg ab) rfl 17 rfl 34 _ HD iI (Nat.le_of_ble_eq_true rfl) (by simp [Value.cells,Value.oneCell']) ?_)
  intro X hP
  replace hP:Put w1 X (w.heap.size+1) lQ.cells 34:=hP.cast rfl
  exact gO
 have HOk:Hid S.Ok:=HO.1 rfl
 have hp4:=HOk.n.c.num.p
 have HL:Hid (∀ j,j<17→w1.cell? (Hh w.heap.size (0+j))=S.cells[j]?):=fun j _=>by rw [Nat.zero_add];exact iv HX.a j
 go_wp2_with (refine lW (by rfl) 34 17 _ Tryz.underlying34 rfl iI (.tmp 2) rfl (w.heap.size) 0 rfl S.cells rfl HL.out ?_)
 refine (qs S port _ (by omega) (by omega)).mono ?_
 rintro e w2 ⟨rfl,hbl⟩
 replace HX:=aa (HX.up hbl)
 clear hbl HD HL
 have HD:=aa HX.b
 by_cases hport:0≤port∧port≤S.C.p-1
 rotate_left
 ·
  have hdec:decide (0≤port∧port≤S.C.p-1)=false:=by simp only [decide_eq_false_iff_not];exact hport
  have HF:Hid (b=false∧S'=lQ∧fs=[]):=by
   rcases HM.out with ⟨_,h,i,rfl,hi,_⟩ | ⟨h1,_,h2,h3⟩
   ·
    have:=h.nl
    exact absurd (by omega) hport
   exact ⟨h1,h2,h3⟩
  rw [hdec]
  clear hport hdec
  go_wp2_with (refine iA rfl 34 (.tmp 4) (.tmp 18) rfl (w.heap.size+1) 0 rfl (.agg ab) rfl 17 rfl 34 _ HD iI (Nat.le_of_ble_eq_true rfl) (by simp [Value.cells,Value.oneCell']) ?_)
  intro X hP
  replace hP:Put w2 X (w.heap.size+1) lQ.cells 34:=hP.cast rfl
  exact gO
 have hdec:decide (0≤port∧port≤S.C.p-1)=true:=by simp only [decide_eq_true_eq];exact hport
 have HF:Hid (b=true∧∃ i:Nat,port=(i:Int)∧i<S.nL∧mO S S' i fs):=by
  rcases HM.out with ⟨h1,h,h2⟩ | ⟨h1,h2,_⟩
  ·
   exact ⟨h1,h2⟩
  exact absurd ⟨HOk,hport⟩ h2
 obtain ⟨hb1,i,rfl,hi,hsm⟩:=HF.out
 have HSM:Hid (mO S S' i fs∧i<S.nL∧b=true):=⟨hsm,hi,hb1⟩
 have HL:Hid (∀ j,j<17→w2.cell? (Hh w.heap.size (0+j))=S.cells[j]?):=fun j _=>by rw [Nat.zero_add];exact iv HX.a j
 rw [hdec]
 clear hport hdec HM HF hb1 hi hsm
 obtain ⟨_,_,_,ht4,ht5⟩:=zi HOk.out
 go_wp2_with (refine iC rfl 34 17 _ Tryz.underlying34 rfl iI (.tmp 2) rfl (w.heap.size) 0 rfl S.cells rfl HL.out ?_)
 clear HL
 have hW1:w.heap.size+1<w2.heap.size:=iw HX.b
 refine (ur S _ HS ht4 ht5 (HR.up HX.bel)).mono ?_
 rintro e w3 ⟨P,rfl,aP,oP,hbl⟩
 replace HX:=aa (HX.up hbl)
 have HP:Hid (iE S P∧iP w3 w2.heap.size P):=⟨aP,oP⟩
 have hz3:=hbl.size
 clear aP oP hbl
 have HG:Hid ((w3.alloc (.cells ab 34)).heap[w3.heap.size]?=some (.cells ab 34 (0,0))):=iy _ _
 go_wp2_with (refine iA rfl 34 (.tmp 7) (.tmp 20) rfl (w3.heap.size) 0 rfl (.agg P.cells) rfl 17 rfl 34 _ HG iI (Nat.le_of_ble_eq_true rfl) (Swg.mc _) ?_)
 intro X0 hP
 replace hP:Put _ X0 w3.heap.size P.cells 34:=hP.cast rfl
 have hbl:Below w3.heap.size w3 X0:=((Below.refl _ _).alloc (Nat.le_refl _) _).trans (hP.to.below (by simp) (fun x hx=>by simp at hx;omega))
 have kN:=hP.blk
 have hgN:w.heap.size+1<w3.heap.size:=iw HX.b
 replace HX:=aa (HX.up hbl)
 replace HP:Hid (iE S P∧iP X0 w2.heap.size P):=⟨HP.1,HP.2.up hbl⟩
 clear hP HG hbl HD
 obtain ⟨gN,eN⟩:∃ g,w3.heap.size=g:=⟨_,rfl⟩
 rw [eN] at kN hgN hz3 ⊢
 clear eN
 obtain ⟨bP,eP⟩:∃ g,w2.heap.size=g:=⟨_,rfl⟩
 rw [eP] at hW1 hz3 HP
 clear eP
 have HgN:Hid (w.heap.size+1<bP∧bP≤gN):=⟨hW1,hz3⟩
 have HkN:=aa kN
 clear kN hgN
 obtain ⟨P',hsp,haP⟩:=HSM.1.tL HSM.2.1 HP.1
 have HSP:Hid (mO P P' i fs∧iE S' P'):=⟨hsp,haP⟩
 clear hsp haP
 clear hW1 hz3
 go_wp2_with fail
 refine (yw P P' fs i gN bP X0 HkN HgN.2 HP.2 (by rw [HP.1.nL];exact HSM.2.1) (HP.1.ok1 HOk) (HP.1.small HS).n.fit HSP.1).mono ?_
 rintro e X1 ⟨a,c,S2,rfl,hF,hA,hO,kN,hb⟩
 have z0:=HX.bel.size
 replace HX:Hid (Two w S.cells zSw 34 X1):=⟨(hb.block _ (by have:=HgN.1;omega)).trans HX.a,(hb.block _ HgN.1).trans HX.b,HX.bel.trans (hb.mono (by have:=HgN.1;omega))⟩
 have HN:Hid (iE S' S2∧jK X1 w.heap.size S2∧OG 43 5 X1 w.heap.size a fs.length c (tV fs.length fun i=>(fsF fs i).frame)):=⟨HSP.2.trans hA,hO.mono (by have:=HgN.1;omega),hF.mono z0⟩
 have HL:Hid (∀ j,j<17→X1.cell? (Hh gN (0+j))=S2.cells[j]?):=fun j _=>by rw [Nat.zero_add];exact iv kN j
 have HD:=aa HX.b
 clear kN hO hA hF hb z0 HP HkN HSP
 go_wp2_with (first | refine iC rfl 34 17 _ Tryz.underlying34 rfl iI (.tmp 7) rfl (gN) 0 rfl S2.cells rfl HL.out ?_ | refine iA rfl 34 (.tmp 4) (.tmp 23) rfl (w.heap.size+1) 0 rfl (.agg S2.cells) rfl 17 rfl 34 _ HD iI (Nat.le_of_ble_eq_true rfl) (Swg.mc _) ?_)
 intro X hP
 replace hP:Put X1 X (w.heap.size+1) S2.cells 34:=hP.cast rfl
 have HK:=aa hP.blk
 have HFF:Hid (jK X w.heap.size S2∧OG 43 5 X w.heap.size a fs.length c (tV fs.length fun i=>(fsF fs i).frame)∧Below w.heap.size w X):=⟨HN.2.1.offB HD hP.to,HN.2.2.iB hP.to (fun x hx hy=>HN.2.2.mv (by decide) HD (by simp at hy;rw [←hy];exact hx)),HX.bel.trans (hP.to.below HX.bel.size (fun x hx=>by simp at hx;omega))⟩
 clear hP HL HD
 go_wp2_with fail
 rw [HSM.2.2]
 exact bodyPost_ret (pH Tryz.results7 17 _ Tryz.underlying34 rfl iI _ _ (w.heap.size+1) S2.cells rfl 34 HK.out rfl (.slice a fs.length c) rfl (.bool true) rfl) rfl ⟨S2,a,c,rfl,HN.1,HFF.1,HFF.2.1,HFF.2.2⟩
