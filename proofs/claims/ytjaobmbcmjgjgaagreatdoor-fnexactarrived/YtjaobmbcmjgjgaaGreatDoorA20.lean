import Derived.Test.YtjaobmbcmjgjgaaGreatDoorA19
namespace Go.Proofs.YtjaobmbcmjgjgaaGreatDoor
set_option maxRecDepth 10000
open Go.RowKit
set_option linter.unusedVariables false
set_option linter.unusedSimpArgs false
theorem fV:(Tryz.prog.info? 43).map (·.size)=some 17:=by kernel_rfl
theorem BU:(Tryz.prog.info? 37).map (·.size)=some 7:=by kernel_rfl
theorem zb:(Tryz.prog.info? 39).map (·.size)=some 3:=by kernel_rfl
theorem qi:(Tryz.prog.info? 38).map (·.size)=some 1:=by kernel_rfl
theorem yZ:(Tryz.prog.info? 40).map (·.size)=some 1:=by kernel_rfl
theorem tj:(Tryz.prog.info? 41).map (·.size)=some 1:=by kernel_rfl
theorem Swg.mi (S:Swg):S.cells.all (·.oneCell')=true:=by simp [Swg.cells,Value.oneCell']
set_option maxHeartbeats 4000000 in
theorem jh (S:Swg) (w:World) (hs:S.Small) (h:jL w S) :
  Calls Tryz.prog 7 #[.agg S.cells] w fun e w'=>∃ S2,e=.returned (.agg S2.cells)∧fP S S2∧iD w' w.heap.size S2∧Below w.heap.size w w':=by
 have HR:Hid (jL w S):=h
 have HS:Hid S.Small:=hs
 clear h hs
 obtain ⟨W0,eW⟩:∃ W,(((w.alloc (.cells S.cells 32)).alloc (.cells #[.int .i64 0,.int .i64 0,.int .i64 0,.int .i64 0,.int .i64 0,.int .i64 0,.int .i64 0,.int .i64 0,.int .i64 0,.slice none 0 0,.slice none 0 0,.int .i64 0,.slice none 0 0,.slice none 0 0,.slice none 0 0,.int .i64 0,.int .i64 0] 43)).alloc (.cells #[.int .i64 0,.int .i64 0,.int .i64 0,.int .i64 0,.int .i64 0,.int .i64 0,.int .i64 0,.int .i64 0,.int .i64 0,.slice none 0 0,.slice none 0 0,.int .i64 0,.slice none 0 0,.slice none 0 0,.slice none 0 0,.int .i64 0,.int .i64 0] 43))=W:=⟨_,rfl⟩
 have HX:Hid (gI w S.cells #[.int .i64 0,.int .i64 0,.int .i64 0,.int .i64 0,.int .i64 0,.int .i64 0,.int .i64 0,.int .i64 0,.int .i64 0,.slice none 0 0,.slice none 0 0,.int .i64 0,.slice none 0 0,.slice none 0 0,.slice none 0 0,.int .i64 0,.int .i64 0] #[.int .i64 0,.int .i64 0,.int .i64 0,.int .i64 0,.int .i64 0,.int .i64 0,.int .i64 0,.int .i64 0,.int .i64 0,.slice none 0 0,.slice none 0 0,.int .i64 0,.slice none 0 0,.slice none 0 0,.slice none 0 0,.int .i64 0,.int .i64 0] 32 43 W0):=by rw [←eW];exact gI.start _ _ _ _ _ _
 go_enter Tryz.func7,Tryz.ntmps7
 have c0:W0.cell? ⟨w.heap.size,0,none⟩=some (.int .i64 S.C.p):=fF HX.out.a 0
 have c1:W0.cell? ⟨w.heap.size,1,none⟩=some (.int .i64 S.C.c):=fF HX.out.a 1
 have c2:W0.cell? ⟨w.heap.size,2,none⟩=some (.int .i64 S.C.xo):=fF HX.out.a 2
 have c3:W0.cell? ⟨w.heap.size,3,none⟩=some (.int .i64 S.C.xn):=fF HX.out.a 3
 have c4:W0.cell? ⟨w.heap.size,4,none⟩=some (.int .i64 S.C.hd):=fF HX.out.a 4
 have c5:W0.cell? ⟨w.heap.size,5,none⟩=some (.int .i64 S.C.lo):=fF HX.out.a 5
 have c6:W0.cell? ⟨w.heap.size,6,none⟩=some (.int .i64 S.C.dl):=fF HX.out.a 6
 go_wp2_with fail
 clear eW
 refine (sr S.C _).mono ?_
 rintro e wc ⟨rfl,hb⟩
 clear c0 c1 c2 c3 c4 c5 c6
 replace HX:Hid (gI w S.cells #[.int .i64 0,.int .i64 0,.int .i64 0,.int .i64 0,.int .i64 0,.int .i64 0,.int .i64 0,.int .i64 0,.int .i64 0,.slice none 0 0,.slice none 0 0,.int .i64 0,.slice none 0 0,.slice none 0 0,.slice none 0 0,.int .i64 0,.int .i64 0] #[.int .i64 0,.int .i64 0,.int .i64 0,.int .i64 0,.int .i64 0,.int .i64 0,.int .i64 0,.int .i64 0,.int .i64 0,.slice none 0 0,.slice none 0 0,.int .i64 0,.slice none 0 0,.slice none 0 0,.slice none 0 0,.int .i64 0,.int .i64 0] 32 43 wc):=HX.out.up hb
 have T1:Touch [w.heap.size+1,w.heap.size+1+1] W0 wc:=Touch.gY hb
 clear hb
 have HC:=HX.out.c
 replace HC:Hid (wc.heap[w.heap.size+1+1]?=some (.cells #[.int .i64 0,.int .i64 0,.int .i64 0,.int .i64 0,.int .i64 0,.int .i64 0,.int .i64 0,.int .i64 0,.int .i64 0,.slice none 0 0,.slice none 0 0,.int .i64 0,.slice none 0 0,.slice none 0 0,.slice none 0 0,.int .i64 0,.int .i64 0] 43 (0,0))):=HC
 go_wp2_with (refine fJ rfl 37 (.tmp 7) (.tmp 6) rfl (w.heap.size+1+1) 0 rfl (.agg S.C.cells) rfl 7 rfl 43 _ HC.out BU (Nat.le_of_ble_eq_true rfl) (by simp [Value.cells,Value.oneCell',Rnd.cells,Cfg.cells,Cnt.cells]) ?_)
 intro W2 hP
 replace hP:=hP.cast (cs':=#[.int .i64 S.C.p,.int .i64 S.C.c,.int .i64 S.C.xo,.int .i64 S.C.xn,.int .i64 S.C.hd,.int .i64 S.C.lo,.int .i64 S.C.dl,.int .i64 0,.int .i64 0,.slice none 0 0,.slice none 0 0,.int .i64 0,.slice none 0 0,.slice none 0 0,.slice none 0 0,.int .i64 0,.int .i64 0]) rfl
 replace HX:Hid (gI w S.cells #[.int .i64 0,.int .i64 0,.int .i64 0,.int .i64 0,.int .i64 0,.int .i64 0,.int .i64 0,.int .i64 0,.int .i64 0,.slice none 0 0,.slice none 0 0,.int .i64 0,.slice none 0 0,.slice none 0 0,.slice none 0 0,.int .i64 0,.int .i64 0] #[.int .i64 S.C.p,.int .i64 S.C.c,.int .i64 S.C.xo,.int .i64 S.C.xn,.int .i64 S.C.hd,.int .i64 S.C.lo,.int .i64 S.C.dl,.int .i64 0,.int .i64 0,.slice none 0 0,.slice none 0 0,.int .i64 0,.slice none 0 0,.slice none 0 0,.slice none 0 0,.int .i64 0,.int .i64 0] 32 43 W2):=HX.out.put hP
 have T2:Touch [w.heap.size+1,w.heap.size+1+1] wc W2:=hP.to.mono (fun x hx=>by simp at hx;simp [hx])
 clear hP HC 
 have c7:W2.cell? ⟨w.heap.size,7,none⟩=some (.int .i64 S.now):=fF HX.out.a 7
 have HC:=HX.out.c
 replace HC:Hid (W2.heap[w.heap.size+1+1]?=some (.cells #[.int .i64 S.C.p,.int .i64 S.C.c,.int .i64 S.C.xo,.int .i64 S.C.xn,.int .i64 S.C.hd,.int .i64 S.C.lo,.int .i64 S.C.dl,.int .i64 0,.int .i64 0,.slice none 0 0,.slice none 0 0,.int .i64 0,.slice none 0 0,.slice none 0 0,.slice none 0 0,.int .i64 0,.int .i64 0] 43 (0,0))):=HC
 go_wp2_with (refine fJ rfl 2 (.tmp 10) (.tmp 9) rfl (w.heap.size+1+1) 7 rfl (.int .i64 S.now) rfl 1 rfl 43 _ HC.out iP (Nat.le_of_ble_eq_true rfl) (by simp [Value.cells,Value.oneCell',Rnd.cells,Cfg.cells,Cnt.cells]) ?_)
 intro W3 hP
 replace hP:=hP.cast (cs':=#[.int .i64 S.C.p,.int .i64 S.C.c,.int .i64 S.C.xo,.int .i64 S.C.xn,.int .i64 S.C.hd,.int .i64 S.C.lo,.int .i64 S.C.dl,.int .i64 S.now,.int .i64 0,.slice none 0 0,.slice none 0 0,.int .i64 0,.slice none 0 0,.slice none 0 0,.slice none 0 0,.int .i64 0,.int .i64 0]) rfl
 replace HX:Hid (gI w S.cells #[.int .i64 0,.int .i64 0,.int .i64 0,.int .i64 0,.int .i64 0,.int .i64 0,.int .i64 0,.int .i64 0,.int .i64 0,.slice none 0 0,.slice none 0 0,.int .i64 0,.slice none 0 0,.slice none 0 0,.slice none 0 0,.int .i64 0,.int .i64 0] #[.int .i64 S.C.p,.int .i64 S.C.c,.int .i64 S.C.xo,.int .i64 S.C.xn,.int .i64 S.C.hd,.int .i64 S.C.lo,.int .i64 S.C.dl,.int .i64 S.now,.int .i64 0,.slice none 0 0,.slice none 0 0,.int .i64 0,.slice none 0 0,.slice none 0 0,.slice none 0 0,.int .i64 0,.int .i64 0] 32 43 W3):=HX.out.put hP
 have T3:Touch [w.heap.size+1,w.heap.size+1+1] W2 W3:=hP.to.mono (fun x hx=>by simp at hx;simp [hx])
 clear hP HC c7
 have c8:W3.cell? ⟨w.heap.size,8,none⟩=some (.int .i64 S.nx):=fF HX.out.a 8
 have HC:=HX.out.c
 replace HC:Hid (W3.heap[w.heap.size+1+1]?=some (.cells #[.int .i64 S.C.p,.int .i64 S.C.c,.int .i64 S.C.xo,.int .i64 S.C.xn,.int .i64 S.C.hd,.int .i64 S.C.lo,.int .i64 S.C.dl,.int .i64 S.now,.int .i64 0,.slice none 0 0,.slice none 0 0,.int .i64 0,.slice none 0 0,.slice none 0 0,.slice none 0 0,.int .i64 0,.int .i64 0] 43 (0,0))):=HC
 go_wp2_with (refine fJ rfl 2 (.tmp 13) (.tmp 12) rfl (w.heap.size+1+1) 8 rfl (.int .i64 S.nx) rfl 1 rfl 43 _ HC.out iP (Nat.le_of_ble_eq_true rfl) (by simp [Value.cells,Value.oneCell',Rnd.cells,Cfg.cells,Cnt.cells]) ?_)
 intro W4 hP
 replace hP:=hP.cast (cs':=#[.int .i64 S.C.p,.int .i64 S.C.c,.int .i64 S.C.xo,.int .i64 S.C.xn,.int .i64 S.C.hd,.int .i64 S.C.lo,.int .i64 S.C.dl,.int .i64 S.now,.int .i64 S.nx,.slice none 0 0,.slice none 0 0,.int .i64 0,.slice none 0 0,.slice none 0 0,.slice none 0 0,.int .i64 0,.int .i64 0]) rfl
 replace HX:Hid (gI w S.cells #[.int .i64 0,.int .i64 0,.int .i64 0,.int .i64 0,.int .i64 0,.int .i64 0,.int .i64 0,.int .i64 0,.int .i64 0,.slice none 0 0,.slice none 0 0,.int .i64 0,.slice none 0 0,.slice none 0 0,.slice none 0 0,.int .i64 0,.int .i64 0] #[.int .i64 S.C.p,.int .i64 S.C.c,.int .i64 S.C.xo,.int .i64 S.C.xn,.int .i64 S.C.hd,.int .i64 S.C.lo,.int .i64 S.C.dl,.int .i64 S.now,.int .i64 S.nx,.slice none 0 0,.slice none 0 0,.int .i64 0,.slice none 0 0,.slice none 0 0,.slice none 0 0,.int .i64 0,.int .i64 0] 32 43 W4):=HX.out.put hP
 have T4:Touch [w.heap.size+1,w.heap.size+1+1] W3 W4:=hP.to.mono (fun x hx=>by simp at hx;simp [hx])
 clear hP HC c8
 have c9:W4.cell? ⟨w.heap.size,9,none⟩=some (.slice S.aE S.nE S.cE):=fF HX.out.a 9
 go_wp2_with fail
 refine (wK S.aE S.nE S.cE S.e _ HS.out.e (HR.out.e.up HX.out.bel)).mono ?_
 rintro e we ⟨rfl,rE,hb⟩
 clear c9
 have sE:=HX.out.sz
 replace HX:Hid (gI w S.cells #[.int .i64 0,.int .i64 0,.int .i64 0,.int .i64 0,.int .i64 0,.int .i64 0,.int .i64 0,.int .i64 0,.int .i64 0,.slice none 0 0,.slice none 0 0,.int .i64 0,.slice none 0 0,.slice none 0 0,.slice none 0 0,.int .i64 0,.int .i64 0] #[.int .i64 S.C.p,.int .i64 S.C.c,.int .i64 S.C.xo,.int .i64 S.C.xn,.int .i64 S.C.hd,.int .i64 S.C.lo,.int .i64 S.C.dl,.int .i64 S.now,.int .i64 S.nx,.slice none 0 0,.slice none 0 0,.int .i64 0,.slice none 0 0,.slice none 0 0,.slice none 0 0,.int .i64 0,.int .i64 0] 32 43 we):=HX.out.up hb
 have T5:Touch [w.heap.size+1,w.heap.size+1+1] W4 we:=Touch.gY hb
 clear hb
 have HC:=HX.out.c
 replace HC:Hid (we.heap[w.heap.size+1+1]?=some (.cells #[.int .i64 S.C.p,.int .i64 S.C.c,.int .i64 S.C.xo,.int .i64 S.C.xn,.int .i64 S.C.hd,.int .i64 S.C.lo,.int .i64 S.C.dl,.int .i64 S.now,.int .i64 S.nx,.slice none 0 0,.slice none 0 0,.int .i64 0,.slice none 0 0,.slice none 0 0,.slice none 0 0,.int .i64 0,.int .i64 0] 43 (0,0))):=HC
 go_wp2_with (refine fJ rfl 38 (.tmp 17) (.tmp 16) rfl (w.heap.size+1+1) 9 rfl (.slice (some ⟨W4.heap.size,0,none⟩) S.nE S.nE) rfl 1 rfl 43 _ HC.out qi (Nat.le_of_ble_eq_true rfl) (by simp [Value.cells,Value.oneCell',Rnd.cells,Cfg.cells,Cnt.cells]) ?_)
 intro W6 hP
 replace hP:=hP.cast (cs':=#[.int .i64 S.C.p,.int .i64 S.C.c,.int .i64 S.C.xo,.int .i64 S.C.xn,.int .i64 S.C.hd,.int .i64 S.C.lo,.int .i64 S.C.dl,.int .i64 S.now,.int .i64 S.nx,.slice (some ⟨W4.heap.size,0,none⟩) S.nE S.nE,.slice none 0 0,.int .i64 0,.slice none 0 0,.slice none 0 0,.slice none 0 0,.int .i64 0,.int .i64 0]) rfl
 replace HX:Hid (gI w S.cells #[.int .i64 0,.int .i64 0,.int .i64 0,.int .i64 0,.int .i64 0,.int .i64 0,.int .i64 0,.int .i64 0,.int .i64 0,.slice none 0 0,.slice none 0 0,.int .i64 0,.slice none 0 0,.slice none 0 0,.slice none 0 0,.int .i64 0,.int .i64 0] #[.int .i64 S.C.p,.int .i64 S.C.c,.int .i64 S.C.xo,.int .i64 S.C.xn,.int .i64 S.C.hd,.int .i64 S.C.lo,.int .i64 S.C.dl,.int .i64 S.now,.int .i64 S.nx,.slice (some ⟨W4.heap.size,0,none⟩) S.nE S.nE,.slice none 0 0,.int .i64 0,.slice none 0 0,.slice none 0 0,.slice none 0 0,.int .i64 0,.int .i64 0] 32 43 W6):=HX.out.put hP
 have T6:Touch [w.heap.size+1,w.heap.size+1+1] we W6:=hP.to.mono (fun x hx=>by simp at hx;simp [hx])
 clear hP HC 
 have c10:W6.cell? ⟨w.heap.size,10,none⟩=some (.slice S.N.aU S.N.nU S.N.cU):=fF HX.out.a 10
 have c11:W6.cell? ⟨w.heap.size,11,none⟩=some (.int .i64 S.N.lo):=fF HX.out.a 11
 have c12:W6.cell? ⟨w.heap.size,12,none⟩=some (.slice S.N.aP S.N.nP S.N.cP):=fF HX.out.a 12
 go_wp2_with fail
 refine (sq S.N _ HS.out.n (HR.out.n.up HX.out.bel)).mono ?_
 rintro e wn ⟨gU,gP,rfl,rN,hb⟩
 clear c10 c11 c12
 have sN:=HX.out.sz
 replace HX:Hid (gI w S.cells #[.int .i64 0,.int .i64 0,.int .i64 0,.int .i64 0,.int .i64 0,.int .i64 0,.int .i64 0,.int .i64 0,.int .i64 0,.slice none 0 0,.slice none 0 0,.int .i64 0,.slice none 0 0,.slice none 0 0,.slice none 0 0,.int .i64 0,.int .i64 0] #[.int .i64 S.C.p,.int .i64 S.C.c,.int .i64 S.C.xo,.int .i64 S.C.xn,.int .i64 S.C.hd,.int .i64 S.C.lo,.int .i64 S.C.dl,.int .i64 S.now,.int .i64 S.nx,.slice (some ⟨W4.heap.size,0,none⟩) S.nE S.nE,.slice none 0 0,.int .i64 0,.slice none 0 0,.slice none 0 0,.slice none 0 0,.int .i64 0,.int .i64 0] 32 43 wn):=HX.out.up hb
 have T7:Touch [w.heap.size+1,w.heap.size+1+1] W6 wn:=Touch.gY hb
 clear hb
 have HC:=HX.out.c
 replace HC:Hid (wn.heap[w.heap.size+1+1]?=some (.cells #[.int .i64 S.C.p,.int .i64 S.C.c,.int .i64 S.C.xo,.int .i64 S.C.xn,.int .i64 S.C.hd,.int .i64 S.C.lo,.int .i64 S.C.dl,.int .i64 S.now,.int .i64 S.nx,.slice (some ⟨W4.heap.size,0,none⟩) S.nE S.nE,.slice none 0 0,.int .i64 0,.slice none 0 0,.slice none 0 0,.slice none 0 0,.int .i64 0,.int .i64 0] 43 (0,0))):=HC
 go_wp2_with (refine fJ rfl 39 (.tmp 21) (.tmp 20) rfl (w.heap.size+1+1) 10 rfl (.agg (S.N.copy gU gP).cells) rfl 3 rfl 43 _ HC.out zb (Nat.le_of_ble_eq_true rfl) (by simp [Value.cells,Value.oneCell',Rnd.cells,Cfg.cells,Cnt.cells]) ?_)
 intro W8 hP
 replace hP:=hP.cast (cs':=#[.int .i64 S.C.p,.int .i64 S.C.c,.int .i64 S.C.xo,.int .i64 S.C.xn,.int .i64 S.C.hd,.int .i64 S.C.lo,.int .i64 S.C.dl,.int .i64 S.now,.int .i64 S.nx,.slice (some ⟨W4.heap.size,0,none⟩) S.nE S.nE,.slice (some ⟨gU,0,none⟩) S.N.nU S.N.nU,.int .i64 S.N.lo,.slice (some ⟨gP,0,none⟩) S.N.nP S.N.nP,.slice none 0 0,.slice none 0 0,.int .i64 0,.int .i64 0]) rfl
 replace HX:Hid (gI w S.cells #[.int .i64 0,.int .i64 0,.int .i64 0,.int .i64 0,.int .i64 0,.int .i64 0,.int .i64 0,.int .i64 0,.int .i64 0,.slice none 0 0,.slice none 0 0,.int .i64 0,.slice none 0 0,.slice none 0 0,.slice none 0 0,.int .i64 0,.int .i64 0] #[.int .i64 S.C.p,.int .i64 S.C.c,.int .i64 S.C.xo,.int .i64 S.C.xn,.int .i64 S.C.hd,.int .i64 S.C.lo,.int .i64 S.C.dl,.int .i64 S.now,.int .i64 S.nx,.slice (some ⟨W4.heap.size,0,none⟩) S.nE S.nE,.slice (some ⟨gU,0,none⟩) S.N.nU S.N.nU,.int .i64 S.N.lo,.slice (some ⟨gP,0,none⟩) S.N.nP S.N.nP,.slice none 0 0,.slice none 0 0,.int .i64 0,.int .i64 0] 32 43 W8):=HX.out.put hP
 have T8:Touch [w.heap.size+1,w.heap.size+1+1] wn W8:=hP.to.mono (fun x hx=>by simp at hx;simp [hx])
 clear hP HC 
 have c13:W8.cell? ⟨w.heap.size,13,none⟩=some (.slice S.aK S.nK S.cK):=fF HX.out.a 13
 go_wp2_with fail
 refine (qx S.aK S.nK S.cK S.K _ HS.out.k (HR.out.k.up HX.out.bel)).mono ?_
 rintro e wk ⟨rfl,rK,hb⟩
 clear c13
 have sK:=HX.out.sz
 replace HX:Hid (gI w S.cells #[.int .i64 0,.int .i64 0,.int .i64 0,.int .i64 0,.int .i64 0,.int .i64 0,.int .i64 0,.int .i64 0,.int .i64 0,.slice none 0 0,.slice none 0 0,.int .i64 0,.slice none 0 0,.slice none 0 0,.slice none 0 0,.int .i64 0,.int .i64 0] #[.int .i64 S.C.p,.int .i64 S.C.c,.int .i64 S.C.xo,.int .i64 S.C.xn,.int .i64 S.C.hd,.int .i64 S.C.lo,.int .i64 S.C.dl,.int .i64 S.now,.int .i64 S.nx,.slice (some ⟨W4.heap.size,0,none⟩) S.nE S.nE,.slice (some ⟨gU,0,none⟩) S.N.nU S.N.nU,.int .i64 S.N.lo,.slice (some ⟨gP,0,none⟩) S.N.nP S.N.nP,.slice none 0 0,.slice none 0 0,.int .i64 0,.int .i64 0] 32 43 wk):=HX.out.up hb
 have T9:Touch [w.heap.size+1,w.heap.size+1+1] W8 wk:=Touch.gY hb
 clear hb
 have HC:=HX.out.c
 replace HC:Hid (wk.heap[w.heap.size+1+1]?=some (.cells #[.int .i64 S.C.p,.int .i64 S.C.c,.int .i64 S.C.xo,.int .i64 S.C.xn,.int .i64 S.C.hd,.int .i64 S.C.lo,.int .i64 S.C.dl,.int .i64 S.now,.int .i64 S.nx,.slice (some ⟨W4.heap.size,0,none⟩) S.nE S.nE,.slice (some ⟨gU,0,none⟩) S.N.nU S.N.nU,.int .i64 S.N.lo,.slice (some ⟨gP,0,none⟩) S.N.nP S.N.nP,.slice none 0 0,.slice none 0 0,.int .i64 0,.int .i64 0] 43 (0,0))):=HC
 go_wp2_with (refine fJ rfl 40 (.tmp 25) (.tmp 24) rfl (w.heap.size+1+1) 13 rfl (.slice (some ⟨W8.heap.size,0,none⟩) S.nK S.nK) rfl 1 rfl 43 _ HC.out yZ (Nat.le_of_ble_eq_true rfl) (by simp [Value.cells,Value.oneCell',Rnd.cells,Cfg.cells,Cnt.cells]) ?_)
 intro W10 hP
 replace hP:=hP.cast (cs':=#[.int .i64 S.C.p,.int .i64 S.C.c,.int .i64 S.C.xo,.int .i64 S.C.xn,.int .i64 S.C.hd,.int .i64 S.C.lo,.int .i64 S.C.dl,.int .i64 S.now,.int .i64 S.nx,.slice (some ⟨W4.heap.size,0,none⟩) S.nE S.nE,.slice (some ⟨gU,0,none⟩) S.N.nU S.N.nU,.int .i64 S.N.lo,.slice (some ⟨gP,0,none⟩) S.N.nP S.N.nP,.slice (some ⟨W8.heap.size,0,none⟩) S.nK S.nK,.slice none 0 0,.int .i64 0,.int .i64 0]) rfl
 replace HX:Hid (gI w S.cells #[.int .i64 0,.int .i64 0,.int .i64 0,.int .i64 0,.int .i64 0,.int .i64 0,.int .i64 0,.int .i64 0,.int .i64 0,.slice none 0 0,.slice none 0 0,.int .i64 0,.slice none 0 0,.slice none 0 0,.slice none 0 0,.int .i64 0,.int .i64 0] #[.int .i64 S.C.p,.int .i64 S.C.c,.int .i64 S.C.xo,.int .i64 S.C.xn,.int .i64 S.C.hd,.int .i64 S.C.lo,.int .i64 S.C.dl,.int .i64 S.now,.int .i64 S.nx,.slice (some ⟨W4.heap.size,0,none⟩) S.nE S.nE,.slice (some ⟨gU,0,none⟩) S.N.nU S.N.nU,.int .i64 S.N.lo,.slice (some ⟨gP,0,none⟩) S.N.nP S.N.nP,.slice (some ⟨W8.heap.size,0,none⟩) S.nK S.nK,.slice none 0 0,.int .i64 0,.int .i64 0] 32 43 W10):=HX.out.put hP
 have T10:Touch [w.heap.size+1,w.heap.size+1+1] wk W10:=hP.to.mono (fun x hx=>by simp at hx;simp [hx])
 clear hP HC 
 have c14:W10.cell? ⟨w.heap.size,14,none⟩=some (.slice S.aL S.nL S.cL):=fF HX.out.a 14
 go_wp2_with fail
 refine (uG S.aL S.nL S.cL S.L _ HS.out.l HS.out.ls (HR.out.l.up HX.out.bel) (fun i hi=>(HR.out.ls i hi).up HX.out.bel)).mono ?_
 rintro e wl ⟨rfl,L2,rL⟩
 clear c14
 have sL:=HX.out.sz
 have hb:Below W10.heap.size W10 wl:=rL.b
 replace HX:Hid (gI w S.cells #[.int .i64 0,.int .i64 0,.int .i64 0,.int .i64 0,.int .i64 0,.int .i64 0,.int .i64 0,.int .i64 0,.int .i64 0,.slice none 0 0,.slice none 0 0,.int .i64 0,.slice none 0 0,.slice none 0 0,.slice none 0 0,.int .i64 0,.int .i64 0] #[.int .i64 S.C.p,.int .i64 S.C.c,.int .i64 S.C.xo,.int .i64 S.C.xn,.int .i64 S.C.hd,.int .i64 S.C.lo,.int .i64 S.C.dl,.int .i64 S.now,.int .i64 S.nx,.slice (some ⟨W4.heap.size,0,none⟩) S.nE S.nE,.slice (some ⟨gU,0,none⟩) S.N.nU S.N.nU,.int .i64 S.N.lo,.slice (some ⟨gP,0,none⟩) S.N.nP S.N.nP,.slice (some ⟨W8.heap.size,0,none⟩) S.nK S.nK,.slice none 0 0,.int .i64 0,.int .i64 0] 32 43 wl):=HX.out.up hb
 have T11:Touch [w.heap.size+1,w.heap.size+1+1] W10 wl:=Touch.gY hb
 clear hb
 have HC:=HX.out.c
 replace HC:Hid (wl.heap[w.heap.size+1+1]?=some (.cells #[.int .i64 S.C.p,.int .i64 S.C.c,.int .i64 S.C.xo,.int .i64 S.C.xn,.int .i64 S.C.hd,.int .i64 S.C.lo,.int .i64 S.C.dl,.int .i64 S.now,.int .i64 S.nx,.slice (some ⟨W4.heap.size,0,none⟩) S.nE S.nE,.slice (some ⟨gU,0,none⟩) S.N.nU S.N.nU,.int .i64 S.N.lo,.slice (some ⟨gP,0,none⟩) S.N.nP S.N.nP,.slice (some ⟨W8.heap.size,0,none⟩) S.nK S.nK,.slice none 0 0,.int .i64 0,.int .i64 0] 43 (0,0))):=HC
 go_wp2_with (refine fJ rfl 41 (.tmp 29) (.tmp 28) rfl (w.heap.size+1+1) 14 rfl (.slice (some ⟨W10.heap.size,0,none⟩) S.nL S.nL) rfl 1 rfl 43 _ HC.out tj (Nat.le_of_ble_eq_true rfl) (by simp [Value.cells,Value.oneCell',Rnd.cells,Cfg.cells,Cnt.cells]) ?_)
 intro W12 hP
 replace hP:=hP.cast (cs':=#[.int .i64 S.C.p,.int .i64 S.C.c,.int .i64 S.C.xo,.int .i64 S.C.xn,.int .i64 S.C.hd,.int .i64 S.C.lo,.int .i64 S.C.dl,.int .i64 S.now,.int .i64 S.nx,.slice (some ⟨W4.heap.size,0,none⟩) S.nE S.nE,.slice (some ⟨gU,0,none⟩) S.N.nU S.N.nU,.int .i64 S.N.lo,.slice (some ⟨gP,0,none⟩) S.N.nP S.N.nP,.slice (some ⟨W8.heap.size,0,none⟩) S.nK S.nK,.slice (some ⟨W10.heap.size,0,none⟩) S.nL S.nL,.int .i64 0,.int .i64 0]) rfl
 replace HX:Hid (gI w S.cells #[.int .i64 0,.int .i64 0,.int .i64 0,.int .i64 0,.int .i64 0,.int .i64 0,.int .i64 0,.int .i64 0,.int .i64 0,.slice none 0 0,.slice none 0 0,.int .i64 0,.slice none 0 0,.slice none 0 0,.slice none 0 0,.int .i64 0,.int .i64 0] #[.int .i64 S.C.p,.int .i64 S.C.c,.int .i64 S.C.xo,.int .i64 S.C.xn,.int .i64 S.C.hd,.int .i64 S.C.lo,.int .i64 S.C.dl,.int .i64 S.now,.int .i64 S.nx,.slice (some ⟨W4.heap.size,0,none⟩) S.nE S.nE,.slice (some ⟨gU,0,none⟩) S.N.nU S.N.nU,.int .i64 S.N.lo,.slice (some ⟨gP,0,none⟩) S.N.nP S.N.nP,.slice (some ⟨W8.heap.size,0,none⟩) S.nK S.nK,.slice (some ⟨W10.heap.size,0,none⟩) S.nL S.nL,.int .i64 0,.int .i64 0] 32 43 W12):=HX.out.put hP
 have T12:Touch [w.heap.size+1,w.heap.size+1+1] wl W12:=hP.to.mono (fun x hx=>by simp at hx;simp [hx])
 clear hP HC 
 have c15:W12.cell? ⟨w.heap.size,15,none⟩=some (.int .i64 S.dr):=fF HX.out.a 15
 have HC:=HX.out.c
 replace HC:Hid (W12.heap[w.heap.size+1+1]?=some (.cells #[.int .i64 S.C.p,.int .i64 S.C.c,.int .i64 S.C.xo,.int .i64 S.C.xn,.int .i64 S.C.hd,.int .i64 S.C.lo,.int .i64 S.C.dl,.int .i64 S.now,.int .i64 S.nx,.slice (some ⟨W4.heap.size,0,none⟩) S.nE S.nE,.slice (some ⟨gU,0,none⟩) S.N.nU S.N.nU,.int .i64 S.N.lo,.slice (some ⟨gP,0,none⟩) S.N.nP S.N.nP,.slice (some ⟨W8.heap.size,0,none⟩) S.nK S.nK,.slice (some ⟨W10.heap.size,0,none⟩) S.nL S.nL,.int .i64 0,.int .i64 0] 43 (0,0))):=HC
 go_wp2_with (refine fJ rfl 2 (.tmp 32) (.tmp 31) rfl (w.heap.size+1+1) 15 rfl (.int .i64 S.dr) rfl 1 rfl 43 _ HC.out iP (Nat.le_of_ble_eq_true rfl) (by simp [Value.cells,Value.oneCell',Rnd.cells,Cfg.cells,Cnt.cells]) ?_)
 intro W13 hP
 replace hP:=hP.cast (cs':=#[.int .i64 S.C.p,.int .i64 S.C.c,.int .i64 S.C.xo,.int .i64 S.C.xn,.int .i64 S.C.hd,.int .i64 S.C.lo,.int .i64 S.C.dl,.int .i64 S.now,.int .i64 S.nx,.slice (some ⟨W4.heap.size,0,none⟩) S.nE S.nE,.slice (some ⟨gU,0,none⟩) S.N.nU S.N.nU,.int .i64 S.N.lo,.slice (some ⟨gP,0,none⟩) S.N.nP S.N.nP,.slice (some ⟨W8.heap.size,0,none⟩) S.nK S.nK,.slice (some ⟨W10.heap.size,0,none⟩) S.nL S.nL,.int .i64 S.dr,.int .i64 0]) rfl
 replace HX:Hid (gI w S.cells #[.int .i64 0,.int .i64 0,.int .i64 0,.int .i64 0,.int .i64 0,.int .i64 0,.int .i64 0,.int .i64 0,.int .i64 0,.slice none 0 0,.slice none 0 0,.int .i64 0,.slice none 0 0,.slice none 0 0,.slice none 0 0,.int .i64 0,.int .i64 0] #[.int .i64 S.C.p,.int .i64 S.C.c,.int .i64 S.C.xo,.int .i64 S.C.xn,.int .i64 S.C.hd,.int .i64 S.C.lo,.int .i64 S.C.dl,.int .i64 S.now,.int .i64 S.nx,.slice (some ⟨W4.heap.size,0,none⟩) S.nE S.nE,.slice (some ⟨gU,0,none⟩) S.N.nU S.N.nU,.int .i64 S.N.lo,.slice (some ⟨gP,0,none⟩) S.N.nP S.N.nP,.slice (some ⟨W8.heap.size,0,none⟩) S.nK S.nK,.slice (some ⟨W10.heap.size,0,none⟩) S.nL S.nL,.int .i64 S.dr,.int .i64 0] 32 43 W13):=HX.out.put hP
 have T13:Touch [w.heap.size+1,w.heap.size+1+1] W12 W13:=hP.to.mono (fun x hx=>by simp at hx;simp [hx])
 clear hP HC c15
 have c16:W13.cell? ⟨w.heap.size,16,none⟩=some (.int .i64 S.lst):=fF HX.out.a 16
 have HC:=HX.out.c
 replace HC:Hid (W13.heap[w.heap.size+1+1]?=some (.cells #[.int .i64 S.C.p,.int .i64 S.C.c,.int .i64 S.C.xo,.int .i64 S.C.xn,.int .i64 S.C.hd,.int .i64 S.C.lo,.int .i64 S.C.dl,.int .i64 S.now,.int .i64 S.nx,.slice (some ⟨W4.heap.size,0,none⟩) S.nE S.nE,.slice (some ⟨gU,0,none⟩) S.N.nU S.N.nU,.int .i64 S.N.lo,.slice (some ⟨gP,0,none⟩) S.N.nP S.N.nP,.slice (some ⟨W8.heap.size,0,none⟩) S.nK S.nK,.slice (some ⟨W10.heap.size,0,none⟩) S.nL S.nL,.int .i64 S.dr,.int .i64 0] 43 (0,0))):=HC
 go_wp2_with (refine fJ rfl 2 (.tmp 35) (.tmp 34) rfl (w.heap.size+1+1) 16 rfl (.int .i64 S.lst) rfl 1 rfl 43 _ HC.out iP (Nat.le_of_ble_eq_true rfl) (by simp [Value.cells,Value.oneCell',Rnd.cells,Cfg.cells,Cnt.cells]) ?_)
 intro W14 hP
 replace hP:=hP.cast (cs':=#[.int .i64 S.C.p,.int .i64 S.C.c,.int .i64 S.C.xo,.int .i64 S.C.xn,.int .i64 S.C.hd,.int .i64 S.C.lo,.int .i64 S.C.dl,.int .i64 S.now,.int .i64 S.nx,.slice (some ⟨W4.heap.size,0,none⟩) S.nE S.nE,.slice (some ⟨gU,0,none⟩) S.N.nU S.N.nU,.int .i64 S.N.lo,.slice (some ⟨gP,0,none⟩) S.N.nP S.N.nP,.slice (some ⟨W8.heap.size,0,none⟩) S.nK S.nK,.slice (some ⟨W10.heap.size,0,none⟩) S.nL S.nL,.int .i64 S.dr,.int .i64 S.lst]) rfl
 replace HX:Hid (gI w S.cells #[.int .i64 0,.int .i64 0,.int .i64 0,.int .i64 0,.int .i64 0,.int .i64 0,.int .i64 0,.int .i64 0,.int .i64 0,.slice none 0 0,.slice none 0 0,.int .i64 0,.slice none 0 0,.slice none 0 0,.slice none 0 0,.int .i64 0,.int .i64 0] #[.int .i64 S.C.p,.int .i64 S.C.c,.int .i64 S.C.xo,.int .i64 S.C.xn,.int .i64 S.C.hd,.int .i64 S.C.lo,.int .i64 S.C.dl,.int .i64 S.now,.int .i64 S.nx,.slice (some ⟨W4.heap.size,0,none⟩) S.nE S.nE,.slice (some ⟨gU,0,none⟩) S.N.nU S.N.nU,.int .i64 S.N.lo,.slice (some ⟨gP,0,none⟩) S.N.nP S.N.nP,.slice (some ⟨W8.heap.size,0,none⟩) S.nK S.nK,.slice (some ⟨W10.heap.size,0,none⟩) S.nL S.nL,.int .i64 S.dr,.int .i64 S.lst] 32 43 W14):=HX.out.put hP
 have T14:Touch [w.heap.size+1,w.heap.size+1+1] W13 W14:=hP.to.mono (fun x hx=>by simp at hx;simp [hx])
 clear hP HC c16
 obtain ⟨S2,e2⟩:∃ S2,(⟨S.C,S.now,S.nx,some ⟨W4.heap.size,0,none⟩,S.nE,S.nE,S.e,S.N.copy gU gP,some ⟨W8.heap.size,0,none⟩,S.nK,S.nK,S.K,some ⟨W10.heap.size,0,none⟩,S.nL,S.nL,L2,S.dr,S.lst⟩:Swg)=S2:=⟨_,rfl⟩
 have e3:#[.int .i64 S.C.p,.int .i64 S.C.c,.int .i64 S.C.xo,.int .i64 S.C.xn,.int .i64 S.C.hd,.int .i64 S.C.lo,.int .i64 S.C.dl,.int .i64 S.now,.int .i64 S.nx,.slice (some ⟨W4.heap.size,0,none⟩) S.nE S.nE,.slice (some ⟨gU,0,none⟩) S.N.nU S.N.nU,.int .i64 S.N.lo,.slice (some ⟨gP,0,none⟩) S.N.nP S.N.nP,.slice (some ⟨W8.heap.size,0,none⟩) S.nK S.nK,.slice (some ⟨W10.heap.size,0,none⟩) S.nL S.nL,.int .i64 S.dr,.int .i64 S.lst]=S2.cells:=by rw [←e2];rfl
 rw [e3] at HX
 clear e3
 have HC:Hid (W14.heap[w.heap.size+1+1]?=some (.cells S2.cells 43 (0,0))):=HX.out.c
 have HD:Hid (W14.heap[w.heap.size+1]?=some (.cells #[.int .i64 0,.int .i64 0,.int .i64 0,.int .i64 0,.int .i64 0,.int .i64 0,.int .i64 0,.int .i64 0,.int .i64 0,.slice none 0 0,.slice none 0 0,.int .i64 0,.slice none 0 0,.slice none 0 0,.slice none 0 0,.int .i64 0,.int .i64 0] 43 (0,0))):=HX.out.b
 have HL:Hid (∀ j,j<17→W14.cell? ⟨w.heap.size+1+1,0+j,none⟩=(S2.cells)[j]?):=fun j _=>by rw [Nat.zero_add];exact fF HC.out j
 go_wp2_with (first | refine fM rfl 43 17 _ Tryz.underlying43 rfl fV (.tmp 3) rfl (w.heap.size+1+1) 0 rfl (S2.cells) rfl HL.out ?_ | refine fJ rfl 43 (.tmp 2) (.tmp 36) rfl (w.heap.size+1) 0 rfl (.agg S2.cells) rfl 17 rfl 43 _ HD.out fV (Nat.le_of_ble_eq_true rfl) (Swg.mi _) ?_)
 intro W15 hP
 replace hP:Put W14 W15 (w.heap.size+1) S2.cells 43:=hP.cast rfl
 have T15:Touch [w.heap.size+1,w.heap.size+1+1] W14 W15:=hP.to.mono (fun x hx=>by simp at hx;simp [hx])
 have HK:Hid (W15.heap[w.heap.size+1]?=some (.cells S2.cells 43 (0,0))):=hP.blk
 have HB:Hid (Below w.heap.size w W15):=(HX.out.out hP).bel
 clear hP HC HD HL
 go_wp2_with fail
 have hlow:∀ x∈[w.heap.size+1,w.heap.size+1+1],x<w.heap.size+1+1+1:=by intro x hx;simp at hx;omega
 have tE:=(((((((((T6.trans T7).trans T8).trans T9).trans T10).trans T11).trans T12).trans T13).trans T14).trans T15)
 have tN:=(((((((T8.trans T9).trans T10).trans T11).trans T12).trans T13).trans T14).trans T15)
 have tK:=(((((T10.trans T11).trans T12).trans T13).trans T14).trans T15)
 have tL:=(((T12.trans T13).trans T14).trans T15)
 have hz1:=T8.size
 have hz2:=T9.size
 have hz3:=T10.size
 refine bodyPost_ret (js Tryz.results7 17 _ Tryz.underlying43 rfl fV _ _ (w.heap.size+1) S2.cells rfl 43 HK.out rfl) rfl ⟨S2,rfl,?_,?_,HB.out⟩
 ·
  rw [←e2]
  exact ⟨rfl,rfl,rfl,rfl,rfl,xL _ _ _,rfl,rfl,rfl,rL.a,rfl,rfl⟩
 rw [←e2]
 refine ⟨((VT.of (Nat.le_refl _) rE).low tE (fun x hx=>by have:=hlow x hx;omega)).mono (by omega),((rN.u).low tN (fun x hx=>by have:=hlow x hx;omega)).mono (by omega),((rN.p).low tN (fun x hx=>by have:=hlow x hx;omega)).mono (by omega),((VT.of (Nat.le_refl _) rK).low tK (fun x hx=>by have:=hlow x hx;omega)).mono (by omega),((VT.of (Nat.le_refl _) rL.r).low tL (fun x hx=>by have:=hlow x hx;omega)).mono (by omega),fun i hi=>((rL.o i hi).low tL (fun x hx=>by have:=hlow x hx;omega)).mono (by omega),?_⟩
 refine iY (jZ _ _) rL.d wn.heap.size (fun x hx=>(rN.u.blk x hx).2) (fun x hx=>?_)
 simp only [List.mem_flatMap,List.mem_range] at hx
 obtain ⟨i,hi,hx⟩:=hx
 have:=((rL.o i hi).blk x hx).1
 omega
end Go.Proofs.YtjaobmbcmjgjgaaGreatDoor
