/- A tick forgets what is too old, and changes nothing else: the law FnTicked returns true for every code, under no condition. -/
import Derived.Test.YthicmlolanifhaaGreatK36
import Derived.Test.YthicmlolanifhaaGreatK37
namespace Go.Proofs.YthicmlolanifhaaGreat
set_option maxRecDepth 100000
set_option maxHeartbeats 9000000
open Go.ChangeShapes Go.WideShapes Go.ChangeAt Go.RowKit
set_option linter.unusedVariables false
set_option linter.unusedSimpArgs false
theorem Code.upM {w w':World} {cv:Value} {len:Nat} (h:Code w.heap.size cv len w) (hb:Below w.heap.size w w'):Code w'.heap.size cv len w':=by
 rcases h with h | ⟨b,off,cap,hv,hb1,hl,hc⟩
 ·
  exact .inl h
 refine .inr ⟨b,off,cap,hv,Nat.lt_of_lt_of_le hb1 hb.size,hl,fun i hi=>?_⟩
 obtain ⟨z,hz,he⟩:=hc i hi
 exact ⟨z,hz,(World.cell?_of_block (w:=w) (a:=⟨b,off+i,none⟩) (hb.block b hb1)).trans he⟩
theorem sM (cv:Value) (len:Nat) (w:World) (h:Code w.heap.size cv len w) (hs:∃ a n c,cv=.slice a n c) :
  Calls Tryz.prog 12 #[cv] w fun e w'=>∃ S:Swg,e=.returned (.agg S.cells)∧S.Small∧jK w' S∧Below w.heap.size w w':=by
 obtain ⟨a0,n0,c0,rfl⟩:=hs
 generalize hcv:Value.slice a0 n0 c0=cv at *
 have hB:Below w.heap.size w (w.alloc (.cells #[.int .i64 0,.int .i64 0,.int .i64 0,.int .i64 0,.int .i64 0,.int .i64 0,.int .i64 0,.int .i64 0,.int .i64 0,.slice none 0 0,.slice none 0 0,.int .i64 0,.slice none 0 0,.slice none 0 0,.slice none 0 0,.int .i64 0,.int .i64 0] 34)):=(Below.refl _ _).alloc (Nat.le_refl _) _
 have kz:=gV w (.cells #[.int .i64 0,.int .i64 0,.int .i64 0,.int .i64 0,.int .i64 0,.int .i64 0,.int .i64 0,.int .i64 0,.int .i64 0,.slice none 0 0,.slice none 0 0,.int .i64 0,.slice none 0 0,.slice none 0 0,.slice none 0 0,.int .i64 0,.int .i64 0] 34)
 have hC0:=Code.upM h hB
 clear h
 go_enter Tryz.func12,Tryz.ntmps12
 go_wp2_with fail
 generalize w.alloc (.cells #[.int .i64 0,.int .i64 0,.int .i64 0,.int .i64 0,.int .i64 0,.int .i64 0,.int .i64 0,.int .i64 0,.int .i64 0,.slice none 0 0,.slice none 0 0,.int .i64 0,.slice none 0 0,.slice none 0 0,.slice none 0 0,.int .i64 0,.int .i64 0] 34)=W0 at *
 have hlt:w.heap.size<W0.heap.size:=gO kz
 refine (Cg cv len W0 hC0 ⟨a0,n0,c0,hcv.symm⟩).mono ?_
 rintro e w1 ⟨rfl,hR,hb⟩
 replace kz:=(hb.block _ (gO kz)).trans kz
 replace hB:=hB.trans (hb.mono hB.size)
 generalize W0.heap.size=g0 at *
 clear hb hC0
 go_wp2_with fail
 refine (xr g0 cv 14 _ hR (by omega) (by omega)).mono ?_
 rintro e w2 ⟨S,rfl,hE⟩
 have hz2:g0<w2.heap.size:=hE.rd.lt
 have hz3:g0<w1.heap.size:=hR.lt
 have kz2:=sg hE.kept kz (by omega)
 have hB2:Below w.heap.size w w2:=hB.trans (hE.kept.below hB.size (by omega))
 have HZ:Hid (w2.heap[w.heap.size]?=some (.cells #[.int .i64 0,.int .i64 0,.int .i64 0,.int .i64 0,.int .i64 0,.int .i64 0,.int .i64 0,.int .i64 0,.int .i64 0,.slice none 0 0,.slice none 0 0,.int .i64 0,.slice none 0 0,.slice none 0 0,.slice none 0 0,.int .i64 0,.int .i64 0] 34 (0,0))):=kz2
 have HE:Hid (MaE w1 w2 g0 cv S∧Below w.heap.size w w2):=⟨hE,hB2⟩
 clear hR hE hB hB2 kz kz2
 go_wp2_with (refine gW rfl 34 (.tmp 2) (.tmp 7) rfl w.heap.size 0 rfl (.agg S.cells) rfl 17 rfl 34 _ HZ.out iW (Nat.le_of_ble_eq_true rfl) (Swg.lx _) ?_)
 intro Y hP
 replace hP:Put w2 Y w.heap.size S.cells 34:=hP.cast rfl
 have HR:Hid (Y.heap[w.heap.size]?=some (.cells S.cells 34 (0,0))):=hP.blk
 have HF:Hid (S.Small∧jK Y S∧Below w.heap.size w Y):=⟨HE.out.1.sm,HE.out.1.hold [w.heap.size] Y (fun x hx=>by simp at hx;have:=hz3;omega) hP.to,HE.out.2.trans (hP.to.below HE.out.2.size (fun x hx=>by simp at hx;omega))⟩
 clear hP HZ HE
 go_wp2_with fail
 exact bodyPost_ret (kI Tryz.results12 17 _ Tryz.underlying34 rfl iW _ _ w.heap.size S.cells rfl 34 HR.out rfl) rfl ⟨S,rfl,HF.out.1,HF.out.2.1,HF.out.2.2⟩
structure TkD (w W:World) (gs gn gm:Nat) (S N M:Swg):Prop where
 ks:W.heap[gs]?=some (.cells S.cells 34 (0,0))
 kn:W.heap[gn]?=some (.cells N.cells 34 (0,0))
 km:W.heap[gm]?=some (.cells M.cells 34 (0,0))
 rs:jK W S
 rn:jK W N
 rm:jK W M
 b:Below w.heap.size w W
theorem TkD.up {w W W':World} {gs gn gm:Nat} {S N M:Swg} (h:TkD w W gs gn gm S N M) (hb:Below W.heap.size W W'):TkD w W' gs gn gm S N M :=
 ⟨(hb.block _ (gO h.ks)).trans h.ks,(hb.block _ (gO h.kn)).trans h.kn,(hb.block _ (gO h.km)).trans h.km,h.rs.up hb,h.rn.up hb,h.rm.up hb,h.b.trans (hb.mono h.b.size)⟩
theorem wQ:kQ.Small:=⟨Nat.zero_le _,⟨Nat.zero_le _,Nat.zero_le _⟩,Nat.zero_le _,fun i hi=>absurd hi (Nat.not_lt_zero _),Nat.zero_le _,fun i hi=>absurd hi (Nat.not_lt_zero _)⟩
theorem AO:(Tryz.prog.info? 30).map (·.size)=some 3:=by kernel_rfl
theorem A8 {w:World} {g:Nat} {S:Swg} (h:w.heap[g]?=some (.cells S.cells 34 (0,0))):∀ j,j<3→w.cell? ⟨g,10+j,none⟩=S.N.cells[j]?:=fun j hj=>by
 rw [gM h]
 have:j=0∨j=1∨j=2:=by omega
 rcases this with rfl | rfl | rfl <;> rfl
theorem wV (a:Option Addr) (len cap:Nat) (w:World) (hl:len≤maxLen) (hC:len≤1048576→Code w.heap.size (.slice a len cap) len w) :
  Calls Tryz.prog 4 #[.slice a len cap] w fun e w'=>e=.returned (.bool true)∧Below w.heap.size w w':=by
 have HC:Hid (len≤1048576→Code w.heap.size (.slice a len cap) len w):=hC
 clear hC
 by_cases hbig:1048576<(len:Int)
 ·
  go_enter Tryz.func4,Tryz.ntmps4
  go_wp2_with fail
  refine (yr a len cap _ hl).mono ?_
  rintro e w' ⟨rfl,hw⟩
  rw [hw,decide_eq_true hbig]
  clear hw w'
  go_wp2_with fail
  go_ret
  exact ⟨rfl,Below.refl _ _⟩
 go_enter Tryz.func4,Tryz.ntmps4
 go_wp2_with fail
 refine (yr a len cap _ hl).mono ?_
 rintro e w' ⟨rfl,hw⟩
 rw [hw,decide_eq_false (show ¬ (1048576:Int)<(len:Int) by omega)]
 clear hw w'
 go_wp2_with fail
 refine (sM (.slice a len cap) len _ (HC.out (by omega)) ⟨_,_,_,rfl⟩).mono ?_
 rintro e w1 ⟨S,rfl,hsm,hrd,B⟩
 have HS:Hid S.Small:=hsm
 have H1:Hid (jK w1 S∧Below w.heap.size w w1):=⟨hrd,B⟩
 clear HC hbig hsm hrd B
 have HG:Hid ((w1.alloc (.cells #[.int .i64 0,.int .i64 0,.int .i64 0,.int .i64 0,.int .i64 0,.int .i64 0,.int .i64 0,.int .i64 0,.int .i64 0,.slice none 0 0,.slice none 0 0,.int .i64 0,.slice none 0 0,.slice none 0 0,.slice none 0 0,.int .i64 0,.int .i64 0] 34)).heap[w1.heap.size]?=some (.cells #[.int .i64 0,.int .i64 0,.int .i64 0,.int .i64 0,.int .i64 0,.int .i64 0,.int .i64 0,.int .i64 0,.int .i64 0,.slice none 0 0,.slice none 0 0,.int .i64 0,.slice none 0 0,.slice none 0 0,.slice none 0 0,.int .i64 0,.int .i64 0] 34 (0,0))):=gV _ _
 go_wp2_with (refine gW rfl 34 (.tmp 3) (.tmp 11) rfl w1.heap.size 0 rfl (.agg S.cells) rfl 17 rfl 34 _ HG.out iW (Nat.le_of_ble_eq_true rfl) (Swg.lx _) ?_)
 intro w2 hP
 replace hP:Put _ w2 w1.heap.size S.cells 34:=hP.cast rfl
 have hb:Below w1.heap.size w1 w2:=((Below.refl _ _).alloc (Nat.le_refl _) _).trans (hP.to.below (by simp) (fun y hy=>by simp at hy;omega))
 have KS:Hid (w2.heap[w1.heap.size]?=some (.cells S.cells 34 (0,0))):=hP.blk
 clear hP HG
 replace H1:Hid (jK w2 S∧Below w.heap.size w w2):=⟨H1.out.1.up hb,H1.out.2.trans (hb.mono H1.out.2.size)⟩
 clear hb
 obtain ⟨gs,egs⟩:∃ g,w1.heap.size=g:=⟨_,rfl⟩
 rw [egs] at KS ⊢
 clear egs
 obtain ⟨ok,hok⟩:=je S.Ok
 obtain ⟨b,hbb⟩:=je (S.Ok∧S.now≠1000000000)
 have HO:Hid (ok=true↔S.Ok):=hok
 have HBB:Hid (b=true↔S.Ok∧S.now≠1000000000):=hbb
 clear hok hbb
 have HL:Hid (∀ j,j<17→w2.cell? ⟨gs,0+j,none⟩=S.cells[j]?):=fun j _=>by rw [Nat.zero_add];exact gM KS.out j
 go_wp2_with (refine gY rfl 34 17 _ Tryz.underlying34 rfl iW (.tmp 3) rfl gs 0 rfl S.cells rfl HL.out ?_)
 clear HL
 refine (xA S _ HS.out H1.out.1 ok HO.out b HBB.out).mono ?_
 rintro e w3 ⟨N,rfl,ha,ho,hb⟩
 have H3:Hid (hG (ov S b) N∧jK w3 N):=⟨ha,ho.g.rd⟩
 replace H1:Hid (jK w3 S∧Below w.heap.size w w3):=⟨H1.out.1.up hb,H1.out.2.trans (hb.mono H1.out.2.size)⟩
 replace KS:Hid (w3.heap[gs]?=some (.cells S.cells 34 (0,0))):=(hb.block _ (gO KS.out)).trans KS.out
 clear hb ha ho
 have HG:Hid ((w3.alloc (.cells #[.int .i64 0,.int .i64 0,.int .i64 0,.int .i64 0,.int .i64 0,.int .i64 0,.int .i64 0,.int .i64 0,.int .i64 0,.slice none 0 0,.slice none 0 0,.int .i64 0,.slice none 0 0,.slice none 0 0,.slice none 0 0,.int .i64 0,.int .i64 0] 34)).heap[w3.heap.size]?=some (.cells #[.int .i64 0,.int .i64 0,.int .i64 0,.int .i64 0,.int .i64 0,.int .i64 0,.int .i64 0,.int .i64 0,.int .i64 0,.slice none 0 0,.slice none 0 0,.int .i64 0,.slice none 0 0,.slice none 0 0,.slice none 0 0,.int .i64 0,.int .i64 0] 34 (0,0))):=gV _ _
 go_wp2_with (refine gW rfl 34 (.tmp 4) (.tmp 15) rfl w3.heap.size 0 rfl (.agg N.cells) rfl 17 rfl 34 _ HG.out iW (Nat.le_of_ble_eq_true rfl) (Swg.lx _) ?_)
 intro w4 hP
 replace hP:Put _ w4 w3.heap.size N.cells 34:=hP.cast rfl
 have hb:Below w3.heap.size w3 w4:=((Below.refl _ _).alloc (Nat.le_refl _) _).trans (hP.to.below (by simp) (fun y hy=>by simp at hy;omega))
 have KN:Hid (w4.heap[w3.heap.size]?=some (.cells N.cells 34 (0,0))):=hP.blk
 clear hP HG
 replace H1:Hid (jK w4 S∧Below w.heap.size w w4):=⟨H1.out.1.up hb,H1.out.2.trans (hb.mono H1.out.2.size)⟩
 replace H3:Hid (hG (ov S b) N∧jK w4 N):=⟨H3.out.1,H3.out.2.up hb⟩
 replace KS:Hid (w4.heap[gs]?=some (.cells S.cells 34 (0,0))):=(hb.block _ (gO KS.out)).trans KS.out
 clear hb
 obtain ⟨gn,egn⟩:∃ g,w3.heap.size=g:=⟨_,rfl⟩
 rw [egn] at KN ⊢
 clear egn
 have HL:Hid (∀ j,j<17→w4.cell? ⟨gs,0+j,none⟩=S.cells[j]?):=fun j _=>by rw [Nat.zero_add];exact gM KS.out j
 go_wp2_with (refine gY rfl 34 17 _ Tryz.underlying34 rfl iW (.tmp 3) rfl gs 0 rfl S.cells rfl HL.out ?_)
 clear HL
 refine (rl S _ HS.out H1.out.1 ok HO.out b HBB.out).mono ?_
 rintro e w5 ⟨M,rfl,ha,ho,hb⟩
 have H5:Hid (hG (ov S b) M∧jK w5 M):=⟨ha,ho.g.rd⟩
 replace H1:Hid (jK w5 S∧Below w.heap.size w w5):=⟨H1.out.1.up hb,H1.out.2.trans (hb.mono H1.out.2.size)⟩
 replace H3:Hid (hG (ov S b) N∧jK w5 N):=⟨H3.out.1,H3.out.2.up hb⟩
 replace KS:Hid (w5.heap[gs]?=some (.cells S.cells 34 (0,0))):=(hb.block _ (gO KS.out)).trans KS.out
 replace KN:Hid (w5.heap[gn]?=some (.cells N.cells 34 (0,0))):=(hb.block _ (gO KN.out)).trans KN.out
 clear hb ha ho
 have HG:Hid ((w5.alloc (.cells #[.int .i64 0,.int .i64 0,.int .i64 0,.int .i64 0,.int .i64 0,.int .i64 0,.int .i64 0,.int .i64 0,.int .i64 0,.slice none 0 0,.slice none 0 0,.int .i64 0,.slice none 0 0,.slice none 0 0,.slice none 0 0,.int .i64 0,.int .i64 0] 34)).heap[w5.heap.size]?=some (.cells #[.int .i64 0,.int .i64 0,.int .i64 0,.int .i64 0,.int .i64 0,.int .i64 0,.int .i64 0,.int .i64 0,.int .i64 0,.slice none 0 0,.slice none 0 0,.int .i64 0,.slice none 0 0,.slice none 0 0,.slice none 0 0,.int .i64 0,.int .i64 0] 34 (0,0))):=gV _ _
 go_wp2_with (refine gW rfl 34 (.tmp 6) (.tmp 20) rfl w5.heap.size 0 rfl (.agg M.cells) rfl 17 rfl 34 _ HG.out iW (Nat.le_of_ble_eq_true rfl) (Swg.lx _) ?_)
 intro w6 hP
 replace hP:Put _ w6 w5.heap.size M.cells 34:=hP.cast rfl
 have hb:Below w5.heap.size w5 w6:=((Below.refl _ _).alloc (Nat.le_refl _) _).trans (hP.to.below (by simp) (fun y hy=>by simp at hy;omega))
 have KM:Hid (w6.heap[w5.heap.size]?=some (.cells M.cells 34 (0,0))):=hP.blk
 clear hP HG
 have HX:Hid (TkD w w6 gs gn w5.heap.size S N M):=⟨(hb.block _ (gO KS.out)).trans KS.out,(hb.block _ (gO KN.out)).trans KN.out,KM.out,H1.out.1.up hb,H3.out.2.up hb,H5.out.2.up hb,H1.out.2.trans (hb.mono H1.out.2.size)⟩
 have HAl:Hid (hG (ov S b) N∧hG N M):=⟨H3.out.1,H3.out.1.symm.trans H5.out.1⟩
 clear hb H1 H3 H5 KS KN KM
 generalize w5.heap.size=gm at *
 have HNs:Hid N.Small:=by
  cases b
  ·
   exact HAl.out.1.small wQ
  obtain ⟨o1,o2⟩:=HBB.out.1 rfl
  exact (HAl.out.1.ok1 (o1.tick (by have:=o1.nums.now;omega) none 0)).small
 have hbb:(b != b)=false:=by cases b <;> rfl
 have hbb2:(!(b == b))=false:=by cases b <;> rfl
 have hbe:(b == b)=true:=by cases b <;> rfl
 have HLn:Hid (∀ j,j<17→w6.cell? ⟨gn,0+j,none⟩=N.cells[j]?):=fun j _=>by rw [Nat.zero_add];exact gM HX.out.kn j
 have HLm:Hid (∀ j,j<17→w6.cell? ⟨gm,0+j,none⟩=M.cells[j]?):=fun j _=>by rw [Nat.zero_add];exact gM HX.out.km j
 go_wp2_with (first | refine lR (by kernel_rfl) 34 17 _ Tryz.underlying34 rfl iW (.tmp 4) rfl gn 0 rfl N.cells rfl HLn.out ?_ | refine lR (by kernel_rfl) 34 17 _ Tryz.underlying34 rfl iW (.tmp 6) rfl gm 0 rfl M.cells rfl HLm.out ?_)
 clear HLn HLm
 refine (nw N M _ HNs.out HX.out.rn HX.out.rm HAl.out.2).mono ?_
 rintro e w7 ⟨rfl,hb⟩
 replace HX:Hid (TkD w w7 gs gn gm S N M):=HX.out.up hb
 clear hb
 cases b
 ·
  have HLn:Hid (∀ j,j<17→w7.cell? ⟨gn,0+j,none⟩=N.cells[j]?):=fun j _=>by rw [Nat.zero_add];exact gM HX.out.kn j
  have HLm:Hid (∀ j,j<17→w7.cell? ⟨gm,0+j,none⟩=M.cells[j]?):=fun j _=>by rw [Nat.zero_add];exact gM HX.out.km j
  go_wp2_with (first | refine lR (by kernel_rfl) 34 17 _ Tryz.underlying34 rfl iW (.tmp 4) rfl gn 0 rfl N.cells rfl HLn.out ?_ | refine lR (by kernel_rfl) 34 17 _ Tryz.underlying34 rfl iW (.tmp 6) rfl gm 0 rfl M.cells rfl HLm.out ?_)
  clear HLn HLm
  refine (nw N M _ HNs.out HX.out.rn HX.out.rm HAl.out.2).mono ?_
  rintro e w8 ⟨rfl,hb⟩
  have B:=(HX.out.up hb).b
  clear hb
  go_wp2_with fail
  go_ret
  exact ⟨rfl,B⟩
 have HOk:Hid (S.Ok∧S.now≠1000000000):=HBB.out.1 rfl
 have HNO:Hid N.Ok:=HAl.out.1.ok1 (HOk.out.1.tick (by have:=HOk.out.1.nums.now;have:=HOk.out.2;omega) none 0)
 have hnow:=HOk.out.1.nums.now
 have hw1:IntKind.i64.wrap (S.now+1)=S.now+1:=kY _ (by omega) (by omega)
 go_wp2_with fail
 have hd:Below w7.heap.size w7 w7.drew:=(Below.refl _ _).drew
 replace HX:Hid (TkD w w7.drew gs gn gm S N M):=HX.out.up hd
 clear hd
 refine wp_region_held_drew (S:=fun w'=>w'.heap[gs]?=some (.cells S.cells 34 (0,0))∧w'.heap[gn]?=some (.cells N.cells 34 (0,0))) (by kernel_rfl) ⟨HX.out.ks,HX.out.kn⟩ (fun hHeld=>?_)
 generalize w7.drew=V at *
 have Hcs:Hid (∀ wx:World,(fun w':World=>w'.heap[gs]?=some (.cells S.cells 34 (0,0))∧w'.heap[gn]?=some (.cells N.cells 34 (0,0))) wx→wx.cell? ⟨gn,7,none⟩=some (.int .i64 (S.now+1))∧wx.cell? ⟨gs,7,none⟩=some (.int .i64 S.now)∧wx.cell? ⟨gn,9,none⟩=some (.slice N.aE S.tkL.length N.cE)∧wx.cell? ⟨gs,9,none⟩=some (.slice S.aE S.nE S.cE)∧wx.cell? ⟨gn,13,none⟩=some (.slice N.aK S.nK N.cK)∧wx.cell? ⟨gs,13,none⟩=some (.slice S.aK S.nK S.cK)):=fun wx h =>
  ⟨by have e:N.now=S.now+1:=HAl.out.1.now;rw [←e];exact gM h.2 7,gM h.1 7,by have e:N.nE=S.tkL.length:=HAl.out.1.nE;rw [←e];exact gM h.2 9,gM h.1 9,by have e:N.nK=S.nK:=HAl.out.1.nK;rw [←e];exact gM h.2 13,gM h.1 13⟩
 refine tC 0 43 (v:=.agg N.cells) (fun wx hSw=>jn 34 17 _ Tryz.underlying34 rfl iW (.tmp 4) rfl gn 0 rfl N.cells rfl (fun j _=>by rw [Nat.zero_add];exact gM hSw.2 j)) ?_
 try simp only [Act.put,PZ]
 refine rq1 1 (fun K hK=>?_)
 go_simp
 refine (pG N _ HNs.out HX.out.rn true ⟨fun _=>HNO.out,fun _=>rfl⟩).mono ?_
 rintro e V1 ⟨rfl,hb⟩
 replace HX:Hid (TkD w V1 gs gn gm S N M):=HX.out.up hb
 have hSn:=And.intro HX.out.ks HX.out.kn
 clear hb
 go_wp2_with fail
 refine hK.out _ _ hSn (fun hHeld=>?_)
 clear hK K
 try simp only [Act.put,PZ]
 clear hSn
 refine tQ 2 45 ?_
 refine tQ 3 46 ?_
 refine tXq 4 47 ?_
 refine tQ 5 48 ?_
 refine tXq 6 49 ?_
 refine tQ 7 50 ?_
 refine tTq 8 51 ?_
 refine tTq 9 52 ?_
 refine tTq 10 53 ?_
 refine tQ 11 54 ?_
 refine tXq 12 55 ?_
 refine tQ 13 56 ?_
 refine tXq 14 57 ?_
 refine tQ 15 58 ?_
 refine tXq 16 59 ?_
 refine rq1 17 (fun K hK=>?_)
 go_simp
 have HAg:Hid (En S.nE S.e (S.now+1) S.tkL):=⟨fun _ _=>rfl,fun hn=>absurd ⟨HOk.out.1.seen.1,⟨by omega,by have:=HOk.out.2;omega⟩⟩ hn⟩
 refine (wm S.aE S.nE S.cE S.e (S.now+1) S.tkL _ (by have:=HS.out.e;unfold maxLen;omega) HX.out.rs.e HAg.out).mono ?_
 rintro e V2 ⟨v1,rfl,hv1,hb⟩
 obtain ⟨a1,c1,rfl,hr1⟩:=hv1.read
 have HT:Hid (jA V2 a1 S.tkL.length fun i=>S.tkL.getD i default):=hr1
 clear hv1 hr1 HAg
 replace HX:Hid (TkD w V2 gs gn gm S N M):=HX.out.up hb
 have hSn:=And.intro HX.out.ks HX.out.kn
 clear hb
 go_wp2_with fail
 refine hK.out _ _ hSn (fun hHeld=>?_)
 clear hK K
 try simp only [Act.put,PZ]
 clear hSn
 refine rq1 18 (fun K hK=>?_)
 go_simp
 have HTn:Hid (jA V2 N.aE S.tkL.length fun i=>S.tkL.getD i default):=by
  have q:=HX.out.rn.e
  have e1:N.nE=S.tkL.length:=HAl.out.1.nE
  have e2:N.e=fun i=>S.tkL.getD i default:=HAl.out.1.e
  rw [e1,e2] at q
  exact q
 have hle:S.tkL.length≤1048576:=by
  have e1:N.nE=S.tkL.length:=HAl.out.1.nE
  have:=HNs.out.e
  omega
 refine (ow N.aE a1 S.tkL.length N.cE c1 _ _ hle HTn.out HT.out).mono ?_
 rintro e V3 ⟨rfl,hSm⟩
 have hb:=hSm.below V2.heap.size
 clear hSm hle HTn HT
 replace HX:Hid (TkD w V3 gs gn gm S N M):=HX.out.up hb
 have hSn:=And.intro HX.out.ks HX.out.kn
 clear hb
 go_wp2_with fail
 refine hK.out _ _ hSn (fun hHeld=>?_)
 clear hK K
 try simp only [Act.put,PZ]
 clear hSn
 refine tTq 19 62 ?_
 refine tTq 20 63 ?_
 refine tQ 21 64 ?_
 refine tXq 22 65 ?_
 refine tQ 23 66 ?_
 refine tQ 24 67 ?_
 refine tXq 25 68 ?_
 refine tQ 26 69 ?_
 refine tTq 27 70 ?_
 refine tTq 28 71 ?_
 refine tTq 29 72 ?_
 refine tQ 30 73 ?_
 refine tC 31 74 (v:=.agg N.N.cells) (fun wx hSw=>jn 30 3 _ Tryz.underlying30 rfl AO (.tmp 73) rfl gn 10 rfl N.N.cells rfl (A8 hSw.2)) ?_
 try simp only [Act.put,PZ]
 refine tQ 32 75 ?_
 refine tC 33 76 (v:=.agg S.N.cells) (fun wx hSw=>jn 30 3 _ Tryz.underlying30 rfl AO (.tmp 75) rfl gs 10 rfl S.N.cells rfl (A8 hSw.1)) ?_
 try simp only [Act.put,PZ]
 refine rq1 34 (fun K hK=>?_)
 go_simp
 have HAc:Hid (iA N.N S.N):=by
  have q:iA S.N N.N:=HAl.out.1.n
  exact q.symm
 refine (ox N.N S.N _ HNs.out.n HX.out.rn.n HX.out.rs.n HAc.out).mono ?_
 rintro e V4 ⟨rfl,hb⟩
 clear HAc
 replace HX:Hid (TkD w V4 gs gn gm S N M):=HX.out.up hb
 have hSn:=And.intro HX.out.ks HX.out.kn
 clear hb
 go_wp2_with fail
 refine hK.out _ _ hSn (fun hHeld=>?_)
 clear hK K
 try simp only [Act.put,PZ]
 clear hSn
 refine tTq 35 78 ?_
 refine tTq 36 2 ?_
 refine dnq ?_
 have B:=HX.out.b
 clear hHeld Hcs
 go_wp2_with fail
 go_ret
 exact ⟨rfl,B⟩
theorem sn (os:Os) (started:os.Started) (H:Type) (enc:TypeId × Value→H) :
  ReturnsInHanded {} Tryz.checked os 4 .any (Rows.fnTickedSpec.pre6 enc Tryz.prog Tryz.f4 Rows.fnTickedRow.domain false) (Rows.fnTickedSpec.post enc Tryz.prog Tryz.f4 false true false false):=by
 refine returnsInHanded_of_change (C:=Tryz.checked) own started (by kernel_rfl) Tryz.func4
  (ChangeSpec.witness6 (enc:=enc) (C:=Tryz.checked) false ⟨#[],#[.slice none 0 0],[]⟩ 8 (by kernel_rfl) (by kernel_rfl) (by kernel_rfl) (by kernel_rfl)) ?_
 intro W base args ds gs before hval0 hW hcnd _
 have hval:∀ (j:Nat) t v,Tryz.f4.params[j]?=some t→args[j]?=some v→Value.okWide Tryz.prog W .any base t v:=hval0
 have hW':=hW
 obtain ⟨p,q,hA0,hV,rfl,hfz,hnd⟩:=hW
 have hA:DataW.TrodAll enc Tryz.prog W 0 (fun _=>true) true Tryz.f4.params.toList args.toList ds p:=hA0
 rw [Tryz.params4] at hA hval
 obtain ⟨v0,vs0,d0,ds0,p0,q0,hargs,rfl,rfl,h0,r0⟩:=trodAll_cons hA
 obtain ⟨rfl,rfl,rfl⟩:=trodAll_nil r0
 obtain rfl:args=#[v0]:=by cases args;simp_all
 obtain ⟨rfl,rfl⟩:=trodVars_none hV
 obtain ⟨a0,len0,cap0,rfl⟩:=okWide_slice Tryz.underlying22 (hval 0 22 v0 rfl rfl)
 have k0:=h0
 have lt0:∀ x∈p0,x.block<W.heap.size:=by obtain ⟨m,hm⟩:=k0;exact DataW.trod_lt m _ _ _ hm
 obtain ⟨hm,hc⟩:=yJ h0
 clear hA0 hval0
 refine (wV a0 len0 cap0 W hm hc).mono fun e W' ⟨he,bel⟩=>?_
 subst he
 exact ⟨_,rfl,_,_,_,[],_,[],hW',trodAll_mk1 (shut_bool Tryz.underlying4 _),(trodAll_cons_mk (Below.trod laidOut (by kernel_rfl) (of_decide_eq_true (by kernel_rfl)) k0 bel lt0) trodAll_mk0),rfl,bel.frame _,fun h=>by cases h⟩
theorem tickedD_holds:Rows.FnTickedSaid :=
 OpenClaim.holds_of_wide 4 Tryz.f4 rfl rfl rfl rfl rfl rfl rfl ⟨rfl,rfl,rfl,rfl,rfl⟩ rfl rfl rfl rfl rfl (by kernel_rfl) Tryz.func4 (by kernel_rfl)
  (of_decide_eq_true (by kernel_rfl)) (by unfold Func.isWrapper;first | (rw [if_pos (by decide +kernel)];kernel_rfl) | (rw [if_neg (by decide +kernel)];exact ⟨rfl,rfl⟩))
  (fun os started H enc _=>sn os started H enc)
#print axioms tickedD_holds
end Go.Proofs.YthicmlolanifhaaGreat
