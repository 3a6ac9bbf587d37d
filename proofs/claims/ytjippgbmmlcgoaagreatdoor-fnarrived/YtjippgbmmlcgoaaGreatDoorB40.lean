import Derived.Test.YtjippgbmmlcgoaaGreatDoorB38
import Derived.Test.YtjippgbmmlcgoaaGreatDoorB39
import Derived.Test.YtjippgbmmlcgoaaGreatDoorCards
import Derived.Test.YtjippgbmmlcgoaaGreatDoorTie
import Derived.ChangeSame
import Derived.ChangeVars
import Derived.JoinedOf
import Derived.LaidHandle
import Derived.LaidLaws
import Derived.SevenTiedAt
import Derived.Stop.Joined
import Derived.Stop.LaidTwo
namespace Go.Proofs.YtjippgbmmlcgoaaGreatDoor
set_option maxRecDepth 100000
open Go.ChangeShapes Go.WideShapes Go.ChangeAt Go.RowKit
set_option linter.unusedVariables false
set_option linter.unusedSimpArgs false
variable {g:Nat} {x:Pkt} {p:Prop} {S:Swg} {W w:World}
theorem ia (h:p:=by
 go_wp2_with (first | refine jA (by kernel_rfl) 36 5 _ Tryz.underlying36 rfl oB (.tmp 173) rfl gp 3 rfl (#[.int .i64 x.k,.int .i64 x.d,.int .i64 x.s,.int .i64 x.p,.string x.b]:Array Value) rfl HLq.out ?_ | refine jA (by kernel_rfl) 36 5 _ Tryz.underlying36 rfl oB (.tmp 5) rfl gf 0 rfl (#[.int .i64 x.k,.int .i64 x.d,.int .i64 x.s,.int .i64 x.p,.string x.b]:Array Value) rfl HLf.out ?_)
 go_ret
 exact ⟨rfl,B⟩):p:=h
theorem ib (h:p:=by
 go_wp2_with fail
 go_ret
 exact ⟨rfl,B⟩):p:=h
theorem ic (h:p:=by
 rintro e w9 ⟨rfl,hb⟩
 replace HX:=aa (HX.up hb)
 clear hb
 have B:=HX.t.b
 exact ib):p:=h
theorem BH:(Tryz.prog.info? 51).map (·.size)=some 8:=by kernel_rfl
theorem Pkt.oneP (x:Pkt):(Value.agg x.cells).cells.all (·.oneCell')=true:=by simp [Value.cells,Value.oneCell',Pkt.cells]
theorem qq {t:TypeId} (h:w.heap[g]?=some (.cells S.cells t (0,0))):∀ j,j<17→w.cell? ⟨g,0+j,none⟩=S.cells[j]?:=fun j _=>by
 rw [Nat.zero_add]
 exact ie h j
theorem AO {aF aD aL:Addr} (h:tD w w.heap.size aF aD aL) (hb:Below w.heap.size w W):tD W W.heap.size aF aD aL:=(h.up hb).mono hb.size
structure ArX (w W:World) (gs gf gn gm:Nat) (S N M:Swg) (x:Pkt):Prop where
 t:TkD w W gs gn gm S N M
 f:W.heap[gf]?=some (.cells x.frc 36 (0,0))
theorem ArX.up {W':World} {gs gf gn gm:Nat} {N M:Swg} (h:ArX w W gs gf gn gm S N M x) (hb:Below W.heap.size W W'):ArX w W' gs gf gn gm S N M x:=⟨h.t.up hb,(hb.block _ (ig h.f)).trans h.f⟩
theorem FV (h:x.nR):(1≤x.s∧x.s≤20)∧(1≤x.d∧x.d≤255):=by
 obtain ⟨h1,h2⟩:=h
 unfold mc at h2
 simp only [decide_eq_true_eq] at h2
 omega
theorem DJ {a:Addr} {v:Value} (h:w.cell? a=some v):a.block<w.heap.size:=by
 unfold World.cell? at h
 split at h
 ·
  rename_i heq
  exact (Array.getElem?_eq_some_iff.1 heq).1
 cases h
abbrev GH:Array Value:=#[.int .i64 0,.int .i64 0,.int .i64 0,.int .i64 0,.int .i64 0,.int .i64 0,.int .i64 0,.string ⟨#[]⟩]
theorem BQ:(Tryz.prog.info? 30).map (·.size)=some 3:=by kernel_rfl
theorem GX (h:w.heap[g]?=some (.cells S.cells 34 (0,0))):∀ j,j<3→w.cell? ⟨g,10+j,none⟩=S.N.cells[j]?:=fun j hj=>by
 rw [ie h (10+j)]
 match j,hj with
 | 0,_=>rfl
 | 1,_=>rfl
 | 2,_=>rfl
theorem pkf {id inn rf:Int} (h:w.heap[g]?=some (.cells (Pkt.cells ⟨id,inn,rf,x.k,x.d,x.s,x.p,x.b⟩) 51 (0,0))):∀ j,j<5→w.cell? ⟨g,3+j,none⟩=x.frc[j]?:=fun j hj=>by
 rw [ie h (3+j)]
 match j,hj with
 | 0,_=>rfl
 | 1,_=>rfl
 | 2,_=>rfl
 | 3,_=>rfl
 | 4,_=>rfl
set_option maxHeartbeats 16000000 in
theorem DR (a:Option Addr) (len cap:Nat) (aF aD aL:Addr) (w:World) (hl:len≤maxLen) (hC:len≤1048576→Code w.heap.size (.slice a len cap) len w) (hv:tD w w.heap.size aF aD aL) :
  Calls Tryz.prog 3 #[.slice a len cap] w fun e w'=>e=.returned (.bool true)∧Below w.heap.size w w':=by
 have HC:=aa hC
 have HV0:=aa hv
 clear hC hv
 by_cases hbig:1048576<(len:Int)
 ·
  go_enter Tryz.func3,Tryz.ntmps3
  go_wp2_with fail
  refine (zm a len cap _ hl).mono ?_
  rintro e w' ⟨rfl,hw⟩
  rw [hw,decide_eq_true hbig]
  clear hw w'
  go_wp2_with fail
  go_ret
  exact ⟨rfl,Below.refl _ _⟩
 go_enter Tryz.func3,Tryz.ntmps3
 go_wp2_with fail
 refine (zm a len cap _ hl).mono ?_
 rintro e w' ⟨rfl,hw⟩
 rw [hw,decide_eq_false (show ¬ (1048576:Int)<(len:Int) by omega)]
 clear hw w'
 go_wp2_with fail
 refine (sS (.slice a len cap) len _ (HC (by omega)) ⟨_,_,_,rfl⟩).mono ?_
 rintro e w1 ⟨S,port,x,rfl,hsm,hlw,hxb,hrd,B⟩
 have HS:=aa hsm
 have HLw:=aa hlw
 have HV:=aa (AO HV0 B)
 have H1:Hid (lr w1 S∧Below w.heap.size w w1):=⟨hrd,B⟩
 clear HC HV0 hbig hsm hlw hrd B
 have e1:(w1.alloc (.cells ab 34)).heap.size=w1.heap.size+1:=by simp
 have HG:Hid (((w1.alloc (.cells ab 34)).alloc (.cells #[.int .i64 0,.int .i64 0,.int .i64 0,.int .i64 0,.string ⟨#[]⟩] 36)).heap[w1.heap.size]?=some (.cells ab 34 (0,0))∧((w1.alloc (.cells ab 34)).alloc (.cells #[.int .i64 0,.int .i64 0,.int .i64 0,.int .i64 0,.string ⟨#[]⟩] 36)).heap[w1.heap.size+1]?=some (.cells zFr 36 (0,0))):=⟨by rw [iH _ (by omega)];exact im _ _,by rw [←e1];exact im _ _⟩
 have HB0:Hid (Below w1.heap.size w1 ((w1.alloc (.cells ab 34)).alloc (.cells #[.int .i64 0,.int .i64 0,.int .i64 0,.int .i64 0,.string ⟨#[]⟩] 36))):=((Below.refl _ _).alloc (Nat.le_refl _) _).alloc (by omega) _
 clear e1
 go_wp2_with (refine iq rfl 34 (.tmp 3) (.tmp 18) rfl w1.heap.size 0 rfl (.agg S.cells) rfl 17 rfl 34 _ HG.1 iX (Nat.le_of_ble_eq_true rfl) (Swg.lF _) ?_)
 intro w2 hP
 replace hP:Put _ w2 w1.heap.size S.cells 34:=hP.cast rfl
 have hb0:Below w1.heap.size w1 w2:=HB0.trans (hP.to.below HB0.size (fun y hy=>by simp at hy;omega))
 have HK2:Hid (w2.heap[w1.heap.size]?=some (.cells S.cells 34 (0,0))∧w2.heap[w1.heap.size+1]?=some (.cells zFr 36 (0,0))∧Below w1.heap.size w1 w2):=⟨hP.blk,(hP.to.block _ (ig HG.2) (by simp)).trans HG.2,hb0⟩
 clear hP HG HB0 hb0
 go_wp2_with (refine iq rfl 36 (.tmp 5) (.tmp 20) rfl (w1.heap.size+1) 0 rfl (.agg x.frc) rfl 5 rfl 36 _ HK2.2.1 oB (Nat.le_of_ble_eq_true rfl) (Pkt.EP _) ?_)
 intro w3 hQ
 replace hQ:Put w2 w3 (w1.heap.size+1) x.frc 36:=hQ.cast rfl
 have hb:Below w1.heap.size w1 w3:=HK2.2.2.trans (hQ.to.below HK2.2.2.size (fun y hy=>by simp at hy;omega))
 have HK:Hid (w3.heap[w1.heap.size]?=some (.cells S.cells 34 (0,0))∧w3.heap[w1.heap.size+1]?=some (.cells x.frc 36 (0,0))):=⟨(hQ.to.block _ (ig HK2.1) (by simp)).trans HK2.1,hQ.blk⟩
 replace H1:Hid (lr w3 S∧Below w.heap.size w w3):=⟨H1.1.up hb,H1.2.trans (hb.mono H1.2.size)⟩
 replace HV:=aa (AO HV hb)
 clear hb hQ HK2
 obtain ⟨gs,egs⟩:∃ g,w1.heap.size=g:=⟨_,rfl⟩
 rw [egs] at HK ⊢
 clear egs
 obtain ⟨gf,egf⟩:∃ g,gs+1=g:=⟨_,rfl⟩
 rw [egf] at HK ⊢
 clear egf
 obtain ⟨S',code,hm⟩:=Cv S port x
 have HM:=aa hm
 clear hm
 have HLs:=aa (qq HK.1)
 have HLf:=aa (mu HK.2)
 go_wp2_with (first | refine ir rfl 34 17 _ Tryz.underlying34 rfl iX (.tmp 3) rfl gs 0 rfl S.cells rfl HLs.out ?_ | refine ir rfl 36 5 _ Tryz.underlying36 rfl oB (.tmp 5) rfl gf 0 rfl x.frc rfl HLf.out ?_)
 clear HLs HLf
 refine (xd S S' port x code aF aD aL _ HS H1.1 (by omega) HV HM).mono ?_
 rintro e w4 ⟨N,rfl,ha,ho,hb⟩
 have H3:Hid (iw S' N∧lr w4 N):=⟨ha,ho.g.rd⟩
 replace H1:Hid (lr w4 S∧Below w.heap.size w w4):=⟨H1.1.up hb,H1.2.trans (hb.mono H1.2.size)⟩
 replace HK:Hid (w4.heap[gs]?=some (.cells S.cells 34 (0,0))∧w4.heap[gf]?=some (.cells x.frc 36 (0,0))):=⟨(hb.block _ (ig HK.1)).trans HK.1,(hb.block _ (ig HK.2)).trans HK.2⟩
 clear hb ha ho HV
 have HG:Hid ((w4.alloc (.cells ab 34)).heap[w4.heap.size]?=some (.cells ab 34 (0,0))):=im _ _
 go_wp2_with (refine iq rfl 34 (.tmp 6) (.tmp 26) rfl w4.heap.size 0 rfl (.agg N.cells) rfl 17 rfl 34 _ HG iX (Nat.le_of_ble_eq_true rfl) (Swg.lF _) ?_)
 intro w5 hP
 replace hP:Put _ w5 w4.heap.size N.cells 34:=hP.cast rfl
 have hb:Below w4.heap.size w4 w5:=((Below.refl _ _).alloc (Nat.le_refl _) _).trans (hP.to.below (by simp) (fun y hy=>by simp at hy;omega))
 have KN:=aa hP.blk
 clear hP HG
 replace H1:Hid (lr w5 S∧Below w.heap.size w w5):=⟨H1.1.up hb,H1.2.trans (hb.mono H1.2.size)⟩
 replace H3:Hid (iw S' N∧lr w5 N):=⟨H3.1,H3.2.up hb⟩
 replace HK:Hid (w5.heap[gs]?=some (.cells S.cells 34 (0,0))∧w5.heap[gf]?=some (.cells x.frc 36 (0,0))):=⟨(hb.block _ (ig HK.1)).trans HK.1,(hb.block _ (ig HK.2)).trans HK.2⟩
 clear hb
 obtain ⟨gn,egn⟩:∃ g,w4.heap.size=g:=⟨_,rfl⟩
 rw [egn] at KN ⊢
 clear egn
 have HLs:=aa (qq HK.1)
 have HLf:=aa (mu HK.2)
 go_wp2_with (first | refine ir rfl 34 17 _ Tryz.underlying34 rfl iX (.tmp 3) rfl gs 0 rfl S.cells rfl HLs.out ?_ | refine ir rfl 36 5 _ Tryz.underlying36 rfl oB (.tmp 5) rfl gf 0 rfl x.frc rfl HLf.out ?_)
 clear HLs HLf
 refine (qZ S S' port x code _ HS H1.1 (by omega) HM).mono ?_
 rintro e w6 ⟨M,rfl,ha,ho,hb⟩
 have H5:Hid (iw S' M∧lr w6 M):=⟨ha,ho.g.rd⟩
 replace H1:Hid (lr w6 S∧Below w.heap.size w w6):=⟨H1.1.up hb,H1.2.trans (hb.mono H1.2.size)⟩
 replace H3:Hid (iw S' N∧lr w6 N):=⟨H3.1,H3.2.up hb⟩
 replace HK:Hid (w6.heap[gs]?=some (.cells S.cells 34 (0,0))∧w6.heap[gf]?=some (.cells x.frc 36 (0,0))):=⟨(hb.block _ (ig HK.1)).trans HK.1,(hb.block _ (ig HK.2)).trans HK.2⟩
 replace KN:Hid (w6.heap[gn]?=some (.cells N.cells 34 (0,0))):=(hb.block _ (ig KN.out)).trans KN.out
 clear hb ha ho
 have HG:Hid ((w6.alloc (.cells ab 34)).heap[w6.heap.size]?=some (.cells ab 34 (0,0))):=im _ _
 go_wp2_with (refine iq rfl 34 (.tmp 8) (.tmp 33) rfl w6.heap.size 0 rfl (.agg M.cells) rfl 17 rfl 34 _ HG iX (Nat.le_of_ble_eq_true rfl) (Swg.lF _) ?_)
 intro w7 hP
 replace hP:Put _ w7 w6.heap.size M.cells 34:=hP.cast rfl
 have hb:Below w6.heap.size w6 w7:=((Below.refl _ _).alloc (Nat.le_refl _) _).trans (hP.to.below (by simp) (fun y hy=>by simp at hy;omega))
 have KM:=aa hP.blk
 clear hP HG
 have HX:Hid (ArX w w7 gs gf gn w6.heap.size S N M x):=⟨⟨(hb.block _ (ig HK.1)).trans HK.1,(hb.block _ (ig KN.out)).trans KN.out,KM.out,H1.1.up hb,H3.2.up hb,H5.2.up hb,H1.2.trans (hb.mono H1.2.size)⟩,(hb.block _ (ig HK.2)).trans HK.2⟩
 have HAl:Hid (iw S' N∧iw N M):=⟨H3.1,H3.1.symm.trans H5.1⟩
 clear hb H1 H3 H5 HK KN KM
 generalize w6.heap.size=gm at *
 have HS2:Hid S'.Small:=by
  by_cases hok:S.Ok
  ·
   exact (HM.ok hok).small
  rcases HM.out with ⟨_,rfl,_⟩ | ⟨h,_⟩ | ⟨h,_⟩
  ·
   exact xH
  ·
   exact absurd h hok
  exact absurd h hok
 have HNs:=aa (HAl.1.small HS2.out)
 have hbb:(code != code)=false:=by simp
 have hbb2:(!(code == code))=false:=by simp
 have hbe:(code == code)=true:=by simp
 have HLn:=aa (qq HX.t.kn)
 have HLm:=aa (qq HX.t.km)
 go_wp2_with (first | refine jA (by kernel_rfl) 34 17 _ Tryz.underlying34 rfl iX (.tmp 6) rfl gn 0 rfl N.cells rfl HLn.out ?_ | refine jA (by kernel_rfl) 34 17 _ Tryz.underlying34 rfl iX (.tmp 8) rfl gm 0 rfl M.cells rfl HLm.out ?_)
 clear HLn HLm
 refine (mo N M _ HNs HX.t.rn HX.t.rm HAl.2).mono ?_
 rintro e w8 ⟨rfl,hb⟩
 replace HX:=aa (HX.up hb)
 clear hb
 by_cases hc1:code=1
 ·
  have hc1':(code == 1)=true:=by simp [hc1]
  have HLn:=aa (qq HX.t.kn)
  have HLm:=aa (qq HX.t.km)
  go_wp2_with (first | refine jA (by kernel_rfl) 34 17 _ Tryz.underlying34 rfl iX (.tmp 6) rfl gn 0 rfl N.cells rfl HLn.out ?_ | refine jA (by kernel_rfl) 34 17 _ Tryz.underlying34 rfl iX (.tmp 8) rfl gm 0 rfl M.cells rfl HLm.out ?_)
  clear HLn HLm
  refine (mo N M _ HNs HX.t.rn HX.t.rm HAl.2).mono ?_
  exact ic
 have hc1':(code == 1)=false:=by simp [hc1]
 by_cases hc2:code=2
 ·
  have hc2':(code == 2)=true:=by simp [hc2]
  have HSe:Hid (iw N S):=by
   rcases HM.out with ⟨_,_,h9⟩ | ⟨_,_,e9,_⟩ | ⟨_,_,i,_,_,⟨_,_,h9⟩ | ⟨_,⟨_,_,h9⟩ | ⟨_,_,_,h9⟩ | ⟨_,_,_,_,h9⟩⟩⟩
   ·
    omega
   ·
    have h9:=HAl.1
    rw [e9] at h9
    exact h9.symm
   all_goals omega
  have HLn:=aa (qq HX.t.kn)
  have HLs:=aa (qq HX.t.ks)
  go_wp2_with (first | refine ir rfl 34 17 _ Tryz.underlying34 rfl iX (.tmp 6) rfl gn 0 rfl N.cells rfl HLn.out ?_ | refine ir rfl 34 17 _ Tryz.underlying34 rfl iX (.tmp 3) rfl gs 0 rfl S.cells rfl HLs.out ?_)
  clear HLn HLs
  refine (mo N S _ HNs HX.t.rn HX.t.rs HSe).mono ?_
  exact ic
 have hc2':(code == 2)=false:=by simp [hc2]
 obtain ⟨hok,hfr,i,hpi,hi,hcs⟩:S.Ok∧mc x.k x.d x.s x.p x.b.size=true∧∃ i:Nat,port=(i:Int)∧i<S.nL∧((x.k≠1∧S'=S.stop i (decide (x.k=2))∧code=0)∨(x.k=1∧qS S S' i x code)):=by
  rcases HM.out with ⟨_,_,h9⟩ | ⟨_,_,_,h9⟩ | h9
  ·
   omega
  ·
   omega
  exact h9
 have HOk:Hid (S.Ok∧S'.Ok):=⟨hok,HM.ok hok⟩
 have HNO:=aa (HAl.1.ok1 HOk.2)
 have HFr:=aa hfr
 subst hpi
 have f0:w8.cell? ⟨gf,0,none⟩=some (.int .i64 x.k):=ie HX.f 0
 clear hok hfr HM
 by_cases hk:x.k=1
 rotate_left
 ·
  have hk1:(x.k != 1)=true:=by simp [hk]
  have hk2:(!(x.k == 1))=true:=by simp [hk]
  have hk3:(x.k == 1)=false:=by simp [hk]
  obtain ⟨hS',hcd⟩:S'=S.stop i (decide (x.k=2))∧code=0:=by
   rcases hcs with ⟨_,h9⟩ | ⟨h9,_⟩
   ·
    exact h9
   exact absurd h9 hk
  go_wp2_with fail
  clear f0 hcs hc1 hc1' hc2 hc2' hk1 hk2 hk3
  have hnL:N.nL=S.nL:=by rw [HAl.1.nL,hS'];rfl
  have hiN:i<N.nL:=by omega
  have hiN':(i:Int)<(N.nL:Int):=by omega
  have hnK:N.nK=S.nK:=by rw [HAl.1.nK,hS'];rfl
  have hnKe:((N.nK:Int) == (S.nK:Int))=true:=by rw [hnK];simp
  have hst:(N.L i).st=decide (x.k=2):=by
   have q:=(HAl.1.l i (by rw [←HAl.1.nL];exact hiN)).st
   rw [q,hS']
   show (if i=i then _ else _:Lng).st=_
   rw [if_pos rfl]
  obtain ⟨b,hb1,hb2⟩:∃ b,(N.L i).st=b∧(x.k == 2)=b:=⟨_,rfl,by rw [hst];by_cases e:x.k=2 <;> simp [e]⟩
  have hbe:(b == b)=true:=by cases b <;> rfl
  have hNl:=HNs.l
  have hNk:=HNs.k
  have hSk:=HS.k
  obtain ⟨gl,ol,el,hl8⟩:=HX.t.rn.l i hiN
  have l0:w8.cell? ⟨gl,ol+i*8,none⟩=some (.bool b):=by rw [←hb1];exact hl8 0 (by omega)
  have Hcs:Hid (∀ wx:World,wx.heap[gn]?=some (.cells N.cells 34 (0,0))∧wx.heap[gs]?=some (.cells S.cells 34 (0,0))∧wx.heap[gf]?=some (.cells x.frc 36 (0,0))∧wx.cell? ⟨gl,ol+i*8,none⟩=some (.bool b)→wx.cell? ⟨gn,14,none⟩=some (.slice (some ⟨gl,ol,none⟩) N.nL N.cL)∧wx.cell? ⟨gf,0,none⟩=some (.int .i64 x.k)∧wx.cell? ⟨gn,13,none⟩=some (.slice N.aK N.nK N.cK)∧wx.cell? ⟨gs,13,none⟩=some (.slice S.aK S.nK S.cK)):=fun wx h=>⟨by rw [←el];exact ie h.1 14,ie h.2.2.1 0,ie h.1 13,ie h.2.1 13⟩
  have hkeep:∀ W,Below w8.heap.size w8 W→W.cell? ⟨gl,ol+i*8,none⟩=some (.bool b):=fun W hb=>(hb.cell (p:=⟨gl,ol+i*8,none⟩) (DJ l0)).trans l0
  have HKp:=aa hkeep
  clear el hl8 hkeep hnL hnK hiN hS' hcd hst hb1
  refine wp_region_held_drew (S:=fun w'=>w'.heap[gn]?=some (.cells N.cells 34 (0,0))∧w'.heap[gs]?=some (.cells S.cells 34 (0,0))∧w'.heap[gf]?=some (.cells x.frc 36 (0,0))∧w'.cell? ⟨gl,ol+i*8,none⟩=some (.bool b)) (by kernel_rfl) (by have h9:=HX.up ((Below.refl _ _).drew);exact ⟨h9.t.kn,h9.t.ks,h9.f,HKp _ ((Below.refl _ _).drew)⟩) (fun hHeld=>?_)
  have HBd:Hid (Below w8.heap.size w8 w8.drew):=(Below.refl _ _).drew
  replace HX:Hid (ArX w w8.drew gs gf gn gm S N M x):=HX.up ((Below.refl _ _).drew)
  generalize w8.drew=V at *
  refine tC 0 64 (v:=.agg N.cells) (fun wx hSw=>jg 34 17 _ Tryz.underlying34 rfl iX (.tmp 6) rfl gn 0 rfl N.cells rfl (fun j _=>by rw [Nat.zero_add];exact ie hSw.1 j)) ?_
  try simp only [Act.put,PZ]
  refine rq1 1 (fun K hK=>?_)
  go_simp
  refine (nB N _ HNs HX.t.rn true ⟨fun _=>HNO.out,fun _=>rfl⟩).mono ?_
  rintro e V2 ⟨rfl,hb⟩
  replace HX:=aa (HX.up hb)
  have hSn:(V2.heap[gn]?=some (.cells N.cells 34 (0,0))∧V2.heap[gs]?=some (.cells S.cells 34 (0,0))∧V2.heap[gf]?=some (.cells x.frc 36 (0,0))∧V2.cell? ⟨gl,ol+i*8,none⟩=some (.bool b)):=⟨HX.t.kn,HX.t.ks,HX.f,HKp _ (HBd.trans (hb.mono HBd.size))⟩
  clear hb l0
  go_wp2_with fail
  refine ah (hK _ _ hSn) ?_
  intro hHeld
  clear hK K
  clear hSn
  refine tTq 2 66 ?_
  refine tQ 3 67 ?_
  refine tXq 4 68 ?_
  refine tQ 5 69 ?_
  refine tQ 6 70 ?_
  refine tQ 7 71 ?_
  refine tQ 8 72 ?_
  refine tQ 9 73 ?_
  refine tXq 10 74 ?_
  refine tQ 11 75 ?_
  refine tTq 12 76 ?_
  refine tTq 13 77 ?_
  refine tTq 14 78 ?_
  refine tQ 15 79 ?_
  refine tXq 16 80 ?_
  refine tQ 17 81 ?_
  refine tQ 18 82 ?_
  refine tXq 19 83 ?_
  refine tQ 20 84 ?_
  refine tTq 21 85 ?_
  refine tTq 22 86 ?_
  refine tTq 23 2 ?_
  refine dnq ?_
  clear hHeld Hcs
  have B:=HX.t.b
  exact ib
 have hk1:(x.k != 1)=false:=by simp [hk]
 have hk2:(!(x.k == 1))=false:=by simp [hk]
 have hk3:(x.k == 1)=true:=by simp [hk]
 obtain ⟨tq,har⟩:∃ tq,ArD S S' i x code tq:=by
  rcases hcs with ⟨h9,_⟩ | ⟨_,h9⟩
  ·
   exact absurd hk h9
  exact ⟨_,h9.ard HOk.1 HLw hi ⟨hk,HFr⟩⟩
 have HA:=aa har
 have hrg:=FV ⟨hk,HFr.out⟩
 clear hk hcs har
 have HLn:=aa (qq HX.t.kn)
 go_wp2_with (first | refine ir rfl 34 17 _ Tryz.underlying34 rfl iX (.tmp 6) rfl gn 0 rfl N.cells rfl HLn.out ?_)
 clear HLn f0
 refine (nB N _ HNs HX.t.rn true ⟨fun _=>HNO.out,fun _=>rfl⟩).mono ?_
 rintro e w9 ⟨rfl,hb⟩
 replace HX:=aa (HX.up hb)
 clear hb
 have HPs:Hid (xC N.nE N.e x.s N.now i):=by
  have q:=HA.src
  rw [←HAl.1.nE,←HAl.1.e,←HAl.1.now] at q
  exact q
 have HPd:Hid (xC N.nE N.e x.d N.now tq):=by
  have q:=HA.dst
  rw [←HAl.1.nE,←HAl.1.e,←HAl.1.now] at q
  exact q
 have hNe:=HNs.e
 have hml:N.nE≤maxLen:=Nat.le_trans hNe (by decide)
 have c9:w9.cell? ⟨gn,9,none⟩=some (.slice N.aE N.nE N.cE):=ie HX.t.kn 9
 have c7:w9.cell? ⟨gn,7,none⟩=some (.int .i64 N.now):=ie HX.t.kn 7
 have f2:w9.cell? ⟨gf,2,none⟩=some (.int .i64 x.s):=ie HX.f 2
 go_wp2_with fail
 clear c9 c7 f2
 refine (pE N.aE N.nE N.cE N.e x.s N.now i _ hml HX.t.rn.e (by omega) (by omega) HPs).mono ?_
 rintro e wa ⟨rfl,hb⟩
 replace HX:=aa (HX.up hb)
 clear hb
 have hii:((i:Int) != (i:Int))=false:=by simp
 have hii2:(!((i:Int) == (i:Int)))=false:=by simp
 clear HPs
 by_cases hc0:code=0
 rotate_left
 ·
  have h01:(code != 0)=true:=by simp [hc0]
  have h02:(!(code == 0))=true:=by simp [hc0]
  have h03:(code == 0)=false:=by simp [hc0]
  obtain ⟨hcode,hnK,hcn,h4,h3,hs1,hs2,hd1,hd2⟩:=HA.not hc0
  have HCn:=aa ((hcn.trans HAl.1.n).symm)
  have enK:N.nK=S.nK:=HAl.1.nK.trans hnK
  have hnKe:((N.nK:Int) == (S.nK:Int))=true:=by rw [enK];simp
  have hdd:=HOk.1.nums.dr
  have hdl:=HOk.1.nums.lst
  have hnd:=HNO.nums.dr
  have hnl:=HNO.nums.lst
  have esum:N.dr+N.lst=S'.dr+S'.lst:=by rw [HAl.1.dr,HAl.1.lst]
  have hw1:IntKind.i64.wrap (N.dr+N.lst)=N.dr+N.lst:=jS _ (by omega) (by omega)
  have hw2:IntKind.i64.wrap (S.dr+S.lst)=S.dr+S.lst:=jS _ (by omega) (by omega)
  have hd1':(S.dr == 1000000000)=false:=by simp [hd1]
  have hd2':(S.lst == 1000000000)=false:=by simp [hd2]
  have hNk:=HNs.k
  have hSk:=HS.k
  have c13:wa.cell? ⟨gn,13,none⟩=some (.slice N.aK N.nK N.cK):=ie HX.t.kn 13
  have s13:wa.cell? ⟨gs,13,none⟩=some (.slice S.aK S.nK S.cK):=ie HX.t.ks 13
  have HLc:=aa (GX HX.t.kn)
  have HLd:=aa (GX HX.t.ks)
  clear hcn hnK enK hd1 hd2 hc1 hc2
  go_wp2_with (first | refine jA (by kernel_rfl) 30 3 _ Tryz.underlying30 rfl BQ (.tmp 111) rfl gn 10 rfl N.N.cells rfl HLc.out ?_ | refine jA (by kernel_rfl) 30 3 _ Tryz.underlying30 rfl BQ (.tmp 113) rfl gs 10 rfl S.N.cells rfl HLd.out ?_)
  clear c13 s13 HLc HLd
  refine (pc N.N S.N _ HNs.n HX.t.rn.n HX.t.rs.n HCn).mono ?_
  rintro e wb ⟨rfl,hb⟩
  replace HX:=aa (HX.up hb)
  clear hb
  have c15:wb.cell? ⟨gn,15,none⟩=some (.int .i64 N.dr):=ie HX.t.kn 15
  have c16:wb.cell? ⟨gn,16,none⟩=some (.int .i64 N.lst):=ie HX.t.kn 16
  have s15:wb.cell? ⟨gs,15,none⟩=some (.int .i64 S.dr):=ie HX.t.ks 15
  have s16:wb.cell? ⟨gs,16,none⟩=some (.int .i64 S.lst):=ie HX.t.ks 16
  have B:=HX.t.b
  rcases hcode with e4 | e3
  ·
   have hlt:decide (S.dr+S.lst<N.dr+N.lst)=false:=decide_eq_false (by have:=h4 e4;omega)
   subst e4
   clear h4 h3 esum
   exact ib
  have hlt:S.dr+S.lst<N.dr+N.lst:=by have:=h3 e3;omega
  subst e3
  clear h4 h3 esum
  exact ib
 subst hc0
 obtain ⟨hne,hnK,hK,hrf⟩:=HA.yes rfl
 have enK:N.nK=S.nK+1:=HAl.1.nK.trans hnK
 have eK:N.K S.nK=S.pkt i x (kY tq i S.nL):=by rw [HAl.1.k];exact hK
 obtain ⟨gk,ok,ek,hk8⟩:=HX.t.rn.k S.nK (by omega)
 rw [eK] at hk8
 obtain ⟨rf,erf⟩:∃ r:Int,((kY tq i S.nL:Nat):Int)=r:=⟨_,rfl⟩
 obtain ⟨y,ey⟩:∃ y:Pkt,S.pkt i x (kY tq i S.nL)=y:=⟨_,rfl⟩
 have HEy:Hid (y=⟨S.nx,i,rf,x.k,x.d,x.s,x.p,x.b⟩):=by rw [Hid,←ey,←erf];rfl
 rw [ey] at hk8
 rw [erf] at hrf
 have hSk:=HS.k
 have hwS:IntKind.i64.wrap (((S.nK+1:Nat):Int)-1)=(S.nK:Int):=by rw [jS _ (by omega) (by omega)];omega
 have c13:wa.cell? ⟨gn,13,none⟩=some (.slice (some ⟨gk,ok,none⟩) (S.nK+1) N.cK):=by rw [←ek,←enK];exact ie HX.t.kn 13
 have HLp:=aa hk8
 have HG:Hid ((wa.alloc (.cells GH 51)).heap[wa.heap.size]?=some (.cells GH 51 (0,0))):=im _ _
 have hltk:(S.nK:Int)<((S.nK+1:Nat):Int):=by omega
 clear hk8 ek eK hK hnK enK ey erf hc1 hc2
 go_wp2_with (first | refine ir rfl 51 8 _ Tryz.underlying51 rfl BH (.tmp 149) rfl gk (ok+S.nK*8) rfl y.cells rfl HLp.out ?_ | refine iq rfl 51 (.tmp 10) (.tmp 150) rfl wa.heap.size 0 rfl (.agg y.cells) rfl 8 rfl 51 _ HG BH (Nat.le_of_ble_eq_true rfl) (Pkt.oneP _) ?_)
 intro wb hP
 replace hP:Put _ wb wa.heap.size y.cells 51:=hP.cast rfl
 have hb:Below wa.heap.size wa wb:=((Below.refl _ _).alloc (Nat.le_refl _) _).trans (hP.to.below (by simp) (fun y hy=>by simp at hy;omega))
 have HKp:=aa hP.blk
 replace HX:=aa (HX.up hb)
 clear hP hb HG HLp c13 hwS
 generalize wa.heap.size=gp at *
 have c9:wb.cell? ⟨gn,9,none⟩=some (.slice N.aE N.nE N.cE):=ie HX.t.kn 9
 have c7:wb.cell? ⟨gn,7,none⟩=some (.int .i64 N.now):=ie HX.t.kn 7
 have f1:wb.cell? ⟨gf,1,none⟩=some (.int .i64 x.d):=ie HX.f 1
 go_wp2_with fail
 clear c9 c7 f1
 refine (pE N.aE N.nE N.cE N.e x.d N.now tq _ hml HX.t.rn.e (by omega) (by omega) HPd).mono ?_
 rintro e wc ⟨rfl,hb⟩
 replace HX:=aa (HX.up hb)
 replace HKp:Hid (wc.heap[gp]?=some (.cells y.cells 51 (0,0))):=(hb.block _ (ig HKp.out)).trans HKp.out
 clear hb HPd
 have hne1:(tq != (i:Int))=true:=by simp [hne]
 have hne2:(!(tq == (i:Int)))=true:=by simp [hne]
 have hne3:(tq == (i:Int))=false:=by simp [hne]
 have c13:wc.cell? ⟨gn,13,none⟩=some (.slice N.aK (S.nK+1) N.cK):=by rw [←(HAl.1.nK.trans (HA.yes rfl).2.1:N.nK=S.nK+1)];exact ie HX.t.kn 13
 have s13:wc.cell? ⟨gs,13,none⟩=some (.slice S.aK S.nK S.cK):=ie HX.t.ks 13
 have s0:wc.cell? ⟨gs,0,none⟩=some (.int .i64 S.C.p):=ie HX.t.ks 0
 have p1:wc.cell? ⟨gp,1,none⟩=some (.int .i64 (i:Int)):=by rw [ie HKp 1,HEy.out];rfl
 have p2:wc.cell? ⟨gp,2,none⟩=some (.int .i64 rf):=by rw [ie HKp 2,HEy.out];rfl
 have HLq:Hid (∀ j,j<5→wc.cell? ⟨gp,3+j,none⟩=(#[.int .i64 x.k,.int .i64 x.d,.int .i64 x.s,.int .i64 x.p,.string x.b]:Array Value)[j]?):=by have h9:=HKp.out;rw [HEy.out] at h9;exact pkf h9
 have HLf:=aa (mu HX.f)
 have hwK:IntKind.i64.wrap ((S.nK:Int)+1)=((S.nK+1:Nat):Int):=by rw [jS _ (by omega) (by omega)];omega
 have hpp:=HOk.1.n.c.num.p
 have hwP:IntKind.i64.wrap (S.C.p-1)=S.C.p-1:=jS _ (by omega) (by omega)
 have B:=HX.t.b
 clear HA hltk
 rcases hrf with ⟨h0,hr⟩ | ⟨h0,hr⟩
 ·
  have hr1:(rf == S.C.p-1)=true:=by simp [hr]
  clear hr
  exact ia
 have h0':¬ tq<0:=by omega
 subst hr
 exact ia
