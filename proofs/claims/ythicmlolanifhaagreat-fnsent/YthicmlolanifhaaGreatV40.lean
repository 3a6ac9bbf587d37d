/- What a port sends it sends once; a lossless frame ahead of all others, unless it is to stop; buffers are freed when the last one is sent: the law FnSent returns true for every code, under no condition. -/
import Derived.Test.YthicmlolanifhaaGreatV39
namespace Go.Proofs.YthicmlolanifhaaGreat
set_option maxRecDepth 100000
open Go.ChangeShapes Go.WideShapes Go.ChangeAt Go.RowKit
set_option linter.unusedVariables false
set_option linter.unusedSimpArgs false
variable {p:Prop}
theorem iq (h:p:=by
 go_wp2_with fail
 go_roundw
 case rel=>exact ⟨n+1,by omega,by go_num,rfl,by trivial⟩
 case measure=>simp [intOf];omega):p:=h
theorem ir (h:p:=by
 refine tFq 37 193 ?_
 refine tFq 38 194 ?_
 refine tFq 39 17 ?_
 refine dnq ?_
 exact Ef):p:=h
theorem iu (h:p:=by
 refine tTq 38 194 ?_
 refine tTq 39 17 ?_
 refine dnq ?_
 exact Ef):p:=h
structure SnD (w W:World) (gs gn gm:Nat) (S N M:Swg) (fs:List Pkt) (a1 a2:Option Addr):Prop where
 t:TkD w W gs gn gm S N M
 f1:RdF W a1 fs.length (fsF fs)
 f2:RdF W a2 fs.length (fsF fs)
theorem SnD.up {w W W':World} {gs gn gm:Nat} {S N M:Swg} {fs:List Pkt} {a1 a2:Option Addr} (h:SnD w W gs gn gm S N M fs a1 a2) (hb:Below W.heap.size W W'):SnD w W' gs gn gm S N M fs a1 a2:=⟨h.t.up hb,h.f1.up hb,h.f2.up hb⟩
theorem Ef (h:p:=by
  have hwr:IntKind.i64.wrap (mM S.K S.nK-mM N.K N.nK)=(d:Int):=by
   have hrf:=HD.refs
   have q1:=HOk.1.xh S.nK (Nat.le_refl _)
   have q2:=HOk.2.xh S'.nK (Nat.le_refl _)
   have k1:=HOk.1.k.le
   have k2:=HOk.2.k.le
   have hK:N.K=S'.K:=HAl.1.k
   have hKn:N.nK=S'.nK:=HAl.1.nK
   rw [hK,hKn]
   exact (lz _ (by omega) (by omega)).trans hrf
  have hls:N.lst=S.lst:=HAl.1.lst.trans HD.lost
  clear hHeld Hcs HW HD
  subst hd1
  first | replace hwr:IntKind.i64.wrap (mM S.K S.nK-mM N.K N.nK)=1:=hwr | replace hwr:IntKind.i64.wrap (mM S.K S.nK-mM N.K N.nK)=0:=hwr
  first | rw [show ((1:Nat):Int)=1 from rfl] | rw [show ((0:Nat):Int)=0 from rfl] | skip
  have HLn:Hid (∀ j,j<17→V.cell? (Hh gn (0+j))=N.cells[j]?):=fun j _=>by rw [Nat.zero_add];exact iv HX2.t.kn j
  go_wp2_with (refine iC rfl 34 17 _ Tryz.underlying34 rfl jo (.tmp 5) rfl gn 0 rfl N.cells rfl HLn.out ?_)
  clear HLn
  refine (qT N _ HNs HX2.t.rn true ⟨fun _=>HNO.out,fun _=>rfl⟩).mono ?_
  rintro e V1 ⟨rfl,hb⟩
  replace HX2:=aa (HX2.up hb)
  clear hb
  have c16:V1.cell? (Hh gn 16)=some (.int .i64 S.lst):=by
   rw [←hls]
   exact iv HX2.t.kn 16
  have d16:V1.cell? (Hh gs 16)=some (.int .i64 S.lst):=iv HX2.t.ks 16
  have B:=HX2.t.b
  go_wp2_with fail
  go_ret
  exact ⟨rfl,B⟩):p:=h
set_option maxHeartbeats 16000000 in
theorem Bj (a:Option Addr) (len cap:Nat) (w:World) (hl:len≤maxLen) (hC:len≤1048576→Code w.heap.size (.slice a len cap) len w) :
  Calls Tryz.prog 3 #[.slice a len cap] w fun e w'=>e=.returned (.bool true)∧Below w.heap.size w w':=by
 have HC:=aa hC
 clear hC
 by_cases hbig:1048576<(len:Int)
 ·
  go_enter Tryz.func3,Tryz.ntmps3
  go_wp2_with fail
  refine (zN a len cap _ hl).mono ?_
  rintro e w' ⟨rfl,hw⟩
  rw [hw,decide_eq_true hbig]
  clear hw w'
  go_wp2_with fail
  go_ret
  exact ⟨rfl,Below.refl _ _⟩
 go_enter Tryz.func3,Tryz.ntmps3
 go_wp2_with fail
 refine (zN a len cap _ hl).mono ?_
 rintro e w' ⟨rfl,hw⟩
 rw [hw,decide_eq_false (show ¬ (1048576:Int)<(len:Int) by omega)]
 clear hw w'
 go_wp2_with fail
 refine (xV (.slice a len cap) len _ (HC (by omega)) ⟨_,_,_,rfl⟩).mono ?_
 rintro e w1 ⟨S,port,rfl,hsm,hrd,B⟩
 have HS:=aa hsm
 have H1:Hid (lN w1 S∧Below w.heap.size w w1):=⟨hrd,B⟩
 clear HC hbig hsm hrd B
 have HG:Hid ((w1.alloc (.cells ab 34)).heap[w1.heap.size]?=some (.cells ab 34 (0,0))):=iy _ _
 go_wp2_with (refine iA rfl 34 (.tmp 3) (.tmp 23) rfl w1.heap.size 0 rfl (.agg S.cells) rfl 17 rfl 34 _ HG jo (Nat.le_of_ble_eq_true rfl) (Swg.mc _) ?_)
 intro w2 hP
 replace hP:Put _ w2 w1.heap.size S.cells 34:=hP.cast rfl
 have hb:Below w1.heap.size w1 w2:=((Below.refl _ _).alloc (Nat.le_refl _) _).trans (hP.to.below (by simp) (fun y hy=>by simp at hy;omega))
 have KS:=aa hP.blk
 clear hP HG
 replace H1:Hid (lN w2 S∧Below w.heap.size w w2):=⟨H1.1.up hb,H1.2.trans (hb.mono H1.2.size)⟩
 clear hb
 obtain ⟨gs,egs⟩:∃ g,w1.heap.size=g:=⟨_,rfl⟩
 rw [egs] at KS ⊢
 clear egs
 obtain ⟨S',fs,b,hsb⟩:=zn S port
 have HSB:=aa hsb
 clear hsb
 have HL:Hid (∀ j,j<17→w2.cell? (Hh gs (0+j))=S.cells[j]?):=fun j _=>by rw [Nat.zero_add];exact iv KS.out j
 go_wp2_with (refine iC rfl 34 17 _ Tryz.underlying34 rfl jo (.tmp 3) rfl gs 0 rfl S.cells rfl HL.out ?_)
 clear HL
 refine (Cl S S' port fs _ HS H1.1 b HSB).mono ?_
 rintro e w3 ⟨N,a1,c1,rfl,ha,ho,hf,hb⟩
 have H3:Hid (iE S' N∧lN w3 N∧RdF w3 a1 fs.length (fsF fs)):=⟨ha,ho.rd,hf.mJ⟩
 replace H1:Hid (lN w3 S∧Below w.heap.size w w3):=⟨H1.1.up hb,H1.2.trans (hb.mono H1.2.size)⟩
 replace KS:Hid (w3.heap[gs]?=some (.cells S.cells 34 (0,0))):=(hb.block _ (iw KS.out)).trans KS.out
 clear hb ha ho hf
 have HG:Hid ((w3.alloc (.cells ab 34)).heap[w3.heap.size]?=some (.cells ab 34 (0,0))):=iy _ _
 go_wp2_with (refine iA rfl 34 (.tmp 5) (.tmp 29) rfl w3.heap.size 0 rfl (.agg N.cells) rfl 17 rfl 34 _ HG jo (Nat.le_of_ble_eq_true rfl) (Swg.mc _) ?_)
 intro w4 hP
 replace hP:Put _ w4 w3.heap.size N.cells 34:=hP.cast rfl
 have hb:Below w3.heap.size w3 w4:=((Below.refl _ _).alloc (Nat.le_refl _) _).trans (hP.to.below (by simp) (fun y hy=>by simp at hy;omega))
 have KN:=aa hP.blk
 clear hP HG
 replace H1:Hid (lN w4 S∧Below w.heap.size w w4):=⟨H1.1.up hb,H1.2.trans (hb.mono H1.2.size)⟩
 replace H3:Hid (iE S' N∧lN w4 N∧RdF w4 a1 fs.length (fsF fs)):=⟨H3.1,H3.2.1.up hb,H3.2.2.up hb⟩
 replace KS:Hid (w4.heap[gs]?=some (.cells S.cells 34 (0,0))):=(hb.block _ (iw KS.out)).trans KS.out
 clear hb
 obtain ⟨gn,egn⟩:∃ g,w3.heap.size=g:=⟨_,rfl⟩
 rw [egn] at KN ⊢
 clear egn
 have HL:Hid (∀ j,j<17→w4.cell? (Hh gs (0+j))=S.cells[j]?):=fun j _=>by rw [Nat.zero_add];exact iv KS.out j
 go_wp2_with (refine iC rfl 34 17 _ Tryz.underlying34 rfl jo (.tmp 3) rfl gs 0 rfl S.cells rfl HL.out ?_)
 clear HL
 refine (wZ S S' port fs _ HS H1.1 b HSB).mono ?_
 rintro e w5 ⟨M,a2,c2,rfl,ha,ho,hf,hb⟩
 have H5:Hid (iE S' M∧lN w5 M∧RdF w5 a2 fs.length (fsF fs)):=⟨ha,ho.rd,hf.mJ⟩
 replace H1:Hid (lN w5 S∧Below w.heap.size w w5):=⟨H1.1.up hb,H1.2.trans (hb.mono H1.2.size)⟩
 replace H3:Hid (iE S' N∧lN w5 N∧RdF w5 a1 fs.length (fsF fs)):=⟨H3.1,H3.2.1.up hb,H3.2.2.up hb⟩
 replace KS:Hid (w5.heap[gs]?=some (.cells S.cells 34 (0,0))):=(hb.block _ (iw KS.out)).trans KS.out
 replace KN:Hid (w5.heap[gn]?=some (.cells N.cells 34 (0,0))):=(hb.block _ (iw KN.out)).trans KN.out
 clear hb ha ho hf
 have HG:Hid ((w5.alloc (.cells ab 34)).heap[w5.heap.size]?=some (.cells ab 34 (0,0))):=iy _ _
 go_wp2_with (refine iA rfl 34 (.tmp 8) (.tmp 36) rfl w5.heap.size 0 rfl (.agg M.cells) rfl 17 rfl 34 _ HG jo (Nat.le_of_ble_eq_true rfl) (Swg.mc _) ?_)
 intro w6 hP
 replace hP:Put _ w6 w5.heap.size M.cells 34:=hP.cast rfl
 have hb:Below w5.heap.size w5 w6:=((Below.refl _ _).alloc (Nat.le_refl _) _).trans (hP.to.below (by simp) (fun y hy=>by simp at hy;omega))
 have KM:=aa hP.blk
 clear hP HG
 have HX:Hid (SnD w w6 gs gn w5.heap.size S N M fs a1 a2):=⟨⟨(hb.block _ (iw KS.out)).trans KS.out,(hb.block _ (iw KN.out)).trans KN.out,KM.out,H1.1.up hb,H3.2.1.up hb,H5.2.1.up hb,H1.2.trans (hb.mono H1.2.size)⟩,H3.2.2.up hb,H5.2.2.up hb⟩
 have HAl:Hid (iE S' N∧iE N M):=⟨H3.1,H3.1.symm.trans H5.1⟩
 clear hb H1 H3 H5 KS KN KM
 generalize w5.heap.size=gm at *
 have HS2:Hid (S'.Small∧fs.length≤2∧(b=true→S.Ok∧S'.Ok)):=by
  rcases HSB.out with ⟨_,hok,i,_,hi,hm⟩ | ⟨e,_,rfl,rfl⟩
  ·
   exact ⟨(hm.ok hok hi).small,hm.len,fun _=>⟨hok,hm.ok hok hi⟩⟩
  exact ⟨yi,by simp,fun h=>by rw [e] at h;cases h⟩
 have HNs:=aa (HAl.1.small HS2.1)
 have hfl:fs.length≤2:=HS2.2.1
 have hbb:(b != b)=false:=by cases b <;> rfl
 have hbb2:(!(b == b))=false:=by cases b <;> rfl
 have hbe:(b == b)=true:=by cases b <;> rfl
 have HLn:Hid (∀ j,j<17→w6.cell? (Hh gn (0+j))=N.cells[j]?):=fun j _=>by rw [Nat.zero_add];exact iv HX.t.kn j
 have HLm:Hid (∀ j,j<17→w6.cell? (Hh gm (0+j))=M.cells[j]?):=fun j _=>by rw [Nat.zero_add];exact iv HX.t.km j
 go_wp2_with (first | refine lW (by kernel_rfl) 34 17 _ Tryz.underlying34 rfl jo (.tmp 5) rfl gn 0 rfl N.cells rfl HLn.out ?_ | refine lW (by kernel_rfl) 34 17 _ Tryz.underlying34 rfl jo (.tmp 8) rfl gm 0 rfl M.cells rfl HLm.out ?_)
 clear HLn HLm
 refine (pj N M _ HNs HX.t.rn HX.t.rm HAl.2).mono ?_
 rintro e w7 ⟨rfl,hb⟩
 replace HX:=aa (HX.up hb)
 clear hb
 go_wp2_with fail
 refine (pQ a1 a2 fs.length c1 c2 (fsF fs) _ (by omega) HX.f1 HX.f2).mono ?_
 rintro e w8 ⟨rfl,hb⟩
 replace HX:=aa (HX.up hb)
 clear hb
 cases b
 ·
  have HLn:Hid (∀ j,j<17→w8.cell? (Hh gn (0+j))=N.cells[j]?):=fun j _=>by rw [Nat.zero_add];exact iv HX.t.kn j
  have HLm:Hid (∀ j,j<17→w8.cell? (Hh gm (0+j))=M.cells[j]?):=fun j _=>by rw [Nat.zero_add];exact iv HX.t.km j
  go_wp2_with (first | refine lW (by kernel_rfl) 34 17 _ Tryz.underlying34 rfl jo (.tmp 5) rfl gn 0 rfl N.cells rfl HLn.out ?_ | refine lW (by kernel_rfl) 34 17 _ Tryz.underlying34 rfl jo (.tmp 8) rfl gm 0 rfl M.cells rfl HLm.out ?_)
  clear HLn HLm
  refine (pj N M _ HNs HX.t.rn HX.t.rm HAl.2).mono ?_
  rintro e w9 ⟨rfl,hb⟩
  replace HX:=aa (HX.up hb)
  clear hb
  go_wp2_with fail
  refine (pQ a1 a2 fs.length c1 c2 (fsF fs) _ (by omega) HX.f1 HX.f2).mono ?_
  rintro e wa ⟨rfl,hb⟩
  have B:=(HX.up hb).t.b
  clear hb
  go_wp2_with fail
  go_ret
  exact ⟨rfl,B⟩
 obtain ⟨i,hpi,hi,hm⟩:∃ i:Nat,port=(i:Int)∧i<S.nL∧mO S S' i fs:=by
  rcases HSB.out with ⟨_,_,h9⟩ | ⟨e,_⟩
  ·
   exact h9
  cases e
 subst hpi
 have HOk:Hid (S.Ok∧S'.Ok):=HS2.2.2 rfl
 obtain ⟨d,hd⟩:=hm.snd HOk.1 hi
 have HD:=aa hd
 have HNO:=aa (HAl.1.ok1 HOk.2)
 have hi':(i:Int)<(S.nL:Int):=by omega
 have hnL:=HS.l
 have hnK:=HS.k
 have hnK2:=HNs.k
 clear hm hd HSB
 obtain ⟨gl,ol,el,hl8⟩:=HX.t.rs.l i hi
 have HLl:=aa el
 have c14:w8.cell? (Hh gs 14)=some (.slice (some (Hh gl ol)) S.nL S.cL):=by rw [←el];exact iv HX.t.ks 14
 have l0:w8.cell? (Hh gl (ol+i*8))=some (.bool (S.L i).st):=hl8 0 (by omega)
 have l1:w8.cell? (Hh gl (ol+i*8+1))=some (.slice (S.L i).aT (S.L i).nT (S.L i).cT):=hl8 1 (by omega)
 have HLn2:Hid (w8.cell? (Hh gl (ol+i*8+2))=some (.slice (S.L i).aU (S.L i).nU (S.L i).cU)):=hl8 2 (by omega)
 clear el hl8
 have hnT:=(HS.ls i hi).t
 go_wp2_with fail
 go_loopw [11,12] (fun s r wr=>∃ n:Nat,n≤fs.length∧r=.int .i64 n∧s=.int .i64 (oG fs n:Nat)∧wr=w8) (fun _ r _=>fs.length-(intOf r).toNat)
 case atStart=>exact ⟨0,Nat.zero_le _,rfl,rfl,rfl⟩
 obtain ⟨n,hn,rfl,rfl,rfl⟩:=hrel
 by_cases hlt:n<fs.length
 ·
  have hlt':(n:Int)<(fs.length:Int):=by omega
  obtain ⟨g,o,ea,hc⟩:=HX.f1.at hlt
  have e0:wr.cell? (Hh g (o+n*5))=some (.int .i64 (fsF fs n).k):=hc 0 (by omega)
  have e3:wr.cell? (Hh g (o+n*5+3))=some (.int .i64 (fsF fs n).p):=hc 3 (by omega)
  have hdl:=HD.le n (by omega)
  have hq:=HD.ok n hlt
  have hsu:oG fs (n+1)=oG fs n+if (fsF fs n).k=1 then 1 else 0:=rfl
  have HSu:=aa hsu
  have HQ:=aa hq
  clear hc hsu hq
  rw [ea]
  by_cases hk:(fsF fs n).k=1
  rotate_left
  ·
   have hk':((fsF fs n).k == 1)=false:=by simp [hk]
   have hs2:oG fs (n+1)=oG fs n:=by rw [HSu.out,if_neg hk];rfl
   have HS9:=aa hs2
   clear hk hs2
   go_wp2_with fail
   go_roundw
   case rel=>exact ⟨n+1,by omega,by go_num,by rw [HS9.out],by trivial⟩
   case measure=>simp [intOf];omega
  have hk':((fsF fs n).k == 1)=true:=by simp [hk]
  have hw9:IntKind.i64.wrap (((oG fs n:Nat):Int)+1)=((oG fs (n+1):Nat):Int):=by
   rw [HSu.out,if_pos hk]
   rw [lz _ (by omega) (by omega)]
   omega
  have HK1:=HQ hk
  clear hk
  by_cases hp:(fsF fs n).p=2
  ·
   have hp':((fsF fs n).p == 2)=true:=by simp [hp]
   have hp2:((fsF fs n).p != 2)=false:=by simp [hp]
   have hst:=HK1.1 hp
   clear hp HK1
   rw [hst] at l0
   exact iq
  have hp':((fsF fs n).p == 2)=false:=by simp [hp]
  have hp2:((fsF fs n).p != 2)=true:=by simp [hp]
  by_cases hz:0<(S.L i).nT
  ·
   have hz':(0:Int)<((S.L i).nT:Int):=by omega
   have hst:=HK1.2 hp hz
   clear hp HK1
   rw [hst] at l0
   exact iq
  have hz':¬ (0:Int)<((S.L i).nT:Int):=by omega
  clear hp HK1
  exact iq
 obtain rfl:n=fs.length:=by omega
 have hkk:¬ ((fs.length:Nat):Int)<((fs.length:Nat):Int):=by omega
 have hcd:=HD.cnt
 rw [hcd]
 clear hcd
 go_wp2_with fail
 clear hkk
 have HRf:Hid (∀ n,n≤S.nK→0≤mM S.K n∧mM S.K n≤12000000):=fun n hn=>by
  have q:=HOk.1.xh n hn
  have:=HOk.1.k.le
  exact ⟨q.1,by omega⟩
 have ck:wr.cell? (Hh gs 13)=some (.slice S.aK S.nK S.cK):=iv HX.t.ks 13
 go_loopw [13,14] (fun s r wx=>∃ n:Nat,n≤S.nK∧r=.int .i64 n∧s=.int .i64 (mM S.K n)∧wx=wr) (fun _ r _=>S.nK-(intOf r).toNat)
 case atStart=>exact ⟨0,Nat.zero_le _,rfl,rfl,rfl⟩
 obtain ⟨n,hn,rfl,rfl,rfl⟩:=hrel
 by_cases hlt:n<S.nK
 ·
  have hlt':(n:Int)<(S.nK:Int):=by omega
  obtain ⟨g,o,ea,hc⟩:=HX.t.rs.k n hlt
  have e2:wr.cell? (Hh g (o+n*8+2))=some (.int .i64 (S.K n).refs):=hc 2 (by omega)
  have hw9:IntKind.i64.wrap (mM S.K n+(S.K n).refs)=mM S.K (n+1):=by
   have q:=HRf (n+1) (by omega)
   have e:mM S.K (n+1)=mM S.K n+(S.K n).refs:=rfl
   rw [e] at q ⊢
   exact lz _ (by omega) (by omega)
  rw [ea] at ck
  clear hc ea
  exact iq
 obtain rfl:n=S.nK:=by omega
 have hkk:¬ ((S.nK:Nat):Int)<((S.nK:Nat):Int):=by omega
 go_wp2_with fail
 clear hkk ck HRf
 have HRf:Hid (∀ n,n≤N.nK→0≤mM N.K n∧mM N.K n≤12000000):=fun n hn=>by
  have q:=HNO.xh n hn
  have:=HNO.k.le
  exact ⟨q.1,by omega⟩
 have ck:wr.cell? (Hh gn 13)=some (.slice N.aK N.nK N.cK):=iv HX.t.kn 13
 go_loopw [15,16] (fun s r wy=>∃ n:Nat,n≤N.nK∧r=.int .i64 n∧s=.int .i64 (mM N.K n)∧wy=wr) (fun _ r _=>N.nK-(intOf r).toNat)
 case atStart=>exact ⟨0,Nat.zero_le _,rfl,rfl,rfl⟩
 obtain ⟨n,hn,rfl,rfl,rfl⟩:=hrel
 by_cases hlt:n<N.nK
 ·
  have hlt':(n:Int)<(N.nK:Int):=by omega
  obtain ⟨g,o,ea,hc⟩:=HX.t.rn.k n hlt
  have e2:wr.cell? (Hh g (o+n*8+2))=some (.int .i64 (N.K n).refs):=hc 2 (by omega)
  have hw9:IntKind.i64.wrap (mM N.K n+(N.K n).refs)=mM N.K (n+1):=by
   have q:=HRf (n+1) (by omega)
   have e:mM N.K (n+1)=mM N.K n+(N.K n).refs:=rfl
   rw [e] at q ⊢
   exact lz _ (by omega) (by omega)
  rw [ea] at ck
  clear hc ea
  exact iq
 obtain rfl:n=N.nK:=by omega
 have hkk:¬ ((N.nK:Nat):Int)<((N.nK:Nat):Int):=by omega
 go_wp2_with fail
 clear hkk ck HRf
 have hnU:(S.L i).nU=2:=(HOk.1.l i hi).u
 obtain ⟨gu,ou,eu,hu0⟩:=(HX.t.rs.ls i hi).u 0 (by omega)
 obtain ⟨gu2,ou2,eu2,hu1⟩:=(HX.t.rs.ls i hi).u 1 (by omega)
 obtain ⟨rfl,rfl⟩:gu=gu2∧ou=ou2:=by rw [eu] at eu2;cases eu2;exact ⟨rfl,rfl⟩
 have h20:(S.L i).uL 0≤1048576:=(HS.ls i hi).z 0 (by omega)
 have h21:(S.L i).uL 1≤1048576:=(HS.ls i hi).z 1 (by omega)
 have hw8:IntKind.i64.wrap (((S.L i).uL 0:Int)+((S.L i).uL 1:Int))=((S.L i).uL 0:Int)+((S.L i).uL 1:Int):=lz _ (by omega) (by omega)
 have l2:wr.cell? (Hh gl (ol+i*8+2))=some (.slice (some (Hh gu ou)) 2 (S.L i).cU):=by have h9:=HLn2.out;rw [eu,hnU] at h9;exact h9
 have hSV:(fun w'=>w'.heap[gs]?=some (.cells S.cells 34 (0,0))∧w'.cell? (Hh gl (ol+i*8))=some (.bool (S.L i).st)∧w'.cell? (Hh gl (ol+i*8+1))=some (.slice (S.L i).aT (S.L i).nT (S.L i).cT)∧w'.cell? (Hh gl (ol+i*8+2))=some (.slice (some (Hh gu ou)) 2 (S.L i).cU)∧w'.cell? (Hh gu ou)=some (.slice ((S.L i).uA 0) ((S.L i).uL 0) ((S.L i).uC 0))∧w'.cell? (Hh gu (ou+1))=some (.slice ((S.L i).uA 1) ((S.L i).uL 1) ((S.L i).uC 1))) wr:=⟨HX.t.ks,l0,l1,l2,hu0,hu1⟩
 have Hcs:Hid (∀ wx:World,(fun w'=>w'.heap[gs]?=some (.cells S.cells 34 (0,0))∧w'.cell? (Hh gl (ol+i*8))=some (.bool (S.L i).st)∧w'.cell? (Hh gl (ol+i*8+1))=some (.slice (S.L i).aT (S.L i).nT (S.L i).cT)∧w'.cell? (Hh gl (ol+i*8+2))=some (.slice (some (Hh gu ou)) 2 (S.L i).cU)∧w'.cell? (Hh gu ou)=some (.slice ((S.L i).uA 0) ((S.L i).uL 0) ((S.L i).uC 0))∧w'.cell? (Hh gu (ou+1))=some (.slice ((S.L i).uA 1) ((S.L i).uL 1) ((S.L i).uC 1))) wx→wx.cell? (Hh gs 14)=some (.slice (some (Hh gl ol)) S.nL S.cL)):=fun wx h=>by rw [←HLl.out];exact iv h.1 14
 have HW:=aa HD.waits
 have HX2:Hid (SnD w wr.drew gs gn gm S N M fs a1 a2):=HX.up ((Below.refl _ _).drew)
 clear eu eu2 hu0 hu1 l0 l1 l2 c14 hnU
 refine wp_region_held_drew (S:=fun w'=>w'.heap[gs]?=some (.cells S.cells 34 (0,0))∧w'.cell? (Hh gl (ol+i*8))=some (.bool (S.L i).st)∧w'.cell? (Hh gl (ol+i*8+1))=some (.slice (S.L i).aT (S.L i).nT (S.L i).cT)∧w'.cell? (Hh gl (ol+i*8+2))=some (.slice (some (Hh gu ou)) 2 (S.L i).cU)∧w'.cell? (Hh gu ou)=some (.slice ((S.L i).uA 0) ((S.L i).uL 0) ((S.L i).uC 0))∧w'.cell? (Hh gu (ou+1))=some (.slice ((S.L i).uA 1) ((S.L i).uL 1) ((S.L i).uC 1))) (by kernel_rfl) ⟨HX2.t.ks,hSV.2.1,hSV.2.2.1,hSV.2.2.2.1,hSV.2.2.2.2.1,hSV.2.2.2.2.2⟩ (fun hHeld=>?_)
 clear hSV HX
 generalize wr.drew=V at *
 refine tQ 0 156 ?_
 refine tXq 1 157 ?_
 refine tQ 2 158 ?_
 refine tQ 3 159 ?_
 refine tQ 4 160 ?_
 refine tQ 5 161 ?_
 refine tQ 6 162 ?_
 refine tQ 7 163 ?_
 refine tQ 8 164 ?_
 refine tQ 9 165 ?_
 refine tXq 10 166 ?_
 refine tQ 11 167 ?_
 refine tQ 12 168 ?_
 refine tQ 13 169 ?_
 refine tQ 14 170 ?_
 refine tQ 15 171 ?_
 refine tQ 16 172 ?_
 refine tQ 17 173 ?_
 refine tQ 18 174 ?_
 by_cases hq:0<(S.L i).uL 0+(S.L i).uL 1
 ·
  have hq':(0:Int)<((S.L i).uL 0:Int)+((S.L i).uL 1:Int):=by omega
  have hd1:d=1:=HW.2 (.inl hq)
  refine tTq 19 175 ?_
  refine tTq 20 176 ?_
  refine sA 21 177 ?_
  refine sA 22 178 ?_
  refine sA 23 179 ?_
  refine sA 24 180 ?_
  refine sA 25 181 ?_
  refine sA 26 182 ?_
  refine sA 27 183 ?_
  refine sA 28 184 ?_
  refine sA 29 185 ?_
  refine sA 30 186 ?_
  refine sA 31 187 ?_
  refine sA 32 188 ?_
  refine sA 33 189 ?_
  refine sA 34 190 ?_
  refine sA 35 191 ?_
  refine sA 36 192 ?_
  refine sA 37 193 ?_
  exact iu
 have hq':¬ (0:Int)<((S.L i).uL 0:Int)+((S.L i).uL 1:Int):=by omega
 refine tFq 19 175 ?_
 refine tFq 20 176 ?_
 refine tQ 21 177 ?_
 refine tXq 22 178 ?_
 refine tQ 23 179 ?_
 refine tQ 24 180 ?_
 refine tQ 25 181 ?_
 refine tQ 26 182 ?_
 refine tQ 27 183 ?_
 by_cases hz:0<(S.L i).nT
 ·
  have hz':(0:Int)<((S.L i).nT:Int):=by omega
  refine tTq 28 184 ?_
  refine tTq 29 185 ?_
  refine tQ 30 186 ?_
  refine tXq 31 187 ?_
  refine tQ 32 188 ?_
  refine tQ 33 189 ?_
  refine tQ 34 190 ?_
  cases hst:(S.L i).st
  ·
   have hd1:d=1:=HW.2 (.inr ⟨hz,hst⟩)
   rw [hst] at hHeld
   refine tFq 35 191 ?_
   refine tTq 36 192 ?_
   refine tTq 37 193 ?_
   exact iu
  have hd1:d=0:=by
   have:=HD.d1
   have:d≠1:=fun e=>by
    rcases HW.1 e with h9 | h9
    ·
     omega
    rw [hst] at h9
    cases h9.2
   omega
  rw [hst] at hHeld
  refine tTq 35 191 ?_
  refine tFq 36 192 ?_
  exact ir
 have hz':¬ (0:Int)<((S.L i).nT:Int):=by omega
 have hd1:d=0:=by
  have:=HD.d1
  have:d≠1:=fun e=>by
   rcases HW.1 e with h9 | h9
   ·
    omega
   omega
  omega
 refine tFq 28 184 ?_
 refine tFq 29 185 ?_
 refine sA 30 186 ?_
 refine sA 31 187 ?_
 refine sA 32 188 ?_
 refine sA 33 189 ?_
 refine sA 34 190 ?_
 refine sA 35 191 ?_
 refine sA 36 192 ?_
 exact ir
theorem wX (os:Os) (started:os.Started) (H:Type) (enc:TypeId × Value→H) :
  ReturnsInHanded {} Tryz.checked os 3 .any (Rows.fnSentSpec.pre6 enc Tryz.prog Tryz.f3 Rows.fnSentRow.domain false) (Rows.fnSentSpec.post enc Tryz.prog Tryz.f3 false true false false):=by
 refine returnsInHanded_of_change (C:=Tryz.checked) own started (by kernel_rfl) Tryz.func3
  (ChangeSpec.witness6 (enc:=enc) (C:=Tryz.checked) false ⟨#[],#[.slice none 0 0],[]⟩ 8 (by kernel_rfl) (by kernel_rfl) (by kernel_rfl) (by kernel_rfl)) ?_
 intro W base args ds gs before hval0 hW hcnd _
 have hval:∀ (j:Nat) t v,Tryz.f3.params[j]?=some t→args[j]?=some v→Value.okWide Tryz.prog W .any base t v:=hval0
 have hW':=hW
 obtain ⟨p,q,hA0,hV,rfl,hfz,hnd⟩:=hW
 have hA:DataW.TrodAll enc Tryz.prog W 0 (fun _=>true) true Tryz.f3.params.toList args.toList ds p:=hA0
 rw [Tryz.params3] at hA hval
 obtain ⟨v0,vs0,d0,ds0,p0,q0,hargs,rfl,rfl,h0,r0⟩:=trodAll_cons hA
 obtain ⟨rfl,rfl,rfl⟩:=trodAll_nil r0
 obtain rfl:args=#[v0]:=by cases args;simp_all
 obtain ⟨rfl,rfl⟩:=trodVars_none hV
 obtain ⟨a0,len0,cap0,rfl⟩:=okWide_slice Tryz.underlying22 (hval 0 22 v0 rfl rfl)
 have k0:=h0
 have lt0:∀ x∈p0,x.block<W.heap.size:=by obtain ⟨m,hm⟩:=k0;exact DataW.trod_lt m _ _ _ hm
 obtain ⟨hm,hc⟩:=Af h0
 clear hA0 hval0
 refine (Bj a0 len0 cap0 W hm hc).mono fun e W' ⟨he,bel⟩=>?_
 subst he
 exact ⟨_,rfl,_,_,_,[],_,[],hW',trodAll_mk1 (shut_bool Tryz.underlying4 _),(trodAll_cons_mk (Below.trod laidOut (by kernel_rfl) (of_decide_eq_true (by kernel_rfl)) k0 bel lt0) trodAll_mk0),rfl,bel.frame _,fun h=>by cases h⟩
theorem sentD_holds:Rows.FnSentSaid :=
 OpenClaim.holds_of_wide 3 Tryz.f3 rfl rfl rfl rfl rfl rfl rfl ⟨rfl,rfl,rfl,rfl,rfl⟩ rfl rfl rfl rfl rfl (by kernel_rfl) Tryz.func3 (by kernel_rfl)
  (of_decide_eq_true (by kernel_rfl)) (by unfold Func.isWrapper;first | (rw [if_pos (by decide +kernel)];kernel_rfl) | (rw [if_neg (by decide +kernel)];exact ⟨rfl,rfl⟩))
  (fun os started H enc _=>wX os started H enc)
#print axioms sentD_holds
