import Derived.Test.YthicmlolanifhaaGreatV26
import Derived.Ground.GgzProg
import Derived.Ground.SlgmProg
import Derived.Shelf.SlIterI.Nil
import Derived.Shelf.SortM.Plain
import Derived.Shelf.SortM.SortNone
namespace Go.Proofs.YthicmlolanifhaaGreat
set_option maxRecDepth 100000
open Go.RowKit
set_option linter.unusedVariables false
set_option linter.unusedSimpArgs false
variable {cs cur:Array Value} {N:Cnt} {y:Ent} {fn:Func} {cl dst id nx p port prio v:Int} {A L:List Ent} {l l2:Lng} {P base c g i k m n o:Nat} {f:Nat→Ent} {z:Nat→Int} {K K':Nat→Pkt} {x:Pkt} {j:Tmp} {t ty:TypeId} {W W' w w':World}
theorem dF {p:Prop} (h:p:=by
 go_wp2_with (at_builtin;refine Lib.wpList_append_run _ rfl _ _ _ _ rfl _ _ rfl rfl _ _ hr ?_)
 go_ret
 exact ⟨_,_,rfl,HV.1,HV.2⟩):p:=h
theorem dG {p:Prop} (h:p:=by
 match j,hj with
 | 0,_=>rfl
 | 1,_=>rfl
 | 2,_=>rfl
 | 3,_=>rfl
 | 4,_=>rfl):p:=h
def zSw:Array Value:=#[.int .i64 0,.int .i64 0,.int .i64 0,.int .i64 0,.int .i64 0,.int .i64 0,.int .i64 0,.int .i64 0,.int .i64 0,.slice none 0 0,.slice none 0 0,.int .i64 0,.slice none 0 0,.slice none 0 0,.slice none 0 0,.int .i64 0,.int .i64 0]
theorem Cg:(Tryz.prog.info? 75).map (fun i=>(i.zero,i.size,i.bytes))=some (some (.agg #[.int .i64 0,.int .i64 0,.int .i64 0]),3,24):=by kernel_rfl
theorem yY (a:Option Addr) (n cap:Nat) (f:Nat→Ent) (w:World) (hn:n≤1048576) (h:lO w a n f) :
  Calls Tryz.prog 53 #[.slice a n cap] w fun e w'=>∃ a' c',e=.returned (.slice a' n c')∧OG 75 3 w' w.heap.size a' n c' (jt (iU n f))∧Below w.heap.size w w':=by
 obtain ⟨a',c',W',hr,hv,hb⟩:=si (c:=cap) 26 75 _ 3 24 Cg Tryz.underlying26 rfl (by decide) (by decide) hn (by rw [nM,kc]) h.cs (xR _)
 have HV:Hid (OG 75 3 W' w.heap.size a' n c' (jt (iU n f))∧Below w.heap.size w W'):=⟨hv,hb⟩
 clear hv hb h
 go_enter Tryz.func53,Tryz.ntmps53
 exact dF
theorem yX (a:Option Addr) (n cap:Nat) (K:Nat→Pkt) (w:World) (hn:n≤1048576) (h:pP w a n K) :
  Calls Tryz.prog 55 #[.slice a n cap] w fun e w'=>∃ a' c',e=.returned (.slice a' n c')∧OG 50 8 w' w.heap.size a' n c' (qm n K)∧Below w.heap.size w w':=by
 obtain ⟨a',c',W',hr,hv,hb⟩:=si (c:=cap) 31 50 _ 8 72 yS Tryz.underlying31 rfl (by decide) (by decide) hn (mT _ _) h.cs (sr _ _)
 have HV:Hid (OG 50 8 W' w.heap.size a' n c' (qm n K)∧Below w.heap.size w W'):=⟨hv,hb⟩
 clear hv hb h
 go_enter Tryz.func55,Tryz.ntmps55
 exact dF
theorem DO (hf:o+cs.size≤cur.size) (h:∀ j,j<cs.size→cur[o+j]?=cs[j]?):lay cur o cs=cur:=by
 refine Array.ext_getElem? fun i=>?_
 by_cases h1:i<o
 ·
  exact kh hf i h1
 by_cases h2:i<o+cs.size
 ·
  have:=jC hf (i-o) (by omega)
  rw [show o+(i-o)=i by omega] at this
  rw [this,←h (i-o) (by omega),show o+(i-o)=i by omega]
 unfold lay
 simp only [List.getElem?_toArray]
 rw [List.getElem?_append_right (by simp;omega),List.getElem?_drop,Array.getElem?_toList]
 congr 1
 simp
 omega
theorem Put.same (h:Put w W g cs t) (hg:w.heap[g]?=some (.cells cs t (0,0))):Below w.heap.size w W :=
 ⟨h.to.os,h.to.tape,h.to.output,h.to.size,fun k hk=>by
  by_cases e:k=g
  ·
   subst e;exact h.blk.trans hg.symm
  ·
   exact h.to.block k hk (by simpa using e)⟩
structure CpS (w:World) (S P:Swg) (W:World):Prop where
 x:oU w S.cells zSw P.cells 34 34 W
 e:OG 75 3 W w.heap.size P.aE P.nE P.cE (jt (iU P.nE P.e))
 n:jb W w.heap.size P.N
 k:OG 50 8 W w.heap.size P.aK P.nK P.cK (qm P.nK P.K)
theorem CpS.up {S P:Swg} (h:CpS w S P W) (hb:Below W.heap.size W W'):CpS w S P W':=⟨h.x.up hb,h.e.up hb,h.n.up hb,h.k.up hb⟩
theorem jb.Gu (h:jb w base N) (hg:w.heap[g]?=some (.cells cs t (0,0))) (h2:2≠t) (h4:4≠t) (ht:Touch [g] w w'):jb w' base N :=
 ⟨h.u.iB ht (fun x hx hy=>by rw [List.mem_singleton.1 hy] at hx;exact h.u.nW h2 hg hx),h.p.iB ht (fun x hx hy=>by rw [List.mem_singleton.1 hy] at hx;exact h.p.nW h4 hg hx)⟩
structure CpA (S P:Swg):Prop where
 c:P.C=S.C
 now:P.now=S.now
 nx:P.nx=S.nx
 nE:P.nE=S.nE
 e:P.e=S.e
 n:iQ S.N P.N
 nK:P.nK=S.nK
 k:P.K=S.K
 dr:P.dr=S.dr
 lst:P.lst=S.lst
structure zS (w:World) (S P:Swg) (k:Nat) (W:World):Prop where
 s:CpS w S P W
 a:CpA S P
 l:ln W w.heap.size P.aL P.nL P.cL P.L
 un:∀ x∈ju P.N.aU P.N.nU,x∉(List.range P.nL).flatMap fun i=>(P.L i).kj
 nL:P.nL=k
 al:∀ i,i<k→iT (S.L i) (P.L i)
theorem zS.up {S P:Swg} (h:zS w S P k W) (hb:Below W.heap.size W W'):zS w S P k W':=⟨h.s.up hb,h.a,h.l.up hb,h.un,h.nL,h.al⟩
def Swg.more (P:Swg) (k:Nat) (aL:Option Addr) (cL:Nat) (l:Lng):Swg:={ P with aL:=aL,nL:=k+1,cL:=cL,L:=fun i=>if i=k then l else P.L i }
theorem zS.more {S P:Swg} {c2:Nat} {V V1 W2:World} (h:zS w S P k V) (hb:Below V.heap.size V V1) (ho:iS V1 V.heap.size l2) (ha:iT (S.L k) l2)
  (hu:OG 48 8 W w.heap.size (some (Hh g 0)) (k+1) c2 (wH k P.L++l2.cells.toList)) (ht:Touch (iR P.aL) V1 W) (hP:Put W W2 (w.heap.size+1+1) (lay P.cells 14 #[.slice (some (Hh g 0)) (k+1) c2]) 34):zS w S (P.more k (some (Hh g 0)) c2 l2) (k+1) W2:=by
 have hk:=h.nL
 have h1:=h.up hb
 have hl:ln V w.heap.size P.aL k P.cL P.L:=hk▸h.l
 have hl1:=hl.up hb
 have hL:=hl.more hb h.s.x.bel.size ho hu ht
 have xa:=(ht.block _ (iw h1.s.x.a) (hl1.l.mv (by decide) h1.s.x.a)).trans h1.s.x.a
 have xb:=(ht.block _ (iw h1.s.x.b) (hl1.l.mv (by decide) h1.s.x.b)).trans h1.s.x.b
 have xc:=(ht.block _ (iw h1.s.x.c) (hl1.l.mv (by decide) h1.s.x.c)).trans h1.s.x.c
 have xB:oU w S.cells zSw P.cells 34 34 W:=⟨xa,xb,xc,h1.s.x.bel.trans (ht.below h1.s.x.bel.size (fun x hx=>(hl1.l.blk x hx).1)),Nat.le_trans h1.s.x.sz ht.size⟩
 have e1:=h1.s.e.iB ht (h1.s.e.apart hl1.l (by decide))
 have k1:=h1.s.k.iB ht (h1.s.k.apart hl1.l (by decide))
 have n1:jb W w.heap.size P.N:=⟨h1.s.n.u.iB ht (fun x hx hy=>by
   obtain ⟨cs,q⟩:=h1.s.n.u.type x hx
   exact hl1.l.mv (by decide) q hy),h1.s.n.p.iB ht (fun x hx hy=>by
   obtain ⟨cs,q⟩:=h1.s.n.p.type x hx
   exact hl1.l.mv (by decide) q hy)⟩
 refine ⟨⟨xB.put hP,e1.iB hP.to (fun x hx hy=>e1.mv (by decide) xc ((List.mem_singleton.1 hy)▸hx)),n1.Gu xc (by decide) (by decide) hP.to,k1.iB hP.to (fun x hx hy=>k1.mv (by decide) xc ((List.mem_singleton.1 hy)▸hx))⟩,⟨h.a.c,h.a.now,h.a.nx,h.a.nE,h.a.e,h.a.n,h.a.nK,h.a.k,h.a.dr,h.a.lst⟩,hL.box xc (by decide) (by decide) (by decide) hP.to,fun x hx hy=>?_,rfl,fun i hi=>?_⟩
 ·
  have hx1:=(h.s.n.u.blk x hx).2
  simp only [List.mem_flatMap,List.mem_range] at hy
  obtain ⟨i,hi,hy⟩:=hy
  have hy':x∈(if i=k then l2 else P.L i).kj:=hy
  by_cases e:i=k
  ·
   rw [if_pos e] at hy'
   have:=(ho.blk x hy').1
   omega
  rw [if_neg e] at hy'
  have hi':i<k+1:=hi
  exact h.un x hx (by simp only [List.mem_flatMap,List.mem_range];exact ⟨i,by omega,hy'⟩)
 show iT (S.L i) (if i=k then l2 else P.L i)
 by_cases e:i=k
 ·
  rw [if_pos e,e];exact ha
 rw [if_neg e];exact h.al i (by omega)
theorem zS.alike {S P:Swg} (h:zS w S P k W) (hk:S.nL=k):iE S P :=
 ⟨h.a.c,h.a.now,h.a.nx,h.a.nE,h.a.e,h.a.n,h.a.nK,h.a.k,by rw [h.nL,hk],fun i hi=>h.al i (by omega),h.a.dr,h.a.lst⟩
theorem zS.own {S P:Swg} (h:zS w S P k W):iP W w.heap.size P:=⟨h.s.e,h.s.n,h.s.k,h.l,h.un⟩
theorem iP.off {S:Swg} (h:iP w base S) (hg:w.heap[g]?=some (.cells cs 34 (0,0))) (ht:Touch [g] w w'):iP w' base S :=
 ⟨h.e.iB ht (fun x hx hy=>h.e.mv (by decide) hg ((List.mem_singleton.1 hy)▸hx)),h.n.Gu hg (by decide) (by decide) ht,h.k.iB ht (fun x hx hy=>h.k.mv (by decide) hg ((List.mem_singleton.1 hy)▸hx)),h.l.box hg (by decide) (by decide) (by decide) ht,h.un⟩
theorem OG.at0 {sz:Nat} {a:Option Addr} {xs:List Value} (h:OG t sz w base a n c xs) (h0:0<n):∃ g cur,a=some (Hh g 0)∧w.heap[g]?=some (.cells cur t (0,0))∧n*sz≤cur.size∧∀ j,j<n*sz→cur[j]?=xs[j]?:=by
 rcases h.2 with ⟨e,h1⟩ | ⟨g,cap,cur,e,hg,hbk,hn,hm,hs,ht⟩
 ·
  omega
 cases e
 refine ⟨g,cur,rfl,hbk,?_,fun j hj=>?_⟩
 ·
  rw [hs]
  exact Nat.mul_le_mul_right _ hn
 rw [←ht,List.getElem?_take_of_lt hj,Array.getElem?_toList]
theorem rdFr (h:w.heap[g]?=some (.cells x.cells t (0,0))):∀ j,j<5→w.cell? (Hh g (3+j))=(#[.int .i64 x.k,.int .i64 x.d,.int .i64 x.s,.int .i64 x.p,.string x.b]:Array Value)[j]?:=by
 intro j hj
 rw [iv h]
 exact dG
theorem GN (x:Pkt) (j:Nat) (hj:j<5):x.cells[3+j]?=(#[.int .i64 x.k,.int .i64 x.d,.int .i64 x.s,.int .i64 x.p,.string x.b]:Array Value)[j]?:=dG
set_option maxHeartbeats 9000000 in
theorem ur (S:Swg) (w:World) (hs:S.Small) (hU:0<S.N.nU) (hPp:0<S.N.nP) (h:lN w S) :
  Calls Tryz.prog 24 #[.agg S.cells] w fun e w'=>∃ S2,e=.returned (.agg S2.cells)∧iE S S2∧iP w' w.heap.size S2∧Below w.heap.size w w':=by
 have HR:=aa h
 have HS:=aa hs
 have HU0:Hid (0<S.N.nU∧0<S.N.nP):=⟨hU,hPp⟩
 clear h hs hU hPp
 obtain ⟨W0,eW⟩:∃ W,(((w.alloc (.cells S.cells 34)).alloc (.cells ab 34)).alloc (.cells ab 34))=W:=⟨_,rfl⟩
 have HX:Hid (oU w S.cells ab ab 34 34 W0):=by rw [←eW];exact oU.start _ _ _ _ _ _
 have HL0:Hid (∀ j,j<17→((w.alloc (.cells S.cells 34)).alloc (.cells ab 34)).cell? (Hh w.heap.size (0+j))=S.cells[j]?):=fun j _=>by rw [Nat.zero_add];exact iv (Two.start w S.cells ab 34).a j
 have HC:=aa HX.c
 go_enter Tryz.func24,Tryz.ntmps24
 go_wp2_with (first | refine iC rfl 34 17 _ Tryz.underlying34 rfl iI (.tmp 1) rfl w.heap.size 0 rfl S.cells rfl HL0.out ?_ | refine iA rfl 34 (.tmp 3) (.tmp 8) rfl (w.heap.size+1+1) 0 rfl (.agg S.cells) rfl 17 rfl 34 _ HC iI (Nat.le_of_ble_eq_true rfl) (Swg.mc _) ?_)
 clear HL0
 intro W1 hP
 clear eW
 replace hP:=hP.cast (cs':=#[.int .i64 S.C.p,.int .i64 S.C.c,.int .i64 S.C.xo,.int .i64 S.C.xn,.int .i64 S.C.hd,.int .i64 S.C.lo,.int .i64 S.C.dl,.int .i64 S.now,.int .i64 S.nx,.slice S.aE S.nE S.cE,.slice S.N.aU S.N.nU S.N.cU,.int .i64 S.N.lo,.slice S.N.aP S.N.nP S.N.cP,.slice S.aK S.nK S.cK,.slice S.aL S.nL S.cL,.int .i64 S.dr,.int .i64 S.lst]) rfl
 replace HX:=aa (HX.put hP)
 have T1:Touch [w.heap.size+1,w.heap.size+1+1] W0 W1:=hP.to.mono (fun x hx=>by simp at hx;simp [hx])
 clear hP HC 
 have c9:W1.cell? (Hh w.heap.size 9)=some (.slice S.aE S.nE S.cE):=iv HX.a 9
 go_wp2_with fail
 refine (yY S.aE S.nE S.cE S.e _ HS.e (HR.e.up HX.bel)).mono ?_
 rintro e we ⟨aE,cE,rfl,rE,hb⟩
 clear c9
 have sE:=HX.sz
 replace HX:=aa (HX.up hb)
 have T2:Touch [w.heap.size+1,w.heap.size+1+1] W1 we:=Touch.ji hb
 clear hb
 have HC:=HX.c
 replace HC:=aa HC
 go_wp2_with (refine iA rfl 26 (.tmp 12) (.tmp 11) rfl (w.heap.size+1+1) 9 rfl (.slice aE S.nE cE) rfl 1 rfl 34 _ HC zy (Nat.le_of_ble_eq_true rfl) (by simp [Value.cells,Value.oneCell',Rnd.cells,Cfg.cells,Cnt.cells]) ?_)
 intro W3 hP
 replace hP:=hP.cast (cs':=#[.int .i64 S.C.p,.int .i64 S.C.c,.int .i64 S.C.xo,.int .i64 S.C.xn,.int .i64 S.C.hd,.int .i64 S.C.lo,.int .i64 S.C.dl,.int .i64 S.now,.int .i64 S.nx,.slice aE S.nE cE,.slice S.N.aU S.N.nU S.N.cU,.int .i64 S.N.lo,.slice S.N.aP S.N.nP S.N.cP,.slice S.aK S.nK S.cK,.slice S.aL S.nL S.cL,.int .i64 S.dr,.int .i64 S.lst]) rfl
 replace HX:=aa (HX.put hP)
 have T3:Touch [w.heap.size+1,w.heap.size+1+1] we W3:=hP.to.mono (fun x hx=>by simp at hx;simp [hx])
 clear hP HC 
 have c10:W3.cell? (Hh w.heap.size 10)=some (.slice S.N.aU S.N.nU S.N.cU):=iv HX.a 10
 have c11:W3.cell? (Hh w.heap.size 11)=some (.int .i64 S.N.lo):=iv HX.a 11
 have c12:W3.cell? (Hh w.heap.size 12)=some (.slice S.N.aP S.N.nP S.N.cP):=iv HX.a 12
 go_wp2_with fail
 refine (nn S.N _ HU0.1 HU0.2 HS.n (HR.n.up HX.bel)).mono ?_
 rintro e wn ⟨M,rfl,rN,hb,aN⟩
 clear c10 c11 c12
 have sN:=HX.sz
 replace HX:=aa (HX.up hb)
 have T4:Touch [w.heap.size+1,w.heap.size+1+1] W3 wn:=Touch.ji hb
 clear hb
 have HC:=HX.c
 replace HC:=aa HC
 go_wp2_with (refine iA rfl 30 (.tmp 16) (.tmp 15) rfl (w.heap.size+1+1) 10 rfl (.agg M.cells) rfl 3 rfl 34 _ HC Ep (Nat.le_of_ble_eq_true rfl) (by simp [Value.cells,Value.oneCell',Rnd.cells,Cfg.cells,Cnt.cells]) ?_)
 intro W5 hP
 replace hP:=hP.cast (cs':=#[.int .i64 S.C.p,.int .i64 S.C.c,.int .i64 S.C.xo,.int .i64 S.C.xn,.int .i64 S.C.hd,.int .i64 S.C.lo,.int .i64 S.C.dl,.int .i64 S.now,.int .i64 S.nx,.slice aE S.nE cE,.slice M.aU M.nU M.cU,.int .i64 M.lo,.slice M.aP M.nP M.cP,.slice S.aK S.nK S.cK,.slice S.aL S.nL S.cL,.int .i64 S.dr,.int .i64 S.lst]) rfl
 replace HX:=aa (HX.put hP)
 have T5:Touch [w.heap.size+1,w.heap.size+1+1] wn W5:=hP.to.mono (fun x hx=>by simp at hx;simp [hx])
 clear hP HC 
 have c13:W5.cell? (Hh w.heap.size 13)=some (.slice S.aK S.nK S.cK):=iv HX.a 13
 go_wp2_with fail
 refine (yX S.aK S.nK S.cK S.K _ HS.k (HR.k.up HX.bel)).mono ?_
 rintro e wk ⟨aK,cK,rfl,rK,hb⟩
 clear c13
 have sK:=HX.sz
 replace HX:=aa (HX.up hb)
 have T6:Touch [w.heap.size+1,w.heap.size+1+1] W5 wk:=Touch.ji hb
 clear hb
 have HC:=HX.c
 replace HC:=aa HC
 go_wp2_with (refine iA rfl 31 (.tmp 20) (.tmp 19) rfl (w.heap.size+1+1) 13 rfl (.slice aK S.nK cK) rfl 1 rfl 34 _ HC En (Nat.le_of_ble_eq_true rfl) (by simp [Value.cells,Value.oneCell',Rnd.cells,Cfg.cells,Cnt.cells]) ?_)
 intro W7 hP
 replace hP:=hP.cast (cs':=#[.int .i64 S.C.p,.int .i64 S.C.c,.int .i64 S.C.xo,.int .i64 S.C.xn,.int .i64 S.C.hd,.int .i64 S.C.lo,.int .i64 S.C.dl,.int .i64 S.now,.int .i64 S.nx,.slice aE S.nE cE,.slice M.aU M.nU M.cU,.int .i64 M.lo,.slice M.aP M.nP M.cP,.slice aK S.nK cK,.slice S.aL S.nL S.cL,.int .i64 S.dr,.int .i64 S.lst]) rfl
 replace HX:=aa (HX.put hP)
 have T7:Touch [w.heap.size+1,w.heap.size+1+1] wk W7:=hP.to.mono (fun x hx=>by simp at hx;simp [hx])
 clear hP HC 
 obtain ⟨P,eP⟩:∃ P,(⟨S.C,S.now,S.nx,aE,S.nE,cE,S.e,M,aK,S.nK,cK,S.K,S.aL,S.nL,S.cL,S.L,S.dr,S.lst⟩:Swg)=P:=⟨_,rfl⟩
 have e3:#[.int .i64 S.C.p,.int .i64 S.C.c,.int .i64 S.C.xo,.int .i64 S.C.xn,.int .i64 S.C.hd,.int .i64 S.C.lo,.int .i64 S.C.dl,.int .i64 S.now,.int .i64 S.nx,.slice aE S.nE cE,.slice M.aU M.nU M.cU,.int .i64 M.lo,.slice M.aP M.nP M.cP,.slice aK S.nK cK,.slice S.aL S.nL S.cL,.int .i64 S.dr,.int .i64 S.lst]=P.cells:=by rw [←eP];rfl
 rw [e3] at HX
 clear e3
 have hlow:∀ x∈[w.heap.size+1,w.heap.size+1+1],x<w.heap.size+1+1+1:=by intro x hx;simp at hx;omega
 have HA:Hid (CpA S P):=by rw [←eP];exact ⟨rfl,rfl,rfl,rfl,rfl,aN,rfl,rfl,rfl,rfl⟩
 have HP:Hid (CpS w S P W7∧P.nK=S.nK∧P.K=S.K):=by
  rw [←eP] at HX ⊢
  exact ⟨⟨HX,OG.mono (rE.low ((((T3.trans T4).trans T5).trans T6).trans T7) (fun x hx=>by have:=hlow x hx;omega)) (by omega),jb.mono (rN.jE ((T5.trans T6).trans T7) (fun x hx=>by have:=hlow x hx;omega)) (by omega),OG.mono (rK.low T7 (fun x hx=>by have:=hlow x hx;omega)) (by omega)⟩,rfl,rfl⟩
 clear HX eP rE rN rK aN sE sN sK hlow T1 T2 T3 T4 T5 T6 T7
 have HU:=aa HR.k
 obtain ⟨aK0,eU⟩:∃ a,S.aK=a:=⟨_,rfl⟩
 have c13:W7.cell? (Hh w.heap.size 13)=some (.slice aK0 S.nK S.cK):=by rw [←eU];exact iv HP.1.x.a 13
 rw [eU] at HU
 clear eU
 have hnk:=HS.k
 go_wp2_with fail
 clear c13
 go_loopw [24] (fun i wr=>∃ k:Nat,k≤S.nK∧i=.int .i64 k∧Hid (CpS w S P wr∧P.nK=S.nK∧P.K=S.K)) (fun i _=>S.nK-(intOf i).toNat)
 case atStart=>exact ⟨0,Nat.zero_le _,rfl,HP⟩
 clear HP
 obtain ⟨k,hk,rfl,HP⟩:=hrel
 by_cases hlt:k<S.nK
 ·
  have hlt':(k:Int)<S.nK:=by omega
  obtain ⟨g0,o0,ea,hc⟩:=(HU.up HP.1.x.bel) k hlt
  subst ea
  have HCk:=aa hc
  clear hc
  have HG:Hid ((wr.alloc (.cells #[.int .i64 0,.int .i64 0,.int .i64 0,.int .i64 0,.int .i64 0,.int .i64 0,.int .i64 0,.string ⟨#[]⟩] 50)).heap[wr.heap.size]?=some (.cells #[.int .i64 0,.int .i64 0,.int .i64 0,.int .i64 0,.int .i64 0,.int .i64 0,.int .i64 0,.string ⟨#[]⟩] 50 (0,0))):=iy _ _
  go_wp2_with (first | refine iC rfl 50 8 _ Tryz.underlying50 rfl vT (.tmp 27) rfl g0 (o0+k*8) rfl (S.K k).cells rfl HCk.out ?_ | refine iA rfl 50 (.tmp 5) (.tmp 28) rfl wr.heap.size 0 rfl (.agg (S.K k).cells) rfl 8 rfl 50 _ HG vT (Nat.le_of_ble_eq_true rfl) (Pkt.mc _) ?_)
  intro X0 hP
  replace hP:Put _ X0 wr.heap.size (S.K k).cells 50:=hP.cast rfl
  have hb:Below wr.heap.size wr X0:=((Below.refl _ _).alloc (Nat.le_refl _) _).trans (hP.to.below (by simp) (fun x hx=>by simp at hx;omega))
  have kP:=hP.blk
  replace HP:Hid (CpS w S P X0∧P.nK=S.nK∧P.K=S.K):=⟨HP.1.up hb,HP.2⟩
  clear hP hb HG HCk
  obtain ⟨gP,egP⟩:∃ g,wr.heap.size=g:=⟨_,rfl⟩
  rw [egP] at kP ⊢
  clear egP
  go_wp2_with fail
  refine jv (fun w'=>w'.heap[w.heap.size+1+1]?=some (.cells P.cells 34 (0,0))∧w'.heap[gP]?=some (.cells (S.K k).cells 50 (0,0))) 8 (by kernel_rfl) ?_
  have hd:Below X0.heap.size X0 X0.drew:=(Below.refl _ _).drew
  replace HP:Hid (CpS w S P X0.drew∧P.nK=S.nK∧P.K=S.K):=⟨HP.1.up hd,HP.2⟩
  replace kP:=(hd.block _ (iw kP)).trans kP
  clear hd
  generalize X0.drew=V at *
  obtain ⟨gK,cur,eaK,hkK,hsK,hcK⟩:=HP.1.k.at0 (by rw [HP.2.1];omega)
  rw [HP.2.1,HP.2.2] at hcK
  rw [HP.2.1] at hsK
  have HaK:=aa eaK
  have HcK:=aa hcK
  clear eaK hcK
  have hT0:V.heap[w.heap.size+1+1]?=some (.cells P.cells 34 (0,0))∧V.heap[gP]?=some (.cells (S.K k).cells 50 (0,0)):=⟨HP.1.x.c,kP⟩
  refine tE 0 29 hT0 ?_
  refine ko (i:=1) (some 30) (v:=?_) ?_ hT0 ?_
  rotate_left
  ·
   intro wx hSw
   have c13:wx.cell? (Hh (w.heap.size+1+1) 13)=some (.slice (some (Hh gK 0)) S.nK P.cK):=by rw [iv hSw.1 13,←HaK.out,←HP.2.1];rfl
   go_simp
   try with_reducible rfl
  try simp only [Act.put,PZ]
  refine tE 2 31 hT0 ?_
  refine tE 3 32 hT0 ?_
  refine ko (i:=4) (some 33) (v:=.agg #[.int .i64 (S.K k).k,.int .i64 (S.K k).d,.int .i64 (S.K k).s,.int .i64 (S.K k).p,.string (S.K k).b]) ?_ hT0 ?_
  ·
   intro wx hSw
   exact jF 43 5 _ Tryz.underlying43 rfl ku (.tmp 32) rfl gP 3 rfl _ rfl (fun j hj=>rdFr hSw.2 j hj)
  try simp only [Act.put,PZ]
  refine iz (rs:=[5]) (by kernel_rfl) (by simp) ?_
  refine ix.cons rfl (fun K hK=>?_) ix.nil
  go_simp
  refine (qV _ _ _ _ _ _ (HS.b k hlt)).mono ?_
  rintro e X1 ⟨rfl,hb⟩
  replace HP:Hid (CpS w S P X1∧P.nK=S.nK∧P.K=S.K):=⟨HP.1.up hb,HP.2⟩
  replace kP:=(hb.block _ (iw kP)).trans kP
  replace hkK:=(hb.block _ (iw hkK)).trans hkK
  clear hb hT0
  go_wp2_with fail
  refine hK _ _ ⟨HP.1.x.c,kP⟩ ?_
  clear hK K
  try simp only [Act.put,PZ]
  have hT0:X1.heap[w.heap.size+1+1]?=some (.cells P.cells 34 (0,0))∧X1.heap[gP]?=some (.cells (S.K k).cells 50 (0,0)):=⟨HP.1.x.c,kP⟩
  refine iz (rs:=[6]) (by kernel_rfl) (by simp) ?_
  refine ix.cons rfl (fun K hK=>?_) ix.nil
  go_simp
  refine hK _ _ hT0 ?_
  clear hK K
  try simp only [Act.put,PZ]
  refine iz (rs:=[7]) (by kernel_rfl) (by simp) ?_
  refine ix.cons rfl (fun K hK=>?_) ix.nil
  go_simp
  refine hK _ _ hT0 ?_
  clear hK K
  try simp only [Act.put,PZ]
  refine iz (rs:=[8]) (by kernel_rfl) (by simp) ?_
  refine ix.last rfl (fun K hK=>?_)
  refine jY (by kernel_rfl) none rfl 43 (.tmp 36) (.tmp 34) rfl gK (k*8+3) (by simp [Act.eval]) (.agg #[.int .i64 (S.K k).k,.int .i64 (S.K k).d,.int .i64 (S.K k).s,.int .i64 (S.K k).p,.string (S.K k).b]) rfl 5 rfl 50 _ hkK ku (by omega) (by simp [Value.cells,Value.oneCell']) ?_
  intro X2 hP
  refine ah (hK _ _) ?_
  clear hK K
  refine jf (by kernel_rfl) ?_ _
  replace hP:Put X1 X2 gK cur 50:=hP.cast (DO (by show k*8+3+5≤_;omega) (fun j hj=>by
   have hj5:j<5:=hj
   have h8:=HcK (k*8+(3+j)) (by omega)
   rw [vz _ _ _ _ hlt (by omega)] at h8
   rw [Nat.add_assoc,h8]
   exact GN (S.K k) j hj5))
  have HN:Hid (CpS w S P X2∧P.nK=S.nK∧P.K=S.K):=⟨HP.1.up (hP.same hkK),HP.2⟩
  clear hP kP hkK HP HaK HcK hsK hT0
  go_wp2_with fail
  go_roundw
  case rel=>exact ⟨k+1,by omega,by go_num,HN⟩
  case measure=>simp [intOf];omega
 obtain rfl:k=S.nK:=by omega
 have HC:=aa HP.1.x.c
 go_wp2_with (refine iA rfl 32 (.tmp 38) (.const (.slice none 0 0)) rfl (w.heap.size+1+1) 14 rfl (.slice none 0 0) rfl 1 rfl 34 _ HC zx (Nat.le_of_ble_eq_true rfl) (by simp [Value.cells,Value.oneCell']) ?_)
 intro X0 hP
 obtain ⟨P1,eP1⟩:∃ P1,({ P with aL:=none,nL:=0,cL:=0 }:Swg)=P1:=⟨_,rfl⟩
 replace hP:Put wr X0 (w.heap.size+1+1) P1.cells 34:=hP.cast (by rw [←eP1];rfl)
 have HP1:Hid (zS w S P1 0 X0):=by
  have q:=HP.1
  rw [←eP1] at hP ⊢
  exact ⟨⟨q.x.put hP,q.e.iB hP.to (fun x hx hy=>q.e.mv (by decide) q.x.c ((List.mem_singleton.1 hy)▸hx)),q.n.Gu q.x.c (by decide) (by decide) hP.to,q.k.iB hP.to (fun x hx hy=>q.k.mv (by decide) q.x.c ((List.mem_singleton.1 hy)▸hx))⟩,⟨HA.c,HA.now,HA.nx,HA.nE,HA.e,HA.n,HA.nK,HA.k,HA.dr,HA.lst⟩,ln.nil _ _ _,fun x hx hy=>by simp at hy,rfl,fun i hi=>absurd hi (Nat.not_lt_zero _)⟩
 clear hP HC HP eP1 HA HU
 have HU:=aa HR.l
 obtain ⟨aL0,eU⟩:∃ a,S.aL=a:=⟨_,rfl⟩
 have c14:X0.cell? (Hh w.heap.size 14)=some (.slice aL0 S.nL S.cL):=by rw [←eU];exact iv HP1.s.x.a 14
 rw [eU] at HU
 clear eU
 have hnl:=HS.l
 go_wp2_with fail
 clear c14
 go_loopw [42] (fun i wr=>∃ (k:Nat) (P:Swg),k≤S.nL∧i=.int .i64 k∧Hid (zS w S P k wr)) (fun i _=>S.nL-(intOf i).toNat)
 case atStart=>exact ⟨0,P1,Nat.zero_le _,rfl,HP1⟩
 clear HP1
 obtain ⟨k,P,hk,rfl,HP⟩:=hrel
 by_cases hlt:k<S.nL
 ·
  have hlt':(k:Int)<S.nL:=by omega
  obtain ⟨g0,o0,ea,hc⟩:=(HU.up HP.s.x.bel) k hlt
  have HP0:Hid (∀ x∈iR P.aL,x<wr.heap.size):=fun x hx=>(HP.l.l.blk x hx).2
  subst ea
  have HCk:=aa hc
  clear hc
  have HG:Hid ((wr.alloc (.cells af 48)).heap[wr.heap.size]?=some (.cells af 48 (0,0))):=iy _ _
  go_wp2_with (first | refine iC rfl 48 8 _ Tryz.underlying48 rfl kt (.tmp 44) rfl g0 (o0+k*8) rfl (S.L k).cells rfl HCk.out ?_ | refine iA rfl 48 (.tmp 7) (.tmp 45) rfl wr.heap.size 0 rfl (.agg (S.L k).cells) rfl 8 rfl 48 _ HG kt (Nat.le_of_ble_eq_true rfl) (Lng.mc _) ?_)
  intro X0 hP
  replace hP:Put _ X0 wr.heap.size (S.L k).cells 48:=hP.cast rfl
  have hb:Below wr.heap.size wr X0:=((Below.refl _ _).alloc (Nat.le_refl _) _).trans (hP.to.below (by simp) (fun x hx=>by simp at hx;omega))
  have kL:=hP.blk
  replace HP:=aa (HP.up hb)
  have HPl:Hid (∀ x∈iR P.aL,x<wr.heap.size):=fun x hx=>(HP0 x hx)
  clear hP hb HG HCk HP0
  obtain ⟨gL,egL⟩:∃ g,wr.heap.size=g:=⟨_,rfl⟩
  rw [egL] at kL HPl ⊢
  clear egL
  go_wp2_with fail
  refine jv (fun w'=>w'.heap[w.heap.size+1+1]?=some (.cells P.cells 34 (0,0))∧w'.heap[gL]?=some (.cells (S.L k).cells 48 (0,0))) 7 (by kernel_rfl) ?_
  have hd:Below X0.heap.size X0 X0.drew:=(Below.refl _ _).drew
  replace HP:=aa (HP.up hd)
  replace kL:=(hd.block _ (iw kL)).trans kL
  clear hd
  generalize X0.drew=V at *
  have hT0:V.heap[w.heap.size+1+1]?=some (.cells P.cells 34 (0,0))∧V.heap[gL]?=some (.cells (S.L k).cells 48 (0,0)):=⟨HP.s.x.c,kL⟩
  refine tE 0 46 hT0 ?_
  refine ko (i:=1) (some 47) (v:=?_) ?_ hT0 ?_
  rotate_left
  ·
   intro wx hSw
   have c14:wx.cell? (Hh (w.heap.size+1+1) 14)=some (.slice P.aL k P.cL):=by rw [iv hSw.1 14,←HP.nL];rfl
   go_simp
   try with_reducible rfl
  try simp only [Act.put,PZ]
  refine ko (i:=2) (some 48) (v:=.agg (S.L k).cells) ?_ hT0 ?_
  ·
   intro wx hSw
   exact jF 48 8 _ Tryz.underlying48 rfl kt (.tmp 7) rfl gL 0 rfl _ rfl (fun j _=>by rw [Nat.zero_add];exact iv hSw.2 j)
  try simp only [Act.put,PZ]
  refine iz (rs:=[3]) (by kernel_rfl) (by simp) ?_
  refine ix.cons rfl (fun K hK=>?_) ix.nil
  go_simp
  refine (xX (S.L k) _ (HS.ls k hlt) ((HR.ls k hlt).up HP.s.x.bel)).mono ?_
  rintro e X1 ⟨l2,rfl,al2,ol2,hb⟩
  have HA1:Hid (iT (S.L k) l2∧iS X1 V.heap.size l2∧Below V.heap.size V X1):=⟨al2,ol2,hb⟩
  have Q1:=HP.up hb
  have hu0:OG 48 8 X1 w.heap.size P.aL k P.cL (wH k P.L):=by have:=Q1.l.l;rw [HP.nL] at this;exact this
  obtain ⟨g1,c3,X3,hr,hu,ht,hg⟩:=me 32 48 _ 8 144 Cb Tryz.underlying32 rfl (by decide) (by decide) hu0 (by omega) (Nat.le_trans HP.s.x.bel.size hb.size) l2.cells rfl (Lng.mc _)
  have LN:l2.cells=#[.bool l2.st,.slice l2.aT l2.nT l2.cT,.slice l2.aU l2.nU l2.cU,.slice l2.R.aQ l2.R.nQ l2.R.cQ,.slice l2.R.aD l2.R.nD l2.R.cD,.int .i64 l2.R.turn,.bool l2.R.fresh,.slice l2.R.aS l2.R.nS l2.R.cS]:=rfl
  rw [LN] at hr ⊢
  have kL1:=(hb.block _ (iw kL)).trans kL
  have hT1:X1.heap[w.heap.size+1+1]?=some (.cells P.cells 34 (0,0))∧X1.heap[gL]?=some (.cells (S.L k).cells 48 (0,0)):=⟨Q1.s.x.c,kL1⟩
  have hT2:(X1.alloc (.cells #[.bool l2.st,.slice l2.aT l2.nT l2.cT,.slice l2.aU l2.nU l2.cU,.slice l2.R.aQ l2.R.nQ l2.R.cQ,.slice l2.R.aD l2.R.nD l2.R.cD,.int .i64 l2.R.turn,.bool l2.R.fresh,.slice l2.R.aS l2.R.nS l2.R.cS] 48)).heap[w.heap.size+1+1]?=some (.cells P.cells 34 (0,0))∧(X1.alloc (.cells #[.bool l2.st,.slice l2.aT l2.nT l2.cT,.slice l2.aU l2.nU l2.cU,.slice l2.R.aQ l2.R.nQ l2.R.cQ,.slice l2.R.aD l2.R.nD l2.R.cD,.int .i64 l2.R.turn,.bool l2.R.fresh,.slice l2.R.aS l2.R.nS l2.R.cS] 48)).heap[gL]?=some (.cells (S.L k).cells 48 (0,0)):=⟨(iN _ (iw hT1.1)).trans hT1.1,(iN _ (iw hT1.2)).trans hT1.2⟩
  have hnL:gL∉iR P.aL:=fun hx=>by have:=(HPl gL hx);omega
  have hT3:X3.heap[w.heap.size+1+1]?=some (.cells P.cells 34 (0,0))∧X3.heap[gL]?=some (.cells (S.L k).cells 48 (0,0)):=⟨(ht.block _ (iw hT1.1) (hu0.mv (by decide) hT1.1)).trans hT1.1,(ht.block _ (iw hT1.2) hnL).trans hT1.2⟩
  have HN3:Hid (OG 48 8 X3 w.heap.size (some (Hh g1 0)) (k+1) c3 (wH k P.L++l2.cells.toList)∧Touch (iR P.aL) X1 X3):=⟨hu,ht⟩
  have HR3:=aa hr
  clear al2 ol2 hb Q1 hu0 hr hu ht hg hT0 kL1 hnL kL LN
  go_wp2_with fail
  refine hK _ _ hT1 ?_
  clear hK K
  try simp only [Act.put,PZ]
  refine iz (rs:=[4]) (by kernel_rfl) (by simp) ?_
  refine ix.cons rfl (fun K hK=>?_) ix.nil
  go_simp
  refine hK _ _ hT2 ?_
  clear hK K
  try simp only [Act.put,PZ]
  refine iz (rs:=[5]) (by kernel_rfl) (by simp) ?_
  refine ix.cons rfl (fun K hK=>?_) ix.nil
  refine lV (by kernel_rfl) (some 51) rfl (.tmp 47) (.tmp 50) 32 _ _ _ rfl rfl rfl rfl HR3.out ?_
  refine hK _ _ hT3 ?_
  clear hK K hT2 HR3 hT1
  try simp only [Act.put,PZ]
  have hT0:=hT3
  refine tE 6 52 hT0 ?_
  refine iz (rs:=[7]) (by kernel_rfl) (by simp) ?_
  refine ix.last rfl (fun K hK=>?_)
  refine jY (by kernel_rfl) none rfl 32 (.tmp 52) (.tmp 51) rfl (w.heap.size+1+1) 14 rfl (.slice (some (Hh g1 0)) (k+1) c3) rfl 1 rfl 34 _ hT3.1 zx (Nat.le_of_ble_eq_true rfl) (by simp [Value.cells,Value.oneCell']) ?_
  intro X4 hP
  refine ah (hK _ _) ?_
  clear hK K
  refine jf (by kernel_rfl) ?_ _
  have HN:=aa (HP.more HA1.2.2 HA1.2.1 HA1.1 HN3.1 HN3.2 hP)
  clear hP hT0 hT3 HN3 HA1 HP HPl
  go_wp2_with fail
  go_roundw
  case rel=>exact ⟨k+1,_,by omega,by go_num,HN⟩
  case measure=>simp [intOf];omega
 obtain rfl:k=S.nL:=by omega
 have HL:Hid (∀ j,j<17→wr.cell? (Hh (w.heap.size+1+1) (0+j))=P.cells[j]?):=fun j _=>by rw [Nat.zero_add];exact iv HP.s.x.c j
 have HD:=aa HP.s.x.b
 go_wp2_with (first | refine iC rfl 34 17 _ Tryz.underlying34 rfl iI (.tmp 3) rfl (w.heap.size+1+1) 0 rfl P.cells rfl HL.out ?_ | refine iA rfl 34 (.tmp 2) (.tmp 54) rfl (w.heap.size+1) 0 rfl (.agg P.cells) rfl 17 rfl 34 _ HD iI (Nat.le_of_ble_eq_true rfl) (Swg.mc _) ?_)
 intro X hP
 replace hP:Put wr X (w.heap.size+1) P.cells 34:=hP.cast rfl
 have HK:=aa hP.blk
 have HF:Hid (iE S P∧iP X w.heap.size P∧Below w.heap.size w X):=⟨HP.alike rfl,HP.own.off HD hP.to,(HP.s.x.out hP).bel⟩
 clear hP HL HD HP
 go_wp2_with fail
 exact bodyPost_ret (kr Tryz.results24 17 _ Tryz.underlying34 rfl iI _ _ (w.heap.size+1) P.cells rfl 34 HK.out rfl) rfl ⟨P,rfl,HF.1,HF.2.1,HF.2.2⟩
theorem iP.up {S:Swg} (h:iP w base S) (hb:Below w.heap.size w w'):iP w' base S:=⟨h.e.up hb,h.n.up hb,h.k.up hb,h.l.up hb,h.un⟩
theorem iP.mono {base':Nat} {S:Swg} (h:iP w base S) (hb:base'≤base):iP w base' S:=⟨h.e.mono hb,h.n.mono hb,h.k.mono hb,h.l.mono hb,h.un⟩
theorem iE.refl (S:Swg):iE S S:=⟨rfl,rfl,rfl,rfl,rfl,iQ.refl _,rfl,rfl,rfl,fun i _=>iT.refl _,rfl,rfl⟩
def lQ:Swg:=⟨⟨0,0,0,0,0,0,0⟩,0,0,none,0,0,fun _=>default,⟨none,0,0,fun _=>0,0,none,0,0,fun _=>false⟩,none,0,0,fun _=>⟨0,0,0,0,0,0,0,⟨#[]⟩⟩,none,0,0,fun _=>⟨false,none,0,0,fun _=>0,none,0,0,fun _=>none,fun _=>0,fun _=>0,fun _ _=>0,⟨none,0,0,fun _=>0,none,0,0,fun _=>0,0,false,none,0,0,fun _=>none,fun _=>0,fun _=>0,fun _ _=>0⟩⟩,0,0⟩
theorem sq (w:World) (base:Nat):iP w base lQ:=⟨OG.nil _ _ _ _,⟨.inl rfl,.inl rfl⟩,OG.nil _ _ _ _,ln.nil _ _ _,fun x hx=>by simp [ju,lQ] at hx⟩
theorem kH {i:Tmp} (h:fn.results=#[.cell i ty,.tmp j]) (n:Nat) (d:TypeDesc) (hu:Tryz.prog.underlying ty=some d) (hd:d.isRow=true) (hn:(Tryz.prog.info? ty).map (·.size)=some n) (tmps:Array Value) (w:World) (g:Nat) (cs:Array Value) (hi:tmps[i]?.getD undef=.pointer (some (Hh g 0))) (t:TypeId) (hk:w.heap[g]?=some (.cells cs t (0,0))) (hs:cs.size=n) (v:Value) (hv:tmps[j]?.getD undef=v) :
  (results fn tmps).run Tryz.prog w=.ok (.tuple #[.agg cs,v]) w:=by
 have:=run_loadVar_mid (P:=Tryz.prog) w g 0 ty cs.toList d (fun j v hv=>by
  rw [Nat.zero_add,iv hk,←Array.getElem?_toList];exact hv) hu hd (by rw [hn,Array.length_toList,hs])
 rw [Array.toArray_toList] at this
 simp [results,h,hi,hv,asAddr,this]
theorem zi {S:Swg} (h:S.Ok):ny S.nE S.e∧0≤S.now∧S.now≤1000000000∧0<S.N.nU∧0<S.N.nP:=by
 have h1:=h.n.c.num.p
 have h2:=h.n.nP
 have h3:=h.n.nU
 exact ⟨h.seen.1,h.nums.now.1,h.nums.now.2,by omega,by omega⟩
theorem pH {i k:Tmp} (h:fn.results=#[.cell i ty,.tmp j,.tmp k]) (n:Nat) (d:TypeDesc) (hu:Tryz.prog.underlying ty=some d) (hd:d.isRow=true) (hn:(Tryz.prog.info? ty).map (·.size)=some n) (tmps:Array Value) (w:World) (g:Nat) (cs:Array Value) (hi:tmps[i]?.getD undef=.pointer (some (Hh g 0))) (t:TypeId) (hk:w.heap[g]?=some (.cells cs t (0,0))) (hs:cs.size=n) (v:Value) (hv:tmps[j]?.getD undef=v) (u:Value) (hu2:tmps[k]?.getD undef=u) :
  (results fn tmps).run Tryz.prog w=.ok (.tuple #[.agg cs,v,u]) w:=by
 have:=run_loadVar_mid (P:=Tryz.prog) w g 0 ty cs.toList d (fun j v hv=>by
  rw [Nat.zero_add,iv hk,←Array.getElem?_toList];exact hv) hu hd (by rw [hn,Array.length_toList,hs])
 rw [Array.toArray_toList] at this
 simp [results,h,hi,hv,hu2,asAddr,this]
theorem lW {ops:Array Oper} {rest:List Oper} {o:Oper} {a:Act} {Q:Exit→Act→World→Prop} (hw:Region.wanted o (yielded ops a.tmps)=true) (ty:TypeId) (n:Nat) (d:TypeDesc) (hu:Tryz.prog.underlying ty=some d) (hd:d.isRow=true) (hi:(Tryz.prog.info? ty).map (·.size)=some n) (x:Operand) (ho:o.op=.load ty x) (b off:Nat) (hx:a.eval x=.pointer (some (Hh b off)))
  (cs:Array Value) (hs:cs.size=n) (hc:∀ j,j<n→w.cell? (Hh b (off+j))=cs[j]?) (h:wpList Tryz.prog ops Q rest (a.put o.dst (.agg cs)) w):wpList Tryz.prog ops Q (o :: rest) a w :=
 wpList_step fun K hK=>by
  rw [if_pos hw]
  unfold Oper.wp
  rw [jF ty n d hu hd hi x ho b off hx cs hs hc]
  exact hK _ _ h
open Go.RowKit Go.Maps Go.Sort Go.Shelf
def lg (L:List Ent):Prop:=L.Pairwise fun x y=>x.m<y.m
theorem wG {k:Int} (h:Ge k L=true):atM k L∈L∧(atM k L).m=k:=by
 unfold Ge at h
 unfold atM
 induction L with
 | nil=>simp at h
 | cons y r ih =>
  by_cases e:y.m=k
  ·
   simp [List.find?_cons,e]
  simp only [List.any_cons,e,decide_false,Bool.false_or] at h
  obtain ⟨h1,h2⟩:=ih h
  simp only [List.find?_cons,e,decide_false]
  exact ⟨List.mem_cons_of_mem _ h1,h2⟩
theorem zJ (h:kY n f) (hy:y∈iU n f):mN y:=by
 obtain ⟨i,hi,rfl⟩:=List.mem_map.1 hy
 exact (h i (List.mem_range.1 hi)).1
def Bb (now:Int):Prop:=0≤now∧now≤1000000000
def xk (L:List Ent) (mac now:Int):Int:=if Ge mac L=true∧now-(atM mac L).t≤20 then (atM mac L).p else -1
structure Gq (n:Nat) (f:Nat→Ent) (mac now r:Int):Prop where
 good:ny n f→Bb now→r=xk (iU n f) mac now
 bad:¬ (ny n f∧Bb now)→r=-1
def qY (L:List Ent) (now:Int):List Ent:=L.filter fun y=>decide (now-y.t≤20)
theorem na (h:kY n f):lg (iU n f):=by
 unfold lg
 rw [List.pairwise_iff_getElem]
 intro i j hi hj hij
 rw [kc] at hj
 simp [iU]
 exact h.lt j i hij hj
theorem lg.sub {L':List Ent} (h:lg L) (hs:L'.Sublist L):lg L':=List.Pairwise.sublist hs h
def vA:Option Ent→Ent→Option Ent
 | none,e=>some e
 | some b,e=>some (if e.t<b.t then e else b)
def tu (L:List Ent):Option Ent:=L.foldl vA none
theorem rM (L:List Ent) (e:Ent):tu (L++[e])=vA (tu L) e:=by simp [tu]
theorem zF {z:Ent}:∀ (L:List Ent) (o:Option Ent),L.foldl vA o=some z→z∈L∨o=some z
 | [],o,h=>.inr h
 | y :: r,o,h=>by
  rcases zF r (vA o y) h with h1 | h1
  ·
   exact .inl (List.mem_cons_of_mem _ h1)
  cases o with
  | none=>simp [vA] at h1;exact .inl (by rw [←h1];simp)
  | some b =>
   simp only [vA,Option.some.injEq] at h1
   split at h1
   ·
    exact .inl (by rw [←h1];simp)
   exact .inr (by rw [h1])
theorem yc {z:Ent} (h:tu L=some z):z∈L:=by
 rcases zF L none h with h1 | h1
 ·
  exact h1
 cases h1
theorem uW:∀ (L:List Ent) (b:Ent),∃ z,L.foldl vA (some b)=some z
 | [],b=>⟨b,rfl⟩
 | y :: r,b=>uW r _
def E0 (L:List Ent):Ent:=(tu L).getD default
theorem DG (h:L≠[]):E0 L∈L∧tu L=some (E0 L):=by
 cases L with
 | nil=>exact absurd rfl h
 | cons y r =>
  obtain ⟨z,hz⟩:=uW r y
  have hb:tu (y :: r)=some z:=hz
  unfold E0
  rw [hb]
  exact ⟨yc hb,rfl⟩
def jO (L:List Ent) (x:Ent):List Ent:=if (notM x.m L).length=8 then mw x (notM (E0 (notM x.m L)).m (notM x.m L)) else mw x (notM x.m L)
theorem tj {x y:Ent} (h:x.m<y.m):∀ M:List Ent,mw x (M++[y])=mw x M++[y]
 | []=>by simp [mw,h]
 | z :: r=>by
  by_cases h1:x.m<z.m
  ·
   simp [mw,h1]
  simp [mw,h1,tj h r]
theorem mz (x:Ent):∀ M:List Ent,(mw x M).length=M.length+1
 | []=>rfl
 | z :: r=>by
  unfold mw
  split
  ·
   simp
  simp [mz x r]
theorem pJ {x y:Ent}:∀ {M:List Ent},y∈mw x M↔y=x∨y∈M
 | []=>by simp [mw]
 | z :: r=>by
  unfold mw
  split
  ·
   simp
  simp only [List.mem_cons,pJ (M:=r)]
  constructor
  ·
   rintro (h | h | h)
   ·
    exact .inr (.inl h)
   ·
    exact .inl h
   exact .inr (.inr h)
  rintro (h | h | h)
  ·
   exact .inr (.inl h)
  ·
   exact .inl h
  exact .inr (.inr h)
theorem nj (x:Ent):∀ M:List Ent,notM x.m (mw x M)=notM x.m M
 | []=>by simp [mw,notM]
 | z :: r=>by
  have ih:=nj x r
  unfold notM at ih ⊢
  unfold mw
  split
  ·
   simp
  simp only [List.filter_cons,ih]
theorem BU {x:Ent} {M:List Ent} (h:∀ y∈M,x.m<y.m):mw x M=x :: M:=by
 cases M with
 | nil=>rfl
 | cons z r=>unfold mw;rw [if_pos (h z (by simp))]
theorem xv {x:Ent} {k:Int} (hk:x.m≠k):∀ {M:List Ent},lg M→notM k (mw x M)=mw x (notM k M)
 | [],_=>by simp [mw,notM,hk]
 | z :: r,h=>by
  obtain ⟨h1,h2⟩:=List.pairwise_cons.1 h
  have ih:=xv hk h2
  by_cases hz:x.m<z.m
  ·
   have e1:mw x (z :: r)=x :: z :: r:=by unfold mw;rw [if_pos hz]
   have e2:mw x (notM k (z :: r))=x :: notM k (z :: r):=BU (fun y hy=>by
    have hy2:=(List.mem_filter.1 hy).1
    rcases List.mem_cons.1 hy2 with rfl | hy3
    ·
     exact hz
    ·
     have:=h1 y hy3;omega)
   rw [e1,e2]
   simp [notM,hk]
  have e1:mw x (z :: r)=z :: mw x r:=by rw [mw,if_neg hz]
  rw [e1]
  by_cases hzk:z.m=k
  ·
   have e3:notM k (z :: mw x r)=notM k (mw x r):=by simp [notM,hzk]
   have e4:notM k (z :: r)=notM k r:=by simp [notM,hzk]
   rw [e3,e4,ih]
  have e3:notM k (z :: mw x r)=z :: notM k (mw x r):=by simp [notM,hzk]
  have e4:notM k (z :: r)=z :: notM k r:=by simp [notM,hzk]
  rw [e3,e4,ih,mw,if_neg hz]
theorem oy {x:Ent}:∀ {M:List Ent},lg M→(∀ y∈M,y.m≠x.m)→lg (mw x M)
 | [],_,_=>by simp [mw,lg]
 | z :: r,h,hx=>by
  obtain ⟨h1,h2⟩:=List.pairwise_cons.1 h
  unfold mw
  split
  ·
   rename_i hz
   refine List.pairwise_cons.2 ⟨fun y hy=>?_,h⟩
   rcases List.mem_cons.1 hy with rfl | hy
   ·
    exact hz
   have:=h1 y hy;omega
  rename_i hz
  refine List.pairwise_cons.2 ⟨fun y hy=>?_,oy h2 (fun y hy=>hx y (by simp [hy]))⟩
  rcases pJ.1 hy with rfl | hy
  ·
   have:=hx z (by simp);omega
  exact h1 y hy
theorem kJ (k:Int) (L:List Ent):(notM k L).Sublist L:=List.filter_sublist
theorem vE {k:Int} (h:y∈notM k L):y.m≠k:=by
 have:=(List.mem_filter.1 h).2
 simpa using this
theorem Ew:∀ {L:List Ent} {o:Nat},lg L→o<L.length→L.take o++L.drop (o+1)=notM (L.getD o default).m L
 | [],o,_,h=>by simp at h
 | z :: r,0,h,_=>by
  obtain ⟨h1,h2⟩:=List.pairwise_cons.1 h
  have h3:notM z.m r=r:=qH (fun y hy=>by have:=h1 y hy;omega)
  have h4:notM z.m (z :: r)=notM z.m r:=by simp [notM]
  show r=notM z.m (z :: r)
  rw [h4,h3]
 | z :: r,o+1,h,hl=>by
  obtain ⟨h1,h2⟩:=List.pairwise_cons.1 h
  have hl':o<r.length:=by simpa using hl
  have ih:=Ew h2 hl'
  have hm:r.getD o default∈r:=by
   rw [List.getD_eq_getElem?_getD,List.getElem?_eq_getElem hl']
   exact List.getElem_mem _
  have hne:z.m≠(r.getD o default).m:=by have:=h1 _ hm;omega
  simp only [List.getD_cons_succ,List.take_succ_cons,List.drop_succ_cons,List.cons_append]
  rw [ih]
  simp only [notM,List.filter_cons]
  simp only [hne,ne_eq,not_false_eq_true,decide_true,if_true]
theorem qN {x:Ent} (h:(mw x (notM x.m L)).length≤8):mw x (notM x.m L)=jO L x:=by
 rw [mz] at h
 unfold jO
 rw [if_neg (by omega)]
theorem sd {x:Ent} (hs:lg L) (hl:L.length≤8) (h:¬ (mw x (notM x.m L)).length≤8) (ho:o<(mw x (notM x.m L)).length) (hb:tu (notM x.m (mw x (notM x.m L)))=some ((mw x (notM x.m L)).getD o default)) :
  (mw x (notM x.m L)).take o++(mw x (notM x.m L)).drop (o+1)=jO L x:=by
 have hO:=hs.sub (kJ x.m L)
 have hn:∀ y∈notM x.m L,y.m≠x.m:=fun y hy=>vE hy
 have e1:notM x.m (mw x (notM x.m L))=notM x.m L:=by rw [nj];exact qH hn
 rw [e1] at hb
 have hlen:=(kJ x.m L).length_le
 rw [mz] at h
 rw [Ew (oy hO hn) ho]
 unfold jO
 rw [if_pos (by omega)]
 have hz:=yc hb
 have e2:E0 (notM x.m L)=(mw x (notM x.m L)).getD o default:=by unfold E0;rw [hb];rfl
 rw [e2,xv (fun e=>hn _ hz e.symm) hO]
theorem ox {x:Ent} (h:ny n f) (hx:mN x):lg (jO (iU n f) x)∧(jO (iU n f) x).length≤8∧∀ y∈jO (iU n f) x,mN y:=by
 have hs:=na h.2
 have hO:=hs.sub (kJ x.m (iU n f))
 have hn:∀ y∈notM x.m (iU n f),y.m≠x.m:=fun y hy=>vE hy
 have hlen:=(kJ x.m (iU n f)).length_le
 rw [kc] at hlen
 have h8:=h.1
 unfold jO
 split
 ·
  rename_i h9
  have hne:notM x.m (iU n f)≠[]:=by intro e;rw [e] at h9;simp at h9
  have hold:=(DG hne).1
  have hlt:(notM (E0 (notM x.m (iU n f))).m (notM x.m (iU n f))).length<(notM x.m (iU n f)).length:=by
   unfold notM
   rw [List.length_filter_lt_length_iff_exists]
   exact ⟨_,hold,by simp [notM]⟩
  refine ⟨oy (hO.sub (kJ _ _)) (fun y hy=>hn y ((kJ _ _).subset hy)),by rw [mz];omega,fun y hy=>?_⟩
  rcases pJ.1 hy with rfl | hy
  ·
   exact hx
  exact zJ h.2 ((kJ _ _).subset ((kJ _ _).subset hy))
 refine ⟨oy hO hn,by rw [mz];omega,fun y hy=>?_⟩
 rcases pJ.1 hy with rfl | hy
 ·
  exact hx
 exact zJ h.2 ((kJ _ _).subset hy)
def Swg.lrL (S:Swg) (port:Int) (x:Pkt):List Ent:=jO (iU S.nE S.e) ⟨x.s,port,S.now⟩
def Swg.nk (S:Swg) (port:Int) (x:Pkt) (aE:Option Addr) (cE:Nat):Swg:={ S with aE:=aE,nE:=(S.lrL port x).length,cE:=cE,e:=fun i=>(S.lrL port x).getD i default }
def Swg.toP (S:Swg) (port:Int) (x:Pkt):Int:=xk (S.lrL port x) x.d S.now
def jU (k dst src:Int):Bool:=if dst=-1 then decide (k≠src) else decide (k=dst)
def oX (dst src:Int):Nat→Nat
 | 0=>0
 | n+1=>oX dst src n+if jU n dst src=true then 1 else 0
theorem Cy (dst src:Int):∀ n,oX dst src n≤n
 | 0=>Nat.le_refl _
 | n+1=>by
  have:=Cy dst src n
  show oX dst src n+_≤_
  split <;> omega
def Swg.pkt (S:Swg) (port:Int) (x:Pkt) (refs:Nat):Pkt:=⟨S.nx,port,refs,x.k,x.d,x.s,x.p,x.b⟩
def Swg.ka (S:Swg) (port dst:Int) (x:Pkt) (n:Nat) (i:Nat):Lng:=if i<n∧jU i dst port=true then (S.L i).wait x.p S.nx x.cl else S.L i
def Swg.waits (S:Swg) (port:Int) (x:Pkt) (dst:Int):Swg :=
 { S with N:=lu S.N port x.p x.cl,nx:=S.nx+1,nK:=S.nK+1,K:=fun i=>if i=S.nK then S.pkt port x (oX dst port S.nL) else S.K i,L:=S.ka port dst x S.nL }
def Swg.pN (S:Swg) (p:Int):Swg:=if p=2 then { S with lst:=min (S.lst+1) 1000000000 } else { S with dr:=min (S.dr+1) 1000000000 }
def Swg.stop (S:Swg) (i:Nat) (b:Bool):Swg:={ S with L:=fun k=>if k=i then { S.L i with st:=b } else S.L k }
def zd (S S':Swg) (i:Nat) (x:Pkt) (code:Int):Prop :=
 (S.toP i x=i∧S'=S.nk i x none 0∧code=4) ∨
 (S.toP i x≠i∧¬ (Cnt.Ok S.C (lu S.N i x.p x.cl)∧S.nx≠1000000000)∧S'=(S.nk i x none 0).pN x.p∧code=3) ∨
 (S.toP i x≠i∧Cnt.Ok S.C (lu S.N i x.p x.cl)∧S.nx≠1000000000∧S'=(S.nk i x none 0).waits i x (S.toP i x)∧code=0)
def CS (S S':Swg) (port:Int) (x:Pkt) (code:Int):Prop :=
 (¬ S.Ok∧S'=lQ∧code=1) ∨
 (S.Ok∧¬ ((0≤port∧port≤S.C.p-1)∧nm x.k x.d x.s x.p x.b.size=true)∧S'=S∧code=2) ∨
 (S.Ok∧nm x.k x.d x.s x.p x.b.size=true∧∃ i:Nat,port=(i:Int)∧i<S.nL∧((x.k≠1∧S'=S.stop i (decide (x.k=2))∧code=0)∨(x.k=1∧zd S S' i x code)))
theorem DY (S:Swg) (i:Nat) (x:Pkt):∃ S' code,zd S S' i x code:=by
 by_cases h1:S.toP i x=i
 ·
  exact ⟨_,_,.inl ⟨h1,rfl,rfl⟩⟩
 by_cases h2:Cnt.Ok S.C (lu S.N i x.p x.cl)∧S.nx≠1000000000
 ·
  exact ⟨_,_,.inr (.inr ⟨h1,h2.1,h2.2,rfl,rfl⟩)⟩
 exact ⟨_,_,.inr (.inl ⟨h1,h2,rfl,rfl⟩)⟩
theorem FG (S:Swg) (port:Int) (x:Pkt):∃ S' code,CS S S' port x code:=by
 by_cases h:S.Ok
 ·
  by_cases h2:(0≤port∧port≤S.C.p-1)∧nm x.k x.d x.s x.p x.b.size=true
  ·
   obtain ⟨i,rfl⟩:∃ i:Nat,port=(i:Int):=⟨port.toNat,by omega⟩
   have hi:i<S.nL:=by have:=h.nl;omega
   by_cases hk:x.k=1
   ·
    obtain ⟨S',code,hd⟩:=DY S i x
    exact ⟨S',code,.inr (.inr ⟨h,h2.2,i,rfl,hi,.inr ⟨hk,hd⟩⟩)⟩
   exact ⟨_,_,.inr (.inr ⟨h,h2.2,i,rfl,hi,.inl ⟨hk,rfl,rfl⟩⟩)⟩
  exact ⟨_,_,.inr (.inl ⟨h,h2,rfl,rfl⟩)⟩
 exact ⟨_,_,.inl ⟨h,rfl,rfl⟩⟩
theorem rQ {A B:Cnt} (h:iQ A B) (port prio y:Int):iQ (lu A port prio y) (lu B port prio y):=by
 unfold lu
 split
 ·
  exact ⟨h.nU,by unfold Cnt.ra;dsimp only;rw [h.u],h.lo,h.nP,h.p⟩
 exact ⟨h.nU,h.u,by unfold Cnt.Ea;dsimp only;rw [h.lo],h.nP,h.p⟩
theorem Lng.uB {a b:Lng} (h:iT a b) (p id cl:Int):iT (a.wait p id cl) (b.wait p id cl):=by
 unfold Lng.wait
 split
 ·
  exact ⟨h.st,by unfold Lng.rh;dsimp only;rw [h.nT],by unfold Lng.rh;dsimp only;rw [h.nT,h.t],h.nU,h.l,h.z,h.r⟩
 refine ⟨h.st,h.nT,h.t,h.nU,?_,?_,?_⟩
 ·
  show (fun i=>if i=p.toNat then b.uL p.toNat+1 else b.uL i)=fun i=>if i=p.toNat then a.uL p.toNat+1 else a.uL i
  rw [h.l]
 ·
  show (fun i j=>if i=p.toNat then ki (b.uL p.toNat) id (b.uz p.toNat) j else b.uz i j)=fun i j=>if i=p.toNat then ki (a.uL p.toNat) id (a.uz p.toNat) j else a.uz i j
  rw [h.l,h.z]
 exact ⟨h.r.nQ,h.r.q,h.r.nD,h.r.d,h.r.t,h.r.f,h.r.nS,by unfold Rnd.push;dsimp only;rw [h.r.l],by unfold Rnd.push;dsimp only;rw [h.r.l,h.r.z]⟩
theorem iE.lrL {A B:Swg} (h:iE A B) (port:Int) (x:Pkt):B.lrL port x=A.lrL port x:=by unfold Swg.lrL;rw [h.nE,h.e,h.now]
theorem iE.nk {A B:Swg} (h:iE A B) (port:Int) (x:Pkt) (a a':Option Addr) (c c':Nat):iE (A.nk port x a c) (B.nk port x a' c') :=
 ⟨h.c,h.now,h.nx,by show (B.lrL port x).length=(A.lrL port x).length;rw [h.lrL],by show (fun i=>(B.lrL port x).getD i default)=fun i=>(A.lrL port x).getD i default;rw [h.lrL],h.n,h.nK,h.k,h.nL,h.l,h.dr,h.lst⟩
theorem iE.pN {A B:Swg} (h:iE A B) (p:Int):iE (A.pN p) (B.pN p):=by
 unfold Swg.pN
 split
 ·
  exact ⟨h.c,h.now,h.nx,h.nE,h.e,h.n,h.nK,h.k,h.nL,h.l,h.dr,by dsimp only;rw [h.lst]⟩
 exact ⟨h.c,h.now,h.nx,h.nE,h.e,h.n,h.nK,h.k,h.nL,h.l,by dsimp only;rw [h.dr],h.lst⟩
theorem iE.stop {A B:Swg} (h:iE A B) (hi:i<A.nL) (b:Bool):iE (A.stop i b) (B.stop i b):=by
 refine ⟨h.c,h.now,h.nx,h.nE,h.e,h.n,h.nK,h.k,h.nL,fun k hk=>?_,h.dr,h.lst⟩
 show iT (if k=i then { A.L i with st:=b } else A.L k) (if k=i then { B.L i with st:=b } else B.L k)
 have hi2:=h.l i hi
 split
 ·
  exact ⟨rfl,hi2.nT,hi2.t,hi2.nU,hi2.l,hi2.z,hi2.r⟩
 exact h.l k hk
theorem nR (L:List Ent):iU L.length (fun i=>L.getD i default)=L:=by
 apply List.ext_getElem?
 intro i
 by_cases h:i<L.length
 ·
  simp [iU,h]
 simp [iU,h]
def A5 (R:Rnd) (c s:Int):Prop:=R.Ok∧(0≤c∧c<R.nQ)∧(1≤s∧s≤5)∧R.L c.toNat<1000
theorem rW (hl:A.length≤8) (hs:lg A) (ho:∀ y∈A,mN y):ny A.length (fun i=>A.getD i default):=by
 have hg:∀ i (h:i<A.length),A.getD i default=A[i]:=fun i h=>by simp [List.getD_eq_getElem?_getD,h]
 refine ⟨hl,fun i hi=>⟨?_,fun h0=>?_⟩⟩
 ·
  show mN (A.getD i default)
  rw [hg i hi]
  exact ho _ (List.getElem_mem hi)
 show (A.getD (i-1) default).m<(A.getD i default).m
 rw [hg i hi,hg (i-1) (by omega)]
 exact (List.pairwise_iff_getElem.1 hs) (i-1) i (by omega) hi (by omega)
theorem DU (h:x.pF):1≤x.s∧x.s≤20∧(1≤x.d∧x.d≤20∨x.d=255):=by
 have h2:=h.2
 have h1:=h.1
 unfold nm at h2
 simp only [decide_eq_true_eq] at h2
 omega
theorem Swg.Ok.lrn {S:Swg} (h:S.Ok) (hi:i<S.nL) (hx:x.pF):mN ⟨x.s,(i:Int),S.now⟩:=by
 have h1:=DU hx
 have h2:=h.nl
 have h3:=h.n.c.num.p
 have h4:=h.nums.now
 exact ⟨⟨h1.1,h1.2.1⟩,⟨by show (0:Int)≤(i:Int);omega,by show (i:Int)≤3;omega⟩,h4⟩
theorem Swg.Ok.E7 {S:Swg} (h:S.Ok) (hi:i<S.nL) (hx:x.pF):ny (S.lrL i x).length (fun j=>(S.lrL i x).getD j default):=by
 obtain ⟨h1,h2,h3⟩:=ox h.seen.1 (h.lrn hi hx)
 exact rW h2 h1 h3
theorem Swg.Ok.toR {S:Swg} (h:S.Ok) (hi:i<S.nL) (hx:x.pF):Gq (S.lrL i x).length (fun j=>(S.lrL i x).getD j default) x.d S.now (S.toP i x):=by
 refine ⟨fun _ _=>?_,fun hn=>absurd ⟨h.E7 hi hx,h.nums.now⟩ hn⟩
 rw [nR]
 rfl
theorem Swg.Ok.GV {S:Swg} (h:S.Ok) (hi:i<S.nL) (hx:x.pF):-1≤S.toP i x∧S.toP i x≤3:=by
 unfold Swg.toP xk
 obtain ⟨_,_,h3⟩:=ox h.seen.1 (h.lrn hi hx)
 split
 ·
  rename_i hc
  have h4:(0:Int)≤(atM x.d (S.lrL i x)).p∧(atM x.d (S.lrL i x)).p≤3:=(h3 _ (wG hc.1).1).2.1
  omega
 omega
theorem nY.ogW {v:Value} (h:nY w base v A):∃ a c,v=.slice a A.length c∧OG 75 3 w base a A.length c (jt (iU A.length fun i=>A.getD i default)):=by
 rw [nR]
 rcases h.2 with ⟨e1,e2⟩ | ⟨g,cap,cur,e1,_⟩
 ·
  refine ⟨none,0,by rw [e1,e2],?_⟩
  have h':w.ownsRow base 75 3 v A.length (jt A):=h
  rw [e1] at h'
  show w.ownsRow base 75 3 (.slice none A.length 0) A.length (jt A)
  rw [e2] at h' ⊢
  exact h'
 refine ⟨some (Hh g 0),cap,e1,?_⟩
 have h':w.ownsRow base 75 3 v A.length (jt A):=h
 rw [e1] at h'
 exact h'
theorem iP.nk {P:Swg} {aE:Option Addr} {cE:Nat} (h:iP w base P) (he:OG 75 3 w base aE (P.lrL port x).length cE (jt (iU (P.lrL port x).length fun i=>(P.lrL port x).getD i default))):iP w base (P.nk port x aE cE):=⟨he,h.n,h.k,h.l,h.un⟩
theorem iP.counts {P:Swg} {M:Cnt} (h:iP w base P) (hb:Below w.heap.size w W) (hm:w.heap.size≤m) (hbs:base≤w.heap.size) (hM:jb W m M) (nx:Int):iP W base { P with N:=M,nx:=nx }:=by
 refine ⟨h.e.up hb,hM.mono (by omega),h.k.up hb,h.l.up hb,fun x hx hy=>?_⟩
 have h1:=(hM.u.blk x hx).1
 simp only [List.mem_flatMap,List.mem_range] at hy
 obtain ⟨i,hi,hy⟩:=hy
 have h2:=((h.l.ls i hi).blk x hy).2
 omega
theorem iP.lane {gL gp:Nat} {P:Swg} {cp:Array Value} (h:iP w base P) (hi:i<P.nL) (eL:P.aL=some (Hh gL 0)) (kL:w.heap[gL]?=some (.cells cur 48 (0,0))) (kP:w.heap[gp]?=some (.cells cp 50 (0,0))) (hgp:gp∉iR P.aK) (hn:Gy w w' base gL gp (i*8) cur (P.L i) l2) :
  iP w' base { P with L:=fun k=>if k=i then l2 else P.L k }:=by
 obtain ⟨T,hto,hT⟩:=hn.hit
 have oi:=h.l.ls i hi
 have far:∀ {x:Nat} {cs:Array Value} {t:TypeId},w.heap[x]?=some (.cells cs t (0,0))→t≠48→t≠50→t≠2→t≠27→x∉T:=by
  intro x cs t kx h1 h2 h3 h4 hx
  rcases hT x hx with e | e | e | e
  ·
   exact jn kx kL h1 e
  ·
   exact jn kx kP h2 e
  ·
   obtain ⟨c2,k2⟩:=oi.type2 x e
   exact jn kx k2 h3 rfl
  obtain ⟨c2,k2⟩:=oi.yn x e
  exact jn kx k2 h4 rfl
 refine ⟨h.e.iB hto (fun x hx=>?_),⟨h.n.u.iB hto (fun x hx hy=>?_),h.n.p.iB hto (fun x hx=>?_)⟩,h.k.iB hto (fun x hx hy=>?_),h.l.swap hi eL kL kP hn,fun x hx hy=>?_⟩
 ·
  obtain ⟨cs,k⟩:=h.e.type x hx
  exact far k (by decide) (by decide) (by decide) (by decide)
 ·
  obtain ⟨cs,k⟩:=h.n.u.type x hx
  rcases hT x hy with e | e | e | e
  ·
   exact jn k kL (by decide) e
  ·
   exact jn k kP (by decide) e
  ·
   exact h.un x hx (by simp only [List.mem_flatMap,List.mem_range];exact ⟨i,hi,e⟩)
  obtain ⟨c2,k2⟩:=oi.yn x e
  exact jn k k2 (by decide) rfl
 ·
  obtain ⟨cs,k⟩:=h.n.p.type x hx
  exact far k (by decide) (by decide) (by decide) (by decide)
 ·
  obtain ⟨cs,k⟩:=h.k.type x hx
  rcases hT x hy with e | e | e | e
  ·
   exact jn k kL (by decide) e
  ·
   exact hgp (e▸hx)
  ·
   obtain ⟨c2,k2⟩:=oi.type2 x e
   exact jn k k2 (by decide) rfl
  obtain ⟨c2,k2⟩:=oi.yn x e
  exact jn k k2 (by decide) rfl
 simp only [List.mem_flatMap,List.mem_range] at hy
 obtain ⟨k,hk,hy⟩:=hy
 have hy':x∈(if k=i then l2 else P.L k).kj:=hy
 by_cases e:k=i
 ·
  rw [if_pos e] at hy'
  rcases hn.z x hy' with e1 | e1
  ·
   exact h.un x hx (by simp only [List.mem_flatMap,List.mem_range];exact ⟨i,hi,e1⟩)
  have:=(h.n.u.blk x hx).2
  omega
 rw [if_neg e] at hy'
 exact h.un x hx (by simp only [List.mem_flatMap,List.mem_range];exact ⟨k,hk,hy'⟩)
theorem uG (h:lC nx p m K):∀ {a b:Nat},a≤b→b≤m→iZ K a≤iZ K b:=by
 intro a b
 induction b with
 | zero =>
  intro h1 _
  have e:a=0:=by omega
  rw [e]
  exact Int.le_refl _
 | succ b ih =>
  intro h1 h2
  by_cases e:a=b+1
  ·
   subst e;exact Int.le_refl _
  have:=ih (by omega) (by omega)
  have hc:=(h.one b (by omega)).2.2.cl
  show iZ K a≤iZ K b+_
  split <;> omega
theorem pY.lo (h:pY n z prio m K) (hK:lC nx p m K) (hp:prio≠2):(n:Int)≤iZ K m:=by
 have key:∀ k,k≤n→∀ j,j<m→(0<k→(K j).id=z (k-1)∧(K j).p=prio)→(k:Int)≤iZ K (j+1):=by
  intro k
  induction k with
  | zero=>intro _ j hj _;have:=(qB hK (j+1) (by omega)).1;omega
  | succ k ih =>
   intro hk j hj e
   obtain ⟨e1,e3⟩:=e (by omega)
   rw [Nat.add_sub_cancel] at e1
   have hc:=(hK.one j hj).2.2.cl
   have hs:iZ K (j+1)=iZ K j+(K j).cl:=by
    show iZ K j+_=_
    rw [if_neg (by rw [e3];exact hp)]
   by_cases h0:k=0
   ·
    have:=(qB hK j (by omega)).1
    omega
   obtain ⟨⟨j',hj',e2,e4⟩,hr⟩:=h (k-1) (by omega)
   have hlt:=(h k (by omega)).2 (by omega)
   have:=ih (by omega) j' hj' (fun _=>⟨e2,e4⟩)
   have hjj:j'<j:=by
    have hu:=pv hK.up j' j
    by_cases c:j'<j
    ·
     exact c
    by_cases c2:j=j'
    ·
     subst c2;omega
    have:=hu (by omega) hj'
    omega
   have:=uG hK (show j'+1≤j by omega) (by omega)
   omega
 by_cases h0:n=0
 ·
  have:=(qB hK m (Nat.le_refl _)).1
  omega
 obtain ⟨⟨j,hj,e,e2⟩,_⟩:=h (n-1) (by omega)
 have h1:=key n (Nat.le_refl _) j hj (fun _=>⟨e,e2⟩)
 have:=uG hK (show j+1≤m by omega) (Nat.le_refl _)
 omega
theorem Swg.Ok.room {S:Swg} (h:S.Ok) (hi:i<S.nL) (hx:x.pF) (hk:x.p=(k:Int)) (h2:x.p≠2):k<2∧A5 (S.L i).R (k:Int) x.cl∧(S.L i).uL k≤1000:=by
 have hl:=h.l i hi
 have hp:=hx.pr
 have hk2:k<2:=by omega
 obtain ⟨z1,z2,_⟩:=hl.z k hk2
 have hlo:=z1.lo h.k (by omega)
 have h5:=h.held.1
 have h6:=h.n.lo
 have h7:=h.n.c.sum
 have h8:=h.n.c.num
 have h9:=h8.c
 have h10:=h8.xo
 have h11:=h8.hd
 have h12:=h8.p
 have h13:1≤S.C.p*(S.C.xo+S.C.hd):=by
  have a1:(1:Int)≤S.C.p:=by omega
  have a2:(1:Int)≤S.C.xo+S.C.hd:=by omega
  calc (1:Int)=1*1:=rfl
   _≤S.C.p*(S.C.xo+S.C.hd):=Int.mul_le_mul a1 a2 (by omega) (by omega)
 have hn:(S.L i).uL k<1000:=by omega
 refine ⟨hk2,⟨hl.r,⟨by omega,by rw [hl.n];omega⟩,hx.cl,?_⟩,by omega⟩
 rw [Int.toNat_natCast,←z2]
 exact hn
theorem Dy {R:Rnd} {s:Int} (h:A5 R (c:Int) s) (a:Option Addr) (k:Nat):(R.push c s a k).Ok:=by
 obtain ⟨ho,hc,hs,hl⟩:=h
 rw [Int.toNat_natCast] at hl
 refine ⟨ho.n,ho.d,ho.s,ho.t,fun i hi=>?_⟩
 obtain ⟨h1,h2,h3⟩:=ho.c i hi
 show wD (R.q i) (R.d i) (if i=c then R.L c+1 else R.L i) (fun j=>if i=c then ki (R.L c) s (R.z c) j else R.z i j) (R.begun i)
 by_cases e:i=c
 ·
  subst e
  simp only [if_true]
  refine ⟨h1,⟨by omega,fun j hj=>?_⟩,?_⟩
  ·
   show 1≤ki _ s _ j∧ki _ s _ j≤5
   unfold ki
   split
   ·
    exact hs
   exact h2.2 j (by omega)
  unfold qU at h3 ⊢
  rw [if_neg (by omega)]
  split at h3
  ·
   rw [h3]
   refine ⟨Int.le_refl _,?_⟩
   split <;> omega
  exact h3
 simp only [if_neg e]
 exact ⟨h1,h2,h3⟩
def AW (K:Nat→Pkt) (n:Nat):Nat→Int
 | 0=>0
 | P+1=>AW K n P+jX K (P:Int) n
theorem wO (K:Nat→Pkt):∀ P,AW K 0 P=0
 | 0=>rfl
 | P+1=>by
  show AW K 0 P+0=0
  rw [wO K P]
  rfl
theorem wP (K:Nat→Pkt) (n:Nat):∀ P:Nat,AW K (n+1) P=AW K n P+if (K n).p=2∧0≤(K n).inn∧(K n).inn<(P:Int) then (K n).cl else 0
 | 0=>by
  show (0:Int)=0+_
  rw [if_neg (fun h=>by have h2:=h.2.1;have h3:=h.2.2;omega)]
  rfl
 | P+1=>by
  have ih:=wP K n P
  show AW K (n+1) P+(jX K (P:Int) n+if (K n).p=2∧(K n).inn=(P:Int) then (K n).cl else 0)=AW K n P+jX K (P:Int) n+_
  rw [ih]
  by_cases h2:(K n).p=2
  ·
   by_cases e:(K n).inn=(P:Int)
   ·
    rw [if_neg (fun h=>by omega),if_pos ⟨h2,e⟩,if_pos ⟨h2,by omega,by omega⟩]
    omega
   by_cases c:0≤(K n).inn∧(K n).inn<(P:Int)
   ·
    rw [if_pos ⟨h2,c⟩,if_neg (fun h=>e h.2),if_pos ⟨h2,c.1,by omega⟩]
    omega
   rw [if_neg (fun h=>c h.2),if_neg (fun h=>e h.2),if_neg (fun h=>c ⟨h.2.1,by omega⟩)]
   omega
  rw [if_neg (fun h=>h2 h.1),if_neg (fun h=>h2 h.1),if_neg (fun h=>h2 h.1)]
  omega
theorem zM {p:Int} {m:Nat} {K:Nat→Pkt} (h:∀ i,i<m→(0≤(K i).inn∧(K i).inn≤p-1)∧(K i).pF) {P:Nat} (hP:(P:Int)=p):∀ n,n≤m→(n:Int)≤AW K n P+iZ K n
 | 0,_=>by rw [wO];exact Int.le_refl _
 | n+1,hn=>by
  have ih:=zM h hP n (by omega)
  obtain ⟨o2,o3⟩:=h n (by omega)
  have hc:=o3.cl
  rw [wP]
  show ((n+1:Nat):Int)≤AW K n P+(if (K n).p=2∧0≤(K n).inn∧(K n).inn<(P:Int) then (K n).cl else 0)+(iZ K n+if (K n).p=2 then 0 else (K n).cl)
  by_cases e:(K n).p=2
  ·
   rw [if_pos ⟨e,o2.1,by omega⟩,if_pos e]
   omega
  rw [if_neg (fun h=>e h.1),if_neg e]
  omega
theorem Dz {C:Cfg} (hc:Cnt.Ok C N) (hp:(P:Int)=C.p) (h1:∀ j,j<n→(0≤(K j).inn∧(K j).inn≤C.p-1)∧(K j).pF) (hl:N.lo=iZ K n) (hu:∀ q,q<N.nU→N.u q=jX K (q:Int) n):n≤1000:=by
 have h2:=zM h1 hp n (Nat.le_refl _)
 have hn:=hc.c.num.p
 have hs:=hc.c.sum
 have hcc:=hc.c.num.c
 have hlo:=hc.lo
 have hnU:=hc.nU
 have hq:∀ q,q<P→jX K (q:Int) n≤C.xo+C.hd:=fun q hq=>by rw [←hu q (by omega)];exact (hc.u q (by omega)).2
 have:P=2∨P=3∨P=4:=by omega
 rcases this with rfl | rfl | rfl
 ·
  have a:=hq 0 (by omega)
  have b:=hq 1 (by omega)
  have e:AW K n 2=0+jX K ((0:Nat):Int) n+jX K ((1:Nat):Int) n:=rfl
  have hp2:C.p=2:=by omega
  rw [hp2] at hs
  omega
 ·
  have a:=hq 0 (by omega)
  have b:=hq 1 (by omega)
  have c:=hq 2 (by omega)
  have e:AW K n 3=0+jX K ((0:Nat):Int) n+jX K ((1:Nat):Int) n+jX K ((2:Nat):Int) n:=rfl
  have hp2:C.p=3:=by omega
  rw [hp2] at hs
  omega
 have a:=hq 0 (by omega)
 have b:=hq 1 (by omega)
 have c:=hq 2 (by omega)
 have d:=hq 3 (by omega)
 have e:AW K n 4=0+jX K ((0:Nat):Int) n+jX K ((1:Nat):Int) n+jX K ((2:Nat):Int) n+jX K ((3:Nat):Int) n:=rfl
 have hp2:C.p=4:=by omega
 rw [hp2] at hs
 omega
theorem Bw {z z':Nat→Int} {y:Int}:∀ n,(∀ i,i<n→z i=z' i)→occ z y n=occ z' y n
 | 0,_=>rfl
 | n+1,h=>by
  show occ z y n+_=occ z' y n+_
  rw [Bw n (fun i hi=>h i (by omega)),h n (by omega)]
theorem qG {j:Nat} (h:j<n):ki n v z j=z j:=if_neg (by omega)
theorem ry:ki n v z n=v:=if_pos rfl
theorem vC (z:Nat→Int) (n:Nat) (v y:Int):occ (ki n v z) y (n+1)=occ z y n+if v=y then 1 else 0:=by
 show occ (ki n v z) y n+(if ki n v z n=y then 1 else 0)=_
 rw [Bw (z':=z) n (fun i hi=>qG hi),ry]
theorem pI (h:l.nU=2) (y:Int):l.ug y=occ l.t y l.nT+(0+occ (l.uz 0) y (l.uL 0)+occ (l.uz 1) y (l.uL 1)):=by
 unfold Lng.ug
 rw [h]
 rfl
theorem C4 (hu:l.nU=2) (hp:0≤p∧p≤2) (id cl y:Int):(l.wait p id cl).ug y=l.ug y+if id=y then 1 else 0:=by
 have hw:(l.wait p id cl).nU=2:=by unfold Lng.wait;split <;> exact hu
 rw [pI hw,pI hu]
 unfold Lng.wait
 by_cases e:p=2
 ·
  rw [if_pos e]
  show occ (ki l.nT id l.t) y (l.nT+1)+(0+occ (l.uz 0) y (l.uL 0)+occ (l.uz 1) y (l.uL 1))=_
  rw [vC]
  omega
 rw [if_neg e]
 have hk:p.toNat=0∨p.toNat=1:=by omega
 show occ l.t y l.nT+(0+occ (fun j=>if 0=p.toNat then ki (l.uL p.toNat) id (l.uz p.toNat) j else l.uz 0 j) y (if 0=p.toNat then l.uL p.toNat+1 else l.uL 0)+occ (fun j=>if 1=p.toNat then ki (l.uL p.toNat) id (l.uz p.toNat) j else l.uz 1 j) y (if 1=p.toNat then l.uL p.toNat+1 else l.uL 1))=_
 rcases hk with h | h
 ·
  rw [h]
  simp only [if_true,show ¬ (1=0) by omega,if_false]
  have:=vC (l.uz 0) (l.uL 0) id y
  show occ l.t y l.nT+(0+occ (ki (l.uL 0) id (l.uz 0)) y (l.uL 0+1)+occ (l.uz 1) y (l.uL 1))=_
  omega
 rw [h]
 simp only [if_true,show ¬ (0=1) by omega,if_false]
 have:=vC (l.uz 1) (l.uL 1) id y
 show occ l.t y l.nT+(0+occ (l.uz 0) y (l.uL 0)+occ (ki (l.uL 1) id (l.uz 1)) y (l.uL 1+1))=_
 omega
structure AU (m:Nat) (K K':Nat→Pkt) (id p cl:Int):Prop where
 same:∀ j,j<m→K' j=K j
 nid:(K' m).id=id
 np:(K' m).p=p
 ncl:(K' m).cl=cl
 lt:∀ j,j<m→(K j).id<id
theorem pY.more (h:pY n z prio m K) (hk:AU m K K' id p cl):pY n z prio (m+1) K':=fun i hi=>by
 obtain ⟨⟨j,j1,j2,j3⟩,h2⟩:=h i hi
 exact ⟨⟨j,by omega,by rw [hk.same j j1];exact j2,by rw [hk.same j j1];exact j3⟩,h2⟩
theorem pY.lt (h:pY n z prio m K) (hk:AU m K K' id p cl):∀ i,i<n→z i<id:=fun i hi=>by
 obtain ⟨⟨j,j1,j2,j3⟩,h2⟩:=h i hi
 rw [←j2]
 exact hk.lt j j1
theorem pY.push (h:pY n z p m K) (hk:AU m K K' id p cl):pY (n+1) (ki n id z) p (m+1) K':=fun i hi=>by
 by_cases e:i=n
 ·
  subst e
  rw [ry]
  refine ⟨⟨m,by omega,hk.nid,hk.np⟩,fun h0=>?_⟩
  rw [qG (by omega)]
  exact h.lt hk (i-1) (by omega)
 obtain ⟨h1,h2⟩:=h.more hk i (by omega)
 rw [qG (by omega)]
 exact ⟨h1,fun h0=>by rw [qG (by omega)];exact h2 h0⟩
theorem ni.more (h:ni m K l) (hk:AU m K K' id p cl):ni (m+1) K' l:=by
 refine ⟨h.r,h.n,h.q0,h.q1,h.u,fun c hc=>⟨(h.z c hc).1.more hk,(h.z c hc).2.1,fun i hi j hj e=>?_⟩,h.t.more hk⟩
 by_cases c2:j=m
 ·
  subst c2
  rw [hk.nid] at e
  have:=(h.z c hc).1.lt hk i hi
  omega
 rw [hk.same j (by omega)] at e ⊢
 exact (h.z c hc).2.2 i hi j (by omega) e
theorem ni.wait (h:ni m K l) (hk:AU m K K' id p cl) (hp:0≤p∧p≤2) (hr:∀ c:Nat,p=(c:Int)→p≠2→A5 l.R (c:Int) cl):ni (m+1) K' (l.wait p id cl):=by
 have hm:=h.more hk
 unfold Lng.wait
 by_cases e:p=2
 ·
  rw [if_pos e]
  subst e
  exact ⟨h.r,h.n,h.q0,h.q1,h.u,hm.z,h.t.push hk⟩
 rw [if_neg e]
 obtain ⟨c,rfl⟩:∃ c:Nat,p=(c:Int):=⟨p.toNat,by omega⟩
 rw [Int.toNat_natCast]
 refine ⟨Dy (hr c rfl e) _ _,h.n,h.q0,h.q1,h.u,fun d hd=>?_,hm.t⟩
 obtain ⟨z1,z2,z3⟩:=h.z d hd
 show pY (if d=c then l.uL c+1 else l.uL d) (fun j=>if d=c then ki (l.uL c) id (l.uz c) j else l.uz d j) (d:Int) (m+1) K'∧(if d=c then l.uL c+1 else l.uL d)=(if d=c then l.R.L c+1 else l.R.L d)∧∀ i,i<(if d=c then l.uL c+1 else l.uL d)→∀ j,j<m+1→(K' j).id=(if d=c then ki (l.uL c) id (l.uz c) i else l.uz d i)→(if d=c then ki (l.R.L c) cl (l.R.z c) i else l.R.z d i)=(K' j).cl
 by_cases ed:d=c
 ·
  subst ed
  simp only [if_true]
  refine ⟨z1.push hk,by rw [z2],fun i hi j hj ej=>?_⟩
  rw [←z2]
  by_cases ei:i=l.uL d
  ·
   subst ei
   rw [ry] at ej ⊢
   by_cases c2:j=m
   ·
    subst c2
    exact hk.ncl.symm
   rw [hk.same j (by omega)] at ej
   have:=hk.lt j (by omega)
   omega
  rw [qG (by omega)] at ej ⊢
  exact (hm.z d hd).2.2 i (by omega) j hj ej
 simp only [if_neg ed]
 exact ⟨z1.more hk,z2,(hm.z d hd).2.2⟩
theorem uN {S:Swg} {port dst:Int} {x:Pkt} (hx:0≤x.p∧x.p≤2) (hu:∀ i,i<S.nL→(S.L i).nU=2) (y:Int):∀ n,n≤S.nL→mh (S.ka port dst x S.nL) y n=mh S.L y n+if S.nx=y then oX dst port n else 0
 | 0,_=>by
  show 0=0+_
  split <;> rfl
 | n+1,hn=>by
  have ih:=uN (port:=port) (dst:=dst) hx hu y n (by omega)
  show mh (S.ka port dst x S.nL) y n+(S.ka port dst x S.nL n).ug y=mh S.L y n+(S.L n).ug y+if S.nx=y then oX dst port n+(if jU n dst port=true then 1 else 0) else 0
  rw [ih]
  have e:(S.ka port dst x S.nL n).ug y=(S.L n).ug y+if jU (n:Int) dst port=true then (if S.nx=y then 1 else 0) else 0:=by
   unfold Swg.ka
   by_cases hb:jU (n:Int) dst port=true
   ·
    rw [if_pos (show n<S.nL∧jU (n:Int) dst port=true from ⟨by omega,hb⟩),C4 (hu n (by omega)) hx,if_pos hb]
   rw [if_neg (fun h:n<S.nL∧jU (n:Int) dst port=true=>hb h.2),if_neg hb]
   rfl
  rw [e]
  by_cases h1:S.nx=y
  ·
   simp only [if_pos h1]
   omega
  simp only [if_neg h1]
  split <;> omega
theorem vD {y:Int} (h:∀ i,i<n→z i<y):occ z y n=0:=by
 by_cases h0:0<occ z y n
 ·
  obtain ⟨i,hi,e⟩:=sU.1 h0
  have:=h i hi
  omega
 omega
theorem xu {L:Nat→Lng} {y:Int}:∀ n,(∀ i,i<n→(L i).ug y=0)→mh L y n=0
 | 0,_=>rfl
 | n+1,h=>by
  show mh L y n+(L n).ug y=0
  rw [xu n (fun i hi=>h i (by omega)),h n (by omega)]
theorem DV {src:Int} (hs:0≤src∧src<n) (hn:2≤n) (hd:dst≠src) (hr:dst=-1∨0≤dst∧dst<n):1≤oX dst src n:=by
 have key:∀ m k:Nat,k<m→jU (k:Int) dst src=true→1≤oX dst src m:=by
  intro m
  induction m with
  | zero=>intro k hk;omega
  | succ m ih =>
   intro k hk hb
   show 1≤oX dst src m+_
   by_cases e:k=m
   ·
    subst e
    rw [if_pos hb]
    omega
   have:=ih k (by omega) hb
   omega
 rcases hr with h | h
 ·
  by_cases c:src=0
  ·
   exact key n 1 (by omega) (by unfold jU;rw [if_pos h];simp;omega)
  exact key n 0 (by omega) (by unfold jU;rw [if_pos h];simp;omega)
 exact key n dst.toNat (by omega) (by unfold jU;rw [if_neg (by omega)];simp;omega)
theorem E8 {S:Swg} (h:y∈S.lrL port x):y=⟨x.s,port,S.now⟩∨y∈iU S.nE S.e:=by
 unfold Swg.lrL jO at h
 split at h
 ·
  rcases pJ.1 h with e | e
  ·
   exact .inl e
  exact .inr ((kJ _ _).subset ((kJ _ _).subset e))
 rcases pJ.1 h with e | e
 ·
  exact .inl e
 exact .inr ((kJ _ _).subset e)
theorem wu (h:y∈iU n f):∃ i,i<n∧f i=y:=by
 unfold iU at h
 simpa using h
theorem Swg.Ok.G7 {S:Swg} (h:S.Ok) (hi:i<S.nL) :∀ y∈S.lrL i x,y.p<S.C.p∧y.t≤S.now:=fun y hy=>by
 rcases E8 hy with rfl | hy
 ·
  have:=h.nl
  exact ⟨by show (i:Int)<_;omega,Int.le_refl _⟩
 obtain ⟨j,hj,rfl⟩:=wu hy
 exact h.seen.2 j hj
theorem Swg.Ok.toLt {S:Swg} (h:S.Ok) (hi:i<S.nL) (hx:x.pF):S.toP i x=-1∨0≤S.toP i x∧S.toP i x<S.C.p:=by
 have h0:=(h.GV hi hx).1
 unfold Swg.toP xk at h0 ⊢
 split
 ·
  rename_i hc
  have:=(h.G7 hi _ (wG hc.1).1).1
  rw [if_pos hc] at h0
  by_cases e:(atM x.d (S.lrL i x)).p=-1
  ·
   exact .inl e
  exact .inr ⟨by omega,this⟩
 exact .inl rfl
theorem Swg.Ok.nk {S:Swg} (h:S.Ok) (hi:i<S.nL) (hx:x.pF) (a:Option Addr) (c:Nat):(S.nk i x a c).Ok:=by
 refine ⟨h.n,⟨h.nums.now,h.nums.nx,h.nums.dr,h.nums.lst⟩,⟨h.E7 hi hx,fun j hj=>?_⟩,h.k,h.nl,h.l,h.refs,h.held⟩
 have hj':j<(S.lrL i x).length:=hj
 show ((S.lrL i x).getD j default).p<S.C.p∧((S.lrL i x).getD j default).t≤S.now
 have e:(S.lrL i x).getD j default=(S.lrL i x)[j]:=by simp [List.getD_eq_getElem?_getD,hj']
 rw [e]
 exact h.G7 hi _ (List.getElem_mem hj')
theorem Swg.Ok.pN {S:Swg} (h:S.Ok) (p:Int):(S.pN p).Ok:=by
 have h1:=h.nums.lst
 have h2:=h.nums.dr
 unfold Swg.pN
 split
 ·
  exact ⟨h.n,⟨h.nums.now,h.nums.nx,h.nums.dr,by show 0≤min (S.lst+1) 1000000000∧min (S.lst+1) 1000000000≤1000000000;omega⟩,h.seen,h.k,h.nl,h.l,h.refs,h.held⟩
 exact ⟨h.n,⟨h.nums.now,h.nums.nx,by show 0≤min (S.dr+1) 1000000000∧min (S.dr+1) 1000000000≤1000000000;omega,h.nums.lst⟩,h.seen,h.k,h.nl,h.l,h.refs,h.held⟩
theorem Swg.Ok.stop {S:Swg} (h:S.Ok) (hi:i<S.nL) (b:Bool):(S.stop i b).Ok:=by
 refine ⟨h.n,⟨h.nums.now,h.nums.nx,h.nums.dr,h.nums.lst⟩,h.seen,h.k,h.nl,fun k hk=>?_,fun j hj=>?_,h.held⟩
 ·
  show ni S.nK S.K (if k=i then ({ S.L i with st:=b }:Lng) else S.L k)
  have hl:=h.l i hi
  split
  ·
   exact ⟨hl.r,hl.n,hl.q0,hl.q1,hl.u,hl.z,hl.t⟩
  exact h.l k hk
 have h1:=h.refs j hj
 have hu:=(h.l i hi).u
 have h2:=sV S.L i { S.L i with st:=b } (S.K j).id 0 (by rw [Nat.add_zero,pI (l:={ S.L i with st:=b }) hu,pI hu]) S.nL
 show 1≤(S.K j).refs∧(S.K j).refs=((mh (fun k=>if k=i then ({ S.L i with st:=b }:Lng) else S.L k) (S.K j).id S.nL:Nat):Int)
 rw [show mh (fun k=>if k=i then ({ S.L i with st:=b }:Lng) else S.L k) (S.K j).id S.nL=mh S.L (S.K j).id S.nL by
  have e:(if i<S.nL then 0 else 0)=0:=by split <;> rfl
  rw [e] at h2
  exact h2]
 exact h1
theorem Swg.Ok.waits {S:Swg} (h:S.Ok) (hi:i<S.nL) (hx:x.pF) (hd:dst≠i) (hr:dst=-1∨0≤dst∧dst<S.C.p) (hn:Cnt.Ok S.C (lu S.N i x.p x.cl)) (hnx:S.nx≠1000000000):(S.waits i x dst).Ok:=by
 have hpr:=hx.pr
 have hnl:=h.nl
 have hp4:=h.n.c.num.p
 have hnx1:=h.nums.nx
 obtain ⟨K',eK⟩:∃ K',(fun j=>if j=S.nK then S.pkt i x (oX dst i S.nL) else S.K j)=K':=⟨_,rfl⟩
 have hK:AU S.nK S.K K' S.nx x.p x.cl:=by
  subst eK
  refine ⟨fun j hj=>if_neg (by omega),?_,?_,?_,fun j hj=>?_⟩
  ·
   show (if S.nK=S.nK then S.pkt i x (oX dst i S.nL) else S.K S.nK).id=S.nx
   rw [if_pos rfl];rfl
  ·
   show (if S.nK=S.nK then S.pkt i x (oX dst i S.nL) else S.K S.nK).p=x.p
   rw [if_pos rfl];rfl
  ·
   show (if S.nK=S.nK then S.pkt i x (oX dst i S.nL) else S.K S.nK).cl=x.cl
   rw [if_pos rfl];rfl
  have:=(h.k.one j hj).1.2
  omega
 have hKi:(K' S.nK).inn=(i:Int)∧(K' S.nK).pF∧(K' S.nK).refs=((oX dst i S.nL:Nat):Int):=by
  subst eK
  show (if S.nK=S.nK then S.pkt i x (oX dst i S.nL) else S.K S.nK).inn=_∧(if S.nK=S.nK then S.pkt i x (oX dst i S.nL) else S.K S.nK).pF∧(if S.nK=S.nK then S.pkt i x (oX dst i S.nL) else S.K S.nK).refs=_
  rw [if_pos rfl]
  exact ⟨rfl,hx,rfl⟩
 have hone:∀ j,j<S.nK+1→(1≤(K' j).id∧(K' j).id≤S.nx+1-1)∧(0≤(K' j).inn∧(K' j).inn≤S.C.p-1)∧(K' j).pF:=fun j hj=>by
  by_cases e:j=S.nK
  ·
   subst e
   rw [hK.nid,hKi.1]
   exact ⟨by omega,by omega,hKi.2.1⟩
  rw [hK.same j (by omega)]
  obtain ⟨a,b,c⟩:=h.k.one j (by omega)
  exact ⟨by omega,b,c⟩
 have hsl:iZ K' (S.nK+1)=iZ S.K S.nK+if x.p=2 then 0 else x.cl:=by
  show iZ K' S.nK+(if (K' S.nK).p=2 then 0 else (K' S.nK).cl)=_
  rw [rr (K':=S.K) S.nK (fun j hj=>hK.same j hj),hK.np,hK.ncl]
 have hsu:∀ q:Int,jX K' q (S.nK+1)=jX S.K q S.nK+if x.p=2∧(i:Int)=q then x.cl else 0:=fun q=>by
  show jX K' q S.nK+(if (K' S.nK).p=2∧(K' S.nK).inn=q then (K' S.nK).cl else 0)=_
  rw [sP (K':=S.K) S.nK (fun j hj=>hK.same j hj),hK.np,hK.ncl,hKi.1]
 have hN:(lu S.N (i:Int) x.p x.cl).lo=iZ K' (S.nK+1)∧∀ q,q<(lu S.N (i:Int) x.p x.cl).nU→(lu S.N (i:Int) x.p x.cl).u q=jX K' (q:Int) (S.nK+1):=by
  rw [hsl]
  by_cases e:x.p=2
  ·
   rw [e,mK]
   refine ⟨by rw [if_pos rfl,Int.add_zero];exact h.held.1,fun q hq=>?_⟩
   have hq':q<S.N.nU:=hq
   rw [hsu,e]
   show (if q=i then S.N.u q+x.cl else S.N.u q)=_
   have:=h.held.2 q hq'
   by_cases c:q=i
   ·
    rw [if_pos c,if_pos ⟨rfl,by omega⟩];omega
   rw [if_neg c,if_neg (fun hh=>c (by omega))];omega
  rw [mb e,if_neg e]
  refine ⟨by show S.N.lo+x.cl=_;have:=h.held.1;omega,fun q hq=>?_⟩
  rw [hsu,if_neg (fun hh=>e hh.1),Int.add_zero]
  exact h.held.2 q hq
 have hle:=Dz hn hnl (fun j hj=>(hone j hj).2) hN.1 hN.2
 have hlw:∀ k,k<S.nL→ni (S.nK+1) K' (S.ka i dst x S.nL k):=fun k hk=>by
  unfold Swg.ka
  split
  ·
   exact (h.l k hk).wait hK hpr (fun c hc h2=>(h.room hk hx hc h2).2.1)
  exact (h.l k hk).more hK
 have hshow:(S.waits i x dst)={ S with N:=lu S.N i x.p x.cl,nx:=S.nx+1,nK:=S.nK+1,K:=K',L:=S.ka i dst x S.nL }:=by rw [←eK];rfl
 rw [hshow]
 refine ⟨hn,⟨h.nums.now,by show 1≤S.nx+1∧S.nx+1≤1000000000;omega,h.nums.dr,h.nums.lst⟩,h.seen,⟨hle,hone,fun j hj h0=>?_⟩,h.nl,hlw,fun j hj=>?_,hN⟩
 ·
  show (K' (j-1)).id<(K' j).id
  have hj':j<S.nK+1:=hj
  rw [hK.same (j-1) (by omega)]
  by_cases e:j=S.nK
  ·
   subst e
   rw [hK.nid]
   exact hK.lt _ (by omega)
  rw [hK.same j (by omega)]
  exact h.k.up j (by omega) h0
 have hj':j<S.nK+1:=hj
 show 1≤(K' j).refs∧(K' j).refs=((mh (S.ka i dst x S.nL) (K' j).id S.nL:Nat):Int)
 rw [uN hpr (fun k hk=>(h.l k hk).u) _ S.nL (Nat.le_refl _)]
 by_cases e:j=S.nK
 ·
  subst e
  have hno:mh S.L S.nx S.nL=0:=xu S.nL (fun k hk=>by
   have hl:=h.l k hk
   rw [pI hl.u,vD (hl.t.lt hK),vD ((hl.z 0 (by omega)).1.lt hK),vD ((hl.z 1 (by omega)).1.lt hK)])
  have h1:=DV (dst:=dst) (src:=(i:Int)) (n:=S.nL) (by omega) (by omega) hd (by omega)
  rw [hKi.2.2,hK.nid,hno,if_pos rfl]
  omega
 rw [hK.same j (by omega),if_neg (by have:=hK.lt j (by omega);omega)]
 exact h.refs j (by omega)
theorem CS.ok {S S':Swg} {code:Int} (h:S.Ok) (hm:CS S S' port x code):S'.Ok:=by
 rcases hm with ⟨hn,_⟩ | ⟨_,_,rfl,_⟩ | ⟨_,hfr,i,rfl,hi,hm⟩
 ·
  exact absurd h hn
 ·
  exact h
 rcases hm with ⟨_,rfl,_⟩ | ⟨hk,hm⟩
 ·
  exact h.stop hi _
 have hx:x.pF:=⟨hk,hfr⟩
 have hL:=h.nk hi hx none 0
 rcases hm with ⟨_,rfl,_⟩ | ⟨_,_,rfl,_⟩ | ⟨h1,h2,h3,rfl,_⟩
 ·
  exact hL
 ·
  exact hL.pN _
 exact hL.waits (S:=S.nk i x none 0) hi hx h1 (h.toLt hi hx) h2 h3
