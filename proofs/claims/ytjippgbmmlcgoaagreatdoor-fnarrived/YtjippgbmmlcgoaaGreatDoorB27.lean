import Derived.Test.YtjippgbmmlcgoaaGreatDoorB26
import Derived.Ground.GgzProg
import Derived.Ground.SlgmProg
import Derived.Shelf.SlIterI.Nil
import Derived.Shelf.SortM.Plain
import Derived.Shelf.SortM.SortNone
namespace Go.Proofs.YtjippgbmmlcgoaaGreatDoor
set_option maxRecDepth 100000
set_option maxHeartbeats 9000000
open Go.RowKit
set_option linter.unusedVariables false
set_option linter.unusedSimpArgs false
variable {cs:Array Value} {x y z:Ent} {fn:Func} {code:Int} {L:List Ent} {xs:List Value} {b base g k n nn o sz:Nat} {f:Nat→Ent} {p:Prop} {i j:Tmp} {e t ty:TypeId} {v:Value} {W W' w w':World}
theorem dx (h:p:=by
 go_wp2_with (at_builtin;refine Lib.wpList_append_run _ rfl _ _ _ _ rfl _ _ rfl rfl _ _ hr ?_)
 go_ret
 exact ⟨_,_,rfl,HV.1,HV.2⟩):p:=h
theorem dy (h:p:=by
 clear hs hb3 hlk HQ x1 x2 x3 h20
 go_wp2_with fail
 go_ret
 exact ⟨lR HF.symm,B3⟩):p:=h
theorem dA (h:p:=by
 match j,hj with
 | 0,_=>rfl
 | 1,_=>rfl
 | 2,_=>rfl
 | 3,_=>rfl
 | 4,_=>rfl):p:=h
def zSw:Array Value:=#[.int .i64 0,.int .i64 0,.int .i64 0,.int .i64 0,.int .i64 0,.int .i64 0,.int .i64 0,.int .i64 0,.int .i64 0,.slice none 0 0,.slice none 0 0,.int .i64 0,.slice none 0 0,.slice none 0 0,.slice none 0 0,.int .i64 0,.int .i64 0]
theorem BO:(Tryz.prog.info? 71).map (fun i=>(i.zero,i.size,i.bytes))=some (some (.agg #[.int .i64 0,.int .i64 0,.int .i64 0]),3,24):=by kernel_rfl
theorem yw (a:Option Addr) (n cap:Nat) (f:Nat→Ent) (w:World) (hn:n≤1048576) (h:lD w a n f) :
  Calls Tryz.prog 45 #[.slice a n cap] w fun e w'=>∃ a' c',e=.returned (.slice a' n c')∧OG 71 3 w' w.heap.size a' n c' (jd (iD n f))∧Below w.heap.size w w':=by
 obtain ⟨a',c',W',hr,hv,hb⟩:=rA (c:=cap) 26 71 _ 3 24 BO Tryz.underlying26 rfl (by decide) (by decide) hn (by rw [mZ,jH]) h.cs (xi _)
 have HV:Hid (OG 71 3 W' w.heap.size a' n c' (jd (iD n f))∧Below w.heap.size w W'):=⟨hv,hb⟩
 clear hv hb h
 go_enter Tryz.func45,Tryz.ntmps45
 exact dx
theorem yv (a:Option Addr) (n cap:Nat) (K:Nat→Pkt) (w:World) (hn:n≤1048576) (h:pI w a n K) :
  Calls Tryz.prog 47 #[.slice a n cap] w fun e w'=>∃ a' c',e=.returned (.slice a' n c')∧OG 51 8 w' w.heap.size a' n c' (oe n K)∧Below w.heap.size w w':=by
 obtain ⟨a',c',W',hr,hv,hb⟩:=rA (c:=cap) 31 51 _ 8 72 vp Tryz.underlying31 rfl (by decide) (by decide) hn (mC _ _) h.cs (rH _ _)
 have HV:Hid (OG 51 8 W' w.heap.size a' n c' (oe n K)∧Below w.heap.size w W'):=⟨hv,hb⟩
 clear hv hb h
 go_enter Tryz.func47,Tryz.ntmps47
 exact dx
theorem Dr {cur:Array Value} (hf:o+cs.size≤cur.size) (h:∀ j,j<cs.size→cur[o+j]?=cs[j]?):lay cur o cs=cur:=by
 refine Array.ext_getElem? fun i=>?_
 by_cases h1:i<o
 ·
  exact ox hf i h1
 by_cases h2:i<o+cs.size
 ·
  have:=lv hf (i-o) (by omega)
  rw [show o+(i-o)=i by omega] at this
  rw [this,←h (i-o) (by omega),show o+(i-o)=i by omega]
 unfold lay
 simp only [List.getElem?_toArray]
 rw [List.getElem?_append_right (by simp;omega),List.getElem?_drop,Array.getElem?_toList]
 congr 1
 simp
 omega
theorem Put.same (h:Put w W g cs t) (hg:w.heap[g]?=some (.cells cs t (0,0))):Below w.heap.size w W :=
 ⟨h.to.os,h.to.tape,h.to.output,h.to.size,fun k hk=>by
  by_cases e:k=g
  ·
   subst e;exact h.blk.trans hg.symm
  ·
   exact h.to.block k hk (by simpa using e)⟩
structure CpS (w:World) (S P:Swg) (W:World):Prop where
 x:nJ w S.cells zSw P.cells 34 34 W
 e:OG 71 3 W w.heap.size P.aE P.nE P.cE (jd (iD P.nE P.e))
 n:iN W w.heap.size P.N
 k:OG 51 8 W w.heap.size P.aK P.nK P.cK (oe P.nK P.K)
theorem CpS.up {S P:Swg} (h:CpS w S P W) (hb:Below W.heap.size W W'):CpS w S P W':=⟨h.x.up hb,h.e.up hb,h.n.up hb,h.k.up hb⟩
theorem iN.Gd {N:Cnt} (h:iN w base N) (hg:w.heap[g]?=some (.cells cs t (0,0))) (h2:2≠t) (h4:4≠t) (ht:Touch [g] w w'):iN w' base N :=
 ⟨h.u.iu ht (fun x hx hy=>by rw [List.mem_singleton.1 hy] at hx;exact h.u.nf h2 hg hx),h.p.iu ht (fun x hx hy=>by rw [List.mem_singleton.1 hy] at hx;exact h.p.nf h4 hg hx)⟩
structure CpA (S P:Swg):Prop where
 c:P.C=S.C
 now:P.now=S.now
 nx:P.nx=S.nx
 nE:P.nE=S.nE
 e:P.e=S.e
 n:iR S.N P.N
 nK:P.nK=S.nK
 k:P.K=S.K
 dr:P.dr=S.dr
 lst:P.lst=S.lst
structure zq (w:World) (S P:Swg) (k:Nat) (W:World):Prop where
 s:CpS w S P W
 a:CpA S P
 l:kF W w.heap.size P.aL P.nL P.cL P.L
 un:∀ x∈ku P.N.aU P.N.nU,x∉(List.range P.nL).flatMap fun i=>(P.L i).jN
 nL:P.nL=k
 al:∀ i,i<k→iO (S.L i) (P.L i)
theorem zq.up {S P:Swg} (h:zq w S P k W) (hb:Below W.heap.size W W'):zq w S P k W':=⟨h.s.up hb,h.a,h.l.up hb,h.un,h.nL,h.al⟩
def Swg.more (P:Swg) (k:Nat) (aL:Option Addr) (cL:Nat) (l:Lng):Swg:={ P with aL:=aL,nL:=k+1,cL:=cL,L:=fun i=>if i=k then l else P.L i }
theorem zq.more {S P:Swg} {c2:Nat} {l2:Lng} {V V1 W2:World} (h:zq w S P k V) (hb:Below V.heap.size V V1) (ho:iK V1 V.heap.size l2) (ha:iO (S.L k) l2)
  (hu:OG 47 8 W w.heap.size (some ⟨g,0,none⟩) (k+1) c2 (vM k P.L++l2.cells.toList)) (ht:Touch (iI P.aL) V1 W) (hP:Put W W2 (w.heap.size+1+1) (lay P.cells 14 #[.slice (some ⟨g,0,none⟩) (k+1) c2]) 34):zq w S (P.more k (some ⟨g,0,none⟩) c2 l2) (k+1) W2:=by
 have hk:=h.nL
 have h1:=h.up hb
 have hl:kF V w.heap.size P.aL k P.cL P.L:=hk▸h.l
 have hl1:=hl.up hb
 have hL:=hl.more hb h.s.x.bel.size ho hu ht
 have xa:=(ht.block _ (ig h1.s.x.a) (hl1.l.lM (by decide) h1.s.x.a)).trans h1.s.x.a
 have xb:=(ht.block _ (ig h1.s.x.b) (hl1.l.lM (by decide) h1.s.x.b)).trans h1.s.x.b
 have xc:=(ht.block _ (ig h1.s.x.c) (hl1.l.lM (by decide) h1.s.x.c)).trans h1.s.x.c
 have xB:nJ w S.cells zSw P.cells 34 34 W:=⟨xa,xb,xc,h1.s.x.bel.trans (ht.below h1.s.x.bel.size (fun x hx=>(hl1.l.blk x hx).1)),Nat.le_trans h1.s.x.sz ht.size⟩
 have e1:=h1.s.e.iu ht (h1.s.e.apart hl1.l (by decide))
 have k1:=h1.s.k.iu ht (h1.s.k.apart hl1.l (by decide))
 have n1:iN W w.heap.size P.N:=⟨h1.s.n.u.iu ht (fun x hx hy=>by
   obtain ⟨cs,q⟩:=h1.s.n.u.type x hx
   exact hl1.l.lM (by decide) q hy),h1.s.n.p.iu ht (fun x hx hy=>by
   obtain ⟨cs,q⟩:=h1.s.n.p.type x hx
   exact hl1.l.lM (by decide) q hy)⟩
 refine ⟨⟨xB.put hP,e1.iu hP.to (fun x hx hy=>e1.lM (by decide) xc ((List.mem_singleton.1 hy)▸hx)),n1.Gd xc (by decide) (by decide) hP.to,k1.iu hP.to (fun x hx hy=>k1.lM (by decide) xc ((List.mem_singleton.1 hy)▸hx))⟩,⟨h.a.c,h.a.now,h.a.nx,h.a.nE,h.a.e,h.a.n,h.a.nK,h.a.k,h.a.dr,h.a.lst⟩,hL.box xc (by decide) (by decide) (by decide) hP.to,fun x hx hy=>?_,rfl,fun i hi=>?_⟩
 ·
  have hx1:=(h.s.n.u.blk x hx).2
  simp only [List.mem_flatMap,List.mem_range] at hy
  obtain ⟨i,hi,hy⟩:=hy
  have hy':x∈(if i=k then l2 else P.L i).jN:=hy
  by_cases e:i=k
  ·
   rw [if_pos e] at hy'
   have:=(ho.blk x hy').1
   omega
  rw [if_neg e] at hy'
  have hi':i<k+1:=hi
  exact h.un x hx (by simp only [List.mem_flatMap,List.mem_range];exact ⟨i,by omega,hy'⟩)
 show iO (S.L i) (if i=k then l2 else P.L i)
 by_cases e:i=k
 ·
  rw [if_pos e,e];exact ha
 rw [if_neg e];exact h.al i (by omega)
theorem zq.alike {S P:Swg} (h:zq w S P k W) (hk:S.nL=k):iw S P :=
 ⟨h.a.c,h.a.now,h.a.nx,h.a.nE,h.a.e,h.a.n,h.a.nK,h.a.k,by rw [h.nL,hk],fun i hi=>h.al i (by omega),h.a.dr,h.a.lst⟩
theorem zq.own {S P:Swg} (h:zq w S P k W):iG W w.heap.size P:=⟨h.s.e,h.s.n,h.s.k,h.l,h.un⟩
theorem iG.off {S:Swg} (h:iG w base S) (hg:w.heap[g]?=some (.cells cs 34 (0,0))) (ht:Touch [g] w w'):iG w' base S :=
 ⟨h.e.iu ht (fun x hx hy=>h.e.lM (by decide) hg ((List.mem_singleton.1 hy)▸hx)),h.n.Gd hg (by decide) (by decide) ht,h.k.iu ht (fun x hx hy=>h.k.lM (by decide) hg ((List.mem_singleton.1 hy)▸hx)),h.l.box hg (by decide) (by decide) (by decide) ht,h.un⟩
theorem OG.at0 {a:Option Addr} {c:Nat} (h:OG t sz w base a n c xs) (h0:0<n):∃ g cur,a=some ⟨g,0,none⟩∧w.heap[g]?=some (.cells cur t (0,0))∧n*sz≤cur.size∧∀ j,j<n*sz→cur[j]?=xs[j]?:=by
 rcases h.2 with ⟨e,h1⟩ | ⟨g,cap,cur,e,hg,hbk,hn,hm,hs,ht⟩
 ·
  omega
 cases e
 refine ⟨g,cur,rfl,hbk,?_,fun j hj=>?_⟩
 ·
  rw [hs]
  exact Nat.mul_le_mul_right _ hn
 rw [←ht,List.getElem?_take_of_lt hj,Array.getElem?_toList]
theorem GN {x:Pkt} (h:w.heap[g]?=some (.cells x.cells t (0,0))):∀ j,j<5→w.cell? ⟨g,3+j,none⟩=(#[.int .i64 x.k,.int .i64 x.d,.int .i64 x.s,.int .i64 x.p,.string x.b]:Array Value)[j]?:=by
 intro j hj
 rw [ie h]
 exact dA
theorem Gx (x:Pkt) (j:Nat) (hj:j<5):x.cells[3+j]?=(#[.int .i64 x.k,.int .i64 x.d,.int .i64 x.s,.int .i64 x.p,.string x.b]:Array Value)[j]?:=dA
theorem tv (S:Swg) (w:World) (hs:S.Small) (hU:0<S.N.nU) (hPp:0<S.N.nP) (h:lr w S) :
  Calls Tryz.prog 18 #[.agg S.cells] w fun e w'=>∃ S2,e=.returned (.agg S2.cells)∧iw S S2∧iG w' w.heap.size S2∧Below w.heap.size w w':=by
 have HR:=aa h
 have HS:=aa hs
 have HU0:Hid (0<S.N.nU∧0<S.N.nP):=⟨hU,hPp⟩
 clear h hs hU hPp
 obtain ⟨W0,eW⟩:∃ W,(((w.alloc (.cells S.cells 34)).alloc (.cells ab 34)).alloc (.cells ab 34))=W:=⟨_,rfl⟩
 have HX:Hid (nJ w S.cells ab ab 34 34 W0):=by rw [←eW];exact nJ.start _ _ _ _ _ _
 have HL0:Hid (∀ j,j<17→((w.alloc (.cells S.cells 34)).alloc (.cells ab 34)).cell? ⟨w.heap.size,0+j,none⟩=S.cells[j]?):=fun j _=>by rw [Nat.zero_add];exact ie (Two.start w S.cells ab 34).a j
 have HC:=aa HX.c
 go_enter Tryz.func18,Tryz.ntmps18
 go_wp2_with (first | refine ir rfl 34 17 _ Tryz.underlying34 rfl iA (.tmp 1) rfl w.heap.size 0 rfl S.cells rfl HL0.out ?_ | refine iq rfl 34 (.tmp 3) (.tmp 8) rfl (w.heap.size+1+1) 0 rfl (.agg S.cells) rfl 17 rfl 34 _ HC iA (Nat.le_of_ble_eq_true rfl) (Swg.lF _) ?_)
 clear HL0
 intro W1 hP
 clear eW
 replace hP:=hP.cast (cs':=#[.int .i64 S.C.p,.int .i64 S.C.c,.int .i64 S.C.xo,.int .i64 S.C.xn,.int .i64 S.C.hd,.int .i64 S.C.lo,.int .i64 S.C.dl,.int .i64 S.now,.int .i64 S.nx,.slice S.aE S.nE S.cE,.slice S.N.aU S.N.nU S.N.cU,.int .i64 S.N.lo,.slice S.N.aP S.N.nP S.N.cP,.slice S.aK S.nK S.cK,.slice S.aL S.nL S.cL,.int .i64 S.dr,.int .i64 S.lst]) rfl
 replace HX:=aa (HX.put hP)
 have T1:Touch [w.heap.size+1,w.heap.size+1+1] W0 W1:=hP.to.mono (fun x hx=>by simp at hx;simp [hx])
 clear hP HC 
 have c9:W1.cell? ⟨w.heap.size,9,none⟩=some (.slice S.aE S.nE S.cE):=ie HX.a 9
 go_wp2_with fail
 refine (yw S.aE S.nE S.cE S.e _ HS.e (HR.e.up HX.bel)).mono ?_
 rintro e we ⟨aE,cE,rfl,rE,hb⟩
 clear c9
 have sE:=HX.sz
 replace HX:=aa (HX.up hb)
 have T2:Touch [w.heap.size+1,w.heap.size+1+1] W1 we:=Touch.jq hb
 clear hb
 have HC:=HX.c
 replace HC:=aa HC
 go_wp2_with (refine iq rfl 26 (.tmp 12) (.tmp 11) rfl (w.heap.size+1+1) 9 rfl (.slice aE S.nE cE) rfl 1 rfl 34 _ HC uh (Nat.le_of_ble_eq_true rfl) (by simp [Value.cells,Value.oneCell',Rnd.cells,Cfg.cells,Cnt.cells]) ?_)
 intro W3 hP
 replace hP:=hP.cast (cs':=#[.int .i64 S.C.p,.int .i64 S.C.c,.int .i64 S.C.xo,.int .i64 S.C.xn,.int .i64 S.C.hd,.int .i64 S.C.lo,.int .i64 S.C.dl,.int .i64 S.now,.int .i64 S.nx,.slice aE S.nE cE,.slice S.N.aU S.N.nU S.N.cU,.int .i64 S.N.lo,.slice S.N.aP S.N.nP S.N.cP,.slice S.aK S.nK S.cK,.slice S.aL S.nL S.cL,.int .i64 S.dr,.int .i64 S.lst]) rfl
 replace HX:=aa (HX.put hP)
 have T3:Touch [w.heap.size+1,w.heap.size+1+1] we W3:=hP.to.mono (fun x hx=>by simp at hx;simp [hx])
 clear hP HC 
 have c10:W3.cell? ⟨w.heap.size,10,none⟩=some (.slice S.N.aU S.N.nU S.N.cU):=ie HX.a 10
 have c11:W3.cell? ⟨w.heap.size,11,none⟩=some (.int .i64 S.N.lo):=ie HX.a 11
 have c12:W3.cell? ⟨w.heap.size,12,none⟩=some (.slice S.N.aP S.N.nP S.N.cP):=ie HX.a 12
 go_wp2_with fail
 refine (mM S.N _ HU0.1 HU0.2 HS.n (HR.n.up HX.bel)).mono ?_
 rintro e wn ⟨M,rfl,rN,hb,aN⟩
 clear c10 c11 c12
 have sN:=HX.sz
 replace HX:=aa (HX.up hb)
 have T4:Touch [w.heap.size+1,w.heap.size+1+1] W3 wn:=Touch.jq hb
 clear hb
 have HC:=HX.c
 replace HC:=aa HC
 go_wp2_with (refine iq rfl 30 (.tmp 16) (.tmp 15) rfl (w.heap.size+1+1) 10 rfl (.agg M.cells) rfl 3 rfl 34 _ HC Eh (Nat.le_of_ble_eq_true rfl) (by simp [Value.cells,Value.oneCell',Rnd.cells,Cfg.cells,Cnt.cells]) ?_)
 intro W5 hP
 replace hP:=hP.cast (cs':=#[.int .i64 S.C.p,.int .i64 S.C.c,.int .i64 S.C.xo,.int .i64 S.C.xn,.int .i64 S.C.hd,.int .i64 S.C.lo,.int .i64 S.C.dl,.int .i64 S.now,.int .i64 S.nx,.slice aE S.nE cE,.slice M.aU M.nU M.cU,.int .i64 M.lo,.slice M.aP M.nP M.cP,.slice S.aK S.nK S.cK,.slice S.aL S.nL S.cL,.int .i64 S.dr,.int .i64 S.lst]) rfl
 replace HX:=aa (HX.put hP)
 have T5:Touch [w.heap.size+1,w.heap.size+1+1] wn W5:=hP.to.mono (fun x hx=>by simp at hx;simp [hx])
 clear hP HC 
 have c13:W5.cell? ⟨w.heap.size,13,none⟩=some (.slice S.aK S.nK S.cK):=ie HX.a 13
 go_wp2_with fail
 refine (yv S.aK S.nK S.cK S.K _ HS.k (HR.k.up HX.bel)).mono ?_
 rintro e wk ⟨aK,cK,rfl,rK,hb⟩
 clear c13
 have sK:=HX.sz
 replace HX:=aa (HX.up hb)
 have T6:Touch [w.heap.size+1,w.heap.size+1+1] W5 wk:=Touch.jq hb
 clear hb
 have HC:=HX.c
 replace HC:=aa HC
 go_wp2_with (refine iq rfl 31 (.tmp 20) (.tmp 19) rfl (w.heap.size+1+1) 13 rfl (.slice aK S.nK cK) rfl 1 rfl 34 _ HC Eg (Nat.le_of_ble_eq_true rfl) (by simp [Value.cells,Value.oneCell',Rnd.cells,Cfg.cells,Cnt.cells]) ?_)
 intro W7 hP
 replace hP:=hP.cast (cs':=#[.int .i64 S.C.p,.int .i64 S.C.c,.int .i64 S.C.xo,.int .i64 S.C.xn,.int .i64 S.C.hd,.int .i64 S.C.lo,.int .i64 S.C.dl,.int .i64 S.now,.int .i64 S.nx,.slice aE S.nE cE,.slice M.aU M.nU M.cU,.int .i64 M.lo,.slice M.aP M.nP M.cP,.slice aK S.nK cK,.slice S.aL S.nL S.cL,.int .i64 S.dr,.int .i64 S.lst]) rfl
 replace HX:=aa (HX.put hP)
 have T7:Touch [w.heap.size+1,w.heap.size+1+1] wk W7:=hP.to.mono (fun x hx=>by simp at hx;simp [hx])
 clear hP HC 
 obtain ⟨P,eP⟩:∃ P,(⟨S.C,S.now,S.nx,aE,S.nE,cE,S.e,M,aK,S.nK,cK,S.K,S.aL,S.nL,S.cL,S.L,S.dr,S.lst⟩:Swg)=P:=⟨_,rfl⟩
 have e3:#[.int .i64 S.C.p,.int .i64 S.C.c,.int .i64 S.C.xo,.int .i64 S.C.xn,.int .i64 S.C.hd,.int .i64 S.C.lo,.int .i64 S.C.dl,.int .i64 S.now,.int .i64 S.nx,.slice aE S.nE cE,.slice M.aU M.nU M.cU,.int .i64 M.lo,.slice M.aP M.nP M.cP,.slice aK S.nK cK,.slice S.aL S.nL S.cL,.int .i64 S.dr,.int .i64 S.lst]=P.cells:=by rw [←eP];rfl
 rw [e3] at HX
 clear e3
 have hlow:∀ x∈[w.heap.size+1,w.heap.size+1+1],x<w.heap.size+1+1+1:=by intro x hx;simp at hx;omega
 have HA:Hid (CpA S P):=by rw [←eP];exact ⟨rfl,rfl,rfl,rfl,rfl,aN,rfl,rfl,rfl,rfl⟩
 have HP:Hid (CpS w S P W7∧P.nK=S.nK∧P.K=S.K):=by
  rw [←eP] at HX ⊢
  exact ⟨⟨HX,OG.mono (rE.low ((((T3.trans T4).trans T5).trans T6).trans T7) (fun x hx=>by have:=hlow x hx;omega)) (by omega),iN.mono (rN.kk ((T5.trans T6).trans T7) (fun x hx=>by have:=hlow x hx;omega)) (by omega),OG.mono (rK.low T7 (fun x hx=>by have:=hlow x hx;omega)) (by omega)⟩,rfl,rfl⟩
 clear HX eP rE rN rK aN sE sN sK hlow T1 T2 T3 T4 T5 T6 T7
 have HU:=aa HR.k
 obtain ⟨aK0,eU⟩:∃ a,S.aK=a:=⟨_,rfl⟩
 have c13:W7.cell? ⟨w.heap.size,13,none⟩=some (.slice aK0 S.nK S.cK):=by rw [←eU];exact ie HP.1.x.a 13
 rw [eU] at HU
 clear eU
 have hnk:=HS.k
 go_wp2_with fail
 clear c13
 go_loopw [24] (fun i wr=>∃ k:Nat,k≤S.nK∧i=.int .i64 k∧Hid (CpS w S P wr∧P.nK=S.nK∧P.K=S.K)) (fun i _=>S.nK-(intOf i).toNat)
 case atStart=>exact ⟨0,Nat.zero_le _,rfl,HP⟩
 clear HP
 obtain ⟨k,hk,rfl,HP⟩:=hrel
 by_cases hlt:k<S.nK
 ·
  have hlt':(k:Int)<S.nK:=by omega
  obtain ⟨g0,o0,ea,hc⟩:=(HU.up HP.1.x.bel) k hlt
  subst ea
  have HCk:=aa hc
  clear hc
  have HG:Hid ((wr.alloc (.cells #[.int .i64 0,.int .i64 0,.int .i64 0,.int .i64 0,.int .i64 0,.int .i64 0,.int .i64 0,.string ⟨#[]⟩] 51)).heap[wr.heap.size]?=some (.cells #[.int .i64 0,.int .i64 0,.int .i64 0,.int .i64 0,.int .i64 0,.int .i64 0,.int .i64 0,.string ⟨#[]⟩] 51 (0,0))):=im _ _
  go_wp2_with (first | refine ir rfl 51 8 _ Tryz.underlying51 rfl sM (.tmp 27) rfl g0 (o0+k*8) rfl (S.K k).cells rfl HCk.out ?_ | refine iq rfl 51 (.tmp 5) (.tmp 28) rfl wr.heap.size 0 rfl (.agg (S.K k).cells) rfl 8 rfl 51 _ HG sM (Nat.le_of_ble_eq_true rfl) (Pkt.lF _) ?_)
  intro X0 hP
  replace hP:Put _ X0 wr.heap.size (S.K k).cells 51:=hP.cast rfl
  have hb:Below wr.heap.size wr X0:=((Below.refl _ _).alloc (Nat.le_refl _) _).trans (hP.to.below (by simp) (fun x hx=>by simp at hx;omega))
  have kP:=hP.blk
  replace HP:Hid (CpS w S P X0∧P.nK=S.nK∧P.K=S.K):=⟨HP.1.up hb,HP.2⟩
  clear hP hb HG HCk
  obtain ⟨gP,egP⟩:∃ g,wr.heap.size=g:=⟨_,rfl⟩
  rw [egP] at kP ⊢
  clear egP
  go_wp2_with fail
  refine jc (fun w'=>w'.heap[w.heap.size+1+1]?=some (.cells P.cells 34 (0,0))∧w'.heap[gP]?=some (.cells (S.K k).cells 51 (0,0))) 8 (by kernel_rfl) ?_
  have hd:Below X0.heap.size X0 X0.drew:=(Below.refl _ _).drew
  replace HP:Hid (CpS w S P X0.drew∧P.nK=S.nK∧P.K=S.K):=⟨HP.1.up hd,HP.2⟩
  replace kP:=(hd.block _ (ig kP)).trans kP
  clear hd
  generalize X0.drew=V at *
  obtain ⟨gK,cur,eaK,hkK,hsK,hcK⟩:=HP.1.k.at0 (by rw [HP.2.1];omega)
  rw [HP.2.1,HP.2.2] at hcK
  rw [HP.2.1] at hsK
  have HaK:=aa eaK
  have HcK:=aa hcK
  clear eaK hcK
  have hT0:V.heap[w.heap.size+1+1]?=some (.cells P.cells 34 (0,0))∧V.heap[gP]?=some (.cells (S.K k).cells 51 (0,0)):=⟨HP.1.x.c,kP⟩
  refine tE 0 29 hT0 ?_
  refine kE (i:=1) (some 30) (v:=?_) ?_ hT0 ?_
  rotate_left
  ·
   intro wx hSw
   have c13:wx.cell? ⟨w.heap.size+1+1,13,none⟩=some (.slice (some ⟨gK,0,none⟩) S.nK P.cK):=by rw [ie hSw.1 13,←HaK.out,←HP.2.1];rfl
   go_simp
   try with_reducible rfl
  try simp only [Act.put,PZ]
  refine tE 2 31 hT0 ?_
  refine tE 3 32 hT0 ?_
  refine kE (i:=4) (some 33) (v:=.agg #[.int .i64 (S.K k).k,.int .i64 (S.K k).d,.int .i64 (S.K k).s,.int .i64 (S.K k).p,.string (S.K k).b]) ?_ hT0 ?_
  ·
   intro wx hSw
   exact jg 36 5 _ Tryz.underlying36 rfl jC (.tmp 32) rfl gP 3 rfl _ rfl (fun j hj=>GN hSw.2 j hj)
  try simp only [Act.put,PZ]
  refine il (rs:=[5]) (by kernel_rfl) (by simp) ?_
  refine ij.cons rfl (fun K hK=>?_) ij.nil
  go_simp
  refine (qn _ _ _ _ _ _ (HS.b k hlt)).mono ?_
  rintro e X1 ⟨rfl,hb⟩
  replace HP:Hid (CpS w S P X1∧P.nK=S.nK∧P.K=S.K):=⟨HP.1.up hb,HP.2⟩
  replace kP:=(hb.block _ (ig kP)).trans kP
  replace hkK:=(hb.block _ (ig hkK)).trans hkK
  clear hb hT0
  go_wp2_with fail
  refine hK _ _ ⟨HP.1.x.c,kP⟩ ?_
  clear hK K
  try simp only [Act.put,PZ]
  have hT0:X1.heap[w.heap.size+1+1]?=some (.cells P.cells 34 (0,0))∧X1.heap[gP]?=some (.cells (S.K k).cells 51 (0,0)):=⟨HP.1.x.c,kP⟩
  refine il (rs:=[6]) (by kernel_rfl) (by simp) ?_
  refine ij.cons rfl (fun K hK=>?_) ij.nil
  go_simp
  refine hK _ _ hT0 ?_
  clear hK K
  try simp only [Act.put,PZ]
  refine il (rs:=[7]) (by kernel_rfl) (by simp) ?_
  refine ij.cons rfl (fun K hK=>?_) ij.nil
  go_simp
  refine hK _ _ hT0 ?_
  clear hK K
  try simp only [Act.put,PZ]
  refine il (rs:=[8]) (by kernel_rfl) (by simp) ?_
  refine ij.last rfl (fun K hK=>?_)
  refine jn (by kernel_rfl) none rfl 36 (.tmp 36) (.tmp 34) rfl gK (k*8+3) (by simp [Act.eval]) (.agg #[.int .i64 (S.K k).k,.int .i64 (S.K k).d,.int .i64 (S.K k).s,.int .i64 (S.K k).p,.string (S.K k).b]) rfl 5 rfl 51 _ hkK jC (by omega) (by simp [Value.cells,Value.oneCell']) ?_
  intro X2 hP
  refine ah (hK _ _) ?_
  clear hK K
  refine iQ (by kernel_rfl) ?_ _
  replace hP:Put X1 X2 gK cur 51:=hP.cast (Dr (by show k*8+3+5≤_;omega) (fun j hj=>by
   have hj5:j<5:=hj
   have h8:=HcK (k*8+(3+j)) (by omega)
   rw [uP _ _ _ _ hlt (by omega)] at h8
   rw [Nat.add_assoc,h8]
   exact Gx (S.K k) j hj5))
  have HN:Hid (CpS w S P X2∧P.nK=S.nK∧P.K=S.K):=⟨HP.1.up (hP.same hkK),HP.2⟩
  clear hP kP hkK HP HaK HcK hsK hT0
  go_wp2_with fail
  go_roundw
  case rel=>exact ⟨k+1,by omega,by go_num,HN⟩
  case measure=>simp [intOf];omega
 obtain rfl:k=S.nK:=by omega
 have HC:=aa HP.1.x.c
 go_wp2_with (refine iq rfl 32 (.tmp 38) (.const (.slice none 0 0)) rfl (w.heap.size+1+1) 14 rfl (.slice none 0 0) rfl 1 rfl 34 _ HC yX (Nat.le_of_ble_eq_true rfl) (by simp [Value.cells,Value.oneCell']) ?_)
 intro X0 hP
 obtain ⟨P1,eP1⟩:∃ P1,({ P with aL:=none,nL:=0,cL:=0 }:Swg)=P1:=⟨_,rfl⟩
 replace hP:Put wr X0 (w.heap.size+1+1) P1.cells 34:=hP.cast (by rw [←eP1];rfl)
 have HP1:Hid (zq w S P1 0 X0):=by
  have q:=HP.1
  rw [←eP1] at hP ⊢
  exact ⟨⟨q.x.put hP,q.e.iu hP.to (fun x hx hy=>q.e.lM (by decide) q.x.c ((List.mem_singleton.1 hy)▸hx)),q.n.Gd q.x.c (by decide) (by decide) hP.to,q.k.iu hP.to (fun x hx hy=>q.k.lM (by decide) q.x.c ((List.mem_singleton.1 hy)▸hx))⟩,⟨HA.c,HA.now,HA.nx,HA.nE,HA.e,HA.n,HA.nK,HA.k,HA.dr,HA.lst⟩,kF.nil _ _ _,fun x hx hy=>by simp at hy,rfl,fun i hi=>absurd hi (Nat.not_lt_zero _)⟩
 clear hP HC HP eP1 HA HU
 have HU:=aa HR.l
 obtain ⟨aL0,eU⟩:∃ a,S.aL=a:=⟨_,rfl⟩
 have c14:X0.cell? ⟨w.heap.size,14,none⟩=some (.slice aL0 S.nL S.cL):=by rw [←eU];exact ie HP1.s.x.a 14
 rw [eU] at HU
 clear eU
 have hnl:=HS.l
 go_wp2_with fail
 clear c14
 go_loopw [42] (fun i wr=>∃ (k:Nat) (P:Swg),k≤S.nL∧i=.int .i64 k∧Hid (zq w S P k wr)) (fun i _=>S.nL-(intOf i).toNat)
 case atStart=>exact ⟨0,P1,Nat.zero_le _,rfl,HP1⟩
 clear HP1
 obtain ⟨k,P,hk,rfl,HP⟩:=hrel
 by_cases hlt:k<S.nL
 ·
  have hlt':(k:Int)<S.nL:=by omega
  obtain ⟨g0,o0,ea,hc⟩:=(HU.up HP.s.x.bel) k hlt
  have HP0:Hid (∀ x∈iI P.aL,x<wr.heap.size):=fun x hx=>(HP.l.l.blk x hx).2
  subst ea
  have HCk:=aa hc
  clear hc
  have HG:Hid ((wr.alloc (.cells af 47)).heap[wr.heap.size]?=some (.cells af 47 (0,0))):=im _ _
  go_wp2_with (first | refine ir rfl 47 8 _ Tryz.underlying47 rfl jT (.tmp 44) rfl g0 (o0+k*8) rfl (S.L k).cells rfl HCk.out ?_ | refine iq rfl 47 (.tmp 7) (.tmp 45) rfl wr.heap.size 0 rfl (.agg (S.L k).cells) rfl 8 rfl 47 _ HG jT (Nat.le_of_ble_eq_true rfl) (Lng.lF _) ?_)
  intro X0 hP
  replace hP:Put _ X0 wr.heap.size (S.L k).cells 47:=hP.cast rfl
  have hb:Below wr.heap.size wr X0:=((Below.refl _ _).alloc (Nat.le_refl _) _).trans (hP.to.below (by simp) (fun x hx=>by simp at hx;omega))
  have kL:=hP.blk
  replace HP:=aa (HP.up hb)
  have HPl:Hid (∀ x∈iI P.aL,x<wr.heap.size):=fun x hx=>(HP0 x hx)
  clear hP hb HG HCk HP0
  obtain ⟨gL,egL⟩:∃ g,wr.heap.size=g:=⟨_,rfl⟩
  rw [egL] at kL HPl ⊢
  clear egL
  go_wp2_with fail
  refine jc (fun w'=>w'.heap[w.heap.size+1+1]?=some (.cells P.cells 34 (0,0))∧w'.heap[gL]?=some (.cells (S.L k).cells 47 (0,0))) 7 (by kernel_rfl) ?_
  have hd:Below X0.heap.size X0 X0.drew:=(Below.refl _ _).drew
  replace HP:=aa (HP.up hd)
  replace kL:=(hd.block _ (ig kL)).trans kL
  clear hd
  generalize X0.drew=V at *
  have hT0:V.heap[w.heap.size+1+1]?=some (.cells P.cells 34 (0,0))∧V.heap[gL]?=some (.cells (S.L k).cells 47 (0,0)):=⟨HP.s.x.c,kL⟩
  refine tE 0 46 hT0 ?_
  refine kE (i:=1) (some 47) (v:=?_) ?_ hT0 ?_
  rotate_left
  ·
   intro wx hSw
   have c14:wx.cell? ⟨w.heap.size+1+1,14,none⟩=some (.slice P.aL k P.cL):=by rw [ie hSw.1 14,←HP.nL];rfl
   go_simp
   try with_reducible rfl
  try simp only [Act.put,PZ]
  refine kE (i:=2) (some 48) (v:=.agg (S.L k).cells) ?_ hT0 ?_
  ·
   intro wx hSw
   exact jg 47 8 _ Tryz.underlying47 rfl jT (.tmp 7) rfl gL 0 rfl _ rfl (fun j _=>by rw [Nat.zero_add];exact ie hSw.2 j)
  try simp only [Act.put,PZ]
  refine il (rs:=[3]) (by kernel_rfl) (by simp) ?_
  refine ij.cons rfl (fun K hK=>?_) ij.nil
  go_simp
  refine (xr (S.L k) _ (HS.ls k hlt) ((HR.ls k hlt).up HP.s.x.bel)).mono ?_
  rintro e X1 ⟨l2,rfl,al2,ol2,hb⟩
  have HA1:Hid (iO (S.L k) l2∧iK X1 V.heap.size l2∧Below V.heap.size V X1):=⟨al2,ol2,hb⟩
  have Q1:=HP.up hb
  have hu0:OG 47 8 X1 w.heap.size P.aL k P.cL (vM k P.L):=by have:=Q1.l.l;rw [HP.nL] at this;exact this
  obtain ⟨g1,c3,X3,hr,hu,ht,hg⟩:=lH 32 47 _ 8 144 BK Tryz.underlying32 rfl (by decide) (by decide) hu0 (by omega) (Nat.le_trans HP.s.x.bel.size hb.size) l2.cells rfl (Lng.lF _)
  have LN:l2.cells=#[.bool l2.st,.slice l2.aT l2.nT l2.cT,.slice l2.aU l2.nU l2.cU,.slice l2.R.aQ l2.R.nQ l2.R.cQ,.slice l2.R.aD l2.R.nD l2.R.cD,.int .i64 l2.R.turn,.bool l2.R.fresh,.slice l2.R.aS l2.R.nS l2.R.cS]:=rfl
  rw [LN] at hr ⊢
  have kL1:=(hb.block _ (ig kL)).trans kL
  have hT1:X1.heap[w.heap.size+1+1]?=some (.cells P.cells 34 (0,0))∧X1.heap[gL]?=some (.cells (S.L k).cells 47 (0,0)):=⟨Q1.s.x.c,kL1⟩
  have hT2:(X1.alloc (.cells #[.bool l2.st,.slice l2.aT l2.nT l2.cT,.slice l2.aU l2.nU l2.cU,.slice l2.R.aQ l2.R.nQ l2.R.cQ,.slice l2.R.aD l2.R.nD l2.R.cD,.int .i64 l2.R.turn,.bool l2.R.fresh,.slice l2.R.aS l2.R.nS l2.R.cS] 47)).heap[w.heap.size+1+1]?=some (.cells P.cells 34 (0,0))∧(X1.alloc (.cells #[.bool l2.st,.slice l2.aT l2.nT l2.cT,.slice l2.aU l2.nU l2.cU,.slice l2.R.aQ l2.R.nQ l2.R.cQ,.slice l2.R.aD l2.R.nD l2.R.cD,.int .i64 l2.R.turn,.bool l2.R.fresh,.slice l2.R.aS l2.R.nS l2.R.cS] 47)).heap[gL]?=some (.cells (S.L k).cells 47 (0,0)):=⟨(iH _ (ig hT1.1)).trans hT1.1,(iH _ (ig hT1.2)).trans hT1.2⟩
  have hnL:gL∉iI P.aL:=fun hx=>by have:=(HPl gL hx);omega
  have hT3:X3.heap[w.heap.size+1+1]?=some (.cells P.cells 34 (0,0))∧X3.heap[gL]?=some (.cells (S.L k).cells 47 (0,0)):=⟨(ht.block _ (ig hT1.1) (hu0.lM (by decide) hT1.1)).trans hT1.1,(ht.block _ (ig hT1.2) hnL).trans hT1.2⟩
  have HN3:Hid (OG 47 8 X3 w.heap.size (some ⟨g1,0,none⟩) (k+1) c3 (vM k P.L++l2.cells.toList)∧Touch (iI P.aL) X1 X3):=⟨hu,ht⟩
  have HR3:=aa hr
  clear al2 ol2 hb Q1 hu0 hr hu ht hg hT0 kL1 hnL kL LN
  go_wp2_with fail
  refine hK _ _ hT1 ?_
  clear hK K
  try simp only [Act.put,PZ]
  refine il (rs:=[4]) (by kernel_rfl) (by simp) ?_
  refine ij.cons rfl (fun K hK=>?_) ij.nil
  go_simp
  refine hK _ _ hT2 ?_
  clear hK K
  try simp only [Act.put,PZ]
  refine il (rs:=[5]) (by kernel_rfl) (by simp) ?_
  refine ij.cons rfl (fun K hK=>?_) ij.nil
  refine kg (by kernel_rfl) (some 51) rfl (.tmp 47) (.tmp 50) 32 _ _ _ rfl rfl rfl rfl HR3.out ?_
  refine hK _ _ hT3 ?_
  clear hK K hT2 HR3 hT1
  try simp only [Act.put,PZ]
  have hT0:=hT3
  refine tE 6 52 hT0 ?_
  refine il (rs:=[7]) (by kernel_rfl) (by simp) ?_
  refine ij.last rfl (fun K hK=>?_)
  refine jn (by kernel_rfl) none rfl 32 (.tmp 52) (.tmp 51) rfl (w.heap.size+1+1) 14 rfl (.slice (some ⟨g1,0,none⟩) (k+1) c3) rfl 1 rfl 34 _ hT3.1 yX (Nat.le_of_ble_eq_true rfl) (by simp [Value.cells,Value.oneCell']) ?_
  intro X4 hP
  refine ah (hK _ _) ?_
  clear hK K
  refine iQ (by kernel_rfl) ?_ _
  have HN:=aa (HP.more HA1.2.2 HA1.2.1 HA1.1 HN3.1 HN3.2 hP)
  clear hP hT0 hT3 HN3 HA1 HP HPl
  go_wp2_with fail
  go_roundw
  case rel=>exact ⟨k+1,_,by omega,by go_num,HN⟩
  case measure=>simp [intOf];omega
 obtain rfl:k=S.nL:=by omega
 have HL:Hid (∀ j,j<17→wr.cell? ⟨w.heap.size+1+1,0+j,none⟩=P.cells[j]?):=fun j _=>by rw [Nat.zero_add];exact ie HP.s.x.c j
 have HD:=aa HP.s.x.b
 go_wp2_with (first | refine ir rfl 34 17 _ Tryz.underlying34 rfl iA (.tmp 3) rfl (w.heap.size+1+1) 0 rfl P.cells rfl HL.out ?_ | refine iq rfl 34 (.tmp 2) (.tmp 54) rfl (w.heap.size+1) 0 rfl (.agg P.cells) rfl 17 rfl 34 _ HD iA (Nat.le_of_ble_eq_true rfl) (Swg.lF _) ?_)
 intro X hP
 replace hP:Put wr X (w.heap.size+1) P.cells 34:=hP.cast rfl
 have HK:=aa hP.blk
 have HF:Hid (iw S P∧iG X w.heap.size P∧Below w.heap.size w X):=⟨HP.alike rfl,HP.own.off HD hP.to,(HP.s.x.out hP).bel⟩
 clear hP HL HD HP
 go_wp2_with fail
 exact bodyPost_ret (ll Tryz.results18 17 _ Tryz.underlying34 rfl iA _ _ (w.heap.size+1) P.cells rfl 34 HK.out rfl) rfl ⟨P,rfl,HF.1,HF.2.1,HF.2.2⟩
theorem iG.up {S:Swg} (h:iG w base S) (hb:Below w.heap.size w w'):iG w' base S:=⟨h.e.up hb,h.n.up hb,h.k.up hb,h.l.up hb,h.un⟩
theorem iG.mono {base':Nat} {S:Swg} (h:iG w base S) (hb:base'≤base):iG w base' S:=⟨h.e.mono hb,h.n.mono hb,h.k.mono hb,h.l.mono hb,h.un⟩
theorem iw.refl (S:Swg):iw S S:=⟨rfl,rfl,rfl,rfl,rfl,iR.refl _,rfl,rfl,rfl,fun i _=>iO.refl _,rfl,rfl⟩
def lY:Swg:=⟨⟨0,0,0,0,0,0,0⟩,0,0,none,0,0,fun _=>default,⟨none,0,0,fun _=>0,0,none,0,0,fun _=>false⟩,none,0,0,fun _=>⟨0,0,0,0,0,0,0,⟨#[]⟩⟩,none,0,0,fun _=>⟨false,none,0,0,fun _=>0,none,0,0,fun _=>none,fun _=>0,fun _=>0,fun _ _=>0,⟨none,0,0,fun _=>0,none,0,0,fun _=>0,0,false,none,0,0,fun _=>none,fun _=>0,fun _=>0,fun _ _=>0⟩⟩,0,0⟩
theorem rG (w:World) (base:Nat):iG w base lY:=⟨OG.nil _ _ _ _,⟨.inl rfl,.inl rfl⟩,OG.nil _ _ _ _,kF.nil _ _ _,fun x hx=>by simp [ku,lY] at hx⟩
theorem jO (h:fn.results=#[.cell i ty,.tmp j]) (n:Nat) (d:TypeDesc) (hu:Tryz.prog.underlying ty=some d) (hd:d.isRow=true) (hn:(Tryz.prog.info? ty).map (·.size)=some n) (tmps:Array Value) (w:World) (g:Nat) (cs:Array Value) (hi:tmps[i]?.getD undef=.pointer (some ⟨g,0,none⟩)) (t:TypeId) (hk:w.heap[g]?=some (.cells cs t (0,0))) (hs:cs.size=n) (v:Value) (hv:tmps[j]?.getD undef=v) :
  (results fn tmps).run Tryz.prog w=.ok (.tuple #[.agg cs,v]) w:=by
 have:=run_loadVar_mid (P:=Tryz.prog) w g 0 ty cs.toList d (fun j v hv=>by
  rw [Nat.zero_add,ie hk,←Array.getElem?_toList];exact hv) hu hd (by rw [hn,Array.length_toList,hs])
 rw [Array.toArray_toList] at this
 simp [results,h,hi,hv,asAddr,this]
theorem yK {S:Swg} (h:S.Ok):mA S.nE S.e∧0≤S.now∧S.now≤1000000000∧0<S.N.nU∧0<S.N.nP:=by
 have h1:=h.n.c.num.p
 have h2:=h.n.nP
 have h3:=h.n.nU
 exact ⟨h.seen.1,h.nums.now.1,h.nums.now.2,by omega,by omega⟩
theorem tU {k:Tmp} (h:fn.results=#[.cell i ty,.tmp j,.tmp k]) (n:Nat) (d:TypeDesc) (hu:Tryz.prog.underlying ty=some d) (hd:d.isRow=true) (hn:(Tryz.prog.info? ty).map (·.size)=some n) (tmps:Array Value) (w:World) (g:Nat) (cs:Array Value) (hi:tmps[i]?.getD undef=.pointer (some ⟨g,0,none⟩)) (t:TypeId) (hk:w.heap[g]?=some (.cells cs t (0,0))) (hs:cs.size=n) (v:Value) (hv:tmps[j]?.getD undef=v) (u:Value) (hu2:tmps[k]?.getD undef=u) :
  (results fn tmps).run Tryz.prog w=.ok (.tuple #[.agg cs,v,u]) w:=by
 have:=run_loadVar_mid (P:=Tryz.prog) w g 0 ty cs.toList d (fun j v hv=>by
  rw [Nat.zero_add,ie hk,←Array.getElem?_toList];exact hv) hu hd (by rw [hn,Array.length_toList,hs])
 rw [Array.toArray_toList] at this
 simp [results,h,hi,hv,hu2,asAddr,this]
theorem jA {ops:Array Oper} {rest:List Oper} {o:Oper} {a:Act} {Q:Exit→Act→World→Prop} (hw:Region.wanted o (yielded ops a.tmps)=true) (ty:TypeId) (n:Nat) (d:TypeDesc) (hu:Tryz.prog.underlying ty=some d) (hd:d.isRow=true) (hi:(Tryz.prog.info? ty).map (·.size)=some n) (x:Operand) (ho:o.op=.load ty x) (b off:Nat) (hx:a.eval x=.pointer (some ⟨b,off,none⟩))
  (cs:Array Value) (hs:cs.size=n) (hc:∀ j,j<n→w.cell? ⟨b,off+j,none⟩=cs[j]?) (h:wpList Tryz.prog ops Q rest (a.put o.dst (.agg cs)) w):wpList Tryz.prog ops Q (o :: rest) a w :=
 wpList_step fun K hK=>by
  rw [if_pos hw]
  unfold Oper.wp
  rw [jg ty n d hu hd hi x ho b off hx cs hs hc]
  exact hK _ _ h
open Go.Shelf
def wU:Go.Shelf.Ren:=⟨fun | 7=>143 | 10=>148 | n=>n,fun | 23=>73 | 26=>2 | 3=>71 | 28=>218 | 0=>0 | 27=>217 | 33=>69 | 4=>4 | n=>n,fun | n=>n⟩
theorem FO:Go.Proofs.SlLaysZI.n7 Tryz.prog wU:={
 mixed:=by kernel_rfl
 f7:=⟨Tryz.f143.name,by decide,Tryz.func143.trans (congrArg some (by kernel_rfl))⟩
 f10:=⟨Tryz.f148.name,by decide,Tryz.func148.trans (congrArg some (by kernel_rfl))⟩
 t0:=Tryz.underlying0
 a0:=Tryz.isAgg0
 z0:=Tryz.sizeOf0
 v0:=Tryz.zeroValue0
 t4:=Tryz.underlying4
 a4:=Tryz.isAgg4
 z4:=Tryz.sizeOf4
 v4:=Tryz.zeroValue4
 t23:=Tryz.underlying73
 a23:=Tryz.isAgg73
 z23:=Tryz.sizeOf73
 v23:=Tryz.zeroValue73
 t26:=Tryz.underlying2
 a26:=Tryz.isAgg2
 z26:=Tryz.sizeOf2
 v26:=Tryz.zeroValue2
 t27:=Tryz.underlying217
 a27:=Tryz.isAgg217
 z27:=Tryz.sizeOf217
 v27:=Tryz.zeroValue217
 t28:=Tryz.underlying218
 a28:=Tryz.isAgg218
 z28:=Tryz.sizeOf218
 v28:=Tryz.zeroValue218
 t33:=Tryz.underlying69
 a33:=Tryz.isAgg69
 z33:=Tryz.sizeOf69
 v33:=Tryz.zeroValue69 }
def sd:Go.Shelf.Ren:=⟨fun | 6=>142 | 8=>146 | 9=>147 | 11=>149 | 13=>151 | 12=>150 | 23=>161 | 24=>162 | 14=>152 | 15=>153 | 16=>154 | 17=>155 | 18=>156 | 19=>157 | 20=>158 | 21=>159 | 22=>160 | 25=>163 | 26=>164 | 27=>165 | 28=>166 | 29=>167 | 30=>145 | 31=>168 | n=>n,fun | 26=>2 | 28=>218 | 24=>27 | 0=>0 | 3=>3 | 37=>128 | 48=>233 | 50=>126 | 4=>4 | 40=>226 | 39=>225 | 45=>212 | 5=>5 | 9=>9 | 51=>235 | 55=>238 | 57=>240 | 58=>241 | 33=>69 | n=>n,fun | n=>n⟩
theorem EC:Go.Proofs.SlLaysZI.n6 Tryz.prog sd:={
 mixed:=by kernel_rfl
 f6:=⟨Tryz.f142.name,by decide,Tryz.func142.trans (congrArg some (by kernel_rfl))⟩
 f8:=⟨Tryz.f146.name,by decide,Tryz.func146.trans (congrArg some (by kernel_rfl))⟩
 f11:=⟨Tryz.f149.name,by decide,Tryz.func149.trans (congrArg some (by kernel_rfl))⟩
 t0:=Tryz.underlying0
 a0:=Tryz.isAgg0
 z0:=Tryz.sizeOf0
 v0:=Tryz.zeroValue0
 t24:=Tryz.underlying27
 a24:=Tryz.isAgg27
 z24:=Tryz.sizeOf27
 v24:=Tryz.zeroValue27
 t26:=Tryz.underlying2
 a26:=Tryz.isAgg2
 z26:=Tryz.sizeOf2
 v26:=Tryz.zeroValue2
 t28:=Tryz.underlying218
 a28:=Tryz.isAgg218
 z28:=Tryz.sizeOf218
 v28:=Tryz.zeroValue218
 i26:=by kernel_rfl }
def A3:Go.Shelf.Ren:=⟨fun | 5=>147 | 8=>151 | 7=>150 | 19=>161 | 20=>162 | 10=>152 | 11=>153 | 12=>154 | 13=>155 | 14=>156 | 15=>157 | 16=>158 | 17=>159 | 18=>160 | 30=>163 | 31=>164 | 32=>165 | 33=>166 | 34=>167 | 35=>145 | 40=>168 | n=>n,fun | 23=>27 | 25=>2 | 3=>3 | 32=>128 | 22=>27 | 0=>0 | 44=>233 | 46=>126 | 4=>4 | 36=>226 | 35=>225 | 41=>212 | 5=>5 | 9=>9 | 53=>235 | 57=>238 | 63=>240 | 64=>241 | n=>n,fun | n=>n⟩
theorem Fz:Go.Proofs.SlLaysM.n5 Tryz.prog A3:={
 mixed:=by kernel_rfl
 f5:=⟨Tryz.f147.name,by decide,Tryz.func147.trans (congrArg some (by kernel_rfl))⟩
 f7:=⟨Tryz.f150.name,by decide,Tryz.func150.trans (congrArg some (by kernel_rfl))⟩
 f8:=Tryz.func151.trans (congrArg some (by kernel_rfl))
 f10:=⟨Tryz.f152.name,by decide,Tryz.func152.trans (congrArg some (by kernel_rfl))⟩
 f11:=⟨Tryz.f153.name,by decide,Tryz.func153.trans (congrArg some (by kernel_rfl))⟩
 f12:=⟨Tryz.f154.name,by decide,Tryz.func154.trans (congrArg some (by kernel_rfl))⟩
 f13:=⟨Tryz.f155.name,by decide,Tryz.func155.trans (congrArg some (by kernel_rfl))⟩
 f14:=⟨Tryz.f156.name,by decide,Tryz.func156.trans (congrArg some (by kernel_rfl))⟩
 f15:=⟨Tryz.f157.name,by decide,Tryz.func157.trans (congrArg some (by kernel_rfl))⟩
 f16:=⟨Tryz.f158.name,by decide,Tryz.func158.trans (congrArg some (by kernel_rfl))⟩
 f17:=⟨Tryz.f159.name,by decide,Tryz.func159.trans (congrArg some (by kernel_rfl))⟩
 f18:=⟨Tryz.f160.name,by decide,Tryz.func160.trans (congrArg some (by kernel_rfl))⟩
 f19:=Tryz.func161.trans (congrArg some (by kernel_rfl))
 f20:=Tryz.func162.trans (congrArg some (by kernel_rfl))
 f30:=⟨Tryz.f163.name,by decide,Tryz.func163.trans (congrArg some (by kernel_rfl))⟩
 f31:=Tryz.func164.trans (congrArg some (by kernel_rfl))
 f32:=Tryz.func165.trans (congrArg some (by kernel_rfl))
 f33:=⟨Tryz.f166.name,by decide,Tryz.func166.trans (congrArg some (by kernel_rfl))⟩
 f34:=⟨Tryz.f167.name,by decide,Tryz.func167.trans (congrArg some (by kernel_rfl))⟩
 f35:=⟨Tryz.f145.name,by decide,Tryz.func145.trans (congrArg some (by kernel_rfl))⟩
 f40:=⟨Tryz.f168.name,by decide,Tryz.func168.trans (congrArg some (by kernel_rfl))⟩
 t0:=Tryz.underlying0
 a0:=Tryz.isAgg0
 z0:=Tryz.sizeOf0
 v0:=Tryz.zeroValue0
 t3:=Tryz.underlying3
 a3:=Tryz.isAgg3
 z3:=Tryz.sizeOf3
 v3:=Tryz.zeroValue3
 t4:=Tryz.underlying4
 a4:=Tryz.isAgg4
 z4:=Tryz.sizeOf4
 v4:=Tryz.zeroValue4
 t5:=Tryz.underlying5
 a5:=Tryz.isAgg5
 z5:=Tryz.sizeOf5
 v5:=Tryz.zeroValue5
 t9:=Tryz.underlying9
 a9:=Tryz.isAgg9
 z9:=Tryz.sizeOf9
 v9:=Tryz.zeroValue9
 t22:=Tryz.underlying27
 a22:=Tryz.isAgg27
 z22:=Tryz.sizeOf27
 v22:=Tryz.zeroValue27
 t23:=Tryz.underlying27
 a23:=Tryz.isAgg27
 z23:=Tryz.sizeOf27
 v23:=Tryz.zeroValue27
 t25:=Tryz.underlying2
 a25:=Tryz.isAgg2
 z25:=Tryz.sizeOf2
 v25:=Tryz.zeroValue2
 t32:=Tryz.underlying128
 a32:=Tryz.isAgg128
 z32:=Tryz.sizeOf128
 v32:=Tryz.zeroValue128
 t35:=Tryz.underlying225
 a35:=Tryz.isAgg225
 z35:=Tryz.sizeOf225
 v35:=Tryz.zeroValue225
 t36:=Tryz.underlying226
 a36:=Tryz.isAgg226
 z36:=Tryz.sizeOf226
 v36:=Tryz.zeroValue226
 t41:=Tryz.underlying212
 a41:=Tryz.isAgg212
 z41:=Tryz.sizeOf212
 v41:=Tryz.zeroValue212
 t44:=Tryz.underlying233
 a44:=Tryz.isAgg233
 z44:=Tryz.sizeOf233
 v44:=Tryz.zeroValue233
 t46:=Tryz.underlying126
 a46:=Tryz.isAgg126
 z46:=Tryz.sizeOf126
 v46:=Tryz.zeroValue126
 t53:=Tryz.underlying235
 a53:=Tryz.isAgg235
 z53:=Tryz.sizeOf235
 v53:=Tryz.zeroValue235
 t57:=Tryz.underlying238
 a57:=Tryz.isAgg238
 z57:=Tryz.sizeOf238
 v57:=Tryz.zeroValue238
 t63:=Tryz.underlying240
 a63:=Tryz.isAgg240
 z63:=Tryz.sizeOf240
 v63:=Tryz.zeroValue240
 t64:=Tryz.underlying241
 a64:=Tryz.isAgg241
 z64:=Tryz.sizeOf241
 v64:=Tryz.zeroValue241 }
theorem Bk (n:Int) (w:World):(Instr.makeMap 73 (some (.int .i64 n))).run Tryz.prog w=.ok (.map (some w.heap.size)) (w.alloc (.map #[] 0)):=by
 simp [Instr.makeMap,run_underlying Tryz.underlying73,go_sem,Result.andThen]
theorem ue:Maps.Keyed Tryz.prog 2:=Maps.int_keyed Tryz.underlying2
theorem AZ {m p t:Int} (h:mO w b n L) (hn:n<maxLen) (h0:-9223372036854775808≤m) (h1:m≤9223372036854775807) :
  ∃ w',(Instr.mapUpdate 73 (.map (some b)) (.int .i64 m) (.agg #[.int .i64 m,.int .i64 p,.int .i64 t])).run Tryz.prog w=.ok () w'∧mO w' b (n+1) (kI ⟨m,p,t⟩ (notM m L))∧w.mapTurned w' b:=by
 obtain ⟨w',h1,h2,h3⟩:=h.store ue Tryz.underlying73 hn (FP h0 h1) (qN ⟨m,p,t⟩)
 refine ⟨w',h1,?_,h3⟩
 have e:=FH ⟨m,p,t⟩ L
 dsimp only at e
 show w'.ownsMap Tryz.prog 2 qO b (n+1) (mD (kI ⟨m,p,t⟩ (notM m L)))
 rw [←e]
 exact h2
theorem mh {B:Nat} {a:World} (h:Below B a w) (ht:w.mapTurned w' b) (hB:B≤w.heap.size) (hb:B≤b):Below B a w' :=
 h.grown ht.grown hB (fun k e=>by cases e;exact hb)
theorem xw (a:Option Addr) (n cap:Nat) (f:Nat→Ent) (w:World) (hok:mA n f) (h:lD w a n f) :
  Calls Tryz.prog 34 #[.slice a n cap] w fun e w'=>e=.returned (.map (some w.heap.size))∧mO w' w.heap.size n (iD n f)∧Below w.heap.size w w':=by
 have HR:=aa h
 have HO:=aa hok.2
 have h8:n≤8:=hok.1
 have mk:=Bk n w
 clear h hok
 go_enter Tryz.func34,Tryz.ntmps34
 go_wp2_with fail
 clear mk
 go_loopw [11] (fun i wr=>∃ k:Nat,k≤n∧i=.int .i64 k∧mO wr w.heap.size k (iD k f)∧Below w.heap.size w wr) (fun i _=>n-(intOf i).toNat)
 case atStart=>exact ⟨0,Nat.zero_le _,rfl,World.ownsMap_made w _ _ _,(Below.refl _ _).alloc (Nat.le_refl _) _⟩
 obtain ⟨k,hk,rfl,hown,hB⟩:=hrel
 by_cases hlt:k<n
 ·
  have hlt':(k:Int)<n:=by omega
  obtain ⟨g,o,rfl,c1,c2,c3⟩:=(HR.up hB) k hlt
  have HL:Hid (kI (f k) (notM (f k).m (iD k f))=iD (k+1) f):=by
   have hb:=HO.below hlt
   rw [Hid,mG (fun y hy=>by have:=hb y hy;omega),sJ hb,jG]
  have hm:=(HO k hlt).1.1
  generalize hx:f k=x at *
  obtain ⟨m,p,t⟩:=x
  dsimp only at c1 c2 c3 hm HL
  obtain ⟨w2,hrun,hown2,hturn⟩:=AZ (p:=p) (t:=t) (hown.alloc (.cells #[.int .i64 m,.int .i64 p,.int .i64 t] 71)) (show k<maxLen by unfold maxLen;omega) (show -9223372036854775808≤m by omega) (show m≤9223372036854775807 by omega)
  have HB2:Hid (Below w.heap.size w w2):=mh (hB.alloc hB.size _) hturn (by have:=hB.size;simp;omega) (Nat.le_refl _)
  have HO2:Hid (mO w2 w.heap.size (k+1) (iD (k+1) f)):=by rw [Hid,←HL.out];exact hown2
  clear hown hown2 hturn hB
  go_wp2_with fail
  go_roundw
  case rel=>exact ⟨k+1,by omega,by go_num,HO2.out,HB2.out⟩
  case measure=>simp [intOf];omega
 obtain rfl:k=n:=by omega
 go_wp2_with fail
 go_ret
 exact ⟨rfl,hown,hB⟩
open Go.RowKit Go.Maps Go.Sort Go.Shelf
theorem Fy (m:Nat):AnyZI.SortsIn Tryz.prog sd Fence.wide m :=
 ⟨fun blk off cap ss W hH hblk hsz=>callsIn_wide.2 (AnyM.slices_Sort_int Fz blk off cap ss W hH hblk hsz),
  fun p cap W=>callsIn_wide.2 (AnyM.slices_Sort_int_none Fz p cap W)⟩
theorem Ds (mb:Option Nat) (w:World):Calls Tryz.prog 143 #[.map mb] w fun e w'=>e=.returned (.func (.func 148) #[] #[.pointer (some ⟨w.heap.size,0,none⟩)])∧w'=w.alloc (.cells #[.map mb] 73) :=
 (callsIn_wide (n:=5)).1 (AnyZI.keys_in FO Fence.wide 5 trivial rfl mb w)
theorem zv (w:World) (hown:mO w b nn L) (hl:L.length≤1048576) :
  Calls Tryz.prog 142 #[.func (.func 148) #[] #[.pointer (some ⟨w.heap.size,0,none⟩)]] (w.alloc (.cells #[.map (some b)] 73)) fun e w'=>∃ (v:Value) (ss:List Int),e=.returned v∧ss.Perm (intKeys (mD L)) ∧
   w'.ownsRow (w.heap.size+1) 2 1 v ss.length ((ss.mergeSort (fun x y=>decide (x≤y))).map encZ)∧Below (w.heap.size+1) (w.alloc (.cells #[.map (some b)] 73)) w':=by
 refine (callsIn_wide (n:=6)).1 ?_
 have hbl:=hown.lt
 have hseq:SeqGives Fence.wide 3 Tryz.prog 148 #[.pointer (some ⟨w.heap.size,0,none⟩)] encZ (fun ss=>ss.Perm (intKeys (mD L))) (Maps.size (mD L)) (w.alloc (.cells #[.map (some b)] 73)) :=
  AnyZI.keys_gives (ρ:=wU) { FO with } Fence.wide _ trivial rfl (by omega) w.heap.size b nn (mD L) _ (by simp) (by simp) (by
   obtain ⟨es,clock,hb,Ft,hs,hD⟩:=hown
   exact ⟨es,clock,(Below.heap_alloc _ _ b hbl).trans hb,Ft,hs,hD⟩)
 have cS:=AnyZI.sorted_in EC Fence.wide 6 trivial trivial trivial trivial rfl (by omega) (Fy _) (enters_of Tryz.func147 (by kernel_rfl) rfl) 148 #[.pointer (some ⟨w.heap.size,0,none⟩)] trivial (enters_of Tryz.func148 (by kernel_rfl) rfl) _ _ (by rw [vb];unfold maxLen;omega) (by rw [vb];omega) _ hseq
 change CallsIn _ _ Tryz.prog 142 _ _ _ at cS
 refine cS.mono ?_
 rintro e w' ⟨v,ss,rfl,hS,hrow,hnil,hb⟩
 have e1:(w.alloc (.cells #[.map (some b)] 73)).heap.size=w.heap.size+1:=by simp
 rw [e1] at hrow hb
 exact ⟨v,ss,rfl,hS,hrow,hb⟩
def jB (L:List Ent):Prop:=L.Pairwise fun x y=>x.m<y.m
theorem ye (h:jB L) {ss:List Int} (hp:ss.Perm (intKeys (mD L))):ss.mergeSort (fun x y=>decide (x≤y))=L.map (·.m):=by
 have e:intKeys (mD L)=L.map (·.m):=by simp [intKeys,mD,kv,Go.intOf]
 rw [e] at hp
 refine List.Perm.eq_of_pairwise (le:=fun x y=>(decide (x≤y))=true) (fun a b _ _ h1 h2=>by simp at h1 h2;omega) ?_ ?_ ((List.mergeSort_perm _ _).trans hp)
 ·
  exact List.pairwise_mergeSort (fun a b c h1 h2=>by simp at h1 h2 ⊢;omega) (fun a b=>by simp;omega) ss
 rw [List.pairwise_map]
 exact h.imp (fun h1=>by simp;omega)
theorem jB.at (h:jB L):∀ j,j<L.length→atM (L.getD j default).m L=L.getD j default:=by
 induction L with
 | nil=>intro j hj;simp at hj
 | cons y r ih =>
  have hy:=List.pairwise_cons.1 h
  intro j hj
  cases j with
  | zero=>simp [atM,List.find?_cons]
  | succ i =>
   have hi:i<r.length:=by simpa using hj
   have hm:r.getD i default∈r:=by
    rw [List.getD_eq_getElem?_getD,List.getElem?_eq_getElem hi]
    exact List.getElem_mem _
   have hlt:=hy.1 _ hm
   have:=ih hy.2 i hi
   unfold atM at this ⊢
   simp only [List.getD_cons_succ]
   rw [List.find?_cons]
   have hne:¬ y.m=(r.getD i default).m:=by omega
   simp only [hne,decide_false]
   exact this
theorem FK {k:Int} (h:mO w b n L) (h0:-9223372036854775808≤k) (h1:k≤9223372036854775807) :
  (Instr.lookup 73 (.map (some b)) (.int .i64 k) false).run Tryz.prog w=.ok (.agg #[.int .i64 (atM k L).m,.int .i64 (atM k L).p,.int .i64 (atM k L).t]) w:=by
 obtain ⟨v,ps,hrun,hv⟩:=h.lookup ue Tryz.underlying73 (Tryz.zeroValue71 w) (qN ⟨0,0,0⟩) (FP h0 h1)
 rw [FJ] at hv
 rw [hrun,sR hv];rfl
theorem zI {j:Nat} {fr:Nat × Nat} (h:w.ownsRow base e sz v n xs) (hj:w.heap[j]?=some (.cells cs t fr)) (ht:e≠t):v.ownBlock≠some j:=by
 intro hv
 rcases h.2 with ⟨rfl,_⟩ | ⟨g,cap,cur,rfl,_,hb,_⟩
 ·
  cases hv
 simp only [Value.ownBlock,Option.some.injEq] at hv
 subst hv
 rw [hb] at hj
 cases hj
 exact ht rfl
theorem zH (h:w.ownsRow base e sz v n xs) (hm:mO w b nn L):some b≠v.ownBlock:=by
 intro hv
 obtain ⟨es,clock,hb,_⟩:=hm
 rcases h.2 with ⟨rfl,_⟩ | ⟨g,cap,cur,rfl,_,hb',_⟩
 ·
  cases hv
 simp only [Value.ownBlock,Option.some.injEq] at hv
 subst hv
 rw [hb'] at hb
 cases hb
theorem mO.kept (h:mO w b n L) (hb:w'.heap[b]?=w.heap[b]?):mO w' b n L:=by
 obtain ⟨es,clock,h1,Ft,hs',hD⟩:=h
 exact ⟨es,clock,hb.trans h1,Ft,hs',hD⟩
theorem yz {wr:World} {o:Obj} {ys:List Value} {vK:Value} (he:e≠2) (hrow:wr.ownsRow base e sz v k xs) (hK:wr.ownsRow (base+1) 2 1 vK n ys) (hO:mO wr b nn L) (hB:Below base w wr) (hz:base≤wr.heap.size)
  (hg:(wr.alloc o).grownBy w' v.ownBlock):w'.ownsRow (base+1) 2 1 vK n ys∧mO w' b nn L∧Below base w w':=by
 have hg':wr.grownBy w' v.ownBlock:=(World.grownBy_alloc wr o _).trans hg
 refine ⟨?_,hO.kept (hg'.block b hO.lt (zH hrow hO)),hB.grown hg' hz (fun j hj=>(hrow.lt j hj).1)⟩
 refine hK.kept hg' ?_
 rcases hK.2 with ⟨rfl,_⟩ | ⟨g,cap,cur,rfl,_,hb,_⟩
 ·
  exact .inl rfl
 exact .inr (fun e1=>zI hrow hb he e1.symm)
theorem pC (w:World) (hown:mO w b nn L) (hs:jB L) (hl:L.length≤8) (hr:∀ y∈L,1≤y.m∧y.m≤20) :
  Calls Tryz.prog 130 #[.map (some b)] w fun e w'=>∃ v,e=.returned v∧mK w' w.heap.size v L∧Below w.heap.size w w':=by
 have HO:=aa hown
 have HS:=aa hs
 have HR:=aa hr
 clear hown hs hr
 go_enter Tryz.func130,Tryz.ntmps130
 go_wp2_with fail
 refine (Ds _ _).mono ?_
 rintro e w1 ⟨rfl,rfl⟩
 go_wp2_with fail
 refine (zv w HO (by omega)).mono ?_
 rintro e w2 ⟨vK,ss,rfl,hp,hK,hb2⟩
 rw [ye HS hp] at hK
 have hlen:ss.length=L.length:=by
  have:=hK.1
  simp at this
  omega
 rw [hlen] at hK
 have B2:Below w.heap.size w w2:=under hb2
 have hO2:mO w2 b nn L:=by
  obtain ⟨es,clock,hb,Ft,hs',hD⟩:=HO.out
  exact ⟨es,clock,(B2.block b HO.lt).trans hb,Ft,hs',hD⟩
 clear hp hb2 hlen
 obtain ⟨i0,hi,hz0,hz1,hz2⟩:=info_parts Dv
 obtain ⟨aK,capK,rfl,hcK⟩:∃ a cap,vK=.slice a L.length cap∧∀ w':World,w'.ownsRow (w.heap.size+1) 2 1 (.slice a L.length cap) L.length ((L.map (·.m)).map encZ)→∀ j,j<L.length→∃ g,a=some ⟨g,0,none⟩∧w'.cell? ⟨g,j,none⟩=some (.int .i64 (L.getD j default).m):=by
  rcases hK.2 with ⟨rfl,h0⟩ | ⟨g,cap,cur,rfl,_⟩
  ·
   exact ⟨none,0,by rw [h0],fun _ _ j hj=>by omega⟩
  refine ⟨_,_,rfl,fun w' h' j hj=>⟨g,rfl,?_⟩⟩
  rw [yP h' j hj]
  rw [List.getElem?_map,List.getElem?_map,List.getElem?_eq_getElem hj,List.getD_eq_getElem?_getD,List.getElem?_eq_getElem hj]
  rfl
 have HC:=aa hcK
 clear hcK
 go_wp2_with fail
 go_loopw [3,10] (fun v i wr=>∃ k:Nat,k≤L.length∧i=.int .i64 k∧wr.ownsRow w.heap.size 71 3 v k (jd (L.take k))∧wr.ownsRow (w.heap.size+1) 2 1 (.slice aK L.length capK) L.length ((L.map (·.m)).map encZ)∧mO wr b nn L∧Below w.heap.size w wr) (fun _ i _=>L.length-(intOf i).toNat)
 case atStart=>exact ⟨0,Nat.zero_le _,rfl,World.ownsRow_nil _ _ _ _,hK,hO2,B2⟩
 obtain ⟨k,hk,rfl,hrow,hKr,hOr,hB⟩:=hrel
 clear hK hO2 B2
 by_cases hlt:k<L.length
 ·
  have hlt':(k:Int)<L.length:=by omega
  obtain ⟨gK,rfl,hcell⟩:=HC wr hKr k hlt
  have hxm:L.getD k default∈L:=by
   rw [List.getD_eq_getElem?_getD,List.getElem?_eq_getElem hlt]
   exact List.getElem_mem _
  have hxr:=HR _ hxm
  have hlk:=FK (k:=(L.getD k default).m) hOr (by omega) (by omega)
  rw [HS.at k hlt] at hlk
  have HT:Hid (jd (L.take k)++kc (L.getD k default)=jd (L.take (k+1))):=by
   rw [Hid,List.take_add_one,jd,jd,List.flatMap_append,List.getD_eq_getElem?_getD,List.getElem?_eq_getElem hlt]
   simp
  generalize L.getD k default=x at *
  have hz:=hB.size
  clear hxm hxr
  go_wp2_with (at_builtin;refine wpList_append_own _ rfl (.tmp 14) (.tmp 18) 26 rfl w.heap.size 71 i0 (.agg #[.int .i64 0,.int .i64 0,.int .i64 0]) 3 24 Tryz.underlying26 hi hz0 hz1 hz2 rfl (by decide) _ k _ rfl (hrow.alloc _) ⟨wr.heap.size,0,none⟩ 1 1 (kc x) rfl rfl (ji _ _ _) (Bd _) (by unfold maxLen;omega) (by omega) (by simp;omega) ?_;intro v' w' hown' hgrow' hnil')
  obtain ⟨n1,n2,n3⟩:=yz (by decide) hrow hKr hOr hB hz hgrow'
  rw [HT.out] at hown'
  clear hnil' hgrow' hrow hKr hOr hB hcell hlk
  go_roundw
  case rel=>exact ⟨k+1,by omega,by go_num,hown',n1,n2,n3⟩
  case measure=>simp [intOf];omega
 obtain rfl:k=L.length:=by omega
 clear HC
 go_wp2_with fail
 go_ret
 exact ⟨_,rfl,by rw [List.take_length] at hrow;exact hrow,hB⟩
theorem yf (m p t now:Int) (w:World) (h0:0≤t) (h1:t≤1000000000) (h2:0≤now) (h3:now≤1000000000) :
  Calls Tryz.prog 35 #[.agg #[.int .i64 m,.int .i64 p,.int .i64 t],.int .i64 now] w fun e w'=>e=.returned (.bool (decide (20<now-t)))∧Below w.heap.size w w':=by
 have hw:IntKind.i64.wrap (now-t)=now-t:=jS _ (by omega) (by omega)
 go_enter Tryz.func35,Tryz.ntmps35
 go_wp2_with fail
 go_ret
 exact ⟨rfl,(Below.refl _ _).alloc (Nat.le_refl _) _⟩
theorem Gt {k:Int} (h:mO w b n L) (h0:-9223372036854775808≤k) (h1:k≤9223372036854775807) :
  (Instr.lookup 73 (.map (some b)) (.int .i64 k) true).run Tryz.prog w=.ok (.tuple #[.agg #[.int .i64 (atM k L).m,.int .i64 (atM k L).p,.int .i64 (atM k L).t],.bool (CE k L)]) w:=by
 obtain ⟨v,ps,hrun,hv⟩:=h.look_ok ue Tryz.underlying73 (Tryz.zeroValue71 w) (qN ⟨0,0,0⟩) (FP h0 h1)
 rw [FJ] at hv
 rw [FI] at hrun
 rw [hrun,sR hv];rfl
theorem sU {k:Int} (h:CE k L=true):atM k L∈L∧(atM k L).m=k:=by
 unfold CE at h
 unfold atM
 induction L with
 | nil=>simp at h
 | cons y r ih =>
  by_cases e:y.m=k
  ·
   simp [List.find?_cons,e]
  simp only [List.any_cons,e,decide_false,Bool.false_or] at h
  obtain ⟨h1,h2⟩:=ih h
  simp only [List.find?_cons,e,decide_false]
  exact ⟨List.mem_cons_of_mem _ h1,h2⟩
theorem rR (h:ka n f) (hy:y∈iD n f):me y:=by
 obtain ⟨i,hi,rfl⟩:=List.mem_map.1 hy
 exact (h i (List.mem_range.1 hi)).1
def AW (now:Int):Prop:=0≤now∧now≤1000000000
def oW (L:List Ent) (mac now:Int):Int:=if CE mac L=true∧now-(atM mac L).t≤20 then (atM mac L).p else -1
structure xC (n:Nat) (f:Nat→Ent) (mac now r:Int):Prop where
 good:mA n f→AW now→r=oW (iD n f) mac now
 bad:¬ (mA n f∧AW now)→r=-1
theorem pE (a:Option Addr) (n cap:Nat) (f:Nat→Ent) (mac now r:Int) (w:World) (hn:n≤maxLen) (h:lD w a n f) (k0:-9223372036854775808≤mac) (k1:mac≤9223372036854775807) (hr:xC n f mac now r) :
  Calls Tryz.prog 10 #[.slice a n cap,.int .i64 mac,.int .i64 now] w fun e w'=>e=.returned (.int .i64 r)∧Below w.heap.size w w':=by
 have HR:=aa h
 have HP:=aa hr
 obtain ⟨ok,hok⟩:=sb n f
 have HO:=aa hok
 clear h hr hok
 go_enter Tryz.func10,Tryz.ntmps10
 go_wp2_with fail
 refine (oD a n cap f _ hn HR ok HO).mono ?_
 rintro e w1 ⟨rfl,B1⟩
 cases ok
 ·
  have HF:Hid (r=-1):=HP.bad (fun hh=>absurd (HO.2 hh.1) (by simp))
  go_wp2_with fail
  go_ret
  exact ⟨lR HF.symm,B1⟩
 have HT:Hid (mA n f):=HO.1 rfl
 go_wp2_with fail
 refine (jW _ _).mono ?_
 rintro e w' ⟨rfl,rfl⟩
 by_cases ht:0≤now∧now≤1000000000
 ·
  have HTm:=aa ht
  rw [decide_eq_true ht]
  clear ht
  go_wp2_with fail
  refine (xw a n cap f _ HT (HR.up B1)).mono ?_
  rintro e w2 ⟨rfl,hown,hb2⟩
  have B2:=B1.trans (hb2.mono B1.size)
  have hlk:=Gt hown k0 k1
  clear hb2
  have HA:Hid (∀ ob,Below w.heap.size w (w2.alloc ob)):=fun ob=>B2.alloc B2.size _
  cases hh:CE mac (iD n f)
  ·
   rw [hh] at hlk
   have HF:Hid (r=-1):=by
    rw [Hid,HP.good HT HTm.out,oW,if_neg (by rw [hh];simp)]
   generalize atM mac (iD n f)=x at *
   clear hh hown
   go_wp2_with fail
   go_ret
   exact ⟨lR HF.symm,HA _⟩
  rw [hh] at hlk
  have hx:=rR HT.2 (sU hh).1
  have HQ:Hid (r=if now-(atM mac (iD n f)).t≤20 then (atM mac (iD n f)).p else -1):=by
   rw [Hid,HP.good HT HTm.out,oW,hh];simp
  generalize atM mac (iD n f)=x at *
  obtain ⟨m,p,t⟩:=x
  have h20:=HTm.out
  obtain ⟨x1,x2,x3⟩:=hx
  dsimp only at x1 x2 x3 hlk HQ
  clear hh hown
  go_wp2_with fail
  have cb:=ie (im w2 (.cells #[.int .i64 m,.int .i64 p,.int .i64 t] 71))
  refine (yf m p t now _ x3.1 x3.2 h20.1 h20.2).mono ?_
  rintro e w3 ⟨rfl,hb3⟩
  have B3:Below w.heap.size w w3:=(HA _).trans (hb3.mono (HA _).size)
  have cb:=fun i=>(hb3.cell (p:=⟨w2.heap.size,i,none⟩) (by simp)).trans (cb i)
  by_cases hs:20<now-t
  ·
   have HF:Hid (r=-1):=by rw [Hid,HQ.out,if_neg (by omega)]
   rw [decide_eq_true hs]
   exact dy
  have HF:Hid (r=p):=by rw [Hid,HQ.out,if_pos (by omega)]
  rw [decide_eq_false hs]
  exact dy
 have HF:Hid (r=-1):=HP.bad (fun hh=>ht hh.2)
 rw [decide_eq_false ht]
 clear ht
 go_wp2_with fail
 go_ret
 exact ⟨lR HF.symm,B1⟩
def qs (L:List Ent) (now:Int):List Ent:=L.filter fun y=>decide (now-y.t≤20)
theorem kM (h:ka n f):jB (iD n f):=by
 unfold jB
 rw [List.pairwise_iff_getElem]
 intro i j hi hj hij
 rw [jH] at hj
 simp [iD]
 exact h.lt j i hij hj
theorem jB.sub {L':List Ent} (h:jB L) (hs:L'.Sublist L):jB L':=List.Pairwise.sublist hs h
def th:Option Ent→Ent→Option Ent
 | none,e=>some e
 | some b,e=>some (if e.t<b.t then e else b)
def oX (L:List Ent):Option Ent:=L.foldl th none
theorem oS (L:List Ent) (e:Ent):oX (L++[e])=th (oX L) e:=by simp [oX]
theorem zf {z:Ent}:∀ (L:List Ent) (o:Option Ent),L.foldl th o=some z→z∈L∨o=some z
 | [],o,h=>.inr h
 | y :: r,o,h=>by
  rcases zf r (th o y) h with h1 | h1
  ·
   exact .inl (List.mem_cons_of_mem _ h1)
  cases o with
  | none=>simp [th] at h1;exact .inl (by rw [←h1];simp)
  | some b =>
   simp only [th,Option.some.injEq] at h1
   split at h1
   ·
    exact .inl (by rw [←h1];simp)
   exact .inr (by rw [h1])
theorem xy (h:oX L=some z):z∈L:=by
 rcases zf L none h with h1 | h1
 ·
  exact h1
 cases h1
theorem um:∀ (L:List Ent) (b:Ent),∃ z,L.foldl th (some b)=some z
 | [],b=>⟨b,rfl⟩
 | y :: r,b=>um r _
def xF (L:List Ent):Ent:=(oX L).getD default
theorem yQ (h:L≠[]):xF L∈L∧oX L=some (xF L):=by
 cases L with
 | nil=>exact absurd rfl h
 | cons y r =>
  obtain ⟨z,hz⟩:=um r y
  have hb:oX (y :: r)=some z:=hz
  unfold xF
  rw [hb]
  exact ⟨xy hb,rfl⟩
def jl (L:List Ent) (x:Ent):List Ent:=if (notM x.m L).length=8 then kI x (notM (xF (notM x.m L)).m (notM x.m L)) else kI x (notM x.m L)
theorem sI {x y:Ent} (h:x.m<y.m):∀ M:List Ent,kI x (M++[y])=kI x M++[y]
 | []=>by simp [kI,h]
 | z :: r=>by
  by_cases h1:x.m<z.m
  ·
   simp [kI,h1]
  simp [kI,h1,sI h r]
theorem lZ (x:Ent):∀ M:List Ent,(kI x M).length=M.length+1
 | []=>rfl
 | z :: r=>by
  unfold kI
  split
  ·
   simp
  simp [lZ x r]
theorem nv {x y:Ent}:∀ {M:List Ent},y∈kI x M↔y=x∨y∈M
 | []=>by simp [kI]
 | z :: r=>by
  unfold kI
  split
  ·
   simp
  simp only [List.mem_cons,nv (M:=r)]
  constructor
  ·
   rintro (h | h | h)
   ·
    exact .inr (.inl h)
   ·
    exact .inl h
   exact .inr (.inr h)
  rintro (h | h | h)
  ·
   exact .inr (.inl h)
  ·
   exact .inl h
  exact .inr (.inr h)
theorem mL (x:Ent):∀ M:List Ent,notM x.m (kI x M)=notM x.m M
 | []=>by simp [kI,notM]
 | z :: r=>by
  have ih:=mL x r
  unfold notM at ih ⊢
  unfold kI
  split
  ·
   simp
  simp only [List.filter_cons,ih]
theorem BD {M:List Ent} (h:∀ y∈M,x.m<y.m):kI x M=x :: M:=by
 cases M with
 | nil=>rfl
 | cons z r=>unfold kI;rw [if_pos (h z (by simp))]
theorem wL {x:Ent} {k:Int} (hk:x.m≠k):∀ {M:List Ent},jB M→notM k (kI x M)=kI x (notM k M)
 | [],_=>by simp [kI,notM,hk]
 | z :: r,h=>by
  obtain ⟨h1,h2⟩:=List.pairwise_cons.1 h
  have ih:=wL hk h2
  by_cases hz:x.m<z.m
  ·
   have e1:kI x (z :: r)=x :: z :: r:=by unfold kI;rw [if_pos hz]
   have e2:kI x (notM k (z :: r))=x :: notM k (z :: r):=BD (fun y hy=>by
    have hy2:=(List.mem_filter.1 hy).1
    rcases List.mem_cons.1 hy2 with rfl | hy3
    ·
     exact hz
    ·
     have:=h1 y hy3;omega)
   rw [e1,e2]
   simp [notM,hk]
  have e1:kI x (z :: r)=z :: kI x r:=by rw [kI,if_neg hz]
  rw [e1]
  by_cases hzk:z.m=k
  ·
   have e3:notM k (z :: kI x r)=notM k (kI x r):=by simp [notM,hzk]
   have e4:notM k (z :: r)=notM k r:=by simp [notM,hzk]
   rw [e3,e4,ih]
  have e3:notM k (z :: kI x r)=z :: notM k (kI x r):=by simp [notM,hzk]
  have e4:notM k (z :: r)=z :: notM k r:=by simp [notM,hzk]
  rw [e3,e4,ih,kI,if_neg hz]
theorem nA {x:Ent}:∀ {M:List Ent},jB M→(∀ y∈M,y.m≠x.m)→jB (kI x M)
 | [],_,_=>by simp [kI,jB]
 | z :: r,h,hx=>by
  obtain ⟨h1,h2⟩:=List.pairwise_cons.1 h
  unfold kI
  split
  ·
   rename_i hz
   refine List.pairwise_cons.2 ⟨fun y hy=>?_,h⟩
   rcases List.mem_cons.1 hy with rfl | hy
   ·
    exact hz
   have:=h1 y hy;omega
  rename_i hz
  refine List.pairwise_cons.2 ⟨fun y hy=>?_,nA h2 (fun y hy=>hx y (by simp [hy]))⟩
  rcases nv.1 hy with rfl | hy
  ·
   have:=hx z (by simp);omega
  exact h1 y hy
theorem jL (k:Int) (L:List Ent):(notM k L).Sublist L:=List.filter_sublist
theorem sq {k:Int} (h:y∈notM k L):y.m≠k:=by
 have:=(List.mem_filter.1 h).2
 simpa using this
theorem Ek:∀ {L:List Ent} {o:Nat},jB L→o<L.length→L.take o++L.drop (o+1)=notM (L.getD o default).m L
 | [],o,_,h=>by simp at h
 | z :: r,0,h,_=>by
  obtain ⟨h1,h2⟩:=List.pairwise_cons.1 h
  have h3:notM z.m r=r:=mG (fun y hy=>by have:=h1 y hy;omega)
  have h4:notM z.m (z :: r)=notM z.m r:=by simp [notM]
  show r=notM z.m (z :: r)
  rw [h4,h3]
 | z :: r,o+1,h,hl=>by
  obtain ⟨h1,h2⟩:=List.pairwise_cons.1 h
  have hl':o<r.length:=by simpa using hl
  have ih:=Ek h2 hl'
  have hm:r.getD o default∈r:=by
   rw [List.getD_eq_getElem?_getD,List.getElem?_eq_getElem hl']
   exact List.getElem_mem _
  have hne:z.m≠(r.getD o default).m:=by have:=h1 _ hm;omega
  simp only [List.getD_cons_succ,List.take_succ_cons,List.drop_succ_cons,List.cons_append]
  rw [ih]
  simp only [notM,List.filter_cons]
  simp only [hne,ne_eq,not_false_eq_true,decide_true,if_true]
theorem pX (h:(kI x (notM x.m L)).length≤8):kI x (notM x.m L)=jl L x:=by
 rw [lZ] at h
 unfold jl
 rw [if_neg (by omega)]
theorem rl (hs:jB L) (hl:L.length≤8) (h:¬ (kI x (notM x.m L)).length≤8) (ho:o<(kI x (notM x.m L)).length) (hb:oX (notM x.m (kI x (notM x.m L)))=some ((kI x (notM x.m L)).getD o default)) :
  (kI x (notM x.m L)).take o++(kI x (notM x.m L)).drop (o+1)=jl L x:=by
 have hO:=hs.sub (jL x.m L)
 have hn:∀ y∈notM x.m L,y.m≠x.m:=fun y hy=>sq hy
 have e1:notM x.m (kI x (notM x.m L))=notM x.m L:=by rw [mL];exact mG hn
 rw [e1] at hb
 have hlen:=(jL x.m L).length_le
 rw [lZ] at h
 rw [Ek (nA hO hn) ho]
 unfold jl
 rw [if_pos (by omega)]
 have hz:=xy hb
 have e2:xF (notM x.m L)=(kI x (notM x.m L)).getD o default:=by unfold xF;rw [hb];rfl
 rw [e2,wL (fun e=>hn _ hz e.symm) hO]
structure Gb (n:Nat) (f:Nat→Ent) (x:Ent) (A:List Ent) (b:Bool):Prop where
 good:mA n f→me x→A=jl (iD n f) x∧b=true
 bad:¬ (mA n f∧me x)→A=[]∧b=false
theorem nz (h:mA n f) (hx:me x):jB (jl (iD n f) x)∧(jl (iD n f) x).length≤8∧∀ y∈jl (iD n f) x,me y:=by
 have hs:=kM h.2
 have hO:=hs.sub (jL x.m (iD n f))
 have hn:∀ y∈notM x.m (iD n f),y.m≠x.m:=fun y hy=>sq hy
 have hlen:=(jL x.m (iD n f)).length_le
 rw [jH] at hlen
 have h8:=h.1
 unfold jl
 split
 ·
  rename_i h9
  have hne:notM x.m (iD n f)≠[]:=by intro e;rw [e] at h9;simp at h9
  have hold:=(yQ hne).1
  have hlt:(notM (xF (notM x.m (iD n f))).m (notM x.m (iD n f))).length<(notM x.m (iD n f)).length:=by
   unfold notM
   rw [List.length_filter_lt_length_iff_exists]
   exact ⟨_,hold,by simp [notM]⟩
  refine ⟨nA (hO.sub (jL _ _)) (fun y hy=>hn y ((jL _ _).subset hy)),by rw [lZ];omega,fun y hy=>?_⟩
  rcases nv.1 hy with rfl | hy
  ·
   exact hx
  exact rR h.2 ((jL _ _).subset ((jL _ _).subset hy))
 refine ⟨nA hO hn,by rw [lZ];omega,fun y hy=>?_⟩
 rcases nv.1 hy with rfl | hy
 ·
  exact hx
 exact rR h.2 ((jL _ _).subset hy)
def Swg.lrL (S:Swg) (port:Int) (x:Pkt):List Ent:=jl (iD S.nE S.e) ⟨x.s,port,S.now⟩
def Swg.jm (S:Swg) (port:Int) (x:Pkt) (aE:Option Addr) (cE:Nat):Swg:={ S with aE:=aE,nE:=(S.lrL port x).length,cE:=cE,e:=fun i=>(S.lrL port x).getD i default }
def Swg.toP (S:Swg) (port:Int) (x:Pkt):Int:=oW (S.lrL port x) x.d S.now
def jj (k dst src:Int):Bool:=if dst=-1 then decide (k≠src) else decide (k=dst)
def kY (dst src:Int):Nat→Nat
 | 0=>0
 | n+1=>kY dst src n+if jj n dst src=true then 1 else 0
theorem yo (dst src:Int):∀ n,kY dst src n≤n
 | 0=>Nat.le_refl _
 | n+1=>by
  have:=yo dst src n
  show kY dst src n+_≤_
  split <;> omega
def Swg.pkt (S:Swg) (port:Int) (x:Pkt) (refs:Nat):Pkt:=⟨S.nx,port,refs,x.k,x.d,x.s,x.p,x.b⟩
def Swg.jx (S:Swg) (port dst:Int) (x:Pkt) (n:Nat) (i:Nat):Lng:=if i<n∧jj i dst port=true then (S.L i).wait x.p S.nx x.cl else S.L i
def Swg.waits (S:Swg) (port:Int) (x:Pkt) (dst:Int):Swg :=
 { S with N:=lq S.N port x.p x.cl,nx:=S.nx+1,nK:=S.nK+1,K:=fun i=>if i=S.nK then S.pkt port x (kY dst port S.nL) else S.K i,L:=S.jx port dst x S.nL }
def Swg.lG (S:Swg) (p:Int):Swg:=if p=2 then { S with lst:=min (S.lst+1) 1000000000 } else { S with dr:=min (S.dr+1) 1000000000 }
def Swg.stop (S:Swg) (i:Nat) (b:Bool):Swg:={ S with L:=fun k=>if k=i then { S.L i with st:=b } else S.L k }
def qS (S S':Swg) (i:Nat) (x:Pkt) (code:Int):Prop :=
 (S.toP i x=i∧S'=S.jm i x none 0∧code=4) ∨
 (S.toP i x≠i∧¬ (Cnt.Ok S.C (lq S.N i x.p x.cl)∧S.nx≠1000000000)∧S'=(S.jm i x none 0).lG x.p∧code=3) ∨
 (S.toP i x≠i∧Cnt.Ok S.C (lq S.N i x.p x.cl)∧S.nx≠1000000000∧S'=(S.jm i x none 0).waits i x (S.toP i x)∧code=0)
def xG (S S':Swg) (port:Int) (x:Pkt) (code:Int):Prop :=
 (¬ S.Ok∧S'=lY∧code=1) ∨
 (S.Ok∧¬ ((0≤port∧port≤S.C.p-1)∧mc x.k x.d x.s x.p x.b.size=true)∧S'=S∧code=2) ∨
 (S.Ok∧mc x.k x.d x.s x.p x.b.size=true∧∃ i:Nat,port=(i:Int)∧i<S.nL∧((x.k≠1∧S'=S.stop i (decide (x.k=2))∧code=0)∨(x.k=1∧qS S S' i x code)))
theorem DI (S:Swg) (i:Nat) (x:Pkt):∃ S' code,qS S S' i x code:=by
 by_cases h1:S.toP i x=i
 ·
  exact ⟨_,_,.inl ⟨h1,rfl,rfl⟩⟩
 by_cases h2:Cnt.Ok S.C (lq S.N i x.p x.cl)∧S.nx≠1000000000
 ·
  exact ⟨_,_,.inr (.inr ⟨h1,h2.1,h2.2,rfl,rfl⟩)⟩
 exact ⟨_,_,.inr (.inl ⟨h1,h2,rfl,rfl⟩)⟩
theorem Cv (S:Swg) (port:Int) (x:Pkt):∃ S' code,xG S S' port x code:=by
 by_cases h:S.Ok
 ·
  by_cases h2:(0≤port∧port≤S.C.p-1)∧mc x.k x.d x.s x.p x.b.size=true
  ·
   obtain ⟨i,rfl⟩:∃ i:Nat,port=(i:Int):=⟨port.toNat,by omega⟩
   have hi:i<S.nL:=by have:=h.nl;omega
   by_cases hk:x.k=1
   ·
    obtain ⟨S',code,hd⟩:=DI S i x
    exact ⟨S',code,.inr (.inr ⟨h,h2.2,i,rfl,hi,.inr ⟨hk,hd⟩⟩)⟩
   exact ⟨_,_,.inr (.inr ⟨h,h2.2,i,rfl,hi,.inl ⟨hk,rfl,rfl⟩⟩)⟩
  exact ⟨_,_,.inr (.inl ⟨h,h2,rfl,rfl⟩)⟩
 exact ⟨_,_,.inl ⟨h,rfl,rfl⟩⟩
theorem qR {A B:Cnt} (h:iR A B) (port prio y:Int):iR (lq A port prio y) (lq B port prio y):=by
 unfold lq
 split
 ·
  exact ⟨h.nU,by unfold Cnt.qt;dsimp only;rw [h.u],h.lo,h.nP,h.p⟩
 exact ⟨h.nU,h.u,by unfold Cnt.DT;dsimp only;rw [h.lo],h.nP,h.p⟩
theorem Lng.qw {a b:Lng} (h:iO a b) (p id cl:Int):iO (a.wait p id cl) (b.wait p id cl):=by
 unfold Lng.wait
 split
 ·
  exact ⟨h.st,by unfold Lng.nV;dsimp only;rw [h.nT],by unfold Lng.nV;dsimp only;rw [h.nT,h.t],h.nU,h.l,h.z,h.r⟩
 refine ⟨h.st,h.nT,h.t,h.nU,?_,?_,?_⟩
 ·
  show (fun i=>if i=p.toNat then b.uL p.toNat+1 else b.uL i)=fun i=>if i=p.toNat then a.uL p.toNat+1 else a.uL i
  rw [h.l]
 ·
  show (fun i j=>if i=p.toNat then jM (b.uL p.toNat) id (b.uz p.toNat) j else b.uz i j)=fun i j=>if i=p.toNat then jM (a.uL p.toNat) id (a.uz p.toNat) j else a.uz i j
  rw [h.l,h.z]
 exact ⟨h.r.nQ,h.r.q,h.r.nD,h.r.d,h.r.t,h.r.f,h.r.nS,by unfold Rnd.push;dsimp only;rw [h.r.l],by unfold Rnd.push;dsimp only;rw [h.r.l,h.r.z]⟩
theorem iw.lrL {A B:Swg} (h:iw A B) (port:Int) (x:Pkt):B.lrL port x=A.lrL port x:=by unfold Swg.lrL;rw [h.nE,h.e,h.now]
theorem iw.toP {A B:Swg} (h:iw A B) (port:Int) (x:Pkt):B.toP port x=A.toP port x:=by unfold Swg.toP;rw [h.lrL,h.now]
theorem iw.jm {A B:Swg} (h:iw A B) (port:Int) (x:Pkt) (a a':Option Addr) (c c':Nat):iw (A.jm port x a c) (B.jm port x a' c') :=
 ⟨h.c,h.now,h.nx,by show (B.lrL port x).length=(A.lrL port x).length;rw [h.lrL],by show (fun i=>(B.lrL port x).getD i default)=fun i=>(A.lrL port x).getD i default;rw [h.lrL],h.n,h.nK,h.k,h.nL,h.l,h.dr,h.lst⟩
theorem iw.lG {A B:Swg} (h:iw A B) (p:Int):iw (A.lG p) (B.lG p):=by
 unfold Swg.lG
 split
 ·
  exact ⟨h.c,h.now,h.nx,h.nE,h.e,h.n,h.nK,h.k,h.nL,h.l,h.dr,by dsimp only;rw [h.lst]⟩
 exact ⟨h.c,h.now,h.nx,h.nE,h.e,h.n,h.nK,h.k,h.nL,h.l,by dsimp only;rw [h.dr],h.lst⟩
theorem iw.waits {A B:Swg} (h:iw A B) (port:Int) (x:Pkt) (dst:Int):iw (A.waits port x dst) (B.waits port x dst):=by
 refine ⟨h.c,h.now,by show B.nx+1=A.nx+1;rw [h.nx],h.nE,h.e,qR h.n _ _ _,by show B.nK+1=A.nK+1;rw [h.nK],?_,h.nL,fun i hi=>?_,h.dr,h.lst⟩
 ·
  show (fun i=>if i=B.nK then B.pkt port x (kY dst port B.nL) else B.K i)=fun i=>if i=A.nK then A.pkt port x (kY dst port A.nL) else A.K i
  unfold Swg.pkt
  rw [h.nK,h.nx,h.nL,h.k]
 show iO (A.jx port dst x A.nL i) (B.jx port dst x B.nL i)
 unfold Swg.jx
 rw [h.nL]
 split
 ·
  rw [h.nx]
  exact Lng.qw (h.l i hi) _ _ _
 exact h.l i hi
theorem iw.stop {A B:Swg} (h:iw A B) {i:Nat} (hi:i<A.nL) (b:Bool):iw (A.stop i b) (B.stop i b):=by
 refine ⟨h.c,h.now,h.nx,h.nE,h.e,h.n,h.nK,h.k,h.nL,fun k hk=>?_,h.dr,h.lst⟩
 show iO (if k=i then { A.L i with st:=b } else A.L k) (if k=i then { B.L i with st:=b } else B.L k)
 have hi2:=h.l i hi
 split
 ·
  exact ⟨rfl,hi2.nT,hi2.t,hi2.nU,hi2.l,hi2.z,hi2.r⟩
 exact h.l k hk
theorem qS.vN {S S' P:Swg} {i:Nat} {x:Pkt} (h:qS S S' i x code) (ha:iw S P):∃ P',qS P P' i x code∧iw S' P':=by
 have et:=ha.toP i x
 have eo:Cnt.Ok P.C (lq P.N i x.p x.cl)↔Cnt.Ok S.C (lq S.N i x.p x.cl):=by rw [ha.c];exact (qR ha.n _ _ _).ok
 rcases h with ⟨h1,h2,h3⟩ | ⟨h1,h2,h3,h4⟩ | ⟨h1,h2,h3,h4,h5⟩
 ·
  exact ⟨_,.inl ⟨by rw [et];exact h1,rfl,h3⟩,by rw [h2];exact ha.jm _ _ _ _ _ _⟩
 ·
  exact ⟨_,.inr (.inl ⟨by rw [et];exact h1,by rw [eo,ha.nx];exact h2,rfl,h4⟩),by rw [h3];exact (ha.jm _ _ _ _ _ _).lG _⟩
 exact ⟨_,.inr (.inr ⟨by rw [et];exact h1,eo.2 h2,by rw [ha.nx];exact h3,rfl,h5⟩),by rw [h4,et];exact (ha.jm _ _ _ _ _ _).waits _ _ _⟩
theorem xG.vN {S S' P:Swg} {port:Int} {x:Pkt} (h:xG S S' port x code) (ha:iw S P):∃ P',xG P P' port x code∧iw S' P':=by
 rcases h with ⟨h1,h2,h3⟩ | ⟨h1,h2,h3,h4⟩ | ⟨h1,h2,i,h3,h4,h5⟩
 ·
  exact ⟨lY,.inl ⟨by rw [ha.ok];exact h1,rfl,h3⟩,by rw [h2];exact iw.refl _⟩
 ·
  exact ⟨P,.inr (.inl ⟨ha.ok1 h1,by rw [ha.c];exact h2,rfl,h4⟩),by rw [h3];exact ha⟩
 rcases h5 with ⟨k1,k2,k3⟩ | ⟨k1,k2⟩
 ·
  exact ⟨_,.inr (.inr ⟨ha.ok1 h1,h2,i,h3,by rw [ha.nL];exact h4,.inl ⟨k1,rfl,k3⟩⟩),by rw [k2];exact ha.stop h4 _⟩
 obtain ⟨P',hp,hA⟩:=k2.vN ha
 exact ⟨P',.inr (.inr ⟨ha.ok1 h1,h2,i,h3,by rw [ha.nL];exact h4,.inr ⟨k1,hp⟩⟩),hA⟩
