import Derived.Test.YthicmlolanifhaaGreatK23
import Derived.Test.YthicmlolanifhaaGreatK26
import Derived.Test.YthicmlolanifhaaGreatProg
import Derived.Ground.GgzProg
import Derived.Ground.SlgmProg
import Derived.Shelf.SlIterI.Nil
import Derived.Shelf.SortM.Plain
import Derived.Shelf.SortM.SortNone
namespace Go.Proofs.YthicmlolanifhaaGreat
set_option maxRecDepth 100000
set_option maxHeartbeats 9000000
open Go.RowKit
set_option linter.unusedVariables false
set_option linter.unusedSimpArgs false
theorem dn {p:Prop} (h:p:=by
 go_wp2_with (at_builtin;refine Lib.wpList_append_run _ rfl _ _ _ _ rfl _ _ rfl rfl _ _ hr ?_)
 go_ret
 exact ⟨_,_,rfl,HV.out.1,HV.out.2⟩):p:=h
theorem dp {p:Prop} (h:p:=by
 go_wp2_with fail
 go_ret
 exact ⟨_,rfl,by rw [HF.out];exact mo.nil _ _,B1⟩):p:=h
theorem dq {p:Prop} (h:p:=by
 match j,hj with
 | 0,_=>rfl
 | 1,_=>rfl
 | 2,_=>rfl
 | 3,_=>rfl
 | 4,_=>rfl):p:=h
def zSw:Array Value:=#[.int .i64 0,.int .i64 0,.int .i64 0,.int .i64 0,.int .i64 0,.int .i64 0,.int .i64 0,.int .i64 0,.int .i64 0,.slice none 0 0,.slice none 0 0,.int .i64 0,.slice none 0 0,.slice none 0 0,.slice none 0 0,.int .i64 0,.int .i64 0]
theorem AN:(Tryz.prog.info? 75).map (fun i=>(i.zero,i.size,i.bytes))=some (some (.agg #[.int .i64 0,.int .i64 0,.int .i64 0]),3,24):=by kernel_rfl
theorem xI (a:Option Addr) (n cap:Nat) (f:Nat→Ent) (w:World) (hn:n≤1048576) (h:jA w a n f) :
  Calls Tryz.prog 53 #[.slice a n cap] w fun e w'=>∃ a' c',e=.returned (.slice a' n c')∧OG 75 3 w' w.heap.size a' n c' (iM (ig n f))∧Below w.heap.size w w':=by
 obtain ⟨a',c',W',hr,hv,hb⟩:=qE (c:=cap) 26 75 _ 3 24 AN Tryz.underlying26 rfl (by decide) (by decide) hn (by rw [mB,jc]) h.cs (wz _)
 have HV:Hid (OG 75 3 W' w.heap.size a' n c' (iM (ig n f))∧Below w.heap.size w W'):=⟨hv,hb⟩
 clear hv hb h
 go_enter Tryz.func53,Tryz.ntmps53
 exact dn
theorem xH (a:Option Addr) (n cap:Nat) (K:Nat→Pkt) (w:World) (hn:n≤1048576) (h:mI w a n K) :
  Calls Tryz.prog 55 #[.slice a n cap] w fun e w'=>∃ a' c',e=.returned (.slice a' n c')∧OG 50 8 w' w.heap.size a' n c' (oG n K)∧Below w.heap.size w w':=by
 obtain ⟨a',c',W',hr,hv,hb⟩:=qE (c:=cap) 31 50 _ 8 72 xx Tryz.underlying31 rfl (by decide) (by decide) hn (l9 _ _) h.cs (qM _ _)
 have HV:Hid (OG 50 8 W' w.heap.size a' n c' (oG n K)∧Below w.heap.size w W'):=⟨hv,hb⟩
 clear hv hb h
 go_enter Tryz.func55,Tryz.ntmps55
 exact dn
theorem Cq {cur cs:Array Value} {o:Nat} (hf:o+cs.size≤cur.size) (h:∀ j,j<cs.size→cur[o+j]?=cs[j]?):lay cur o cs=cur:=by
 refine Array.ext_getElem? fun i=>?_
 by_cases h1:i<o
 ·
  exact jQ hf i h1
 by_cases h2:i<o+cs.size
 ·
  have:=jh hf (i-o) (by omega)
  rw [show o+(i-o)=i by omega] at this
  rw [this,←h (i-o) (by omega),show o+(i-o)=i by omega]
 unfold lay
 simp only [List.getElem?_toArray]
 rw [List.getElem?_append_right (by simp;omega),List.getElem?_drop,Array.getElem?_toList]
 congr 1
 simp
 omega
theorem Put.same {w W:World} {g:Nat} {cs:Array Value} {t:TypeId} (h:Put w W g cs t) (hg:w.heap[g]?=some (.cells cs t (0,0))):Below w.heap.size w W :=
 ⟨h.to.os,h.to.tape,h.to.output,h.to.size,fun k hk=>by
  by_cases e:k=g
  ·
   subst e;exact h.blk.trans hg.symm
  ·
   exact h.to.block k hk (by simpa using e)⟩
structure CpS (w:World) (S P:Swg) (W:World):Prop where
 x:j5 w S.cells zSw P.cells 34 34 W
 e:OG 75 3 W w.heap.size P.aE P.nE P.cE (iM (ig P.nE P.e))
 n:iG W w.heap.size P.N
 k:OG 50 8 W w.heap.size P.aK P.nK P.cK (oG P.nK P.K)
theorem CpS.up {w:World} {S P:Swg} {W W':World} (h:CpS w S P W) (hb:Below W.heap.size W W'):CpS w S P W':=⟨h.x.up hb,h.e.up hb,h.n.up hb,h.k.up hb⟩
theorem iG.E9 {w w':World} {base g:Nat} {N:Cnt} {cs:Array Value} {t:TypeId} (h:iG w base N) (hg:w.heap[g]?=some (.cells cs t (0,0))) (h2:2≠t) (h4:4≠t) (ht:Touch [g] w w'):iG w' base N :=
 ⟨h.u.gX ht (fun x hx hy=>by rw [List.mem_singleton.1 hy] at hx;exact h.u.nV h2 hg hx),h.p.gX ht (fun x hx hy=>by rw [List.mem_singleton.1 hy] at hx;exact h.p.nV h4 hg hx)⟩
structure CpA (S P:Swg):Prop where
 c:P.C=S.C
 now:P.now=S.now
 nx:P.nx=S.nx
 nE:P.nE=S.nE
 e:P.e=S.e
 n:iA S.N P.N
 nK:P.nK=S.nK
 k:P.K=S.K
 dr:P.dr=S.dr
 lst:P.lst=S.lst
structure u9 (w:World) (S P:Swg) (k:Nat) (W:World):Prop where
 s:CpS w S P W
 a:CpA S P
 l:ke W w.heap.size P.aL P.nL P.cL P.L
 un:∀ x∈iU P.N.aU P.N.nU,x∉(List.range P.nL).flatMap fun i=>(P.L i).jO
 nL:P.nL=k
 al:∀ i,i<k→iC (S.L i) (P.L i)
theorem u9.up {w:World} {S P:Swg} {k:Nat} {W W':World} (h:u9 w S P k W) (hb:Below W.heap.size W W'):u9 w S P k W':=⟨h.s.up hb,h.a,h.l.up hb,h.un,h.nL,h.al⟩
def Swg.more (P:Swg) (k:Nat) (aL:Option Addr) (cL:Nat) (l:Lng):Swg:={ P with aL:=aL,nL:=k+1,cL:=cL,L:=fun i=>if i=k then l else P.L i }
theorem u9.more {w:World} {S P:Swg} {k g c2:Nat} {l2:Lng} {V V1 W W2:World} (h:u9 w S P k V) (hb:Below V.heap.size V V1) (ho:iw V1 V.heap.size l2) (ha:iC (S.L k) l2)
  (hu:OG 48 8 W w.heap.size (some ⟨g,0,none⟩) (k+1) c2 (vc k P.L++l2.cells.toList)) (ht:Touch (ix P.aL) V1 W) (hP:Put W W2 (w.heap.size+1+1) (lay P.cells 14 #[.slice (some ⟨g,0,none⟩) (k+1) c2]) 34):u9 w S (P.more k (some ⟨g,0,none⟩) c2 l2) (k+1) W2:=by
 have hk:=h.nL
 have h1:=h.up hb
 have hl:ke V w.heap.size P.aL k P.cL P.L:=hk▸h.l
 have hl1:=hl.up hb
 have hL:=hl.more hb h.s.x.bel.size ho hu ht
 have xa:=(ht.block _ (gO h1.s.x.a) (hl1.l.lF (by decide) h1.s.x.a)).trans h1.s.x.a
 have xb:=(ht.block _ (gO h1.s.x.b) (hl1.l.lF (by decide) h1.s.x.b)).trans h1.s.x.b
 have xc:=(ht.block _ (gO h1.s.x.c) (hl1.l.lF (by decide) h1.s.x.c)).trans h1.s.x.c
 have xB:j5 w S.cells zSw P.cells 34 34 W:=⟨xa,xb,xc,h1.s.x.bel.trans (ht.below h1.s.x.bel.size (fun x hx=>(hl1.l.blk x hx).1)),Nat.le_trans h1.s.x.sz ht.size⟩
 have e1:=h1.s.e.gX ht (h1.s.e.apart hl1.l (by decide))
 have k1:=h1.s.k.gX ht (h1.s.k.apart hl1.l (by decide))
 have n1:iG W w.heap.size P.N:=⟨h1.s.n.u.gX ht (fun x hx hy=>by
   obtain ⟨cs,q⟩:=h1.s.n.u.type x hx
   exact hl1.l.lF (by decide) q hy),h1.s.n.p.gX ht (fun x hx hy=>by
   obtain ⟨cs,q⟩:=h1.s.n.p.type x hx
   exact hl1.l.lF (by decide) q hy)⟩
 refine ⟨⟨xB.put hP,e1.gX hP.to (fun x hx hy=>e1.lF (by decide) xc ((List.mem_singleton.1 hy)▸hx)),n1.E9 xc (by decide) (by decide) hP.to,k1.gX hP.to (fun x hx hy=>k1.lF (by decide) xc ((List.mem_singleton.1 hy)▸hx))⟩,⟨h.a.c,h.a.now,h.a.nx,h.a.nE,h.a.e,h.a.n,h.a.nK,h.a.k,h.a.dr,h.a.lst⟩,hL.box xc (by decide) (by decide) (by decide) hP.to,fun x hx hy=>?_,rfl,fun i hi=>?_⟩
 ·
  have hx1:=(h.s.n.u.blk x hx).2
  simp only [List.mem_flatMap,List.mem_range] at hy
  obtain ⟨i,hi,hy⟩:=hy
  have hy':x∈(if i=k then l2 else P.L i).jO:=hy
  by_cases e:i=k
  ·
   rw [if_pos e] at hy'
   have:=(ho.blk x hy').1
   omega
  rw [if_neg e] at hy'
  have hi':i<k+1:=hi
  exact h.un x hx (by simp only [List.mem_flatMap,List.mem_range];exact ⟨i,by omega,hy'⟩)
 show iC (S.L i) (if i=k then l2 else P.L i)
 by_cases e:i=k
 ·
  rw [if_pos e,e];exact ha
 rw [if_neg e];exact h.al i (by omega)
theorem u9.alike {w:World} {S P:Swg} {k:Nat} {W:World} (h:u9 w S P k W) (hk:S.nL=k):hG S P :=
 ⟨h.a.c,h.a.now,h.a.nx,h.a.nE,h.a.e,h.a.n,h.a.nK,h.a.k,by rw [h.nL,hk],fun i hi=>h.al i (by omega),h.a.dr,h.a.lst⟩
theorem u9.own {w:World} {S P:Swg} {k:Nat} {W:World} (h:u9 w S P k W):ir W w.heap.size P:=⟨h.s.e,h.s.n,h.s.k,h.l,h.un⟩
theorem ir.off {w w':World} {base g:Nat} {S:Swg} {cs:Array Value} (h:ir w base S) (hg:w.heap[g]?=some (.cells cs 34 (0,0))) (ht:Touch [g] w w'):ir w' base S :=
 ⟨h.e.gX ht (fun x hx hy=>h.e.lF (by decide) hg ((List.mem_singleton.1 hy)▸hx)),h.n.E9 hg (by decide) (by decide) ht,h.k.gX ht (fun x hx hy=>h.k.lF (by decide) hg ((List.mem_singleton.1 hy)▸hx)),h.l.box hg (by decide) (by decide) (by decide) ht,h.un⟩
theorem OG.at0 {t:TypeId} {sz:Nat} {w:World} {base:Nat} {a:Option Addr} {n c:Nat} {xs:List Value} (h:OG t sz w base a n c xs) (h0:0<n):∃ g cur,a=some ⟨g,0,none⟩∧w.heap[g]?=some (.cells cur t (0,0))∧n*sz≤cur.size∧∀ j,j<n*sz→cur[j]?=xs[j]?:=by
 rcases h.2 with ⟨e,h1⟩ | ⟨g,cap,cur,e,hg,hbk,hn,hm,hs,ht⟩
 ·
  omega
 cases e
 refine ⟨g,cur,rfl,hbk,?_,fun j hj=>?_⟩
 ·
  rw [hs]
  exact Nat.mul_le_mul_right _ hn
 rw [←ht,List.getElem?_take_of_lt hj,Array.getElem?_toList]
theorem rdFr {w:World} {g:Nat} {x:Pkt} {t:TypeId} (h:w.heap[g]?=some (.cells x.cells t (0,0))):∀ j,j<5→w.cell? ⟨g,3+j,none⟩=(#[.int .i64 x.k,.int .i64 x.d,.int .i64 x.s,.int .i64 x.p,.string x.b]:Array Value)[j]?:=by
 intro j hj
 rw [gM h]
 exact dq
theorem Fu (x:Pkt) (j:Nat) (hj:j<5):x.cells[3+j]?=(#[.int .i64 x.k,.int .i64 x.d,.int .i64 x.s,.int .i64 x.p,.string x.b]:Array Value)[j]?:=dq
theorem sO (S:Swg) (w:World) (hs:S.Small) (hU:0<S.N.nU) (hPp:0<S.N.nP) (h:jK w S) :
  Calls Tryz.prog 24 #[.agg S.cells] w fun e w'=>∃ S2,e=.returned (.agg S2.cells)∧hG S S2∧ir w' w.heap.size S2∧Below w.heap.size w w':=by
 have HR:Hid (jK w S):=h
 have HS:Hid S.Small:=hs
 have HU0:Hid (0<S.N.nU∧0<S.N.nP):=⟨hU,hPp⟩
 clear h hs hU hPp
 obtain ⟨W0,eW⟩:∃ W,(((w.alloc (.cells S.cells 34)).alloc (.cells #[.int .i64 0,.int .i64 0,.int .i64 0,.int .i64 0,.int .i64 0,.int .i64 0,.int .i64 0,.int .i64 0,.int .i64 0,.slice none 0 0,.slice none 0 0,.int .i64 0,.slice none 0 0,.slice none 0 0,.slice none 0 0,.int .i64 0,.int .i64 0] 34)).alloc (.cells #[.int .i64 0,.int .i64 0,.int .i64 0,.int .i64 0,.int .i64 0,.int .i64 0,.int .i64 0,.int .i64 0,.int .i64 0,.slice none 0 0,.slice none 0 0,.int .i64 0,.slice none 0 0,.slice none 0 0,.slice none 0 0,.int .i64 0,.int .i64 0] 34))=W:=⟨_,rfl⟩
 have HX:Hid (j5 w S.cells #[.int .i64 0,.int .i64 0,.int .i64 0,.int .i64 0,.int .i64 0,.int .i64 0,.int .i64 0,.int .i64 0,.int .i64 0,.slice none 0 0,.slice none 0 0,.int .i64 0,.slice none 0 0,.slice none 0 0,.slice none 0 0,.int .i64 0,.int .i64 0] #[.int .i64 0,.int .i64 0,.int .i64 0,.int .i64 0,.int .i64 0,.int .i64 0,.int .i64 0,.int .i64 0,.int .i64 0,.slice none 0 0,.slice none 0 0,.int .i64 0,.slice none 0 0,.slice none 0 0,.slice none 0 0,.int .i64 0,.int .i64 0] 34 34 W0):=by rw [←eW];exact j5.start _ _ _ _ _ _
 have HL0:Hid (∀ j,j<17→((w.alloc (.cells S.cells 34)).alloc (.cells #[.int .i64 0,.int .i64 0,.int .i64 0,.int .i64 0,.int .i64 0,.int .i64 0,.int .i64 0,.int .i64 0,.int .i64 0,.slice none 0 0,.slice none 0 0,.int .i64 0,.slice none 0 0,.slice none 0 0,.slice none 0 0,.int .i64 0,.int .i64 0] 34)).cell? ⟨w.heap.size,0+j,none⟩=S.cells[j]?):=fun j _=>by rw [Nat.zero_add];exact gM (Two.start w S.cells #[.int .i64 0,.int .i64 0,.int .i64 0,.int .i64 0,.int .i64 0,.int .i64 0,.int .i64 0,.int .i64 0,.int .i64 0,.slice none 0 0,.slice none 0 0,.int .i64 0,.slice none 0 0,.slice none 0 0,.slice none 0 0,.int .i64 0,.int .i64 0] 34).a j
 have HC:Hid (W0.heap[w.heap.size+1+1]?=some (.cells #[.int .i64 0,.int .i64 0,.int .i64 0,.int .i64 0,.int .i64 0,.int .i64 0,.int .i64 0,.int .i64 0,.int .i64 0,.slice none 0 0,.slice none 0 0,.int .i64 0,.slice none 0 0,.slice none 0 0,.slice none 0 0,.int .i64 0,.int .i64 0] 34 (0,0))):=HX.out.c
 go_enter Tryz.func24,Tryz.ntmps24
 go_wp2_with (first | refine gY rfl 34 17 _ Tryz.underlying34 rfl ij (.tmp 1) rfl w.heap.size 0 rfl S.cells rfl HL0.out ?_ | refine gW rfl 34 (.tmp 3) (.tmp 8) rfl (w.heap.size+1+1) 0 rfl (.agg S.cells) rfl 17 rfl 34 _ HC.out ij (Nat.le_of_ble_eq_true rfl) (Swg.lx _) ?_)
 clear HL0
 intro W1 hP
 clear eW
 replace hP:=hP.cast (cs':=#[.int .i64 S.C.p,.int .i64 S.C.c,.int .i64 S.C.xo,.int .i64 S.C.xn,.int .i64 S.C.hd,.int .i64 S.C.lo,.int .i64 S.C.dl,.int .i64 S.now,.int .i64 S.nx,.slice S.aE S.nE S.cE,.slice S.N.aU S.N.nU S.N.cU,.int .i64 S.N.lo,.slice S.N.aP S.N.nP S.N.cP,.slice S.aK S.nK S.cK,.slice S.aL S.nL S.cL,.int .i64 S.dr,.int .i64 S.lst]) rfl
 replace HX:Hid (j5 w S.cells #[.int .i64 0,.int .i64 0,.int .i64 0,.int .i64 0,.int .i64 0,.int .i64 0,.int .i64 0,.int .i64 0,.int .i64 0,.slice none 0 0,.slice none 0 0,.int .i64 0,.slice none 0 0,.slice none 0 0,.slice none 0 0,.int .i64 0,.int .i64 0] #[.int .i64 S.C.p,.int .i64 S.C.c,.int .i64 S.C.xo,.int .i64 S.C.xn,.int .i64 S.C.hd,.int .i64 S.C.lo,.int .i64 S.C.dl,.int .i64 S.now,.int .i64 S.nx,.slice S.aE S.nE S.cE,.slice S.N.aU S.N.nU S.N.cU,.int .i64 S.N.lo,.slice S.N.aP S.N.nP S.N.cP,.slice S.aK S.nK S.cK,.slice S.aL S.nL S.cL,.int .i64 S.dr,.int .i64 S.lst] 34 34 W1):=HX.out.put hP
 have T1:Touch [w.heap.size+1,w.heap.size+1+1] W0 W1:=hP.to.mono (fun x hx=>by simp at hx;simp [hx])
 clear hP HC 
 have c9:W1.cell? ⟨w.heap.size,9,none⟩=some (.slice S.aE S.nE S.cE):=gM HX.out.a 9
 go_wp2_with fail
 refine (xI S.aE S.nE S.cE S.e _ HS.out.e (HR.out.e.up HX.out.bel)).mono ?_
 rintro e we ⟨aE,cE,rfl,rE,hb⟩
 clear c9
 have sE:=HX.out.sz
 replace HX:Hid (j5 w S.cells #[.int .i64 0,.int .i64 0,.int .i64 0,.int .i64 0,.int .i64 0,.int .i64 0,.int .i64 0,.int .i64 0,.int .i64 0,.slice none 0 0,.slice none 0 0,.int .i64 0,.slice none 0 0,.slice none 0 0,.slice none 0 0,.int .i64 0,.int .i64 0] #[.int .i64 S.C.p,.int .i64 S.C.c,.int .i64 S.C.xo,.int .i64 S.C.xn,.int .i64 S.C.hd,.int .i64 S.C.lo,.int .i64 S.C.dl,.int .i64 S.now,.int .i64 S.nx,.slice S.aE S.nE S.cE,.slice S.N.aU S.N.nU S.N.cU,.int .i64 S.N.lo,.slice S.N.aP S.N.nP S.N.cP,.slice S.aK S.nK S.cK,.slice S.aL S.nL S.cL,.int .i64 S.dr,.int .i64 S.lst] 34 34 we):=HX.out.up hb
 have T2:Touch [w.heap.size+1,w.heap.size+1+1] W1 we:=Touch.iT hb
 clear hb
 have HC:=HX.out.c
 replace HC:Hid (we.heap[w.heap.size+1+1]?=some (.cells #[.int .i64 S.C.p,.int .i64 S.C.c,.int .i64 S.C.xo,.int .i64 S.C.xn,.int .i64 S.C.hd,.int .i64 S.C.lo,.int .i64 S.C.dl,.int .i64 S.now,.int .i64 S.nx,.slice S.aE S.nE S.cE,.slice S.N.aU S.N.nU S.N.cU,.int .i64 S.N.lo,.slice S.N.aP S.N.nP S.N.cP,.slice S.aK S.nK S.cK,.slice S.aL S.nL S.cL,.int .i64 S.dr,.int .i64 S.lst] 34 (0,0))):=HC
 go_wp2_with (refine gW rfl 26 (.tmp 12) (.tmp 11) rfl (w.heap.size+1+1) 9 rfl (.slice aE S.nE cE) rfl 1 rfl 34 _ HC.out wa (Nat.le_of_ble_eq_true rfl) (by simp [Value.cells,Value.oneCell',Rnd.cells,Cfg.cells,Cnt.cells]) ?_)
 intro W3 hP
 replace hP:=hP.cast (cs':=#[.int .i64 S.C.p,.int .i64 S.C.c,.int .i64 S.C.xo,.int .i64 S.C.xn,.int .i64 S.C.hd,.int .i64 S.C.lo,.int .i64 S.C.dl,.int .i64 S.now,.int .i64 S.nx,.slice aE S.nE cE,.slice S.N.aU S.N.nU S.N.cU,.int .i64 S.N.lo,.slice S.N.aP S.N.nP S.N.cP,.slice S.aK S.nK S.cK,.slice S.aL S.nL S.cL,.int .i64 S.dr,.int .i64 S.lst]) rfl
 replace HX:Hid (j5 w S.cells #[.int .i64 0,.int .i64 0,.int .i64 0,.int .i64 0,.int .i64 0,.int .i64 0,.int .i64 0,.int .i64 0,.int .i64 0,.slice none 0 0,.slice none 0 0,.int .i64 0,.slice none 0 0,.slice none 0 0,.slice none 0 0,.int .i64 0,.int .i64 0] #[.int .i64 S.C.p,.int .i64 S.C.c,.int .i64 S.C.xo,.int .i64 S.C.xn,.int .i64 S.C.hd,.int .i64 S.C.lo,.int .i64 S.C.dl,.int .i64 S.now,.int .i64 S.nx,.slice aE S.nE cE,.slice S.N.aU S.N.nU S.N.cU,.int .i64 S.N.lo,.slice S.N.aP S.N.nP S.N.cP,.slice S.aK S.nK S.cK,.slice S.aL S.nL S.cL,.int .i64 S.dr,.int .i64 S.lst] 34 34 W3):=HX.out.put hP
 have T3:Touch [w.heap.size+1,w.heap.size+1+1] we W3:=hP.to.mono (fun x hx=>by simp at hx;simp [hx])
 clear hP HC 
 have c10:W3.cell? ⟨w.heap.size,10,none⟩=some (.slice S.N.aU S.N.nU S.N.cU):=gM HX.out.a 10
 have c11:W3.cell? ⟨w.heap.size,11,none⟩=some (.int .i64 S.N.lo):=gM HX.out.a 11
 have c12:W3.cell? ⟨w.heap.size,12,none⟩=some (.slice S.N.aP S.N.nP S.N.cP):=gM HX.out.a 12
 go_wp2_with fail
 refine (sP S.N _ HU0.out.1 HU0.out.2 HS.out.n (HR.out.n.up HX.out.bel)).mono ?_
 rintro e wn ⟨M,rfl,rN,hb,aN⟩
 clear c10 c11 c12
 have sN:=HX.out.sz
 replace HX:Hid (j5 w S.cells #[.int .i64 0,.int .i64 0,.int .i64 0,.int .i64 0,.int .i64 0,.int .i64 0,.int .i64 0,.int .i64 0,.int .i64 0,.slice none 0 0,.slice none 0 0,.int .i64 0,.slice none 0 0,.slice none 0 0,.slice none 0 0,.int .i64 0,.int .i64 0] #[.int .i64 S.C.p,.int .i64 S.C.c,.int .i64 S.C.xo,.int .i64 S.C.xn,.int .i64 S.C.hd,.int .i64 S.C.lo,.int .i64 S.C.dl,.int .i64 S.now,.int .i64 S.nx,.slice aE S.nE cE,.slice S.N.aU S.N.nU S.N.cU,.int .i64 S.N.lo,.slice S.N.aP S.N.nP S.N.cP,.slice S.aK S.nK S.cK,.slice S.aL S.nL S.cL,.int .i64 S.dr,.int .i64 S.lst] 34 34 wn):=HX.out.up hb
 have T4:Touch [w.heap.size+1,w.heap.size+1+1] W3 wn:=Touch.iT hb
 clear hb
 have HC:=HX.out.c
 replace HC:Hid (wn.heap[w.heap.size+1+1]?=some (.cells #[.int .i64 S.C.p,.int .i64 S.C.c,.int .i64 S.C.xo,.int .i64 S.C.xn,.int .i64 S.C.hd,.int .i64 S.C.lo,.int .i64 S.C.dl,.int .i64 S.now,.int .i64 S.nx,.slice aE S.nE cE,.slice S.N.aU S.N.nU S.N.cU,.int .i64 S.N.lo,.slice S.N.aP S.N.nP S.N.cP,.slice S.aK S.nK S.cK,.slice S.aL S.nL S.cL,.int .i64 S.dr,.int .i64 S.lst] 34 (0,0))):=HC
 go_wp2_with (refine gW rfl 30 (.tmp 16) (.tmp 15) rfl (w.heap.size+1+1) 10 rfl (.agg M.cells) rfl 3 rfl 34 _ HC.out CZ (Nat.le_of_ble_eq_true rfl) (by simp [Value.cells,Value.oneCell',Rnd.cells,Cfg.cells,Cnt.cells]) ?_)
 intro W5 hP
 replace hP:=hP.cast (cs':=#[.int .i64 S.C.p,.int .i64 S.C.c,.int .i64 S.C.xo,.int .i64 S.C.xn,.int .i64 S.C.hd,.int .i64 S.C.lo,.int .i64 S.C.dl,.int .i64 S.now,.int .i64 S.nx,.slice aE S.nE cE,.slice M.aU M.nU M.cU,.int .i64 M.lo,.slice M.aP M.nP M.cP,.slice S.aK S.nK S.cK,.slice S.aL S.nL S.cL,.int .i64 S.dr,.int .i64 S.lst]) rfl
 replace HX:Hid (j5 w S.cells #[.int .i64 0,.int .i64 0,.int .i64 0,.int .i64 0,.int .i64 0,.int .i64 0,.int .i64 0,.int .i64 0,.int .i64 0,.slice none 0 0,.slice none 0 0,.int .i64 0,.slice none 0 0,.slice none 0 0,.slice none 0 0,.int .i64 0,.int .i64 0] #[.int .i64 S.C.p,.int .i64 S.C.c,.int .i64 S.C.xo,.int .i64 S.C.xn,.int .i64 S.C.hd,.int .i64 S.C.lo,.int .i64 S.C.dl,.int .i64 S.now,.int .i64 S.nx,.slice aE S.nE cE,.slice M.aU M.nU M.cU,.int .i64 M.lo,.slice M.aP M.nP M.cP,.slice S.aK S.nK S.cK,.slice S.aL S.nL S.cL,.int .i64 S.dr,.int .i64 S.lst] 34 34 W5):=HX.out.put hP
 have T5:Touch [w.heap.size+1,w.heap.size+1+1] wn W5:=hP.to.mono (fun x hx=>by simp at hx;simp [hx])
 clear hP HC 
 have c13:W5.cell? ⟨w.heap.size,13,none⟩=some (.slice S.aK S.nK S.cK):=gM HX.out.a 13
 go_wp2_with fail
 refine (xH S.aK S.nK S.cK S.K _ HS.out.k (HR.out.k.up HX.out.bel)).mono ?_
 rintro e wk ⟨aK,cK,rfl,rK,hb⟩
 clear c13
 have sK:=HX.out.sz
 replace HX:Hid (j5 w S.cells #[.int .i64 0,.int .i64 0,.int .i64 0,.int .i64 0,.int .i64 0,.int .i64 0,.int .i64 0,.int .i64 0,.int .i64 0,.slice none 0 0,.slice none 0 0,.int .i64 0,.slice none 0 0,.slice none 0 0,.slice none 0 0,.int .i64 0,.int .i64 0] #[.int .i64 S.C.p,.int .i64 S.C.c,.int .i64 S.C.xo,.int .i64 S.C.xn,.int .i64 S.C.hd,.int .i64 S.C.lo,.int .i64 S.C.dl,.int .i64 S.now,.int .i64 S.nx,.slice aE S.nE cE,.slice M.aU M.nU M.cU,.int .i64 M.lo,.slice M.aP M.nP M.cP,.slice S.aK S.nK S.cK,.slice S.aL S.nL S.cL,.int .i64 S.dr,.int .i64 S.lst] 34 34 wk):=HX.out.up hb
 have T6:Touch [w.heap.size+1,w.heap.size+1+1] W5 wk:=Touch.iT hb
 clear hb
 have HC:=HX.out.c
 replace HC:Hid (wk.heap[w.heap.size+1+1]?=some (.cells #[.int .i64 S.C.p,.int .i64 S.C.c,.int .i64 S.C.xo,.int .i64 S.C.xn,.int .i64 S.C.hd,.int .i64 S.C.lo,.int .i64 S.C.dl,.int .i64 S.now,.int .i64 S.nx,.slice aE S.nE cE,.slice M.aU M.nU M.cU,.int .i64 M.lo,.slice M.aP M.nP M.cP,.slice S.aK S.nK S.cK,.slice S.aL S.nL S.cL,.int .i64 S.dr,.int .i64 S.lst] 34 (0,0))):=HC
 go_wp2_with (refine gW rfl 31 (.tmp 20) (.tmp 19) rfl (w.heap.size+1+1) 13 rfl (.slice aK S.nK cK) rfl 1 rfl 34 _ HC.out CX (Nat.le_of_ble_eq_true rfl) (by simp [Value.cells,Value.oneCell',Rnd.cells,Cfg.cells,Cnt.cells]) ?_)
 intro W7 hP
 replace hP:=hP.cast (cs':=#[.int .i64 S.C.p,.int .i64 S.C.c,.int .i64 S.C.xo,.int .i64 S.C.xn,.int .i64 S.C.hd,.int .i64 S.C.lo,.int .i64 S.C.dl,.int .i64 S.now,.int .i64 S.nx,.slice aE S.nE cE,.slice M.aU M.nU M.cU,.int .i64 M.lo,.slice M.aP M.nP M.cP,.slice aK S.nK cK,.slice S.aL S.nL S.cL,.int .i64 S.dr,.int .i64 S.lst]) rfl
 replace HX:Hid (j5 w S.cells #[.int .i64 0,.int .i64 0,.int .i64 0,.int .i64 0,.int .i64 0,.int .i64 0,.int .i64 0,.int .i64 0,.int .i64 0,.slice none 0 0,.slice none 0 0,.int .i64 0,.slice none 0 0,.slice none 0 0,.slice none 0 0,.int .i64 0,.int .i64 0] #[.int .i64 S.C.p,.int .i64 S.C.c,.int .i64 S.C.xo,.int .i64 S.C.xn,.int .i64 S.C.hd,.int .i64 S.C.lo,.int .i64 S.C.dl,.int .i64 S.now,.int .i64 S.nx,.slice aE S.nE cE,.slice M.aU M.nU M.cU,.int .i64 M.lo,.slice M.aP M.nP M.cP,.slice aK S.nK cK,.slice S.aL S.nL S.cL,.int .i64 S.dr,.int .i64 S.lst] 34 34 W7):=HX.out.put hP
 have T7:Touch [w.heap.size+1,w.heap.size+1+1] wk W7:=hP.to.mono (fun x hx=>by simp at hx;simp [hx])
 clear hP HC 
 obtain ⟨P,eP⟩:∃ P,(⟨S.C,S.now,S.nx,aE,S.nE,cE,S.e,M,aK,S.nK,cK,S.K,S.aL,S.nL,S.cL,S.L,S.dr,S.lst⟩:Swg)=P:=⟨_,rfl⟩
 have e3:#[.int .i64 S.C.p,.int .i64 S.C.c,.int .i64 S.C.xo,.int .i64 S.C.xn,.int .i64 S.C.hd,.int .i64 S.C.lo,.int .i64 S.C.dl,.int .i64 S.now,.int .i64 S.nx,.slice aE S.nE cE,.slice M.aU M.nU M.cU,.int .i64 M.lo,.slice M.aP M.nP M.cP,.slice aK S.nK cK,.slice S.aL S.nL S.cL,.int .i64 S.dr,.int .i64 S.lst]=P.cells:=by rw [←eP];rfl
 rw [e3] at HX
 clear e3
 have hlow:∀ x∈[w.heap.size+1,w.heap.size+1+1],x<w.heap.size+1+1+1:=by intro x hx;simp at hx;omega
 have HA:Hid (CpA S P):=by rw [←eP];exact ⟨rfl,rfl,rfl,rfl,rfl,aN,rfl,rfl,rfl,rfl⟩
 have HP:Hid (CpS w S P W7∧P.nK=S.nK∧P.K=S.K):=by
  rw [←eP] at HX ⊢
  exact ⟨⟨HX.out,OG.mono (rE.low ((((T3.trans T4).trans T5).trans T6).trans T7) (fun x hx=>by have:=hlow x hx;omega)) (by omega),iG.mono (rN.jm ((T5.trans T6).trans T7) (fun x hx=>by have:=hlow x hx;omega)) (by omega),OG.mono (rK.low T7 (fun x hx=>by have:=hlow x hx;omega)) (by omega)⟩,rfl,rfl⟩
 clear HX eP rE rN rK aN sE sN sK hlow T1 T2 T3 T4 T5 T6 T7
 have HU:Hid (mI w S.aK S.nK S.K):=HR.out.k
 obtain ⟨aK0,eU⟩:∃ a,S.aK=a:=⟨_,rfl⟩
 have c13:W7.cell? ⟨w.heap.size,13,none⟩=some (.slice aK0 S.nK S.cK):=by rw [←eU];exact gM HP.out.1.x.a 13
 rw [eU] at HU
 clear eU
 have hnk:=HS.out.k
 go_wp2_with fail
 clear c13
 go_loopw [24] (fun i wr=>∃ k:Nat,k≤S.nK∧i=.int .i64 k∧Hid (CpS w S P wr∧P.nK=S.nK∧P.K=S.K)) (fun i _=>S.nK-(intOf i).toNat)
 case atStart=>exact ⟨0,Nat.zero_le _,rfl,HP⟩
 clear HP
 obtain ⟨k,hk,rfl,HP⟩:=hrel
 by_cases hlt:k<S.nK
 ·
  have hlt':(k:Int)<S.nK:=by omega
  obtain ⟨g0,o0,ea,hc⟩:=(HU.out.up HP.out.1.x.bel) k hlt
  subst ea
  have HCk:Hid (∀ j,j<8→wr.cell? ⟨g0,o0+k*8+j,none⟩=(S.K k).cells[j]?):=hc
  clear hc
  have HG:Hid ((wr.alloc (.cells #[.int .i64 0,.int .i64 0,.int .i64 0,.int .i64 0,.int .i64 0,.int .i64 0,.int .i64 0,.string ⟨#[]⟩] 50)).heap[wr.heap.size]?=some (.cells #[.int .i64 0,.int .i64 0,.int .i64 0,.int .i64 0,.int .i64 0,.int .i64 0,.int .i64 0,.string ⟨#[]⟩] 50 (0,0))):=gV _ _
  go_wp2_with (first | refine gY rfl 50 8 _ Tryz.underlying50 rfl uN (.tmp 27) rfl g0 (o0+k*8) rfl (S.K k).cells rfl HCk.out ?_ | refine gW rfl 50 (.tmp 5) (.tmp 28) rfl wr.heap.size 0 rfl (.agg (S.K k).cells) rfl 8 rfl 50 _ HG.out uN (Nat.le_of_ble_eq_true rfl) (Pkt.lx _) ?_)
  intro X0 hP
  replace hP:Put _ X0 wr.heap.size (S.K k).cells 50:=hP.cast rfl
  have hb:Below wr.heap.size wr X0:=((Below.refl _ _).alloc (Nat.le_refl _) _).trans (hP.to.below (by simp) (fun x hx=>by simp at hx;omega))
  have kP:=hP.blk
  replace HP:Hid (CpS w S P X0∧P.nK=S.nK∧P.K=S.K):=⟨HP.out.1.up hb,HP.out.2⟩
  clear hP hb HG HCk
  obtain ⟨gP,egP⟩:∃ g,wr.heap.size=g:=⟨_,rfl⟩
  rw [egP] at kP ⊢
  clear egP
  go_wp2_with fail
  refine iV (fun w'=>w'.heap[w.heap.size+1+1]?=some (.cells P.cells 34 (0,0))∧w'.heap[gP]?=some (.cells (S.K k).cells 50 (0,0))) 8 (by kernel_rfl) ?_
  have hd:Below X0.heap.size X0 X0.drew:=(Below.refl _ _).drew
  replace HP:Hid (CpS w S P X0.drew∧P.nK=S.nK∧P.K=S.K):=⟨HP.out.1.up hd,HP.out.2⟩
  replace kP:=(hd.block _ (gO kP)).trans kP
  clear hd
  generalize X0.drew=V at *
  obtain ⟨gK,cur,eaK,hkK,hsK,hcK⟩:=HP.out.1.k.at0 (by rw [HP.out.2.1];omega)
  rw [HP.out.2.1,HP.out.2.2] at hcK
  rw [HP.out.2.1] at hsK
  have HaK:Hid (P.aK=some ⟨gK,0,none⟩):=eaK
  have HcK:Hid (∀ j,j<S.nK*8→cur[j]?=(oG S.nK S.K)[j]?):=hcK
  clear eaK hcK
  have hT0:V.heap[w.heap.size+1+1]?=some (.cells P.cells 34 (0,0))∧V.heap[gP]?=some (.cells (S.K k).cells 50 (0,0)):=⟨HP.out.1.x.c,kP⟩
  refine tE 0 29 hT0 ?_
  refine ka (i:=1) (some 30) (v:=?_) ?_ hT0 ?_
  rotate_left
  ·
   intro wx hSw
   have c13:wx.cell? ⟨w.heap.size+1+1,13,none⟩=some (.slice (some ⟨gK,0,none⟩) S.nK P.cK):=by rw [gM hSw.1 13,←HaK.out,←HP.out.2.1];rfl
   go_simp
   try with_reducible rfl
  try simp only [Act.put,PZ]
  refine tE 2 31 hT0 ?_
  refine tE 3 32 hT0 ?_
  refine ka (i:=4) (some 33) (v:=.agg #[.int .i64 (S.K k).k,.int .i64 (S.K k).d,.int .i64 (S.K k).s,.int .i64 (S.K k).p,.string (S.K k).b]) ?_ hT0 ?_
  ·
   intro wx hSw
   exact jn 43 5 _ Tryz.underlying43 rfl mm (.tmp 32) rfl gP 3 rfl _ rfl (fun j hj=>rdFr hSw.2 j hj)
  try simp only [Act.put,PZ]
  refine gT (rs:=[5]) (by kernel_rfl) (by simp) ?_
  refine gR.cons rfl (fun K hK=>?_) gR.nil
  go_simp
  refine (u0 _ _ _ _ _ _ (HS.out.b k hlt)).mono ?_
  rintro e X1 ⟨rfl,hb⟩
  replace HP:Hid (CpS w S P X1∧P.nK=S.nK∧P.K=S.K):=⟨HP.out.1.up hb,HP.out.2⟩
  replace kP:=(hb.block _ (gO kP)).trans kP
  replace hkK:=(hb.block _ (gO hkK)).trans hkK
  clear hb hT0
  go_wp2_with fail
  refine hK.out _ _ ⟨HP.out.1.x.c,kP⟩ ?_
  clear hK K
  try simp only [Act.put,PZ]
  have hT0:X1.heap[w.heap.size+1+1]?=some (.cells P.cells 34 (0,0))∧X1.heap[gP]?=some (.cells (S.K k).cells 50 (0,0)):=⟨HP.out.1.x.c,kP⟩
  refine gT (rs:=[6]) (by kernel_rfl) (by simp) ?_
  refine gR.cons rfl (fun K hK=>?_) gR.nil
  go_simp
  refine hK.out _ _ hT0 ?_
  clear hK K
  try simp only [Act.put,PZ]
  refine gT (rs:=[7]) (by kernel_rfl) (by simp) ?_
  refine gR.cons rfl (fun K hK=>?_) gR.nil
  go_simp
  refine hK.out _ _ hT0 ?_
  clear hK K
  try simp only [Act.put,PZ]
  refine gT (rs:=[8]) (by kernel_rfl) (by simp) ?_
  refine gR.last rfl (fun K hK=>?_)
  refine jP (by kernel_rfl) none rfl 43 (.tmp 36) (.tmp 34) rfl gK (k*8+3) (by simp [Act.eval]) (.agg #[.int .i64 (S.K k).k,.int .i64 (S.K k).d,.int .i64 (S.K k).s,.int .i64 (S.K k).p,.string (S.K k).b]) rfl 5 rfl 50 _ hkK mm (by omega) (by simp [Value.cells,Value.oneCell']) ?_
  intro X2 hP
  refine hK.out _ _ ?_
  clear hK K
  try simp only [Act.put,PZ]
  refine iH (by kernel_rfl) ?_ _
  replace hP:Put X1 X2 gK cur 50:=hP.cast (Cq (by show k*8+3+5≤_;omega) (fun j hj=>by
   have hj5:j<5:=hj
   have h8:=HcK.out (k*8+(3+j)) (by omega)
   rw [um _ _ _ _ hlt (by omega)] at h8
   rw [Nat.add_assoc,h8]
   exact Fu (S.K k) j hj5))
  have HN:Hid (CpS w S P X2∧P.nK=S.nK∧P.K=S.K):=⟨HP.out.1.up (hP.same hkK),HP.out.2⟩
  clear hP kP hkK HP HaK HcK hsK hT0
  go_wp2_with fail
  go_roundw
  case rel=>exact ⟨k+1,by omega,by go_num,HN⟩
  case measure=>simp [intOf];omega
 obtain rfl:k=S.nK:=by omega
 have HC:Hid (wr.heap[w.heap.size+1+1]?=some (.cells P.cells 34 (0,0))):=HP.out.1.x.c
 go_wp2_with (refine gW rfl 32 (.tmp 38) (.const (.slice none 0 0)) rfl (w.heap.size+1+1) 14 rfl (.slice none 0 0) rfl 1 rfl 34 _ HC.out yf (Nat.le_of_ble_eq_true rfl) (by simp [Value.cells,Value.oneCell']) ?_)
 intro X0 hP
 obtain ⟨P1,eP1⟩:∃ P1,({ P with aL:=none,nL:=0,cL:=0 }:Swg)=P1:=⟨_,rfl⟩
 replace hP:Put wr X0 (w.heap.size+1+1) P1.cells 34:=hP.cast (by rw [←eP1];rfl)
 have HP1:Hid (u9 w S P1 0 X0):=by
  have q:=HP.out.1
  rw [←eP1] at hP ⊢
  exact ⟨⟨q.x.put hP,q.e.gX hP.to (fun x hx hy=>q.e.lF (by decide) q.x.c ((List.mem_singleton.1 hy)▸hx)),q.n.E9 q.x.c (by decide) (by decide) hP.to,q.k.gX hP.to (fun x hx hy=>q.k.lF (by decide) q.x.c ((List.mem_singleton.1 hy)▸hx))⟩,⟨HA.out.c,HA.out.now,HA.out.nx,HA.out.nE,HA.out.e,HA.out.n,HA.out.nK,HA.out.k,HA.out.dr,HA.out.lst⟩,ke.nil _ _ _,fun x hx hy=>by simp at hy,rfl,fun i hi=>absurd hi (Nat.not_lt_zero _)⟩
 clear hP HC HP eP1 HA HU
 have HU:Hid (Bl w S.aL S.nL S.L):=HR.out.l
 obtain ⟨aL0,eU⟩:∃ a,S.aL=a:=⟨_,rfl⟩
 have c14:X0.cell? ⟨w.heap.size,14,none⟩=some (.slice aL0 S.nL S.cL):=by rw [←eU];exact gM HP1.out.s.x.a 14
 rw [eU] at HU
 clear eU
 have hnl:=HS.out.l
 go_wp2_with fail
 clear c14
 go_loopw [42] (fun i wr=>∃ (k:Nat) (P:Swg),k≤S.nL∧i=.int .i64 k∧Hid (u9 w S P k wr)) (fun i _=>S.nL-(intOf i).toNat)
 case atStart=>exact ⟨0,P1,Nat.zero_le _,rfl,HP1⟩
 clear HP1
 obtain ⟨k,P,hk,rfl,HP⟩:=hrel
 by_cases hlt:k<S.nL
 ·
  have hlt':(k:Int)<S.nL:=by omega
  obtain ⟨g0,o0,ea,hc⟩:=(HU.out.up HP.out.s.x.bel) k hlt
  have HP0:Hid (∀ x∈ix P.aL,x<wr.heap.size):=fun x hx=>(HP.out.l.l.blk x hx).2
  subst ea
  have HCk:Hid (∀ j,j<8→wr.cell? ⟨g0,o0+k*8+j,none⟩=(S.L k).cells[j]?):=hc
  clear hc
  have HG:Hid ((wr.alloc (.cells #[.bool false,.slice none 0 0,.slice none 0 0,.slice none 0 0,.slice none 0 0,.int .i64 0,.bool false,.slice none 0 0] 48)).heap[wr.heap.size]?=some (.cells #[.bool false,.slice none 0 0,.slice none 0 0,.slice none 0 0,.slice none 0 0,.int .i64 0,.bool false,.slice none 0 0] 48 (0,0))):=gV _ _
  go_wp2_with (first | refine gY rfl 48 8 _ Tryz.underlying48 rfl jR (.tmp 44) rfl g0 (o0+k*8) rfl (S.L k).cells rfl HCk.out ?_ | refine gW rfl 48 (.tmp 7) (.tmp 45) rfl wr.heap.size 0 rfl (.agg (S.L k).cells) rfl 8 rfl 48 _ HG.out jR (Nat.le_of_ble_eq_true rfl) (Lng.lx _) ?_)
  intro X0 hP
  replace hP:Put _ X0 wr.heap.size (S.L k).cells 48:=hP.cast rfl
  have hb:Below wr.heap.size wr X0:=((Below.refl _ _).alloc (Nat.le_refl _) _).trans (hP.to.below (by simp) (fun x hx=>by simp at hx;omega))
  have kL:=hP.blk
  replace HP:Hid (u9 w S P k X0):=HP.out.up hb
  have HPl:Hid (∀ x∈ix P.aL,x<wr.heap.size):=fun x hx=>(HP0.out x hx)
  clear hP hb HG HCk HP0
  obtain ⟨gL,egL⟩:∃ g,wr.heap.size=g:=⟨_,rfl⟩
  rw [egL] at kL HPl ⊢
  clear egL
  go_wp2_with fail
  refine iV (fun w'=>w'.heap[w.heap.size+1+1]?=some (.cells P.cells 34 (0,0))∧w'.heap[gL]?=some (.cells (S.L k).cells 48 (0,0))) 7 (by kernel_rfl) ?_
  have hd:Below X0.heap.size X0 X0.drew:=(Below.refl _ _).drew
  replace HP:Hid (u9 w S P k X0.drew):=HP.out.up hd
  replace kL:=(hd.block _ (gO kL)).trans kL
  clear hd
  generalize X0.drew=V at *
  have hT0:V.heap[w.heap.size+1+1]?=some (.cells P.cells 34 (0,0))∧V.heap[gL]?=some (.cells (S.L k).cells 48 (0,0)):=⟨HP.out.s.x.c,kL⟩
  refine tE 0 46 hT0 ?_
  refine ka (i:=1) (some 47) (v:=?_) ?_ hT0 ?_
  rotate_left
  ·
   intro wx hSw
   have c14:wx.cell? ⟨w.heap.size+1+1,14,none⟩=some (.slice P.aL k P.cL):=by rw [gM hSw.1 14,←HP.out.nL];rfl
   go_simp
   try with_reducible rfl
  try simp only [Act.put,PZ]
  refine ka (i:=2) (some 48) (v:=.agg (S.L k).cells) ?_ hT0 ?_
  ·
   intro wx hSw
   exact jn 48 8 _ Tryz.underlying48 rfl jR (.tmp 7) rfl gL 0 rfl _ rfl (fun j _=>by rw [Nat.zero_add];exact gM hSw.2 j)
  try simp only [Act.put,PZ]
  refine gT (rs:=[3]) (by kernel_rfl) (by simp) ?_
  refine gR.cons rfl (fun K hK=>?_) gR.nil
  go_simp
  refine (wF (S.L k) _ (HS.out.ls k hlt) ((HR.out.ls k hlt).up HP.out.s.x.bel)).mono ?_
  rintro e X1 ⟨l2,rfl,al2,ol2,hb⟩
  have HA1:Hid (iC (S.L k) l2∧iw X1 V.heap.size l2∧Below V.heap.size V X1):=⟨al2,ol2,hb⟩
  have Q1:=HP.out.up hb
  have hu0:OG 48 8 X1 w.heap.size P.aL k P.cL (vc k P.L):=by have:=Q1.l.l;rw [HP.out.nL] at this;exact this
  obtain ⟨g1,c3,X3,hr,hu,ht,hg⟩:=lI 32 48 _ 8 144 AK Tryz.underlying32 rfl (by decide) (by decide) hu0 (by omega) (Nat.le_trans HP.out.s.x.bel.size hb.size) l2.cells rfl (Lng.lx _)
  have LN:l2.cells=#[.bool l2.st,.slice l2.aT l2.nT l2.cT,.slice l2.aU l2.nU l2.cU,.slice l2.R.aQ l2.R.nQ l2.R.cQ,.slice l2.R.aD l2.R.nD l2.R.cD,.int .i64 l2.R.turn,.bool l2.R.fresh,.slice l2.R.aS l2.R.nS l2.R.cS]:=rfl
  rw [LN] at hr ⊢
  have kL1:=(hb.block _ (gO kL)).trans kL
  have hT1:X1.heap[w.heap.size+1+1]?=some (.cells P.cells 34 (0,0))∧X1.heap[gL]?=some (.cells (S.L k).cells 48 (0,0)):=⟨Q1.s.x.c,kL1⟩
  have hT2:(X1.alloc (.cells #[.bool l2.st,.slice l2.aT l2.nT l2.cT,.slice l2.aU l2.nU l2.cU,.slice l2.R.aQ l2.R.nQ l2.R.cQ,.slice l2.R.aD l2.R.nD l2.R.cD,.int .i64 l2.R.turn,.bool l2.R.fresh,.slice l2.R.aS l2.R.nS l2.R.cS] 48)).heap[w.heap.size+1+1]?=some (.cells P.cells 34 (0,0))∧(X1.alloc (.cells #[.bool l2.st,.slice l2.aT l2.nT l2.cT,.slice l2.aU l2.nU l2.cU,.slice l2.R.aQ l2.R.nQ l2.R.cQ,.slice l2.R.aD l2.R.nD l2.R.cD,.int .i64 l2.R.turn,.bool l2.R.fresh,.slice l2.R.aS l2.R.nS l2.R.cS] 48)).heap[gL]?=some (.cells (S.L k).cells 48 (0,0)):=⟨(iv _ (gO hT1.1)).trans hT1.1,(iv _ (gO hT1.2)).trans hT1.2⟩
  have hnL:gL∉ix P.aL:=fun hx=>by have:=(HPl.out gL hx);omega
  have hT3:X3.heap[w.heap.size+1+1]?=some (.cells P.cells 34 (0,0))∧X3.heap[gL]?=some (.cells (S.L k).cells 48 (0,0)):=⟨(ht.block _ (gO hT1.1) (hu0.lF (by decide) hT1.1)).trans hT1.1,(ht.block _ (gO hT1.2) hnL).trans hT1.2⟩
  have HN3:Hid (OG 48 8 X3 w.heap.size (some ⟨g1,0,none⟩) (k+1) c3 (vc k P.L++l2.cells.toList)∧Touch (ix P.aL) X1 X3):=⟨hu,ht⟩
  have HR3:Hid ((Builtin.append_ #[32,32] 32 #[.slice P.aL k P.cL,.slice (some ⟨X1.heap.size,0,none⟩) 1 1]).run Tryz.prog (X1.alloc (.cells #[.bool l2.st,.slice l2.aT l2.nT l2.cT,.slice l2.aU l2.nU l2.cU,.slice l2.R.aQ l2.R.nQ l2.R.cQ,.slice l2.R.aD l2.R.nD l2.R.cD,.int .i64 l2.R.turn,.bool l2.R.fresh,.slice l2.R.aS l2.R.nS l2.R.cS] 48))=.ok (.slice (some ⟨g1,0,none⟩) (k+1) c3) X3):=hr
  clear al2 ol2 hb Q1 hu0 hr hu ht hg hT0 kL1 hnL kL LN
  go_wp2_with fail
  refine hK.out _ _ hT1 ?_
  clear hK K
  try simp only [Act.put,PZ]
  refine gT (rs:=[4]) (by kernel_rfl) (by simp) ?_
  refine gR.cons rfl (fun K hK=>?_) gR.nil
  go_simp
  refine hK.out _ _ hT2 ?_
  clear hK K
  try simp only [Act.put,PZ]
  refine gT (rs:=[5]) (by kernel_rfl) (by simp) ?_
  refine gR.cons rfl (fun K hK=>?_) gR.nil
  refine k9 (by kernel_rfl) (some 51) rfl (.tmp 47) (.tmp 50) 32 _ _ _ rfl rfl rfl rfl HR3.out ?_
  refine hK.out _ _ hT3 ?_
  clear hK K hT2 HR3 hT1
  try simp only [Act.put,PZ]
  have hT0:=hT3
  refine tE 6 52 hT0 ?_
  refine gT (rs:=[7]) (by kernel_rfl) (by simp) ?_
  refine gR.last rfl (fun K hK=>?_)
  refine jP (by kernel_rfl) none rfl 32 (.tmp 52) (.tmp 51) rfl (w.heap.size+1+1) 14 rfl (.slice (some ⟨g1,0,none⟩) (k+1) c3) rfl 1 rfl 34 _ hT3.1 yf (Nat.le_of_ble_eq_true rfl) (by simp [Value.cells,Value.oneCell']) ?_
  intro X4 hP
  refine hK.out _ _ ?_
  clear hK K
  try simp only [Act.put,PZ]
  refine iH (by kernel_rfl) ?_ _
  have HN:Hid (u9 w S (P.more k (some ⟨g1,0,none⟩) c3 l2) (k+1) X4):=HP.out.more HA1.out.2.2 HA1.out.2.1 HA1.out.1 HN3.out.1 HN3.out.2 hP
  clear hP hT0 hT3 HN3 HA1 HP HPl
  go_wp2_with fail
  go_roundw
  case rel=>exact ⟨k+1,_,by omega,by go_num,HN⟩
  case measure=>simp [intOf];omega
 obtain rfl:k=S.nL:=by omega
 have HL:Hid (∀ j,j<17→wr.cell? ⟨w.heap.size+1+1,0+j,none⟩=P.cells[j]?):=fun j _=>by rw [Nat.zero_add];exact gM HP.out.s.x.c j
 have HD:Hid (wr.heap[w.heap.size+1]?=some (.cells zSw 34 (0,0))):=HP.out.s.x.b
 go_wp2_with (first | refine gY rfl 34 17 _ Tryz.underlying34 rfl ij (.tmp 3) rfl (w.heap.size+1+1) 0 rfl P.cells rfl HL.out ?_ | refine gW rfl 34 (.tmp 2) (.tmp 54) rfl (w.heap.size+1) 0 rfl (.agg P.cells) rfl 17 rfl 34 _ HD.out ij (Nat.le_of_ble_eq_true rfl) (Swg.lx _) ?_)
 intro X hP
 replace hP:Put wr X (w.heap.size+1) P.cells 34:=hP.cast rfl
 have HK:Hid (X.heap[w.heap.size+1]?=some (.cells P.cells 34 (0,0))):=hP.blk
 have HF:Hid (hG S P∧ir X w.heap.size P∧Below w.heap.size w X):=⟨HP.out.alike rfl,HP.out.own.off HD.out hP.to,(HP.out.s.x.out hP).bel⟩
 clear hP HL HD HP
 go_wp2_with fail
 exact bodyPost_ret (kI Tryz.results24 17 _ Tryz.underlying34 rfl ij _ _ (w.heap.size+1) P.cells rfl 34 HK.out rfl) rfl ⟨P,rfl,HF.out.1,HF.out.2.1,HF.out.2.2⟩
theorem ir.up {w w':World} {base:Nat} {S:Swg} (h:ir w base S) (hb:Below w.heap.size w w'):ir w' base S:=⟨h.e.up hb,h.n.up hb,h.k.up hb,h.l.up hb,h.un⟩
theorem ir.mono {w:World} {base base':Nat} {S:Swg} (h:ir w base S) (hb:base'≤base):ir w base' S:=⟨h.e.mono hb,h.n.mono hb,h.k.mono hb,h.l.mono hb,h.un⟩
theorem hG.refl (S:Swg):hG S S:=⟨rfl,rfl,rfl,rfl,rfl,iA.refl _,rfl,rfl,rfl,fun i _=>iC.refl _,rfl,rfl⟩
def kQ:Swg:=⟨⟨0,0,0,0,0,0,0⟩,0,0,none,0,0,fun _=>default,⟨none,0,0,fun _=>0,0,none,0,0,fun _=>false⟩,none,0,0,fun _=>⟨0,0,0,0,0,0,0,⟨#[]⟩⟩,none,0,0,fun _=>⟨false,none,0,0,fun _=>0,none,0,0,fun _=>none,fun _=>0,fun _=>0,fun _ _=>0,⟨none,0,0,fun _=>0,none,0,0,fun _=>0,0,false,none,0,0,fun _=>none,fun _=>0,fun _=>0,fun _ _=>0⟩⟩,0,0⟩
theorem qL (w:World) (base:Nat):ir w base kQ:=⟨OG.nil _ _ _ _,⟨.inl rfl,.inl rfl⟩,OG.nil _ _ _ _,ke.nil _ _ _,fun x hx=>by simp [iU,kQ] at hx⟩
theorem jI {fn:Func} {i j:Tmp} {ty:TypeId} (h:fn.results=#[.cell i ty,.tmp j]) (n:Nat) (d:TypeDesc) (hu:Tryz.prog.underlying ty=some d) (hd:d.isRow=true) (hn:(Tryz.prog.info? ty).map (·.size)=some n) (tmps:Array Value) (w:World) (g:Nat) (cs:Array Value) (hi:tmps[i]?.getD undef=.pointer (some ⟨g,0,none⟩)) (t:TypeId) (hk:w.heap[g]?=some (.cells cs t (0,0))) (hs:cs.size=n) (v:Value) (hv:tmps[j]?.getD undef=v) :
  (results fn tmps).run Tryz.prog w=.ok (.tuple #[.agg cs,v]) w:=by
 have:=run_loadVar_mid (P:=Tryz.prog) w g 0 ty cs.toList d (fun j v hv=>by
  rw [Nat.zero_add,gM hk,←Array.getElem?_toList];exact hv) hu hd (by rw [hn,Array.length_toList,hs])
 rw [Array.toArray_toList] at this
 simp [results,h,hi,hv,asAddr,this]
theorem xT {S:Swg} (h:S.Ok):jM S.nE S.e∧0≤S.now∧S.now≤1000000000∧0<S.N.nU∧0<S.N.nP:=by
 have h1:=h.n.c.num.p
 have h2:=h.n.nP
 have h3:=h.n.nU
 exact ⟨h.seen.1,h.nums.now.1,h.nums.now.2,by omega,by omega⟩
theorem s9 {fn:Func} {i j k:Tmp} {ty:TypeId} (h:fn.results=#[.cell i ty,.tmp j,.tmp k]) (n:Nat) (d:TypeDesc) (hu:Tryz.prog.underlying ty=some d) (hd:d.isRow=true) (hn:(Tryz.prog.info? ty).map (·.size)=some n) (tmps:Array Value) (w:World) (g:Nat) (cs:Array Value) (hi:tmps[i]?.getD undef=.pointer (some ⟨g,0,none⟩)) (t:TypeId) (hk:w.heap[g]?=some (.cells cs t (0,0))) (hs:cs.size=n) (v:Value) (hv:tmps[j]?.getD undef=v) (u:Value) (hu2:tmps[k]?.getD undef=u) :
  (results fn tmps).run Tryz.prog w=.ok (.tuple #[.agg cs,v,u]) w:=by
 have:=run_loadVar_mid (P:=Tryz.prog) w g 0 ty cs.toList d (fun j v hv=>by
  rw [Nat.zero_add,gM hk,←Array.getElem?_toList];exact hv) hu hd (by rw [hn,Array.length_toList,hs])
 rw [Array.toArray_toList] at this
 simp [results,h,hi,hv,hu2,asAddr,this]
theorem lR {ops:Array Oper} {rest:List Oper} {o:Oper} {a:Act} {w:World} {Q:Exit→Act→World→Prop} (hw:Region.wanted o (yielded ops a.tmps)=true) (ty:TypeId) (n:Nat) (d:TypeDesc) (hu:Tryz.prog.underlying ty=some d) (hd:d.isRow=true) (hi:(Tryz.prog.info? ty).map (·.size)=some n) (x:Operand) (ho:o.op=.load ty x) (b off:Nat) (hx:a.eval x=.pointer (some ⟨b,off,none⟩))
  (cs:Array Value) (hs:cs.size=n) (hc:∀ j,j<n→w.cell? ⟨b,off+j,none⟩=cs[j]?) (h:wpList Tryz.prog ops Q rest (a.put o.dst (.agg cs)) w):wpList Tryz.prog ops Q (o :: rest) a w :=
 wpList_step fun K hK=>by
  rw [if_pos hw]
  unfold Oper.wp
  rw [jn ty n d hu hd hi x ho b off hx cs hs hc]
  exact hK _ _ h
open Go.Shelf
def v7:Go.Shelf.Ren:=⟨fun | 7=>82 | 10=>118 | n=>n,fun | 23=>78 | 26=>2 | 3=>75 | 28=>127 | 0=>0 | 27=>126 | 33=>77 | 4=>4 | n=>n,fun | n=>n⟩
theorem EP:Go.Proofs.SlLaysZI.n7 Tryz.prog v7:={
 mixed:=by kernel_rfl
 f7:=⟨Tryz.f82.name,by decide,Tryz.func82.trans (congrArg some (by kernel_rfl))⟩
 f10:=⟨Tryz.f118.name,by decide,Tryz.func118.trans (congrArg some (by kernel_rfl))⟩
 t0:=Tryz.underlying0
 a0:=Tryz.isAgg0
 z0:=Tryz.sizeOf0
 v0:=Tryz.zeroValue0
 t4:=Tryz.underlying4
 a4:=Tryz.isAgg4
 z4:=Tryz.sizeOf4
 v4:=Tryz.zeroValue4
 t23:=Tryz.underlying78
 a23:=Tryz.isAgg78
 z23:=Tryz.sizeOf78
 v23:=Tryz.zeroValue78
 t26:=Tryz.underlying2
 a26:=Tryz.isAgg2
 z26:=Tryz.sizeOf2
 v26:=Tryz.zeroValue2
 t27:=Tryz.underlying126
 a27:=Tryz.isAgg126
 z27:=Tryz.sizeOf126
 v27:=Tryz.zeroValue126
 t28:=Tryz.underlying127
 a28:=Tryz.isAgg127
 z28:=Tryz.sizeOf127
 v28:=Tryz.zeroValue127
 t33:=Tryz.underlying77
 a33:=Tryz.isAgg77
 z33:=Tryz.sizeOf77
 v33:=Tryz.zeroValue77 }
def rj:Go.Shelf.Ren:=⟨fun | 6=>81 | 8=>116 | 9=>117 | 11=>135 | 13=>137 | 12=>136 | 23=>156 | 24=>157 | 14=>147 | 15=>148 | 16=>149 | 17=>150 | 18=>151 | 19=>152 | 20=>153 | 21=>154 | 22=>155 | 25=>162 | 26=>163 | 27=>164 | 28=>165 | 29=>166 | 30=>140 | 31=>167 | n=>n,fun | 26=>2 | 28=>127 | 24=>27 | 0=>0 | 3=>3 | 37=>135 | 48=>203 | 50=>133 | 4=>4 | 40=>196 | 39=>195 | 45=>170 | 5=>5 | 9=>9 | 51=>206 | 55=>209 | 57=>211 | 58=>212 | 33=>77 | n=>n,fun | n=>n⟩
theorem Ds:Go.Proofs.SlLaysZI.n6 Tryz.prog rj:={
 mixed:=by kernel_rfl
 f6:=⟨Tryz.f81.name,by decide,Tryz.func81.trans (congrArg some (by kernel_rfl))⟩
 f8:=⟨Tryz.f116.name,by decide,Tryz.func116.trans (congrArg some (by kernel_rfl))⟩
 f11:=⟨Tryz.f135.name,by decide,Tryz.func135.trans (congrArg some (by kernel_rfl))⟩
 t0:=Tryz.underlying0
 a0:=Tryz.isAgg0
 z0:=Tryz.sizeOf0
 v0:=Tryz.zeroValue0
 t24:=Tryz.underlying27
 a24:=Tryz.isAgg27
 z24:=Tryz.sizeOf27
 v24:=Tryz.zeroValue27
 t26:=Tryz.underlying2
 a26:=Tryz.isAgg2
 z26:=Tryz.sizeOf2
 v26:=Tryz.zeroValue2
 t28:=Tryz.underlying127
 a28:=Tryz.isAgg127
 z28:=Tryz.sizeOf127
 v28:=Tryz.zeroValue127
 i26:=by kernel_rfl }
def zN:Go.Shelf.Ren:=⟨fun | 5=>117 | 8=>137 | 7=>136 | 19=>156 | 20=>157 | 10=>147 | 11=>148 | 12=>149 | 13=>150 | 14=>151 | 15=>152 | 16=>153 | 17=>154 | 18=>155 | 30=>162 | 31=>163 | 32=>164 | 33=>165 | 34=>166 | 35=>140 | 40=>167 | n=>n,fun | 23=>27 | 25=>2 | 3=>3 | 32=>135 | 22=>27 | 0=>0 | 44=>203 | 46=>133 | 4=>4 | 36=>196 | 35=>195 | 41=>170 | 5=>5 | 9=>9 | 53=>206 | 57=>209 | 63=>211 | 64=>212 | n=>n,fun | n=>n⟩
theorem Ey:Go.Proofs.SlLaysM.n5 Tryz.prog zN:={
 mixed:=by kernel_rfl
 f5:=⟨Tryz.f117.name,by decide,Tryz.func117.trans (congrArg some (by kernel_rfl))⟩
 f7:=⟨Tryz.f136.name,by decide,Tryz.func136.trans (congrArg some (by kernel_rfl))⟩
 f8:=Tryz.func137.trans (congrArg some (by kernel_rfl))
 f10:=⟨Tryz.f147.name,by decide,Tryz.func147.trans (congrArg some (by kernel_rfl))⟩
 f11:=⟨Tryz.f148.name,by decide,Tryz.func148.trans (congrArg some (by kernel_rfl))⟩
 f12:=⟨Tryz.f149.name,by decide,Tryz.func149.trans (congrArg some (by kernel_rfl))⟩
 f13:=⟨Tryz.f150.name,by decide,Tryz.func150.trans (congrArg some (by kernel_rfl))⟩
 f14:=⟨Tryz.f151.name,by decide,Tryz.func151.trans (congrArg some (by kernel_rfl))⟩
 f15:=⟨Tryz.f152.name,by decide,Tryz.func152.trans (congrArg some (by kernel_rfl))⟩
 f16:=⟨Tryz.f153.name,by decide,Tryz.func153.trans (congrArg some (by kernel_rfl))⟩
 f17:=⟨Tryz.f154.name,by decide,Tryz.func154.trans (congrArg some (by kernel_rfl))⟩
 f18:=⟨Tryz.f155.name,by decide,Tryz.func155.trans (congrArg some (by kernel_rfl))⟩
 f19:=Tryz.func156.trans (congrArg some (by kernel_rfl))
 f20:=Tryz.func157.trans (congrArg some (by kernel_rfl))
 f30:=⟨Tryz.f162.name,by decide,Tryz.func162.trans (congrArg some (by kernel_rfl))⟩
 f31:=Tryz.func163.trans (congrArg some (by kernel_rfl))
 f32:=Tryz.func164.trans (congrArg some (by kernel_rfl))
 f33:=⟨Tryz.f165.name,by decide,Tryz.func165.trans (congrArg some (by kernel_rfl))⟩
 f34:=⟨Tryz.f166.name,by decide,Tryz.func166.trans (congrArg some (by kernel_rfl))⟩
 f35:=⟨Tryz.f140.name,by decide,Tryz.func140.trans (congrArg some (by kernel_rfl))⟩
 f40:=⟨Tryz.f167.name,by decide,Tryz.func167.trans (congrArg some (by kernel_rfl))⟩
 t0:=Tryz.underlying0
 a0:=Tryz.isAgg0
 z0:=Tryz.sizeOf0
 v0:=Tryz.zeroValue0
 t3:=Tryz.underlying3
 a3:=Tryz.isAgg3
 z3:=Tryz.sizeOf3
 v3:=Tryz.zeroValue3
 t4:=Tryz.underlying4
 a4:=Tryz.isAgg4
 z4:=Tryz.sizeOf4
 v4:=Tryz.zeroValue4
 t5:=Tryz.underlying5
 a5:=Tryz.isAgg5
 z5:=Tryz.sizeOf5
 v5:=Tryz.zeroValue5
 t9:=Tryz.underlying9
 a9:=Tryz.isAgg9
 z9:=Tryz.sizeOf9
 v9:=Tryz.zeroValue9
 t22:=Tryz.underlying27
 a22:=Tryz.isAgg27
 z22:=Tryz.sizeOf27
 v22:=Tryz.zeroValue27
 t23:=Tryz.underlying27
 a23:=Tryz.isAgg27
 z23:=Tryz.sizeOf27
 v23:=Tryz.zeroValue27
 t25:=Tryz.underlying2
 a25:=Tryz.isAgg2
 z25:=Tryz.sizeOf2
 v25:=Tryz.zeroValue2
 t32:=Tryz.underlying135
 a32:=Tryz.isAgg135
 z32:=Tryz.sizeOf135
 v32:=Tryz.zeroValue135
 t35:=Tryz.underlying195
 a35:=Tryz.isAgg195
 z35:=Tryz.sizeOf195
 v35:=Tryz.zeroValue195
 t36:=Tryz.underlying196
 a36:=Tryz.isAgg196
 z36:=Tryz.sizeOf196
 v36:=Tryz.zeroValue196
 t41:=Tryz.underlying170
 a41:=Tryz.isAgg170
 z41:=Tryz.sizeOf170
 v41:=Tryz.zeroValue170
 t44:=Tryz.underlying203
 a44:=Tryz.isAgg203
 z44:=Tryz.sizeOf203
 v44:=Tryz.zeroValue203
 t46:=Tryz.underlying133
 a46:=Tryz.isAgg133
 z46:=Tryz.sizeOf133
 v46:=Tryz.zeroValue133
 t53:=Tryz.underlying206
 a53:=Tryz.isAgg206
 z53:=Tryz.sizeOf206
 v53:=Tryz.zeroValue206
 t57:=Tryz.underlying209
 a57:=Tryz.isAgg209
 z57:=Tryz.sizeOf209
 v57:=Tryz.zeroValue209
 t63:=Tryz.underlying211
 a63:=Tryz.isAgg211
 z63:=Tryz.sizeOf211
 v63:=Tryz.zeroValue211
 t64:=Tryz.underlying212
 a64:=Tryz.isAgg212
 z64:=Tryz.sizeOf212
 v64:=Tryz.zeroValue212 }
theorem Aj (n:Int) (w:World):(Instr.makeMap 78 (some (.int .i64 n))).run Tryz.prog w=.ok (.map (some w.heap.size)) (w.alloc (.map #[] 0)):=by
 simp [Instr.makeMap,run_underlying Tryz.underlying78,go_sem,Result.andThen]
theorem Ax:Maps.Keyed Tryz.prog 2:=Maps.int_keyed Tryz.underlying2
theorem Ew {w:World} {b n:Nat} {L:List Ent} {m p t:Int} (h:l6 w b n L) (hn:n<maxLen) (h0:-9223372036854775808≤m) (h1:m≤9223372036854775807) :
  ∃ w',(Instr.mapUpdate 78 (.map (some b)) (.int .i64 m) (.agg #[.int .i64 m,.int .i64 p,.int .i64 t])).run Tryz.prog w=.ok () w'∧l6 w' b (n+1) (kt ⟨m,p,t⟩ (notM m L))∧w.mapTurned w' b:=by
 obtain ⟨w',h1,h2,h3⟩:=h.store Ax Tryz.underlying78 hn (Cs h0 h1) (tv ⟨m,p,t⟩)
 refine ⟨w',h1,?_,h3⟩
 have e:=EL ⟨m,p,t⟩ L
 dsimp only at e
 show w'.ownsMap Tryz.prog 2 qg b (n+1) (mD (kt ⟨m,p,t⟩ (notM m L)))
 rw [←e]
 exact h2
theorem sV {B b:Nat} {a w w':World} (h:Below B a w) (ht:w.mapTurned w' b) (hB:B≤w.heap.size) (hb:B≤b):Below B a w' :=
 h.grown ht.grown hB (fun k e=>by cases e;exact hb)
theorem Ba (a:Option Addr) (n cap:Nat) (f:Nat→Ent) (w:World) (hok:jM n f) (h:jA w a n f) :
  Calls Tryz.prog 41 #[.slice a n cap] w fun e w'=>e=.returned (.map (some w.heap.size))∧l6 w' w.heap.size n (ig n f)∧Below w.heap.size w w':=by
 have HR:Hid (jA w a n f):=h
 have HO:Hid (ju n f):=hok.2
 have h8:n≤8:=hok.1
 have mk:=Aj n w
 clear h hok
 go_enter Tryz.func41,Tryz.ntmps41
 go_wp2_with fail
 clear mk
 go_loopw [11] (fun i wr=>∃ k:Nat,k≤n∧i=.int .i64 k∧l6 wr w.heap.size k (ig k f)∧Below w.heap.size w wr) (fun i _=>n-(intOf i).toNat)
 case atStart=>exact ⟨0,Nat.zero_le _,rfl,World.ownsMap_made w _ _ _,(Below.refl _ _).alloc (Nat.le_refl _) _⟩
 obtain ⟨k,hk,rfl,hown,hB⟩:=hrel
 by_cases hlt:k<n
 ·
  have hlt':(k:Int)<n:=by omega
  obtain ⟨g,o,rfl,c1,c2,c3⟩:=(HR.out.up hB) k hlt
  have HL:Hid (kt (f k) (notM (f k).m (ig k f))=ig (k+1) f):=by
   have hb:=HO.out.below hlt
   rw [Hid,mc (fun y hy=>by have:=hb y hy;omega),rS hb,jq]
  have hm:=(HO.out k hlt).1.1
  generalize hx:f k=x at *
  obtain ⟨m,p,t⟩:=x
  dsimp only at c1 c2 c3 hm HL
  obtain ⟨w2,hrun,hown2,hturn⟩:=Ew (p:=p) (t:=t) (hown.alloc (.cells #[.int .i64 m,.int .i64 p,.int .i64 t] 75)) (show k<maxLen by unfold maxLen;omega) (show -9223372036854775808≤m by omega) (show m≤9223372036854775807 by omega)
  have HB2:Hid (Below w.heap.size w w2):=sV (hB.alloc hB.size _) hturn (by have:=hB.size;simp;omega) (Nat.le_refl _)
  have HO2:Hid (l6 w2 w.heap.size (k+1) (ig (k+1) f)):=by rw [Hid,←HL.out];exact hown2
  clear hown hown2 hturn hB
  go_wp2_with fail
  go_roundw
  case rel=>exact ⟨k+1,by omega,by go_num,HO2.out,HB2.out⟩
  case measure=>simp [intOf];omega
 obtain rfl:k=n:=by omega
 go_wp2_with fail
 go_ret
 exact ⟨rfl,hown,hB⟩
open Go.RowKit Go.Maps Go.Sort Go.Shelf
theorem Ex (m:Nat):AnyZI.SortsIn Tryz.prog rj Fence.wide m :=
 ⟨fun blk off cap ss W hH hblk hsz=>callsIn_wide.2 (AnyM.slices_Sort_int Ey blk off cap ss W hH hblk hsz),
  fun p cap W=>callsIn_wide.2 (AnyM.slices_Sort_int_none Ey p cap W)⟩
theorem Cr (mb:Option Nat) (w:World):Calls Tryz.prog 82 #[.map mb] w fun e w'=>e=.returned (.func (.func 118) #[] #[.pointer (some ⟨w.heap.size,0,none⟩)])∧w'=w.alloc (.cells #[.map mb] 78) :=
 (callsIn_wide (n:=5)).1 (AnyZI.keys_in EP Fence.wide 5 trivial rfl mb w)
theorem yx {b nn:Nat} {L:List Ent} (w:World) (hown:l6 w b nn L) (hl:L.length≤1048576) :
  Calls Tryz.prog 81 #[.func (.func 118) #[] #[.pointer (some ⟨w.heap.size,0,none⟩)]] (w.alloc (.cells #[.map (some b)] 78)) fun e w'=>∃ (v:Value) (ss:List Int),e=.returned v∧ss.Perm (intKeys (mD L)) ∧
   w'.ownsRow (w.heap.size+1) 2 1 v ss.length ((ss.mergeSort (fun x y=>decide (x≤y))).map encZ)∧Below (w.heap.size+1) (w.alloc (.cells #[.map (some b)] 78)) w':=by
 refine (callsIn_wide (n:=6)).1 ?_
 have hbl:=hown.lt
 have hseq:SeqGives Fence.wide 3 Tryz.prog 118 #[.pointer (some ⟨w.heap.size,0,none⟩)] encZ (fun ss=>ss.Perm (intKeys (mD L))) (Maps.size (mD L)) (w.alloc (.cells #[.map (some b)] 78)) :=
  AnyZI.keys_gives (ρ:=v7) { EP with } Fence.wide _ trivial rfl (by omega) w.heap.size b nn (mD L) _ (by simp) (by simp) (by
   obtain ⟨es,clock,hb,Ft,hs,hD⟩:=hown
   exact ⟨es,clock,(Below.heap_alloc _ _ b hbl).trans hb,Ft,hs,hD⟩)
 have cS:=AnyZI.sorted_in Ds Fence.wide 6 trivial trivial trivial trivial rfl (by omega) (Ex _) (enters_of Tryz.func117 (by kernel_rfl) rfl) 118 #[.pointer (some ⟨w.heap.size,0,none⟩)] trivial (enters_of Tryz.func118 (by kernel_rfl) rfl) _ _ (by rw [Al];unfold maxLen;omega) (by rw [Al];omega) _ hseq
 change CallsIn _ _ Tryz.prog 81 _ _ _ at cS
 refine cS.mono ?_
 rintro e w' ⟨v,ss,rfl,hS,hrow,hnil,hb⟩
 have e1:(w.alloc (.cells #[.map (some b)] 78)).heap.size=w.heap.size+1:=by simp
 rw [e1] at hrow hb
 exact ⟨v,ss,rfl,hS,hrow,hb⟩
def jD (L:List Ent):Prop:=L.Pairwise fun x y=>x.m<y.m
theorem xu {L:List Ent} (h:jD L) {ss:List Int} (hp:ss.Perm (intKeys (mD L))):ss.mergeSort (fun x y=>decide (x≤y))=L.map (·.m):=by
 have e:intKeys (mD L)=L.map (·.m):=by simp [intKeys,mD,kv,Go.intOf]
 rw [e] at hp
 refine List.Perm.eq_of_pairwise (le:=fun x y=>(decide (x≤y))=true) (fun a b _ _ h1 h2=>by simp at h1 h2;omega) ?_ ?_ ((List.mergeSort_perm _ _).trans hp)
 ·
  exact List.pairwise_mergeSort (fun a b c h1 h2=>by simp at h1 h2 ⊢;omega) (fun a b=>by simp;omega) ss
 rw [List.pairwise_map]
 exact h.imp (fun h1=>by simp;omega)
theorem jD.at {L:List Ent} (h:jD L):∀ j,j<L.length→atM (L.getD j default).m L=L.getD j default:=by
 induction L with
 | nil=>intro j hj;simp at hj
 | cons y r ih =>
  have hy:=List.pairwise_cons.1 h
  intro j hj
  cases j with
  | zero=>simp [atM,List.find?_cons]
  | succ i =>
   have hi:i<r.length:=by simpa using hj
   have hm:r.getD i default∈r:=by
    rw [List.getD_eq_getElem?_getD,List.getElem?_eq_getElem hi]
    exact List.getElem_mem _
   have hlt:=hy.1 _ hm
   have:=ih hy.2 i hi
   unfold atM at this ⊢
   simp only [List.getD_cons_succ]
   rw [List.find?_cons]
   have hne:¬ y.m=(r.getD i default).m:=by omega
   simp only [hne,decide_false]
   exact this
theorem EN {w:World} {b n:Nat} {L:List Ent} {k:Int} (h:l6 w b n L) (h0:-9223372036854775808≤k) (h1:k≤9223372036854775807) :
  (Instr.lookup 78 (.map (some b)) (.int .i64 k) false).run Tryz.prog w=.ok (.agg #[.int .i64 (atM k L).m,.int .i64 (atM k L).p,.int .i64 (atM k L).t]) w:=by
 obtain ⟨v,ps,hrun,hv⟩:=h.lookup Ax Tryz.underlying78 (Tryz.zeroValue75 w) (tv ⟨0,0,0⟩) (Cs h0 h1)
 rw [Fo] at hv
 rw [hrun,xG hv];rfl
theorem yI {w:World} {base n j:Nat} {e t:TypeId} {sz:Nat} {v:Value} {xs:List Value} {cs:Array Value} {fr:Nat × Nat} (h:w.ownsRow base e sz v n xs) (hj:w.heap[j]?=some (.cells cs t fr)) (ht:e≠t):v.ownBlock≠some j:=by
 intro hv
 rcases h.2 with ⟨rfl,_⟩ | ⟨g,cap,cur,rfl,_,hb,_⟩
 ·
  cases hv
 simp only [Value.ownBlock,Option.some.injEq] at hv
 subst hv
 rw [hb] at hj
 cases hj
 exact ht rfl
theorem yH {w:World} {base n b nn sz:Nat} {e:TypeId} {v:Value} {xs:List Value} {L:List Ent} (h:w.ownsRow base e sz v n xs) (hm:l6 w b nn L):some b≠v.ownBlock:=by
 intro hv
 obtain ⟨es,clock,hb,_⟩:=hm
 rcases h.2 with ⟨rfl,_⟩ | ⟨g,cap,cur,rfl,_,hb',_⟩
 ·
  cases hv
 simp only [Value.ownBlock,Option.some.injEq] at hv
 subst hv
 rw [hb'] at hb
 cases hb
theorem l6.kept {w w':World} {b n:Nat} {L:List Ent} (h:l6 w b n L) (hb:w'.heap[b]?=w.heap[b]?):l6 w' b n L:=by
 obtain ⟨es,clock,h1,Ft,hs',hD⟩:=h
 exact ⟨es,clock,hb.trans h1,Ft,hs',hD⟩
theorem xJ {w wr w':World} {o:Obj} {v:Value} {base n k b nn sz:Nat} {e:TypeId} {xs ys:List Value} {vK:Value} {L:List Ent} (he:e≠2) (hrow:wr.ownsRow base e sz v k xs) (hK:wr.ownsRow (base+1) 2 1 vK n ys) (hO:l6 wr b nn L) (hB:Below base w wr) (hz:base≤wr.heap.size)
  (hg:(wr.alloc o).grownBy w' v.ownBlock):w'.ownsRow (base+1) 2 1 vK n ys∧l6 w' b nn L∧Below base w w':=by
 have hg':wr.grownBy w' v.ownBlock:=(World.grownBy_alloc wr o _).trans hg
 refine ⟨?_,hO.kept (hg'.block b hO.lt (yH hrow hO)),hB.grown hg' hz (fun j hj=>(hrow.lt j hj).1)⟩
 refine hK.kept hg' ?_
 rcases hK.2 with ⟨rfl,_⟩ | ⟨g,cap,cur,rfl,_,hb,_⟩
 ·
  exact .inl rfl
 exact .inr (fun e1=>yI hrow hb he e1.symm)
theorem xz {b nn:Nat} {L:List Ent} (w:World) (hown:l6 w b nn L) (hs:jD L) (hl:L.length≤8) (hr:∀ y∈L,1≤y.m∧y.m≤20) :
  Calls Tryz.prog 43 #[.map (some b)] w fun e w'=>∃ v,e=.returned v∧mo w' w.heap.size v L∧Below w.heap.size w w':=by
 have HO:Hid (l6 w b nn L):=hown
 have HS:Hid (jD L):=hs
 have HR:Hid (∀ y∈L,1≤y.m∧y.m≤20):=hr
 clear hown hs hr
 go_enter Tryz.func43,Tryz.ntmps43
 go_wp2_with fail
 refine (Cr _ _).mono ?_
 rintro e w1 ⟨rfl,rfl⟩
 go_wp2_with fail
 refine (yx w HO.out (by omega)).mono ?_
 rintro e w2 ⟨vK,ss,rfl,hp,hK,hb2⟩
 rw [xu HS.out hp] at hK
 have hlen:ss.length=L.length:=by
  have:=hK.1
  simp at this
  omega
 rw [hlen] at hK
 have B2:Below w.heap.size w w2:=under hb2
 have hO2:l6 w2 b nn L:=by
  obtain ⟨es,clock,hb,Ft,hs',hD⟩:=HO.out
  exact ⟨es,clock,(B2.block b HO.out.lt).trans hb,Ft,hs',hD⟩
 clear hp hb2 hlen
 obtain ⟨i0,hi,hz0,hz1,hz2⟩:=info_parts Cv
 obtain ⟨aK,capK,rfl,hcK⟩:∃ a cap,vK=.slice a L.length cap∧∀ w':World,w'.ownsRow (w.heap.size+1) 2 1 (.slice a L.length cap) L.length ((L.map (·.m)).map encZ)→∀ j,j<L.length→∃ g,a=some ⟨g,0,none⟩∧w'.cell? ⟨g,j,none⟩=some (.int .i64 (L.getD j default).m):=by
  rcases hK.2 with ⟨rfl,h0⟩ | ⟨g,cap,cur,rfl,_⟩
  ·
   exact ⟨none,0,by rw [h0],fun _ _ j hj=>by omega⟩
  refine ⟨_,_,rfl,fun w' h' j hj=>⟨g,rfl,?_⟩⟩
  rw [xZ h' j hj]
  rw [List.getElem?_map,List.getElem?_map,List.getElem?_eq_getElem hj,List.getD_eq_getElem?_getD,List.getElem?_eq_getElem hj]
  rfl
 have HC:Hid (∀ w':World,w'.ownsRow (w.heap.size+1) 2 1 (.slice aK L.length capK) L.length ((L.map (·.m)).map encZ)→∀ j,j<L.length→∃ g,aK=some ⟨g,0,none⟩∧w'.cell? ⟨g,j,none⟩=some (.int .i64 (L.getD j default).m)):=hcK
 clear hcK
 go_wp2_with fail
 go_loopw [3,10] (fun v i wr=>∃ k:Nat,k≤L.length∧i=.int .i64 k∧wr.ownsRow w.heap.size 75 3 v k (iM (L.take k))∧wr.ownsRow (w.heap.size+1) 2 1 (.slice aK L.length capK) L.length ((L.map (·.m)).map encZ)∧l6 wr b nn L∧Below w.heap.size w wr) (fun _ i _=>L.length-(intOf i).toNat)
 case atStart=>exact ⟨0,Nat.zero_le _,rfl,World.ownsRow_nil _ _ _ _,hK,hO2,B2⟩
 obtain ⟨k,hk,rfl,hrow,hKr,hOr,hB⟩:=hrel
 clear hK hO2 B2
 by_cases hlt:k<L.length
 ·
  have hlt':(k:Int)<L.length:=by omega
  obtain ⟨gK,rfl,hcell⟩:=HC.out wr hKr k hlt
  have hxm:L.getD k default∈L:=by
   rw [List.getD_eq_getElem?_getD,List.getElem?_eq_getElem hlt]
   exact List.getElem_mem _
  have hxr:=HR.out _ hxm
  have hlk:=EN (k:=(L.getD k default).m) hOr (by omega) (by omega)
  rw [HS.out.at k hlt] at hlk
  have HT:Hid (iM (L.take k)++j6 (L.getD k default)=iM (L.take (k+1))):=by
   rw [Hid,List.take_add_one,iM,iM,List.flatMap_append,List.getD_eq_getElem?_getD,List.getElem?_eq_getElem hlt]
   simp
  generalize L.getD k default=x at *
  have hz:=hB.size
  clear hxm hxr
  go_wp2_with (at_builtin;refine wpList_append_own _ rfl (.tmp 14) (.tmp 18) 26 rfl w.heap.size 75 i0 (.agg #[.int .i64 0,.int .i64 0,.int .i64 0]) 3 24 Tryz.underlying26 hi hz0 hz1 hz2 rfl (by decide) _ k _ rfl (hrow.alloc _) ⟨wr.heap.size,0,none⟩ 1 1 (j6 x) rfl rfl (iR _ _ _) (Ac _) (by unfold maxLen;omega) (by omega) (by simp;omega) ?_;intro v' w' hown' hgrow' hnil')
  obtain ⟨n1,n2,n3⟩:=xJ (by decide) hrow hKr hOr hB hz hgrow'
  rw [HT.out] at hown'
  clear hnil' hgrow' hrow hKr hOr hB hcell hlk
  go_roundw
  case rel=>exact ⟨k+1,by omega,by go_num,hown',n1,n2,n3⟩
  case measure=>simp [intOf];omega
 obtain rfl:k=L.length:=by omega
 clear HC
 go_wp2_with fail
 go_ret
 exact ⟨_,rfl,by rw [List.take_length] at hrow;exact hrow,hB⟩
theorem xv (m p t now:Int) (w:World) (h0:0≤t) (h1:t≤1000000000) (h2:0≤now) (h3:now≤1000000000) :
  Calls Tryz.prog 42 #[.agg #[.int .i64 m,.int .i64 p,.int .i64 t],.int .i64 now] w fun e w'=>e=.returned (.bool (decide (20<now-t)))∧Below w.heap.size w w':=by
 have hw:IntKind.i64.wrap (now-t)=now-t:=kY _ (by omega) (by omega)
 go_enter Tryz.func42,Tryz.ntmps42
 go_wp2_with fail
 go_ret
 exact ⟨rfl,(Below.refl _ _).alloc (Nat.le_refl _) _⟩
theorem u7 {k:Int} {L:List Ent} (h:EV k L=true):atM k L∈L∧(atM k L).m=k:=by
 unfold EV at h
 unfold atM
 induction L with
 | nil=>simp at h
 | cons y r ih =>
  by_cases e:y.m=k
  ·
   simp [List.find?_cons,e]
  simp only [List.any_cons,e,decide_false,Bool.false_or] at h
  obtain ⟨h1,h2⟩:=ih h
  simp only [List.find?_cons,e,decide_false]
  exact ⟨List.mem_cons_of_mem _ h1,h2⟩
theorem uY {n:Nat} {f:Nat→Ent} (h:ju n f) {y:Ent} (hy:y∈ig n f):lZ y:=by
 obtain ⟨i,hi,rfl⟩:=List.mem_map.1 hy
 exact (h i (List.mem_range.1 hi)).1
def ra (now:Int):Prop:=0≤now∧now≤1000000000
def vG (L:List Ent) (mac now:Int):Int:=if EV mac L=true∧now-(atM mac L).t≤20 then (atM mac L).p else -1
structure Em (n:Nat) (f:Nat→Ent) (mac now r:Int):Prop where
 good:jM n f→ra now→r=vG (ig n f) mac now
 bad:¬ (jM n f∧ra now)→r=-1
def kd (L:List Ent) (now:Int):List Ent:=L.filter fun y=>decide (now-y.t≤20)
structure En (n:Nat) (f:Nat→Ent) (now:Int) (A:List Ent):Prop where
 good:jM n f→ra now→A=kd (ig n f) now
 bad:¬ (jM n f∧ra now)→A=[]
theorem tu {n k:Nat} {f:Nat→Ent} (hk:k<n):(ig n f).drop k=f k :: (ig n f).drop (k+1):=by
 have h:k<(ig n f).length:=by rw [jc];exact hk
 rw [List.drop_eq_getElem_cons h]
 simp [ig]
theorem zg {n k:Nat} {f:Nat→Ent} (h:ju n f) (hk:k<n):∀ y∈(ig n f).drop (k+1),y.m≠(f k).m:=by
 intro y hy
 obtain ⟨i,hi,e⟩:=List.mem_iff_getElem.1 hy
 rw [List.length_drop,jc] at hi
 have e2:y=f (k+1+i):=by
  rw [←e,List.getElem_drop]
  simp [ig]
 have:=h.lt (k+1+i) k (by omega) (by omega)
 rw [e2];omega
theorem Bj {n k:Nat} {f:Nat→Ent} {now:Int} (hk:k<n) (hs:now-(f k).t≤20):kd (ig k f) now++(ig n f).drop k=kd (ig (k+1) f) now++(ig n f).drop (k+1):=by
 rw [tu hk,jq]
 simp [kd,hs]
theorem Bk {n k:Nat} {f:Nat→Ent} {now:Int} (h:ju n f) (hk:k<n) (hs:¬ now-(f k).t≤20):notM (f k).m (kd (ig k f) now++(ig n f).drop k)=kd (ig (k+1) f) now++(ig n f).drop (k+1):=by
 have h1:notM (f k).m (kd (ig k f) now)=kd (ig k f) now:=mc fun y hy=>by
  have:=h.below hk y (List.mem_filter.1 hy).1
  omega
 have h2:notM (f k).m ((ig n f).drop (k+1))=(ig n f).drop (k+1):=mc (zg h hk)
 rw [tu hk,jq]
 have e:∀ a b:List Ent,notM (f k).m (a++f k :: b)=notM (f k).m a++notM (f k).m b:=fun a b=>by simp [notM]
 rw [e,h1,h2]
 simp [kd,hs]
theorem lv {n:Nat} {f:Nat→Ent} (h:ju n f):jD (ig n f):=by
 unfold jD
 rw [List.pairwise_iff_getElem]
 intro i j hi hj hij
 rw [jc] at hj
 simp [ig]
 exact h.lt j i hij hj
theorem jD.sub {L L':List Ent} (h:jD L) (hs:L'.Sublist L):jD L':=List.Pairwise.sublist hs h
theorem wm (a:Option Addr) (n cap:Nat) (f:Nat→Ent) (now:Int) (A:List Ent) (w:World) (hn:n≤maxLen) (h:jA w a n f) (hA:En n f now A) :
  Calls Tryz.prog 16 #[.slice a n cap,.int .i64 now] w fun e w'=>∃ v,e=.returned v∧mo w' w.heap.size v A∧Below w.heap.size w w':=by
 have HR:Hid (jA w a n f):=h
 have HP:Hid (En n f now A):=hA
 obtain ⟨ok,hok⟩:=ub n f
 have HO:Hid (ok=true↔jM n f):=hok
 clear h hA hok
 go_enter Tryz.func16,Tryz.ntmps16
 go_wp2_with fail
 refine (qB a n cap f _ hn HR.out ok HO.out).mono ?_
 rintro e w1 ⟨rfl,B1⟩
 cases ok
 ·
  have HF:Hid (A=[]):=HP.out.bad (fun hh=>absurd (HO.out.2 hh.1) (by simp))
  exact dp
 have HT:Hid (jM n f):=HO.out.1 rfl
 go_wp2_with fail
 refine (jZ _ _).mono ?_
 rintro e w' ⟨rfl,rfl⟩
 by_cases ht:0≤now∧now≤1000000000
 rotate_left
 ·
  have HF:Hid (A=[]):=HP.out.bad (fun hh=>ht hh.2)
  rw [decide_eq_false ht]
  clear ht
  exact dp
 have HTm:Hid (ra now):=ht
 rw [decide_eq_true ht]
 clear ht
 go_wp2_with fail
 refine (Ba a n cap f _ HT.out (HR.out.up B1)).mono ?_
 rintro e w2 ⟨rfl,hown,hb2⟩
 have B2:=B1.trans (hb2.mono B1.size)
 obtain ⟨bM,hbM⟩:∃ bM,bM=w'.heap.size:=⟨_,rfl⟩
 rw [←hbM] at hown ⊢
 have hM:w.heap.size≤bM:=by rw [hbM];exact B1.size
 have h8:=HT.out.1
 clear hb2 hbM
 go_wp2_with fail
 go_loopw [20] (fun i wr=>∃ k:Nat,k≤n∧i=.int .i64 k∧l6 wr bM n (kd (ig k f) now++(ig n f).drop k)∧Below w.heap.size w wr) (fun i _=>n-(intOf i).toNat)
 case atStart=>exact ⟨0,Nat.zero_le _,rfl,hown,B2⟩
 obtain ⟨k,hk,rfl,hO,hB⟩:=hrel
 clear hown B2 B1
 by_cases hlt:k<n
 ·
  have hlt':(k:Int)<n:=by omega
  obtain ⟨g,o,rfl,c1,c2,c3⟩:=(HR.out.up hB) k hlt
  have hxk:=(HT.out.2 k hlt).1
  have HK:Hid (now-(f k).t≤20→kd (ig k f) now++(ig n f).drop k=kd (ig (k+1) f) now++(ig n f).drop (k+1)):=Bj hlt
  have HD:Hid (¬ now-(f k).t≤20→notM (f k).m (kd (ig k f) now++(ig n f).drop k)=kd (ig (k+1) f) now++(ig n f).drop (k+1)):=Bk HT.out.2 hlt
  generalize f k=x at *
  obtain ⟨m,p,t⟩:=x
  obtain ⟨x1,x2,x3⟩:=hxk
  dsimp only at c1 c2 c3 x1 x2 x3 HK HD
  have h20:=HTm.out
  have hz:=hB.size
  have HB1:Hid (∀ ob,Below w.heap.size w (wr.alloc ob)):=fun ob=>hB.alloc hz _
  have cb:=gM (gV wr (.cells #[.int .i64 m,.int .i64 p,.int .i64 t] 75))
  go_wp2_with fail
  refine (xv m p t now _ x3.1 x3.2 h20.1 h20.2).mono ?_
  rintro e w3 ⟨rfl,hb3⟩
  have B3:Below w.heap.size w w3:=(HB1.out _).trans (hb3.mono (HB1.out _).size)
  have cb:=fun i=>(hb3.cell (p:=⟨wr.heap.size,i,none⟩) (by simp)).trans (cb i)
  have hO3:l6 w3 bM n _:=hO.kept ((hb3.block bM (by have:=hO.lt;simp;omega)).trans (iv _ hO.lt))
  clear hO c1 c2 c3 hb3 HB1 hB
  by_cases hs:20<now-t
  ·
   rw [decide_eq_true hs]
   have HE:=HD.out (by omega)
   obtain ⟨k0,k1⟩:=x1
   have hkey:keyOf Tryz.prog 2 (.int .i64 m)=some (.int .i64 m):=Cs (by omega) (by omega)
   clear hs HK x2 x3 h20
   go_wp2_with (at_delete;refine wpList_delete_own _ rfl _ _ 78 2 rfl 75 Ax Tryz.underlying78 _ bM n _ rfl hO3 _ _ rfl hkey ?_;intro w4 hown4 hturn4)
   have hown4:l6 w4 bM n (kd (ig (k+1) f) now++(ig n f).drop (k+1)):=by rw [EM,HE] at hown4;exact hown4
   have B4:=sV B3 hturn4 B3.size hM
   clear hturn4 hO3 cb
   go_roundw
   case rel=>exact ⟨k+1,by omega,by go_num,hown4,B4⟩
   case measure=>simp [intOf];omega
  rw [decide_eq_false hs]
  have HE:=HK.out (by omega)
  have hO4:l6 w3 bM n (kd (ig (k+1) f) now++(ig n f).drop (k+1)):=by rw [HE] at hO3;exact hO3
  clear hs HD x1 x2 x3 h20 hO3 cb
  go_wp2_with fail
  go_roundw
  case rel=>exact ⟨k+1,by omega,by go_num,hO4,B3⟩
  case measure=>simp [intOf];omega
 obtain rfl:k=n:=by omega
 have e0:kd (ig k f) now++(ig k f).drop k=A:=by
  rw [HP.out.good HT.out HTm.out,List.drop_eq_nil_of_le (by rw [jc];exact Nat.le_refl _),List.append_nil]
 have HA:Hid (A=kd (ig k f) now):=HP.out.good HT.out HTm.out
 have hO2:l6 wr bM k A:=by rw [←e0];exact hO
 have hsub:A.Sublist (ig k f):=by rw [HA.out];exact List.filter_sublist
 have hlen:=hsub.length_le
 rw [jc] at hlen
 have HSu:Hid (A.Sublist (ig k f)):=hsub
 clear hO e0 hsub
 go_wp2_with fail
 refine (xz _ hO2 ((lv HT.out.2).sub HSu.out) (by omega) (fun y hy=>(uY HT.out.2 (HSu.out.subset hy)).1)).mono ?_
 rintro e w5 ⟨v,rfl,hv,hb5⟩
 have B5:=hB.trans (hb5.mono hB.size)
 have hv2:=hv.mono hB.size
 clear hv hb5 hB
 go_wp2_with fail
 go_ret
 exact ⟨_,rfl,hv2,B5⟩
def uo:Option Ent→Ent→Option Ent
 | none,e=>some e
 | some b,e=>some (if e.t<b.t then e else b)
def r7 (L:List Ent):Option Ent:=L.foldl uo none
theorem qi (L:List Ent) (e:Ent):r7 (L++[e])=uo (r7 L) e:=by simp [r7]
theorem yj {z:Ent}:∀ (L:List Ent) (o:Option Ent),L.foldl uo o=some z→z∈L∨o=some z
 | [],o,h=>.inr h
 | y :: r,o,h=>by
  rcases yj r (uo o y) h with h1 | h1
  ·
   exact .inl (List.mem_cons_of_mem _ h1)
  cases o with
  | none=>simp [uo] at h1;exact .inl (by rw [←h1];simp)
  | some b =>
   simp only [uo,Option.some.injEq] at h1
   split at h1
   ·
    exact .inl (by rw [←h1];simp)
   exact .inr (by rw [h1])
theorem wK {L:List Ent} {z:Ent} (h:r7 L=some z):z∈L:=by
 rcases yj L none h with h1 | h1
 ·
  exact h1
 cases h1
theorem tw:∀ (L:List Ent) (b:Ent),∃ z,L.foldl uo (some b)=some z
 | [],b=>⟨b,rfl⟩
 | y :: r,b=>tw r _
def DI (L:List Ent):Ent:=(r7 L).getD default
theorem Ch {L:List Ent} (h:L≠[]):DI L∈L∧r7 L=some (DI L):=by
 cases L with
 | nil=>exact absurd rfl h
 | cons y r =>
  obtain ⟨z,hz⟩:=tw r y
  have hb:r7 (y :: r)=some z:=hz
  unfold DI
  rw [hb]
  exact ⟨wK hb,rfl⟩
def jr (L:List Ent) (x:Ent):List Ent:=if (notM x.m L).length=8 then kt x (notM (DI (notM x.m L)).m (notM x.m L)) else kt x (notM x.m L)
theorem rR {x y:Ent} (h:x.m<y.m):∀ M:List Ent,kt x (M++[y])=kt x M++[y]
 | []=>by simp [kt,h]
 | z :: r=>by
  by_cases h1:x.m<z.m
  ·
   simp [kt,h1]
  simp [kt,h1,rR h r]
theorem lG (x:Ent):∀ M:List Ent,(kt x M).length=M.length+1
 | []=>rfl
 | z :: r=>by
  unfold kt
  split
  ·
   simp
  simp [lG x r]
theorem oa {x y:Ent}:∀ {M:List Ent},y∈kt x M↔y=x∨y∈M
 | []=>by simp [kt]
 | z :: r=>by
  unfold kt
  split
  ·
   simp
  simp only [List.mem_cons,oa (M:=r)]
  constructor
  ·
   rintro (h | h | h)
   ·
    exact .inr (.inl h)
   ·
    exact .inl h
   exact .inr (.inr h)
  rintro (h | h | h)
  ·
   exact .inr (.inl h)
  ·
   exact .inl h
  exact .inr (.inr h)
theorem mj (x:Ent):∀ M:List Ent,notM x.m (kt x M)=notM x.m M
 | []=>by simp [kt,notM]
 | z :: r=>by
  have ih:=mj x r
  unfold notM at ih ⊢
  unfold kt
  split
  ·
   simp
  simp only [List.filter_cons,ih]
theorem AB {x:Ent} {M:List Ent} (h:∀ y∈M,x.m<y.m):kt x M=x :: M:=by
 cases M with
 | nil=>rfl
 | cons z r=>unfold kt;rw [if_pos (h z (by simp))]
theorem vP {x:Ent} {k:Int} (hk:x.m≠k):∀ {M:List Ent},jD M→notM k (kt x M)=kt x (notM k M)
 | [],_=>by simp [kt,notM,hk]
 | z :: r,h=>by
  obtain ⟨h1,h2⟩:=List.pairwise_cons.1 h
  have ih:=vP hk h2
  by_cases hz:x.m<z.m
  ·
   have e1:kt x (z :: r)=x :: z :: r:=by unfold kt;rw [if_pos hz]
   have e2:kt x (notM k (z :: r))=x :: notM k (z :: r):=AB (fun y hy=>by
    have hy2:=(List.mem_filter.1 hy).1
    rcases List.mem_cons.1 hy2 with rfl | hy3
    ·
     exact hz
    ·
     have:=h1 y hy3;omega)
   rw [e1,e2]
   simp [notM,hk]
  have e1:kt x (z :: r)=z :: kt x r:=by rw [kt,if_neg hz]
  rw [e1]
  by_cases hzk:z.m=k
  ·
   have e3:notM k (z :: kt x r)=notM k (kt x r):=by simp [notM,hzk]
   have e4:notM k (z :: r)=notM k r:=by simp [notM,hzk]
   rw [e3,e4,ih]
  have e3:notM k (z :: kt x r)=z :: notM k (kt x r):=by simp [notM,hzk]
  have e4:notM k (z :: r)=z :: notM k r:=by simp [notM,hzk]
  rw [e3,e4,ih,kt,if_neg hz]
theorem mT {x:Ent}:∀ {M:List Ent},jD M→(∀ y∈M,y.m≠x.m)→jD (kt x M)
 | [],_,_=>by simp [kt,jD]
 | z :: r,h,hx=>by
  obtain ⟨h1,h2⟩:=List.pairwise_cons.1 h
  unfold kt
  split
  ·
   rename_i hz
   refine List.pairwise_cons.2 ⟨fun y hy=>?_,h⟩
   rcases List.mem_cons.1 hy with rfl | hy
   ·
    exact hz
   have:=h1 y hy;omega
  rename_i hz
  refine List.pairwise_cons.2 ⟨fun y hy=>?_,mT h2 (fun y hy=>hx y (by simp [hy]))⟩
  rcases oa.1 hy with rfl | hy
  ·
   have:=hx z (by simp);omega
  exact h1 y hy
theorem jY (k:Int) (L:List Ent):(notM k L).Sublist L:=List.filter_sublist
theorem uv {k:Int} {L:List Ent} {y:Ent} (h:y∈notM k L):y.m≠k:=by
 have:=(List.mem_filter.1 h).2
 simpa using this
theorem C9:∀ {L:List Ent} {o:Nat},jD L→o<L.length→L.take o++L.drop (o+1)=notM (L.getD o default).m L
 | [],o,_,h=>by simp at h
 | z :: r,0,h,_=>by
  obtain ⟨h1,h2⟩:=List.pairwise_cons.1 h
  have h3:notM z.m r=r:=mc (fun y hy=>by have:=h1 y hy;omega)
  have h4:notM z.m (z :: r)=notM z.m r:=by simp [notM]
  show r=notM z.m (z :: r)
  rw [h4,h3]
 | z :: r,o+1,h,hl=>by
  obtain ⟨h1,h2⟩:=List.pairwise_cons.1 h
  have hl':o<r.length:=by simpa using hl
  have ih:=C9 h2 hl'
  have hm:r.getD o default∈r:=by
   rw [List.getD_eq_getElem?_getD,List.getElem?_eq_getElem hl']
   exact List.getElem_mem _
  have hne:z.m≠(r.getD o default).m:=by have:=h1 _ hm;omega
  simp only [List.getD_cons_succ,List.take_succ_cons,List.drop_succ_cons,List.cons_append]
  rw [ih]
  simp only [notM,List.filter_cons]
  simp only [hne,ne_eq,not_false_eq_true,decide_true,if_true]
theorem pA {L:List Ent} {x:Ent} (h:(kt x (notM x.m L)).length≤8):kt x (notM x.m L)=jr L x:=by
 rw [lG] at h
 unfold jr
 rw [if_neg (by omega)]
theorem qy {L:List Ent} {x:Ent} {o:Nat} (hs:jD L) (hl:L.length≤8) (h:¬ (kt x (notM x.m L)).length≤8) (ho:o<(kt x (notM x.m L)).length) (hb:r7 (notM x.m (kt x (notM x.m L)))=some ((kt x (notM x.m L)).getD o default)) :
  (kt x (notM x.m L)).take o++(kt x (notM x.m L)).drop (o+1)=jr L x:=by
 have hO:=hs.sub (jY x.m L)
 have hn:∀ y∈notM x.m L,y.m≠x.m:=fun y hy=>uv hy
 have e1:notM x.m (kt x (notM x.m L))=notM x.m L:=by rw [mj];exact mc hn
 rw [e1] at hb
 have hlen:=(jY x.m L).length_le
 rw [lG] at h
 rw [C9 (mT hO hn) ho]
 unfold jr
 rw [if_pos (by omega)]
 have hz:=wK hb
 have e2:DI (notM x.m L)=(kt x (notM x.m L)).getD o default:=by unfold DI;rw [hb];rfl
 rw [e2,vP (fun e=>hn _ hz e.symm) hO]
theorem mS {n:Nat} {f:Nat→Ent} {x:Ent} (h:jM n f) (hx:lZ x):jD (jr (ig n f) x)∧(jr (ig n f) x).length≤8∧∀ y∈jr (ig n f) x,lZ y:=by
 have hs:=lv h.2
 have hO:=hs.sub (jY x.m (ig n f))
 have hn:∀ y∈notM x.m (ig n f),y.m≠x.m:=fun y hy=>uv hy
 have hlen:=(jY x.m (ig n f)).length_le
 rw [jc] at hlen
 have h8:=h.1
 unfold jr
 split
 ·
  rename_i h9
  have hne:notM x.m (ig n f)≠[]:=by intro e;rw [e] at h9;simp at h9
  have hold:=(Ch hne).1
  have hlt:(notM (DI (notM x.m (ig n f))).m (notM x.m (ig n f))).length<(notM x.m (ig n f)).length:=by
   unfold notM
   rw [List.length_filter_lt_length_iff_exists]
   exact ⟨_,hold,by simp [notM]⟩
  refine ⟨mT (hO.sub (jY _ _)) (fun y hy=>hn y ((jY _ _).subset hy)),by rw [lG];omega,fun y hy=>?_⟩
  rcases oa.1 hy with rfl | hy
  ·
   exact hx
  exact uY h.2 ((jY _ _).subset ((jY _ _).subset hy))
 refine ⟨mT hO hn,by rw [lG];omega,fun y hy=>?_⟩
 rcases oa.1 hy with rfl | hy
 ·
  exact hx
 exact uY h.2 ((jY _ _).subset hy)
def Swg.lrL (S:Swg) (port:Int) (x:Pkt):List Ent:=jr (ig S.nE S.e) ⟨x.s,port,S.now⟩
def Swg.l3 (S:Swg) (port:Int) (x:Pkt) (aE:Option Addr) (cE:Nat):Swg:={ S with aE:=aE,nE:=(S.lrL port x).length,cE:=cE,e:=fun i=>(S.lrL port x).getD i default }
def Swg.toP (S:Swg) (port:Int) (x:Pkt):Int:=vG (S.lrL port x) x.d S.now
def jx (k dst src:Int):Bool:=if dst=-1 then decide (k≠src) else decide (k=dst)
def mH (dst src:Int):Nat→Nat
 | 0=>0
 | n+1=>mH dst src n+if jx n dst src=true then 1 else 0
theorem A3 (dst src:Int):∀ n,mH dst src n≤n
 | 0=>Nat.le_refl _
 | n+1=>by
  have:=A3 dst src n
  show mH dst src n+_≤_
  split <;> omega
def Swg.pkt (S:Swg) (port:Int) (x:Pkt) (refs:Nat):Pkt:=⟨S.nx,port,refs,x.k,x.d,x.s,x.p,x.b⟩
def Swg.jG (S:Swg) (port dst:Int) (x:Pkt) (n:Nat) (i:Nat):Lng:=if i<n∧jx i dst port=true then (S.L i).wait x.p S.nx x.cl else S.L i
def Swg.waits (S:Swg) (port:Int) (x:Pkt) (dst:Int):Swg :=
 { S with N:=kW S.N port x.p x.cl,nx:=S.nx+1,nK:=S.nK+1,K:=fun i=>if i=S.nK then S.pkt port x (mH dst port S.nL) else S.K i,L:=S.jG port dst x S.nL }
def Swg.oK (S:Swg) (p:Int):Swg:=if p=2 then { S with lst:=min (S.lst+1) 1000000000 } else { S with dr:=min (S.dr+1) 1000000000 }
def Swg.stop (S:Swg) (i:Nat) (b:Bool):Swg:={ S with L:=fun k=>if k=i then { S.L i with st:=b } else S.L k }
def wO (S S':Swg) (i:Nat) (x:Pkt) (code:Int):Prop :=
 (S.toP i x=i∧S'=S.l3 i x none 0∧code=4) ∨
 (S.toP i x≠i∧¬ (Cnt.Ok S.C (kW S.N i x.p x.cl)∧S.nx≠1000000000)∧S'=(S.l3 i x none 0).oK x.p∧code=3) ∨
 (S.toP i x≠i∧Cnt.Ok S.C (kW S.N i x.p x.cl)∧S.nx≠1000000000∧S'=(S.l3 i x none 0).waits i x (S.toP i x)∧code=0)
def zu (S S':Swg) (port:Int) (x:Pkt) (code:Int):Prop :=
 (¬ S.Ok∧S'=kQ∧code=1) ∨
 (S.Ok∧¬ ((0≤port∧port≤S.C.p-1)∧l4 x.k x.d x.s x.p x.b.size=true)∧S'=S∧code=2) ∨
 (S.Ok∧l4 x.k x.d x.s x.p x.b.size=true∧∃ i:Nat,port=(i:Int)∧i<S.nL∧((x.k≠1∧S'=S.stop i (decide (x.k=2))∧code=0)∨(x.k=1∧wO S S' i x code)))
theorem CD (S:Swg) (i:Nat) (x:Pkt):∃ S' code,wO S S' i x code:=by
 by_cases h1:S.toP i x=i
 ·
  exact ⟨_,_,.inl ⟨h1,rfl,rfl⟩⟩
 by_cases h2:Cnt.Ok S.C (kW S.N i x.p x.cl)∧S.nx≠1000000000
 ·
  exact ⟨_,_,.inr (.inr ⟨h1,h2.1,h2.2,rfl,rfl⟩)⟩
 exact ⟨_,_,.inr (.inl ⟨h1,h2,rfl,rfl⟩)⟩
theorem Ej (S:Swg) (port:Int) (x:Pkt):∃ S' code,zu S S' port x code:=by
 by_cases h:S.Ok
 ·
  by_cases h2:(0≤port∧port≤S.C.p-1)∧l4 x.k x.d x.s x.p x.b.size=true
  ·
   obtain ⟨i,rfl⟩:∃ i:Nat,port=(i:Int):=⟨port.toNat,by omega⟩
   have hi:i<S.nL:=by have:=h.nl;omega
   by_cases hk:x.k=1
   ·
    obtain ⟨S',code,hd⟩:=CD S i x
    exact ⟨S',code,.inr (.inr ⟨h,h2.2,i,rfl,hi,.inr ⟨hk,hd⟩⟩)⟩
   exact ⟨_,_,.inr (.inr ⟨h,h2.2,i,rfl,hi,.inl ⟨hk,rfl,rfl⟩⟩)⟩
  exact ⟨_,_,.inr (.inl ⟨h,h2,rfl,rfl⟩)⟩
 exact ⟨_,_,.inl ⟨h,rfl,rfl⟩⟩
theorem oo {A B:Cnt} (h:iA A B) (port prio y:Int):iA (kW A port prio y) (kW B port prio y):=by
 unfold kW
 split
 ·
  exact ⟨h.nU,by unfold Cnt.sj;dsimp only;rw [h.u],h.lo,h.nP,h.p⟩
 exact ⟨h.nU,h.u,by unfold Cnt.El;dsimp only;rw [h.lo],h.nP,h.p⟩
theorem Lng.sT {a b:Lng} (h:iC a b) (p id cl:Int):iC (a.wait p id cl) (b.wait p id cl):=by
 unfold Lng.wait
 split
 ·
  exact ⟨h.st,by unfold Lng.pP;dsimp only;rw [h.nT],by unfold Lng.pP;dsimp only;rw [h.nT,h.t],h.nU,h.l,h.z,h.r⟩
 refine ⟨h.st,h.nT,h.t,h.nU,?_,?_,?_⟩
 ·
  show (fun i=>if i=p.toNat then b.uL p.toNat+1 else b.uL i)=fun i=>if i=p.toNat then a.uL p.toNat+1 else a.uL i
  rw [h.l]
 ·
  show (fun i j=>if i=p.toNat then jN (b.uL p.toNat) id (b.uz p.toNat) j else b.uz i j)=fun i j=>if i=p.toNat then jN (a.uL p.toNat) id (a.uz p.toNat) j else a.uz i j
  rw [h.l,h.z]
 exact ⟨h.r.nQ,h.r.q,h.r.nD,h.r.d,h.r.t,h.r.f,h.r.nS,by unfold Rnd.push;dsimp only;rw [h.r.l],by unfold Rnd.push;dsimp only;rw [h.r.l,h.r.z]⟩
theorem hG.lrL {A B:Swg} (h:hG A B) (port:Int) (x:Pkt):B.lrL port x=A.lrL port x:=by unfold Swg.lrL;rw [h.nE,h.e,h.now]
theorem hG.l3 {A B:Swg} (h:hG A B) (port:Int) (x:Pkt) (a a':Option Addr) (c c':Nat):hG (A.l3 port x a c) (B.l3 port x a' c') :=
 ⟨h.c,h.now,h.nx,by show (B.lrL port x).length=(A.lrL port x).length;rw [h.lrL],by show (fun i=>(B.lrL port x).getD i default)=fun i=>(A.lrL port x).getD i default;rw [h.lrL],h.n,h.nK,h.k,h.nL,h.l,h.dr,h.lst⟩
theorem hG.oK {A B:Swg} (h:hG A B) (p:Int):hG (A.oK p) (B.oK p):=by
 unfold Swg.oK
 split
 ·
  exact ⟨h.c,h.now,h.nx,h.nE,h.e,h.n,h.nK,h.k,h.nL,h.l,h.dr,by dsimp only;rw [h.lst]⟩
 exact ⟨h.c,h.now,h.nx,h.nE,h.e,h.n,h.nK,h.k,h.nL,h.l,by dsimp only;rw [h.dr],h.lst⟩
theorem hG.stop {A B:Swg} (h:hG A B) {i:Nat} (hi:i<A.nL) (b:Bool):hG (A.stop i b) (B.stop i b):=by
 refine ⟨h.c,h.now,h.nx,h.nE,h.e,h.n,h.nK,h.k,h.nL,fun k hk=>?_,h.dr,h.lst⟩
 show iC (if k=i then { A.L i with st:=b } else A.L k) (if k=i then { B.L i with st:=b } else B.L k)
 have hi2:=h.l i hi
 split
 ·
  exact ⟨rfl,hi2.nT,hi2.t,hi2.nU,hi2.l,hi2.z,hi2.r⟩
 exact h.l k hk
theorem lQ (L:List Ent):ig L.length (fun i=>L.getD i default)=L:=by
 apply List.ext_getElem?
 intro i
 by_cases h:i<L.length
 ·
  simp [ig,h]
 simp [ig,h]
def zD (R:Rnd) (c s:Int):Prop:=R.Ok∧(0≤c∧c<R.nQ)∧(1≤s∧s≤5)∧R.L c.toNat<1000
end Go.Proofs.YthicmlolanifhaaGreat
