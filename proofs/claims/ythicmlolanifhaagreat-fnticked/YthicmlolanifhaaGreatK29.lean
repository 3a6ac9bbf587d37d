import Derived.Test.YthicmlolanifhaaGreatK28
import Derived.Laws.Rows
import Derived.Laws.Tables
import Derived.Maps.AppendAt
import Derived.Room.AppendFits
namespace Go.Proofs.YthicmlolanifhaaGreat
set_option maxRecDepth 100000
open Go.RowKit
set_option linter.unusedVariables false
set_option linter.unusedSimpArgs false
theorem dx {p:Prop} (h:p:=by
 induction j with
 | zero =>
      obtain rfl:i=0:=by omega
      exact Nat.le_refl _
 | succ j ih =>
  by_cases e:i=j+1
  ·
   subst e;exact Nat.le_refl _
  exact Nat.le_trans (ih (by omega) (by omega)) (h.bm j (by omega))):p:=h
def Swg.tkL (S:Swg):List Ent:=kd (ig S.nE S.e) (S.now+1)
def Swg.iQ (S:Swg) (aE:Option Addr) (cE:Nat):Swg:={ S with now:=S.now+1,aE:=aE,nE:=S.tkL.length,cE:=cE,e:=fun i=>S.tkL.getD i default }
theorem mo.og {w:World} {base:Nat} {v:Value} {A:List Ent} (h:mo w base v A):∃ a c,v=.slice a A.length c∧OG 75 3 w base a A.length c (iM (ig A.length fun i=>A.getD i default)):=by
 rw [lQ]
 rcases h.2 with ⟨e1,e2⟩ | ⟨g,cap,cur,e1,_⟩
 ·
  refine ⟨none,0,by rw [e1,e2],?_⟩
  have h':w.ownsRow base 75 3 v A.length (iM A):=h
  rw [e1] at h'
  show w.ownsRow base 75 3 (.slice none A.length 0) A.length (iM A)
  rw [e2] at h' ⊢
  exact h'
 refine ⟨some ⟨g,0,none⟩,cap,e1,?_⟩
 have h':w.ownsRow base 75 3 v A.length (iM A):=h
 rw [e1] at h'
 exact h'
theorem ir.tick {w:World} {base:Nat} {P:Swg} {aE:Option Addr} {cE:Nat} (h:ir w base P) (he:OG 75 3 w base aE P.tkL.length cE (iM (ig P.tkL.length fun i=>P.tkL.getD i default))):ir w base (P.iQ aE cE):=⟨he,h.n,h.k,h.l,h.un⟩
theorem hG.tick {S P:Swg} (h:hG S P) (a a':Option Addr) (c c':Nat):hG (S.iQ a c) (P.iQ a' c'):=by
 have e:P.tkL=S.tkL:=by unfold Swg.tkL;rw [h.nE,h.e,h.now]
 refine ⟨h.c,?_,h.nx,?_,?_,h.n,h.nK,h.k,h.nL,h.l,h.dr,h.lst⟩
 ·
  show P.now+1=S.now+1
  rw [h.now]
 ·
  show P.tkL.length=S.tkL.length
  rw [e]
 show (fun i=>P.tkL.getD i default)=fun i=>S.tkL.getD i default
 rw [e]
set_option maxHeartbeats 9000000 in
theorem so (P:Swg) (g base:Nat) (w:World) (kb:w.heap[g]?=some (.cells P.cells 34 (0,0))) (ho:ir w base P) (hbs:base≤w.heap.size) (hsm:P.nE≤1048576) (htab:jM P.nE P.e) (h0:0≤P.now) (h1:P.now<1000000000) :
  Calls Tryz.prog 37 #[.pointer (some ⟨g,0,none⟩)] w fun e w'=>(∃ v,e=.returned v)∧∃ aE cE,w'.heap[g]?=some (.cells (P.iQ aE cE).cells 34 (0,0))∧ir w' base (P.iQ aE cE)∧Touch [g] w w':=by
 have HO:Hid (ir w base P):=ho
 have HT:Hid (jM P.nE P.e):=htab
 have HK:Hid (w.heap[g]?=some (.cells P.cells 34 (0,0))):=kb
 have c7:w.cell? ⟨g,7,none⟩=some (.int .i64 P.now):=gM kb 7
 have hw1:IntKind.i64.wrap (P.now+1)=P.now+1:=kY _ (by omega) (by omega)
 clear ho htab kb
 go_enter Tryz.func37,Tryz.ntmps37
 go_wp2_with (refine gW rfl 2 (.tmp 8) (.tmp 6) rfl g 7 rfl (.int .i64 (P.now+1)) rfl 1 rfl 34 _ HK.out tq (Nat.le_of_ble_eq_true rfl) (by simp [Value.cells,Value.oneCell']) ?_)
 intro X0 hP
 clear c7
 obtain ⟨P1,eP⟩:∃ P1,({ P with now:=P.now+1 }:Swg)=P1:=⟨_,rfl⟩
 replace hP:Put w X0 g P1.cells 34:=hP.cast (by rw [←eP];rfl)
 have HX:Hid (X0.heap[g]?=some (.cells P1.cells 34 (0,0))∧ir X0 base P∧Touch [g] w X0∧X0.heap.size=w.heap.size):=⟨hP.blk,HO.out.off HK.out hP.to,hP.to,hP.size⟩
 have HE1:Hid (P1.cells[7]?=some (.int .i64 (P.now+1))∧P1.cells[9]?=some (.slice P.aE P.nE P.cE)):=by rw [←eP];exact ⟨rfl,rfl⟩
 clear hP HK
 go_wp2_with fail
 refine iV (fun w'=>w'.heap[g]?=some (.cells P1.cells 34 (0,0))) 12 (by kernel_rfl) ?_
 have hd:Below X0.heap.size X0 X0.drew:=(Below.refl _ _).drew
 replace HX:Hid (X0.drew.heap[g]?=some (.cells P1.cells 34 (0,0))∧ir X0.drew base P∧Touch [g] w X0.drew∧X0.drew.heap.size=w.heap.size):=⟨(hd.block _ (gO HX.out.1)).trans HX.out.1,HX.out.2.1.up hd,HX.out.2.2.1.trans (Touch.iT hd),HX.out.2.2.2⟩
 clear hd
 generalize X0.drew=V at *
 have hT0:=HX.out.1
 refine tE 0 9 hT0 ?_
 refine tE 1 10 hT0 ?_
 refine tE 2 11 hT0 ?_
 refine tE 3 12 hT0 ?_
 refine ka (i:=4) (some 13) (v:=?_) ?_ hT0 ?_
 rotate_left
 ·
  intro wx hSw
  have c9:wx.cell? ⟨g,9,none⟩=some (.slice P.aE P.nE P.cE):=(gM hSw 9).trans HE1.out.2
  exact du
 try simp only [Act.put,PZ]
 refine tE 5 14 hT0 ?_
 refine tE 6 15 hT0 ?_
 refine tE 7 16 hT0 ?_
 refine ka (i:=8) (some 17) (v:=?_) ?_ hT0 ?_
 rotate_left
 ·
  intro wx hSw
  have c7:wx.cell? ⟨g,7,none⟩=some (.int .i64 (P.now+1)):=(gM hSw 7).trans HE1.out.1
  exact du
 try simp only [Act.put,PZ]
 refine gT (rs:=[9]) (by kernel_rfl) (by simp) ?_
 refine gR.cons rfl (fun K hK=>?_) gR.nil
 go_simp
 refine (wm P.aE P.nE P.cE P.e (P.now+1) P.tkL _ (by unfold maxLen;omega) HX.out.2.1.g.e.g.C7 ⟨fun _ _=>rfl,fun h=>absurd ⟨HT.out,⟨by omega,by omega⟩⟩ h⟩).mono ?_
 rintro e X1 ⟨v,rfl,oA,hb⟩
 obtain ⟨aE,cE,rfl,og⟩:=oA.og
 have HN:Hid (ir X1 base (P.iQ aE cE)):=(HX.out.2.1.up hb).tick (og.mono (by rw [HX.out.2.2.2];exact hbs))
 have k1:=(hb.block _ (gO HX.out.1)).trans HX.out.1
 have HT1:Hid (Touch [g] w X1):=HX.out.2.2.1.trans (Touch.iT hb)
 clear oA hb og hT0
 go_wp2_with fail
 refine hK.out _ _ k1 ?_
 clear hK K
 try simp only [Act.put,PZ]
 refine gT (rs:=[10]) (by kernel_rfl) (by simp) ?_
 refine gR.cons rfl (fun K hK=>?_) gR.nil
 go_simp
 refine hK.out _ _ k1 ?_
 clear hK K
 try simp only [Act.put,PZ]
 refine gT (rs:=[11]) (by kernel_rfl) (by simp) ?_
 refine gR.cons rfl (fun K hK=>?_) gR.nil
 go_simp
 refine hK.out _ _ k1 ?_
 clear hK K
 try simp only [Act.put,PZ]
 refine gT (rs:=[12]) (by kernel_rfl) (by simp) ?_
 refine gR.last rfl (fun K hK=>?_)
 refine jP (by kernel_rfl) none rfl 26 (.tmp 20) (.tmp 18) rfl g 9 rfl (.slice aE P.tkL.length cE) rfl 1 rfl 34 _ k1 wa (Nat.le_of_ble_eq_true rfl) (by simp [Value.cells,Value.oneCell']) ?_
 intro X2 hP
 refine hK.out _ _ ?_
 clear hK K
 try simp only [Act.put,PZ]
 refine iH (by kernel_rfl) ?_ _
 replace hP:Put X1 X2 g (P.iQ aE cE).cells 34:=hP.cast (by rw [←eP];rfl)
 have HF:Hid (∃ aE cE,X2.heap[g]?=some (.cells (P.iQ aE cE).cells 34 (0,0))∧ir X2 base (P.iQ aE cE)∧Touch [g] w X2):=⟨aE,cE,hP.blk,HN.out.off k1 hP.to,HT1.out.trans hP.to⟩
 clear hP k1 HN HT1 HX eP
 go_wp2_with fail
 go_end0
 exact ⟨⟨_,rfl⟩,HF.out⟩
theorem Swg.Ok.small {S:Swg} (h:S.Ok):S.Small:=by
 have h1:=h.seen.1.1
 have h2:=h.n.nU
 have h3:=h.n.nP
 have h4:=h.n.c.num.p
 have h5:=h.k.le
 have h6:=h.nl
 refine ⟨by omega,⟨by omega,by omega⟩,by omega,fun i hi=>by have:=(h.k.one i hi).2.2.le;omega,by omega,fun i hi=>?_⟩
 have hl:=h.l i hi
 have ht:=hl.t.le h.k
 have hz:∀ c,c<2→(S.L i).uL c≤1000∧(S.L i).R.L c=(S.L i).uL c:=fun c hc=>⟨Nat.le_trans ((hl.z c hc).1.le h.k) h5,(hl.z c hc).2.1.symm⟩
 have hu:=hl.u
 have hn:=hl.n
 have hd:=hl.r.d
 have hs:=hl.r.s
 refine ⟨by omega,by omega,fun c hc=>by have:=(hz c (by omega)).1;omega,⟨by omega,by omega,by omega,fun c hc=>?_⟩⟩
 have h7:=hz c (by omega)
 omega
theorem zJ {S:Swg} {y:Ent} (h:y∈S.tkL):y∈ig S.nE S.e:=by
 unfold Swg.tkL kd at h
 exact (List.mem_filter.1 h).1
theorem Swg.Ok.tick {S:Swg} (h:S.Ok) (hn:S.now<1000000000) (a:Option Addr) (c:Nat):(S.iQ a c).Ok:=by
 have hnow:=h.nums.now
 obtain ⟨t1,t2,t3⟩:S.tkL.length≤8∧jD S.tkL∧∀ y∈S.tkL,lZ y:=by
  obtain ⟨q1,q2⟩:=h.seen.1
  have hs:=lv h.seen.1.2
  refine ⟨?_,hs.sublist List.filter_sublist,fun y hy=>?_⟩
  ·
   have e1:S.tkL.length≤(ig S.nE S.e).length:=List.length_filter_le _ _
   have e2:(ig S.nE S.e).length=S.nE:=by simp [ig]
   omega
  obtain ⟨i,hi,rfl⟩:=uW (zJ hy)
  exact (q2 i hi).1
 refine ⟨h.n,⟨by show 0≤S.now+1∧S.now+1≤1000000000;omega,h.nums.nx,h.nums.dr,h.nums.lst⟩,⟨qn t1 t2 t3,fun j hj=>?_⟩,h.k,h.nl,h.l,h.refs,h.held⟩
 have hj':j<S.tkL.length:=hj
 show (S.tkL.getD j default).p<S.C.p∧(S.tkL.getD j default).t≤S.now+1
 have e:S.tkL.getD j default=S.tkL[j]:=by simp [List.getD_eq_getElem?_getD,hj']
 rw [e]
 obtain ⟨i,hi,e2⟩:=uW (zJ (List.getElem_mem hj'))
 have:=h.seen.2 i hi
 rw [e2] at this
 omega
structure Ln where
 st:Bool
 aU:Option Addr
 cU:Nat
 R:Rnd
def Ln.cells (l:Ln):Array Value:=#[.bool l.st,.slice none 0 0,.slice l.aU 2 l.cU,.slice l.R.aQ l.R.nQ l.R.cQ,.slice l.R.aD l.R.nD l.R.cD,.int .i64 l.R.turn,.bool l.R.fresh,.slice l.R.aS l.R.nS l.R.cS]
theorem Ln.iE (l:Ln):l.cells.size=8:=rfl
def wv (L:Nat→Ln) (j:Nat):Value:=((L (j / 8)).cells[j % 8]?).getD (.bool false)
theorem uV (L:Nat→Ln) (i j:Nat) (h:j<8):some (wv L (i*8+j))=(L i).cells[j]?:=by
 unfold wv
 rw [show (i*8+j) / 8=i by omega,show (i*8+j) % 8=j by omega]
 have:j<(L i).cells.size:=by rw [Ln.iE];exact h
 simp [this]
def De (w:World) (a:Option Addr) (n:Nat) (L:Nat→Ln):Prop:=∀ i,i<n→∃ g o,a=some ⟨g,o,none⟩∧∀ j,j<8→w.cell? ⟨g,o+i*8+j,none⟩=(L i).cells[j]?
theorem iD.yQ {g n:Nat} {t:TypeId} {L:Nat→Ln} {w:World} (h:iD g t (n*8) (wv L) (n*8) w):De w (some ⟨g,0,none⟩) n L:=by
 intro i hi
 refine ⟨g,0,rfl,fun j hj=>?_⟩
 rw [Nat.zero_add,h.at (i*8+j) (by omega),uV L i j hj]
theorem iX.off {w w':World} {base:Nat} {R:Rnd} {S:List Nat} (h:iX w base R) (hl:∀ j,R.L j=0) (ht:Touch S w w') (hq:∀ x∈jd R.aQ R.nQ,x∉S) (hd:∀ x∈jd R.aD R.nD,x∉S)
  (hS:∀ g arr,w.heap[g]?=some (.cells arr 27 (0,0))→g∉S):iX w' base R :=
 ⟨h.q.gX ht hq,h.d.gX ht hd,h.s.q9 ht hS,fun i hi=>.inl (hl i),h.qd,h.qz,h.dz,h.zz⟩
structure jT (w:World) (n:Nat) (b:Nat→Nat) (g:Nat) (L:Nat→Ln):Prop where
 row:iD g 48 (n*8) (wv L) (n*8) w
 own:∀ i,i<n→iX w (b i) (L i).R
 sh:∀ i,i<n→(L i).R.nQ=2∧(L i).R.nD=2∧(L i).R.nS=2∧∀ j,(L i).R.L j=0
 u:∀ i,i<n→VS w (b i) (L i).aU 2 fun _=>.slice none 0 0
 hq:∀ i,i<n→∀ x∈jd (L i).R.aQ (L i).R.nQ,x<b (i+1)
 hd:∀ i,i<n→∀ x∈jd (L i).R.aD (L i).R.nD,x<b (i+1)
 bm:∀ i,i<n→b i≤b (i+1)
 gb:b 0≤g
theorem jT.mono {w:World} {n:Nat} {b:Nat→Nat} {g:Nat} {L:Nat→Ln} (h:jT w n b g L) {i j:Nat} (hij:i≤j) (hj:j≤n):b i≤b j:=dx
theorem jT.tW {w w':World} {n:Nat} {b:Nat→Nat} {g:Nat} {L:Nat→Ln} {S:List Nat} (h:jT w n b g L) (ht:Touch S w w') (hS:∀ x∈S,x<b 0):jT w' n b g L :=
 have hb:∀ i,i<n→∀ x∈S,x<b i:=fun i hi x hx=>by
  have:=hS x hx
  have:=h.mono (i:=0) (j:=i) (by omega) (by omega)
  omega
 ⟨h.row.jB (ht.block g h.row.lt (fun hx=>by have:=hS g hx;have:=h.gb;omega)),fun i hi=>(h.own i hi).jm ht (hb i hi),h.sh,fun i hi=>(h.u i hi).imp id (by
  rintro ⟨g',ha,hg,hr⟩
  exact ⟨g',ha,hg,hr.jB (ht.block g' hr.lt (fun hx=>by have:=hb i hi g' hx;omega))⟩),h.hq,h.hd,h.bm,h.gb⟩
def upd (L:Nat→Ln) (k:Nat) (l:Ln) (i:Nat):Ln:=if i=k then l else L i
theorem lC (L:Nat→Ln) (k:Nat) (l:Ln):upd L k l k=l:=if_pos rfl
theorem qm (L:Nat→Ln) (k:Nat) (l:Ln) {i:Nat} (h:i≠k):upd L k l i=L i:=if_neg h
theorem pQ {L:Nat→Ln} {k:Nat} {l:Ln} {n:Nat} {p:Nat→Ln→Prop} (h:∀ i,i<n→i≠k→p i (L i)) (hk:p k l):∀ i,i<n→p i (upd L k l i):=by
 intro i hi
 by_cases e:i=k
 ·
  subst e;rw [lC];exact hk
 rw [qm _ _ _ e];exact h i hi e
theorem ES:(Tryz.prog.info? 48).map (fun i=>(i.zero,i.size,i.bytes))=some (some (.agg #[.bool false,.slice none 0 0,.slice none 0 0,.slice none 0 0,.slice none 0 0,.int .i64 0,.bool false,.slice none 0 0]),8,144):=by kernel_rfl
def sC (L:Nat→Ln) (n:Nat):List Value:=(List.range n).flatMap fun i=>(L i).cells.toList
theorem my (L:Nat→Ln) (n:Nat):sC L (n+1)=sC L n++(L n).cells.toList:=by simp [sC,List.range_succ]
theorem pz (L:Nat→Ln):∀ n,(sC L n).length=n*8
 | 0=>rfl
 | n+1=>by
  rw [my,List.length_append,pz L n]
  simp [Ln.cells];omega
theorem vR {L L':Nat→Ln}:∀ {n},(∀ i,i<n→L i=L' i)→sC L n=sC L' n
 | 0,_=>rfl
 | n+1,h=>by rw [my,my,vR (fun i hi=>h i (by omega)),h n (by omega)]
theorem vQ (L:Nat→Ln):∀ n i j,i<n→j<8→(sC L n)[i*8+j]?=(L i).cells[j]?
 | 0,i,j,h,_=>by omega
 | n+1,i,j,h,hj=>by
  rw [my]
  by_cases e:i=n
  ·
   subst e
   rw [List.getElem?_append_right (by rw [pz];omega),pz,show i*8+j-i*8=j by omega]
   simp
  rw [List.getElem?_append_left (by rw [pz];omega)]
  exact vQ L n i j (by omega) hj
def l0 (w:World) (base:Nat) (v:Value) (n:Nat) (L:Nat→Ln):Prop:=w.ownsRow base 48 8 v n (sC L n)
theorem l0.nil (w:World) (base:Nat) (L:Nat→Ln):l0 w base (.slice none 0 0) 0 L:=World.ownsRow_nil _ _ _ _
theorem l0.up {w w':World} {base n:Nat} {v:Value} {L:Nat→Ln} (h:l0 w base v n L) (hb:Below w.heap.size w w'):l0 w' base v n L:=lW h hb (Nat.le_refl _)
theorem sQ (w:World) (l:Ln) (t:TypeId):∀ j u,(l.cells.toList)[j]?=some u→(w.alloc (.cells l.cells t)).cell? ((⟨w.heap.size,0,none⟩:Addr).add j)=some u:=by
 intro j u hj
 have hc:=gM (gV w (.cells l.cells t)) j
 have:(⟨w.heap.size,0,none⟩:Addr).add j=⟨w.heap.size,j,none⟩:=by unfold Addr.add;split <;> simp_all
 rw [this,hc]
 simpa using hj
theorem oneL (l:Ln):∀ u∈l.cells.toList,u.oneCell'=true:=by
 intro u hu
 simp [Ln.cells] at hu
 rcases hu with rfl | rfl | rfl | rfl | rfl | rfl | rfl | rfl <;> rfl
theorem yu {w:World} {base n:Nat} {v:Value} {L:Nat→Ln} (l:Ln) (h:l0 w base v n L) (hl:n≤1048576) (hb:base≤w.heap.size) (ty:TypeId) :
  ∃ g cap w',(Builtin.append_ #[32,32] ty #[v,.slice (some ⟨w.heap.size,0,none⟩) 1 1]).run Tryz.prog (w.alloc (.cells l.cells 48))=.ok (.slice (some ⟨g,0,none⟩) (n+1) cap) w' ∧
   l0 w' base (.slice (some ⟨g,0,none⟩) (n+1) cap) (n+1) (upd L n l)∧w.grownBy w' v.ownBlock∧(some g=v.ownBlock∨w.heap.size≤g):=by
 obtain ⟨i0,hi,hz0,hz1,hz2⟩:=info_parts ES
 obtain ⟨v',w',hr,h2,h3,h4,h5⟩:=run_append_own_at (P:=Tryz.prog) (w.alloc (.cells l.cells 48)) base 32 ty 48 i0 _ 8 144 Tryz.underlying32 hi hz0 hz1 hz2 rfl (by decide) v n (sC L n) (World.ownsRow.alloc h _) ⟨w.heap.size,0,none⟩ 1 1 l.cells.toList rfl (sQ w l _) (oneL l) (by unfold maxLen;omega) (by omega) (by simp;omega)
 rcases h2.2 with ⟨_,h0⟩ | ⟨g,cap,cur,rfl,_⟩
 ·
  omega
 refine ⟨g,cap,w',hr,?_,?_,?_⟩
 ·
  unfold l0
  rw [my,lC,vR (L':=L) (fun i hi=>qm _ _ _ (by omega))]
  exact h2
 ·
  exact (World.grownBy_alloc w _ _).trans h3
 rcases h5 with h5 | h5
 ·
  exact .inl h5
 right
 simp only [Value.ownBlock,Option.some.injEq] at h5
 rw [h5];simp
theorem l0.row {w:World} {base n:Nat} {v:Value} {L:Nat→Ln} (h:l0 w base v n L):(v=.slice none 0 0∧n=0)∨∃ g cap,v=.slice (some ⟨g,0,none⟩) n cap∧base≤g∧iD g 48 (n*8) (wv L) (n*8) w:=by
 rcases h.2 with ⟨h1,h2⟩ | ⟨g,cap,cur,hv,hg,hblk,hn,hc,hs,ht⟩
 ·
  exact .inl ⟨h1,h2⟩
 refine .inr ⟨g,cap,hv,hg,cur,hblk,by rw [hs];omega,fun j hj=>?_⟩
 have hg0:cur[j]?=(sC L n)[j]?:=by
  rw [←ht,List.getElem?_take_of_lt hj,Array.getElem?_toList]
 rw [hg0,show j=j / 8*8+j % 8 by omega,vQ L n (j / 8) (j % 8) (by omega) (by omega),uV L (j / 8) (j % 8) (by omega)]
structure lz (w:World) (b0:Nat) (v:Value) (n:Nat) (b:Nat→Nat) (L:Nat→Ln):Prop where
 row:l0 w b0 v n L
 own:∀ i,i<n→iX w (b i) (L i).R
 sh:∀ i,i<n→(L i).R.nQ=2∧(L i).R.nD=2∧(L i).R.nS=2∧∀ j,(L i).R.L j=0
 u:∀ i,i<n→VS w (b i) (L i).aU 2 fun _=>.slice none 0 0
 hq:∀ i,i<n→∀ x∈jd (L i).R.aQ (L i).R.nQ,x<b (i+1)
 hd:∀ i,i<n→∀ x∈jd (L i).R.aD (L i).R.nD,x<b (i+1)
 bm:∀ i,i<n→b i≤b (i+1)
 b0:b0=b 0
 bn:b n≤w.heap.size
theorem lz.start (w:World) (b0:Nat) (h:b0≤w.heap.size) (L:Nat→Ln):lz w b0 (.slice none 0 0) 0 (fun _=>b0) L :=
 ⟨l0.nil _ _ _,fun i hi=>by omega,fun i hi=>by omega,fun i hi=>by omega,fun i hi=>by omega,fun i hi=>by omega,fun i hi=>by omega,rfl,h⟩
theorem lz.up {w w':World} {b0 n:Nat} {v:Value} {b:Nat→Nat} {L:Nat→Ln} (h:lz w b0 v n b L) (hb:Below w.heap.size w w'):lz w' b0 v n b L :=
 ⟨h.row.up hb,fun i hi=>(h.own i hi).up hb,h.sh,fun i hi=>(h.u i hi).up hb,h.hq,h.hd,h.bm,h.b0,Nat.le_trans h.bn hb.size⟩
theorem lz.yQ {w:World} {b0 n:Nat} {v:Value} {b:Nat→Nat} {L:Nat→Ln} (h:lz w b0 v n b L):(v=.slice none 0 0∧n=0)∨∃ g cap,v=.slice (some ⟨g,0,none⟩) n cap∧b0≤g∧jT w n b g L:=by
 rcases h.row.row with h1 | ⟨g,cap,hv,hg,hr⟩
 ·
  exact .inl h1
 exact .inr ⟨g,cap,hv,hg,hr,h.own,h.sh,h.u,h.hq,h.hd,h.bm,by rw [←h.b0];exact hg⟩
structure Sw where
 C:Cfg
 nx:Int
 N:Cnt
 aL:Option Addr
 nL:Nat
 cL:Nat
 L:Nat→Ln
def Sw.cells (S:Sw):Array Value:=#[.int .i64 S.C.p,.int .i64 S.C.c,.int .i64 S.C.xo,.int .i64 S.C.xn,.int .i64 S.C.hd,.int .i64 S.C.lo,.int .i64 S.C.dl,.int .i64 0,.int .i64 S.nx,.slice none 0 0,.slice S.N.aU S.N.nU S.N.cU,.int .i64 S.N.lo,.slice S.N.aP S.N.nP S.N.cP,.slice none 0 0,.slice S.aL S.nL S.cL,.int .i64 0,.int .i64 0]
structure Bs (w:World) (S:Sw):Prop where
 n:lJ w S.N
 l:De w S.aL S.nL S.L
 u:∀ i,i<S.nL→iq w (S.L i).aU 2 fun _=>.slice none 0 0
 r:∀ i,i<S.nL→j4 w (S.L i).R
structure sa (w:World) (base:Nat) (g:Nat) (b:Nat→Nat) (S:Sw):Prop where
 n:iG w base S.N
 bb:base≤b 0
 l:jT w S.nL b g S.L
 a:S.aL=some ⟨g,0,none⟩
 z:∀ x∈xe S.N,x<b 0
theorem sa.rd {w:World} {base g:Nat} {b:Nat→Nat} {S:Sw} (h:sa w base g b S):Bs w S:=⟨h.n.rd,by rw [h.a];exact h.l.row.yQ,fun i hi=>(h.l.u i hi).read,fun i hi=>(h.l.own i hi).rd⟩
theorem iG.off {w w':World} {base:Nat} {N:Cnt} {T:List Nat} (h:iG w base N) (ht:Touch T w w') (hT:∀ x∈xe N,x∉T):iG w' base N :=
 ⟨h.u.gX ht (fun x hx=>hT x (List.mem_append_left _ hx)),h.p.gX ht (fun x hx=>hT x (List.mem_append_right _ hx))⟩
theorem DY:(Tryz.prog.info? 34).map (·.size)=some 17:=by kernel_rfl
theorem yw {ops:Array Oper} {rest:List Oper} {o:Oper} {a:Act} {w:World} {Q:Exit→Act→World→Prop} (hg:o.guard=none) (x:Operand) (ho:o.op=.load 34 x) (g:Nat) (hx:a.eval x=.pointer (some ⟨g,0,none⟩))
  (cs:Array Value) (hk:w.heap[g]?=some (.cells cs 34 (0,0))) (hs:cs.size=17) (h:wpList Tryz.prog ops Q rest (a.put o.dst (.agg cs)) w):wpList Tryz.prog ops Q (o :: rest) a w :=
 wpList_plain hg fun _ hK=>wp_load_row 34 x ho g hx 34 cs (0,0) _ hk Tryz.underlying34 rfl (by rw [hs];exact DY) (hK _ _ h)
theorem pO {ops:Array Oper} {rest:List Oper} {o:Oper} {a:Act} {w:World} {Q:Exit→Act→World→Prop} (hg:o.guard=none) (x y:Operand) (ho:o.op=.store 34 x y) (g:Nat) (hx:a.eval x=.pointer (some ⟨g,0,none⟩))
  (cs:Array Value) (hy:a.eval y=.agg cs) (old:Array Value) (hk:w.heap[g]?=some (.cells old 34 (0,0))) (hs:cs.size=17) (ho2:old.size=17) (h1:cs.all (·.oneCell')=true) (h:wpList Tryz.prog ops Q rest (a.put o.dst undef) (w.setRow g cs)):wpList Tryz.prog ops Q (o :: rest) a w :=
 wpList_plain hg fun _ hK=>wp_store_row 34 x y ho g cs hx hy 34 old hk (by rw [hs];exact DY) (by omega) h1 (hK _ _ h)
theorem vD {fn:Func} {i j:Tmp} (h:fn.results=#[.cell i 34,.tmp j]) (tmps:Array Value) (w:World) (g:Nat) (cs:Array Value) (hi:tmps[i]?.getD undef=.pointer (some ⟨g,0,none⟩)) (hk:w.heap[g]?=some (.cells cs 34 (0,0))) (hs:cs.size=17) (v:Value) (hv:tmps[j]?.getD undef=v) :
  (results fn tmps).run Tryz.prog w=.ok (.tuple #[.agg cs,v]) w:=by
 have:=run_loadVar_row (P:=Tryz.prog) w g 34 34 cs (0,0) _ hk Tryz.underlying34 rfl (by rw [hs];exact DY)
 simp [results,h,hi,hv,asAddr,this]
theorem pU {w:World} {g:Nat} {old cs:Array Value} {t:TypeId} (h:w.heap[g]?=some (.cells old t (0,0))):(w.setRow g cs).heap[g]?=some (.cells cs t (0,0)):=by
 simp [World.setRow,Array.getElem?_modify,h]
theorem nv (w:World) (g:Nat) (cs:Array Value):Touch [g] w (w.setRow g cs):=⟨rfl,rfl,rfl,by simp [World.setRow],fun k _ hn=>by
 have:¬ g=k:=fun e=>hn (by simp [e])
 simp [World.setRow,Array.getElem?_modify,this]⟩
def qfN (i:Nat):Int:=if i=0 then 2 else 4
theorem ED:(tg 2 qfN none 0 0 0).Ok:=by
 refine ⟨⟨by decide,by decide⟩,rfl,rfl,⟨by decide,by decide⟩,fun i hi=>⟨?_,⟨Nat.zero_le _,fun j hj=>?_⟩,?_⟩⟩
 ·
  show 1≤qfN i∧qfN i≤10
  unfold qfN
  split <;> exact ⟨by decide,by decide⟩
 ·
  have hj:j<0:=hj
  omega
 show o7 _ _ 0 _
 unfold o7
 rw [if_pos rfl];rfl
theorem Dj (w:World):iq (w.alloc (.cells #[.int .i64 2,.int .i64 4] 2)) (some ⟨w.heap.size,0,none⟩) 2 fun i=>.int .i64 (qfN i):=by
 intro i hi
 refine ⟨w.heap.size,0,rfl,?_⟩
 rw [gM (gV _ _)]
 match i,hi with
 | 0,_=>rfl
 | 1,_=>rfl
 | i+2,hi=>omega
theorem yb (w:World):(Instr.makeSlice 44 (.int .i64 2) (.int .i64 2)).run Tryz.prog w=.ok (.slice (some ⟨w.heap.size,0,none⟩) 2 2) (w.alloc (.cells (sl 2) 27)):=ux 2 (by omega) w
theorem CQ {w:World} {base g:Nat} (hg:base≤g) (h:w.heap[g]?=some (.cells (sl 2) 27 (0,0))):VS w base (some ⟨g,0,none⟩) 2 fun _=>.slice none 0 0:=.inr ⟨g,rfl,hg,tJ h⟩
theorem rW {W W':World} {row:Option Nat} (h:W.grownBy W' row):Touch row.toList W W':=⟨h.os,h.tape,h.output,h.size,fun k hk hn=>h.block k hk (fun e=>hn (by rw [←e];simp))⟩
theorem l0.typed {w:World} {base n:Nat} {v:Value} {L:Nat→Ln} (h:l0 w base v n L):∀ x∈v.ownBlock.toList,base≤x∧∃ arr,w.heap[x]?=some (.cells arr 48 (0,0)):=by
 intro x hx
 rcases h.2 with ⟨h1,h2⟩ | ⟨g,cap,cur,hv,hg,hblk,_⟩
 ·
  rw [h1] at hx
  simp [Value.ownBlock] at hx
 rw [hv] at hx
 simp [Value.ownBlock] at hx
 subst hx
 exact ⟨hg,cur,hblk⟩
theorem lz.mono {w:World} {b0 n:Nat} {v:Value} {b:Nat→Nat} {L:Nat→Ln} (h:lz w b0 v n b L) {i j:Nat} (hij:i≤j) (hj:j≤n):b i≤b j:=dx
theorem lz.tW {w w':World} {b0 n:Nat} {v:Value} {b:Nat→Nat} {L:Nat→Ln} {S:List Nat} (h:lz w b0 v n b L) (ht:Touch S w w') (hS:∀ x∈S,x<b0):lz w' b0 v n b L:=by
 have hb:∀ i,i<n→∀ x∈S,x<b i:=fun i hi x hx=>by
  have:=hS x hx
  have:=h.mono (i:=0) (j:=i) (by omega) (by omega)
  have:=h.b0
  omega
 refine ⟨?_,fun i hi=>(h.own i hi).jm ht (hb i hi),h.sh,fun i hi=>(h.u i hi).imp id (by
  rintro ⟨g',ha,hg,hr⟩
  exact ⟨g',ha,hg,hr.jB (ht.block g' hr.lt (fun hx=>by have:=hb i hi g' hx;omega))⟩),h.hq,h.hd,h.bm,h.b0,Nat.le_trans h.bn ht.size⟩
 obtain ⟨h1,h2⟩:=h.row
 refine ⟨h1,h2.imp id ?_⟩
 rintro ⟨g,cap,cur,hv,hg,hblk,hr⟩
 exact ⟨g,cap,cur,hv,hg,(ht.block g (gO hblk) (fun hx=>by have:=hS g hx;omega)).trans hblk,hr⟩
def upB (b:Nat→Nat) (k x i:Nat):Nat:=if i≤k then b i else x
theorem lz.next {W W':World} {b0 k:Nat} {v v':Value} {b:Nat→Nat} {L:Nat→Ln} (h:lz W b0 v k b L) (l:Ln) (hrow:l0 W' b0 v' (k+1) (upd L k l)) (hg:W.grownBy W' v.ownBlock)
  (hR:iX W (b k) l.R) (hsh:l.R.nQ=2∧l.R.nD=2∧l.R.nS=2∧∀ j,l.R.L j=0) (hU:VS W (b k) l.aU 2 fun _=>.slice none 0 0):lz W' b0 v' (k+1) (upB b k W'.heap.size) (upd L k l):=by
 have ht:=rW hg
 have hty:=h.row.typed
 have hS:∀ g arr,W.heap[g]?=some (.cells arr 27 (0,0))→g∉v.ownBlock.toList:=fun g arr hb hx=>by
  obtain ⟨_,arr2,h2⟩:=hty g hx
  rw [hb] at h2
  simp at h2
 have hI:∀ {base:Nat} {a:Option Addr} {n:Nat} {f:Nat→Int},VI W base a n f→∀ x∈jd a n,x∉v.ownBlock.toList:=fun hv x hx hm=>by
  obtain ⟨_,arr2,h2⟩:=hty x hm
  exact rC hv (by decide) h2 hx
 have hO:∀ {base:Nat} {R:Rnd},iX W base R→(∀ j,R.L j=0)→iX W' base R:=fun hr hl=>hr.off hl ht (hI hr.q) (hI hr.d) hS
 have hb:∀ i,i<k+1→(upB b k W'.heap.size) i=b i:=fun i hi=>if_pos (by omega)
 have hbs:∀ i,i<k→(upB b k W'.heap.size) (i+1)=b (i+1):=fun i hi=>if_pos (by omega)
 have hbk:(upB b k W'.heap.size) (k+1)=W'.heap.size:=if_neg (by omega)
 refine ⟨hrow,?_,?_,?_,?_,?_,?_,?_,?_⟩
 ·
  intro i hi
  rw [hb i hi]
  by_cases e:i=k
  ·
   subst e;rw [lC];exact hO hR hsh.2.2.2
  rw [qm _ _ _ e];exact hO (h.own i (by omega)) (h.sh i (by omega)).2.2.2
 ·
  intro i hi
  by_cases e:i=k
  ·
   subst e;rw [lC];exact hsh
  rw [qm _ _ _ e];exact h.sh i (by omega)
 ·
  intro i hi
  rw [hb i hi]
  by_cases e:i=k
  ·
   subst e;rw [lC];exact hU.q9 ht hS
  rw [qm _ _ _ e];exact (h.u i (by omega)).q9 ht hS
 ·
  intro i hi
  by_cases e:i=k
  ·
   subst e
   rw [lC,hbk]
   exact fun x hx=>Nat.lt_of_lt_of_le (hR.q.blk x hx).2 hg.size
  rw [qm _ _ _ e,hbs i (by omega)];exact h.hq i (by omega)
 ·
  intro i hi
  by_cases e:i=k
  ·
   subst e
   rw [lC,hbk]
   exact fun x hx=>Nat.lt_of_lt_of_le (hR.d.blk x hx).2 hg.size
  rw [qm _ _ _ e,hbs i (by omega)];exact h.hd i (by omega)
 ·
  intro i hi
  by_cases e:i=k
  ·
   subst e
   rw [hb i hi,hbk]
   exact Nat.le_trans h.bn hg.size
  rw [hb i hi,hbs i (by omega)];exact h.bm i (by omega)
 ·
  rw [hb 0 (by omega)];exact h.b0
 rw [hbk];exact Nat.le_refl _
def pH (l:Ln):Prop:=l.st=false∧Alike (EK 2 qfN true) l.R
theorem pH.sh {l:Ln} (h:pH l):l.R.nQ=2∧l.R.nD=2∧l.R.nS=2∧∀ j,l.R.L j=0:=⟨h.2.nQ,h.2.nD,h.2.nS,fun j=>by rw [h.2.l];rfl⟩
def FH:Nat→Ln:=fun _=>⟨false,none,0,zR⟩
def wP:Sw:=⟨⟨0,0,0,0,0,0,0⟩,0,vf,none,0,0,FH⟩
def sk (w:World) (base:Nat) (C:Cfg) (n:Nat) (ok:Bool) (S:Sw):Prop:=match ok with
 | false=>S=wP
 | true=>S.C=C∧S.nx=1∧S.nL=n∧1≤n∧n≤4∧iA (DN n true) S.N∧(∀ i,i<n→pH (S.L i))∧∃ g b,sa w base g b S
end Go.Proofs.YthicmlolanifhaaGreat
