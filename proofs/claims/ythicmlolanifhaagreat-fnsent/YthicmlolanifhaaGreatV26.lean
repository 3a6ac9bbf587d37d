import Derived.Test.YthicmlolanifhaaGreatV25
import Derived.Deep.Cut
import Derived.Deep.DeepCutAuto
import Derived.Maps.OwnSet
namespace Go.Proofs.YthicmlolanifhaaGreat
set_option maxRecDepth 100000
set_option maxHeartbeats 9000000
open Go.RowKit
set_option linter.unusedVariables false
set_option linter.unusedSimpArgs false
variable {B b cur:Array Value} {id:Int} {L:List Ent} {xs:List Value} {base c c2 cL cd cq gB gS i k m n nL o x:Nat} {f:Nat→Ent} {C:Nat→Nat} {A:Nat→Option Addr} {a aL ad aq:Option Addr} {p:Prop} {R:Rnd} {t t':TypeId} {v:Value} {V V1 W W' X w w':World}
theorem H8 (h:p:=by
 have HC:Hid (Gz w l (.pointer (some (Hh gB 0))) X):=⟨gB,p,rfl,hgB,by rw [←ep],by rw [←ep],by rw [←ep],by
  rw [←ep] at hP ⊢
  exact Gh oT oR hTR kB hP,⟨(hP.to.block _ (iw HX.a) (by simp;omega)).trans HX.a,(hP.to.block _ (iw HX.b) (by simp;omega)).trans HX.b,HX.bel.trans (hP.to.below HX.bel.size (fun x hx=>by simp at hx;omega))⟩⟩
 clear hP oT oR kB hTR HX hT0 ep
 go_wp2_with fail
 go_meet
 case rel=>exact HC.out):p:=h
theorem dE (h:p:=by
 exact jn k1 k2 (by decide) rfl):p:=h
theorem oI (R:Rnd) (w:World) (hs:R.Small) (h:mo w R) :
  Calls Tryz.prog 91 #[.agg R.cells] w fun e w'=>∃ aq cq ad cd gS A C,e=.returned (.agg (R.cp aq cq ad cd gS A C).cells)∧jT w' w.heap.size (R.cp aq cq ad cd gS A C)∧Below w.heap.size w w':=by
 obtain ⟨aQ,nQ,cQ,q,aD,nD,cD,d,turn,fresh,aS,nS,cS,A,L,C,z⟩:=R
 have HR:=aa h
 have HS:=aa hs
 have mk:=vI nS hs.s
 have hnS:(nS:Int)≤1048576:=by have:nS≤1048576:=hs.s;omega
 clear h hs
 unfold Rnd.cells
 dsimp only
 go_enter Tryz.func91,Tryz.ntmps91
 go_wp2_with fail
 have HA:Hid (∀ A B C,Below w.heap.size w (((w.alloc A).alloc B).alloc C)):=fun A B C=>(((Below.refl _ _).alloc (Nat.le_refl _) _).alloc (by simp) _).alloc (by simp;omega) _
 have e3:∀ A B C,(((w.alloc A).alloc B).alloc C).heap.size=w.heap.size+1+1+1:=fun A B C=>by simp
 refine (lZ aQ nQ cQ q _ HS.q (HR.q.up (HA _ _ _))).mono ?_
 rintro e w1 ⟨aq,cq,rfl,hVo,hb1⟩
 have hV:=hVo.vi
 clear hVo
 obtain ⟨kA,kB,kC,B1,z1⟩:=sM hb1
 rw [e3] at hV
 have cA:=iv kA
 have cC:=iv kC
 have fC:=iF kC
 clear hb1 HA
 go_wp2_with fail
 have ht:Touch [w.heap.size+1+1] w1 (w1.setCell (Hh (w.heap.size+1+1) 0) (.slice aq nQ cq)):=(Touch.refl _ _).set (by simp) 0 _
 have kA':=(ht.block _ (iw kA) (by simp only [List.mem_singleton];omega)).trans kA
 have kB':=(ht.block _ (iw kB) (by simp only [List.mem_singleton];omega)).trans kB
 have kC':(w1.setCell (Hh (w.heap.size+1+1) 0) (.slice aq nQ cq)).heap[w.heap.size+1+1]?=some (.cells #[.slice aq nQ cq,.slice aD nD cD,.int .i64 turn,.bool fresh,.slice aS nS cS] 46 (0,0)):=iO kC _
 have hV':=hV.iB ht (fun x hx hx2=>by have:=(hV.blk x hx).1;simp at hx2;omega)
 have B1':=B1.trans (ht.below B1.size (fun x hx=>by simp at hx;omega))
 have z1':(w.heap.size+1+1+1)≤(w1.setCell (Hh (w.heap.size+1+1) 0) (.slice aq nQ cq)).heap.size:=by have:=ht.size;omega
 clear kA kB kC cA cC fC hV B1 ht z1
 generalize w1.setCell (Hh (w.heap.size+1+1) 0) (.slice aq nQ cq)=W at *
 refine (lZ aD nD cD d _ HS.d (HR.d.up B1')).mono ?_
 rintro e w2 ⟨ad,cd,rfl,hDo,hb2⟩
 have hD:=hDo.vi
 clear hDo
 have hQD:=CO hV' hD (Nat.le_refl _)
 have hV2:=hV'.up hb2
 have kA2:=(hb2.block _ (iw kA')).trans kA'
 have kB2:=(hb2.block _ (iw kB')).trans kB'
 have kC2:=(hb2.block _ (iw kC')).trans kC'
 have B2:Below w.heap.size w w2:=B1'.trans (hb2.mono B1'.size)
 have z2:(w.heap.size+1+1+1)≤w2.heap.size:=Nat.le_trans z1' hb2.size
 replace hD:=hD.mono z1'
 have cA:=iv kA2
 have cC:=iv kC2
 have fC:=iF kC2
 clear hb2 kA' kB' kC' hV' B1' z1'
 have ht:Touch [w.heap.size+1+1] w2 (w2.setCell (Hh (w.heap.size+1+1) 1) (.slice ad nD cd)):=(Touch.refl _ _).set (by simp) 1 _
 have hA:=(Below.refl (w2.setCell (Hh (w.heap.size+1+1) 1) (.slice ad nD cd)).heap.size (w2.setCell (Hh (w.heap.size+1+1) 1) (.slice ad nD cd))).alloc (Nat.le_refl _) (.cells (tR nS) 27)
 have hz:(w2.setCell (Hh (w.heap.size+1+1) 1) (.slice ad nD cd)).heap.size=w2.heap.size:=by simp [World.setCell]
 have kC3:(w2.setCell (Hh (w.heap.size+1+1) 1) (.slice ad nD cd)).heap[w.heap.size+1+1]?=some (.cells #[.slice aq nQ cq,.slice ad nD cd,.int .i64 turn,.bool fresh,.slice aS nS cS] 46 (0,0)):=iO kC2 _
 have kC4:=(hA.block _ (iw kC3)).trans kC3
 have kA4:=(hA.block _ (by rw [hz];exact iw kA2)).trans ((ht.block _ (iw kA2) (by simp only [List.mem_singleton];omega)).trans kA2)
 have kB4:=(hA.block _ (by rw [hz];exact iw kB2)).trans ((ht.block _ (iw kB2) (by simp only [List.mem_singleton];omega)).trans kB2)
 have kS4:=iy (w2.setCell (Hh (w.heap.size+1+1) 1) (.slice ad nD cd)) (.cells (tR nS) 27)
 rw [hz] at kS4
 have hV4:=(hV2.iB ht (fun x hx hx2=>by have:=(hV2.blk x hx).1;simp at hx2;omega)).up hA
 have hD4:=(hD.iB ht (fun x hx hx2=>by have:=(hD.blk x hx).1;simp at hx2;omega)).up hA
 have B3:=B2.trans (ht.below B2.size (fun x hx=>by simp at hx;omega))
 have B4:=B3.trans (hA.mono B3.size)
 have cA4:=iv kA4
 have cC4:=iv kC4
 have fC4:=iF kC4
 clear ht hA kC3 kA2 kB2 kC2 hV2 hD B2 B3
 go_wp2_with fail
 have ht:=(Touch.refl [w.heap.size+1+1] ((w2.setCell (Hh (w.heap.size+1+1) 1) (.slice ad nD cd)).alloc (.cells (tR nS) 27))).set (g:=w.heap.size+1+1) (by simp) 4 (.slice (some (Hh w2.heap.size 0)) nS nS)
 have HCp0:Hid (Cp ⟨aQ,nQ,cQ,q,aD,nD,cD,d,turn,fresh,aS,nS,cS,A,L,C,z⟩ (w.heap.size+1+1+1) (((w2.setCell (Hh (w.heap.size+1+1) 1) (.slice ad nD cd)).alloc (.cells (tR nS) 27)).setCell (Hh (w.heap.size+1+1) 4) (.slice (some (Hh w2.heap.size 0)) nS nS)) aq ad w2.heap.size A C 0) :=
  ⟨hV4.iB ht (fun x hx hx2=>by have:=(hV4.blk x hx).1;simp at hx2;omega),hD4.iB ht (fun x hx hx2=>by have:=(hD4.blk x hx).1;simp at hx2;omega),
   .inr ⟨_,rfl,z2,((uZ kS4).jR (ht.block _ (iw kS4) (by simp only [List.mem_singleton];omega))).ext (fun i hi=>by simp)⟩,fun i hi=>by omega,hQD,fun i hi=>by omega,fun i hi=>by omega,fun i j hi=>by omega⟩
 have HB0:Hid (Below w.heap.size w (((w2.setCell (Hh (w.heap.size+1+1) 1) (.slice ad nD cd)).alloc (.cells (tR nS) 27)).setCell (Hh (w.heap.size+1+1) 4) (.slice (some (Hh w2.heap.size 0)) nS nS))):=B4.trans (ht.below B4.size (fun x hx=>by simp at hx;omega))
 have kB5:=(ht.block _ (iw kB4) (by simp only [List.mem_singleton];omega)).trans kB4
 have kC5:(((w2.setCell (Hh (w.heap.size+1+1) 1) (.slice ad nD cd)).alloc (.cells (tR nS) 27)).setCell (Hh (w.heap.size+1+1) 4) (.slice (some (Hh w2.heap.size 0)) nS nS)).heap[w.heap.size+1+1]?=some (.cells #[.slice aq nQ cq,.slice ad nD cd,.int .i64 turn,.bool fresh,.slice (some (Hh w2.heap.size 0)) nS nS] 46 (0,0)):=iO kC4 _
 have HkB0:=aa kB5
 have HkC0:=aa kC5
 clear ht kB5 kC5 kA4 kB4 kC4 kS4 hV4 hD4 B4 cA4 cC4 fC4 cA cC fC hz hQD mk
 generalize ((w2.setCell (Hh (w.heap.size+1+1) 1) (.slice ad nD cd)).alloc (.cells (tR nS) 27)).setCell (Hh (w.heap.size+1+1) 4) (.slice (some (Hh w2.heap.size 0)) nS nS)=W5 at *
 generalize w2.heap.size=gS at *
 go_loopw [23] (fun i wr=>∃ (k:Nat) (A':Nat→Option Addr) (C':Nat→Nat),k≤nS∧i=.int .i64 k∧Cp ⟨aQ,nQ,cQ,q,aD,nD,cD,d,turn,fresh,aS,nS,cS,A,L,C,z⟩ (w.heap.size+1+1+1) wr aq ad gS A' C' k∧Below w.heap.size w wr∧(w.heap.size+1+1+1)≤wr.heap.size∧wr.heap[w.heap.size+1]?=some (.cells ae 46 (0,0))∧wr.heap[w.heap.size+1+1]?=some (.cells #[.slice aq nQ cq,.slice ad nD cd,.int .i64 turn,.bool fresh,.slice (some (Hh gS 0)) nS nS] 46 (0,0))) (fun i _=>nS-(intOf i).toNat)
 case atStart=>exact ⟨0,A,C,Nat.zero_le _,rfl,HCp0.out,HB0.out,by have:=iw HkC0.out;omega,HkB0.out,HkC0.out⟩
 obtain ⟨k,A',C',hk,rfl,hCp,hB,hBs,hkB,hkC⟩:=hrel
 clear HCp0 HB0 HkB0 HkC0
 have HCp:=aa hCp
 have HB:=aa hB
 have HBs:=aa hBs
 have kBd:=aa hkB
 have kCd:=aa hkC
 clear hCp hB hBs
 by_cases hlt:k<nS
 ·
  have hlt':(k:Int)<nS:=by omega
  obtain ⟨gs,os,rfl,hc⟩:=(HR.s.up HB.out) k hlt
  dsimp only at hc
  clear hkB hkC
  go_wp2_with fail
  refine wp_region_held_drew (S:=fun w'=>w'.cell? (Hh (w.heap.size+1+1) 4)=some (.slice (some (Hh gS 0)) nS nS)) (by kernel_rfl) (iv kCd.out 4) (fun hHeld=>?_)
  refine t0 ?_
  iterate 3 refine tN ?_
  refine rq1 4 (fun K hK=>?_)
  go_simp
  refine (lZ (A k) (L k) (C k) (z k) _ (HS.l k hlt) ((HR.z k hlt).up (HB.drew))).mono ?_
  rintro e w4 ⟨a',c',rfl,hv,hb⟩
  have hC0:=HCp.up (W':=wr.drew) ((Below.refl _ _).drew)
  have HCp4:=aa (hC0.next (c':=c') hlt hb HBs hv)
  have HB4:=aa (HB.drew.trans (hb.mono HB.size))
  have kB4:=(hb.block _ (iw kBd.out)).trans kBd.out
  have kC4:=(hb.block _ (iw kCd.out)).trans kCd.out
  have q4:w4.cell? (Hh (w.heap.size+1+1) 4)=some (.slice (some (Hh gS 0)) nS nS):=iv kC4 4
  have hrow:(w.heap.size+1+1+1)≤gS∧(∃ x,w4.cell? (Hh gS k)=some x)∧w4.frozen? (Hh gS k)=false:=by
   rcases hC0.s with h0 | ⟨g,hg,hbg,hr⟩
   ·
    exact absurd hlt (by rw [show nS=0 from h0];omega)
   cases hg
   exact ⟨hbg,(hr.jR (hb.block _ hr.lt)).there k hlt,(hr.jR (hb.block _ hr.lt)).free k⟩
  obtain ⟨hgS,⟨xS,cS4⟩,fS4⟩:=hrow
  have HkB:Hid ((w4.setCell (Hh gS k) (.slice a' (L k) c')).heap[w.heap.size+1]?=_):=(iJ (by omega) _).trans kB4
  have HkC:Hid ((w4.setCell (Hh gS k) (.slice a' (L k) c')).heap[w.heap.size+1+1]?=_):=(iJ (by omega) _).trans kC4
  have HBn:Hid (Below w.heap.size w (w4.setCell (Hh gS k) (.slice a' (L k) c'))):=HB4.setCell (by show w.heap.size≤gS;omega) _
  have HBsn:Hid ((w.heap.size+1+1+1)≤(w4.setCell (Hh gS k) (.slice a' (L k) c')).heap.size):=by
   have:=iw HkC.out
   show _≤_
   omega
  have q4s:(w4.setCell (Hh gS k) (.slice a' (L k) c')).cell? (Hh (w.heap.size+1+1) 4)=some (.slice (some (Hh gS 0)) nS nS):=iv HkC 4
  clear hv hb hC0 kB4 kC4
  go_wp2_with fail
  refine ah (hK _ _ q4) ?_
  intro hHeld
  clear hK K
  refine tN ?_
  refine rq1 6 (fun K hK=>?_)
  go_simp
  refine ah (hK _ _ q4s) ?_
  intro hHeld
  clear hK K
  refine dnq ?_
  go_wp2_with fail
  go_roundw
  case rel=>exact ⟨k+1,_,_,by omega,by go_num,HCp4.out,HBn.out,HBsn.out,HkB.out,HkC.out⟩
  case measure=>simp [intOf];omega
 obtain rfl:k=nS:=by omega
 have cC:=iv hkC
 have cB:=iv hkB
 have fB:=iF hkB
 go_wp2_with fail
 have ht:=kI wr (w.heap.size+1) (.slice aq nQ cq) (.slice ad nD cd) (.int .i64 turn) (.bool fresh) (.slice (some (Hh gS 0)) k k)
 have cF:=iv (mS hkB (.slice aq nQ cq) (.slice ad nD cd) (.int .i64 turn) (.bool fresh) (.slice (some (Hh gS 0)) k k))
 have hBf:=HB.trans (ht.below HB.size (fun x hx=>by simp at hx;omega))
 have hOf:=((HCp.own cq cd).jE ht (fun x hx=>by simp at hx;omega)).mono (show w.heap.size≤(w.heap.size+1+1+1) by omega)
 unfold uf at cF hBf hOf
 exact bodyPost_ret (v:=.agg (Rnd.cp ⟨aQ,nQ,cQ,q,aD,nD,cD,d,turn,fresh,aS,k,cS,A,L,C,z⟩ aq cq ad cd gS A' C').cells) (by simp [results,Tryz.results91,go_sem,cF,Rnd.cp,Rnd.cells]) rfl ⟨aq,cq,ad,cd,gS,A',C',rfl,hOf,hBf⟩
theorem CE:Alike R (R.cp aq cq ad cd gS A C):=⟨rfl,rfl,rfl,rfl,rfl,rfl,rfl,rfl,rfl⟩
def qx:Array Value:=#[.bool false,.slice none 0 0,.slice none 0 0,.slice none 0 0,.slice none 0 0,.int .i64 0,.bool false,.slice none 0 0]
structure CpL (base gB:Nat) (l p:Lng) (W:World):Prop where
 own:iS W base p
 box:W.heap[gB]?=some (.cells p.cells 48 (0,0))
 st:p.st=l.st
 nT:p.nT=l.nT
 t:p.t=l.t
 ul:p.uL=l.uL
 uz:p.uz=l.uz
 r:Alike l.R p.R
def Gz (w:World) (l:Lng) (v:Value) (wc:World):Prop:=∃ gB p,v=.pointer (some (Hh gB 0))∧w.heap.size+1<gB∧p.nU=0∧p.aU=none∧p.cU=0∧CpL w.heap.size gB l p wc∧Two w l.cells qx 48 wc
theorem CpL.up {l p:Lng} (h:CpL base gB l p W) (hb:Below W.heap.size W W'):CpL base gB l p W' :=
 ⟨h.own.up hb,(hb.block _ (iw h.box)).trans h.box,h.st,h.nT,h.t,h.ul,h.uz,h.r⟩
theorem CpL.more {g:Nat} {l p:Lng} {W2:World} (h:CpL base gB l p V) (hk:p.nU=k) (hb:Below V.heap.size V V1) (hbase:base≤V.heap.size) (ho:OI V1 V.heap.size a (l.uL k) c (l.uz k))
  (hu:OG 27 1 W base (some (Hh g 0)) (k+1) c2 (sk k p.uA p.uL p.uC++[.slice a (l.uL k) c])) (ht:Touch (iR p.aU) V1 W) (hg:g∈iR p.aU∨V1.heap.size≤g) (hP:Put W W2 gB (lay p.cells 2 #[.slice (some (Hh g 0)) (k+1) c2]) 48):CpL base gB l (p.more k (some (Hh g 0)) c2 a c) W2:=by
 rw [←h.ul,←h.uz] at ho
 rw [←h.ul] at hu
 have h1:=h.own.more hk hb hbase ho hu ht hg
 have hbx:W.heap[gB]?=some (.cells p.cells 48 (0,0)):=by
  have e1:=(h.up hb).box
  refine (ht.block gB (iw e1) ?_).trans e1
  exact (h.up hb).own.u.mv (by decide) e1
 exact ⟨h1.box hbx (by decide) (by decide) hP.to,hP.blk,h.st,h.nT,h.t,h.ul,h.uz,h.r⟩
theorem rdR {g:Nat} {l:Lng} (h:w.heap[g]?=some (.cells l.cells t (0,0))):∀ j,j<5→w.cell? (Hh g (3+j))=l.R.cells[j]?:=by
 intro j hj
 rw [iv h]
 match j,hj with
 | 0,_=>rfl
 | 1,_=>rfl
 | 2,_=>rfl
 | 3,_=>rfl
 | 4,_=>rfl
theorem Two.far {A:Array Value} {S:List Nat} (h:Two w A B t W) (ht:Touch S W W') (hn:∀ {g:Nat} {cs:Array Value},W.heap[g]?=some (.cells cs t (0,0))→g∉S) (hl:∀ x∈S,w.heap.size≤x):Two w A B t W' :=
 ⟨(ht.block _ (iw h.a) (hn h.a)).trans h.a,(ht.block _ (iw h.b) (hn h.b)).trans h.b,h.bel.trans (ht.below h.bel.size hl)⟩
theorem Two.put {A C:Array Value} {g:Nat} (h:Two w A B t W) (hp:Put W W' g C t') (hg:w.heap.size+1<g):Two w A B t W' :=
 ⟨(hp.to.block _ (iw h.a) (by simp;omega)).trans h.a,(hp.to.block _ (iw h.b) (by simp;omega)).trans h.b,h.bel.trans (hp.to.below h.bel.size (fun x hx=>by simp at hx;omega))⟩
theorem Gh {l:Lng} {aT:Option Addr} {cT:Nat} (oT:OI V base aT l.nT cT l.t) (oR:jT V base (l.R.cp aq cq ad cd gS A C)) (hTR:∀ x∈iR aT,x∉(l.R.cp aq cq ad cd gS A C).kj)
  (kB:V.heap[gB]?=some (.cells cur 48 (0,0))) (hP:Put V X gB (Lng.cells ⟨l.st,aT,l.nT,cT,l.t,none,0,0,fun _=>none,l.uL,fun _=>0,l.uz,l.R.cp aq cq ad cd gS A C⟩) 48):CpL base gB l ⟨l.st,aT,l.nT,cT,l.t,none,0,0,fun _=>none,l.uL,fun _=>0,l.uz,l.R.cp aq cq ad cd gS A C⟩ X:=by
 have h1:iS V base ⟨l.st,aT,l.nT,cT,l.t,none,0,0,fun _=>none,l.uL,fun _=>0,l.uz,l.R.cp aq cq ad cd gS A C⟩:=by
  refine ⟨oT,OG.nil _ _ _ _,fun i hi=>absurd hi (Nat.not_lt_zero _),oR,?_,fun x hx hy=>by simp [iR] at hy⟩
  show ((iR aT++_)++[]).Nodup
  rw [List.append_nil]
  exact List.nodup_append.2 ⟨ma _,oR.nd,fun x hx y hy e=>hTR x hx (e▸hy)⟩
 exact ⟨h1.box kB (by decide) (by decide) hP.to,hP.blk,rfl,rfl,rfl,rfl,rfl,CE⟩
theorem xX (l:Lng) (w:World) (hs:l.Small) (h:zP w l) :
  Calls Tryz.prog 57 #[.agg l.cells] w fun e w'=>∃ l2,e=.returned (.agg l2.cells)∧iT l l2∧iS w' w.heap.size l2∧Below w.heap.size w w':=by
 have HR:=aa h
 have HS:=aa hs
 obtain ⟨W,eW⟩:∃ W,(w.alloc (.cells l.cells 48)).alloc (.cells af 48)=W:=⟨_,rfl⟩
 have HX:Hid (Two w l.cells qx 48 W):=by rw [←eW];exact Two.start _ _ _ _
 clear h hs
 go_enter Tryz.func57,Tryz.ntmps57
 go_wp2_with fail
 clear eW
 go_cut [3] (fun v wc=>Gz w l v wc)
 case first =>
  replace HX:Hid (Two w l.cells qx 48 W.drew):=HX.up ((Below.refl _ _).drew)
  have hz0:w.heap.size+1<W.drew.heap.size:=iw HX.b
  refine jv (fun w'=>w'.heap[w.heap.size]?=some (.cells l.cells 48 (0,0))) 10 (by kernel_rfl) ?_
  generalize W.drew=V at *
  have hT0:=HX.a
  refine tE 0 6 hT0 ?_
  refine ko (i:=1) (some 7) (v:=?_) ?_ hT0 ?_
  rotate_left
  ·
   intro wx hSw
   have c0:wx.cell? (Hh w.heap.size 0)=some (.bool l.st):=iv hSw 0
   go_simp
   try with_reducible rfl
  try simp only [Act.put,PZ]
  refine tE 2 8 hT0 ?_
  refine ko (i:=3) (some 9) (v:=?_) ?_ hT0 ?_
  rotate_left
  ·
   intro wx hSw
   have c1:wx.cell? (Hh w.heap.size 1)=some (.slice l.aT l.nT l.cT):=iv hSw 1
   go_simp
   try with_reducible rfl
  try simp only [Act.put,PZ]
  refine tE 5 11 hT0 ?_
  refine ko (i:=6) (some 12) (v:=.agg l.R.cells) ?_ hT0 ?_
  ·
   intro wx hSw
   exact jF 46 5 _ Tryz.underlying46 rfl BX (.tmp 11) rfl w.heap.size 3 rfl l.R.cells rfl (fun j hj=>rdR hSw j hj)
  try simp only [Act.put,PZ]
  refine iz (rs:=[4,9]) (by kernel_rfl) (by simp) ?_
  refine ix.cons rfl (fun K hK=>?_) (ix.cons rfl (fun K hK=>?_) ix.nil)
  ·
   go_simp
   refine (lZ l.aT l.nT l.cT l.t _ HS.t (HR.t.up HX.bel)).mono ?_
   rintro e X1 ⟨aT,cT,rfl,oT,hb⟩
   replace oT:=oT.mono (base':=w.heap.size) HX.bel.size
   have lT:=OI.blk oT
   replace HX:=aa (HX.up hb)
   replace hT0:=HX.a
   have hz:=(hb).size
   clear hb hz
   go_wp2_with fail
   refine hK _ _ hT0 ?_
   clear hK K
   try simp only [Act.put,PZ]
   refine iz (rs:=[7,9]) (by kernel_rfl) (by simp) ?_
   refine ix.cons rfl (fun K hK=>?_) (ix.cons rfl (fun K hK=>?_) ix.nil)
   ·
    go_simp
    refine (oI l.R _ HS.r (HR.r.up HX.bel)).mono ?_
    rintro e X2 ⟨aq,cq,ad,cd,gS,A,C,rfl,oR,hb⟩
    have hTR:∀ x∈iR aT,x∉(l.R.cp aq cq ad cd gS A C).kj:=fun x hx hy=>by have:=(OI.blk oT x hx).2;have:=(oR.blk x hy).1;omega
    replace oR:=oR.vH (base':=w.heap.size) HX.bel.size
    replace HX:=aa (HX.up hb)
    replace hT0:=HX.a
    have hz:=(hb).size
    replace oT:=oT.up hb
    clear hb hz
    dsimp only [Rnd.cells,Rnd.cp]
    go_wp2_with fail
    refine hK _ _ hT0 ?_
    clear hK K
    try simp only [Act.put,PZ]
    refine tE 8 14 hT0 ?_
    refine iz (rs:=[9]) (by kernel_rfl) (by simp) ?_
    refine ix.cons rfl (fun K hK=>?_) ix.nil
    obtain ⟨X3,eV⟩:∃ X,X2.alloc (.cells af 48)=X:=⟨_,rfl⟩
    have hb:Below X2.heap.size X2 X3:=by rw [←eV];exact (Below.refl _ _).alloc (Nat.le_refl _) _
    have kB:X3.heap[X2.heap.size]?=some (.cells af 48 (0,0)):=by rw [←eV];exact iy _ _
    have hgB:w.heap.size+1<X2.heap.size:=iw HX.b
    go_simp
    clear eV
    replace HX:=aa (HX.up hb)
    replace hT0:=HX.a
    have hz:=(hb).size
    replace oT:=oT.up hb
    replace oR:=oR.upZ hb
    clear hb hz
    obtain ⟨gB,eB⟩:∃ g,X2.heap.size=g:=⟨_,rfl⟩
    rw [eB] at kB hgB ⊢
    refine hK _ _ hT0 ?_
    clear hK K
    try simp only [Act.put,PZ]
    refine iz (rs:=[10]) (by kernel_rfl) (by simp) ?_
    refine ix.last rfl (fun K hK=>?_)
    refine jY (by kernel_rfl) none rfl 48 (.tmp 3) (.tmp 14) rfl gB 0 rfl (.agg #[.bool l.st,.slice aT l.nT cT,.slice none 0 0,.slice aq l.R.nQ cq,.slice ad l.R.nD cd,.int .i64 l.R.turn,.bool l.R.fresh,.slice (some (Hh gS 0)) l.R.nS l.R.nS]) rfl 8 rfl 48 _ kB kt (Nat.le_of_ble_eq_true rfl) (by simp [Value.cells,Value.oneCell']) ?_
    intro X hP
    refine ah (hK _ _) ?_
    clear hK K
    refine jf (by kernel_rfl) ?_ _
    obtain ⟨p,ep⟩:∃ p,(⟨l.st,aT,l.nT,cT,l.t,none,0,0,fun _=>none,l.uL,fun _=>0,l.uz,l.R.cp aq cq ad cd gS A C⟩:Lng)=p:=⟨_,rfl⟩
    replace hP:Put X3 X gB p.cells 48:=hP.cast (by rw [←ep];rfl)
    exact H8
   obtain ⟨X4,eV⟩:∃ X,X1.alloc (.cells af 48)=X:=⟨_,rfl⟩
   have hb:Below X1.heap.size X1 X4:=by rw [←eV];exact (Below.refl _ _).alloc (Nat.le_refl _) _
   have kB:X4.heap[X1.heap.size]?=some (.cells af 48 (0,0)):=by rw [←eV];exact iy _ _
   have hgB:w.heap.size+1<X1.heap.size:=iw HX.b
   go_simp
   clear eV
   replace HX:=aa (HX.up hb)
   replace hT0:=HX.a
   have hz:=(hb).size
   replace oT:=oT.up hb
   clear hb hz
   obtain ⟨gB,eB⟩:∃ g,X1.heap.size=g:=⟨_,rfl⟩
   rw [eB] at kB hgB ⊢
   refine hK _ _ hT0 ?_
   clear hK K
   try simp only [Act.put,PZ]
   refine iz (rs:=[7]) (by kernel_rfl) (by simp) ?_
   refine ix.cons rfl (fun K hK=>?_) ix.nil
   go_simp
   refine (oI l.R _ HS.r (HR.r.up HX.bel)).mono ?_
   rintro e X5 ⟨aq,cq,ad,cd,gS,A,C,rfl,oR,hb⟩
   have hTR:∀ x∈iR aT,x∉(l.R.cp aq cq ad cd gS A C).kj:=fun x hx hy=>by have:=(OI.blk oT x hx).2;have:=(oR.blk x hy).1;omega
   replace oR:=oR.vH (base':=w.heap.size) HX.bel.size
   replace HX:=aa (HX.up hb)
   replace hT0:=HX.a
   have hz:=(hb).size
   replace oT:=oT.up hb
   replace kB:=(hb.block _ (iw kB)).trans kB
   clear hb hz
   dsimp only [Rnd.cells,Rnd.cp]
   go_wp2_with fail
   refine hK _ _ hT0 ?_
   clear hK K
   try simp only [Act.put,PZ]
   refine tE 8 14 hT0 ?_
   refine iz (rs:=[10]) (by kernel_rfl) (by simp) ?_
   refine ix.last rfl (fun K hK=>?_)
   refine jY (by kernel_rfl) none rfl 48 (.tmp 3) (.tmp 14) rfl gB 0 rfl (.agg #[.bool l.st,.slice aT l.nT cT,.slice none 0 0,.slice aq l.R.nQ cq,.slice ad l.R.nD cd,.int .i64 l.R.turn,.bool l.R.fresh,.slice (some (Hh gS 0)) l.R.nS l.R.nS]) rfl 8 rfl 48 _ kB kt (Nat.le_of_ble_eq_true rfl) (by simp [Value.cells,Value.oneCell']) ?_
   intro X hP
   refine ah (hK _ _) ?_
   clear hK K
   refine jf (by kernel_rfl) ?_ _
   obtain ⟨p,ep⟩:∃ p,(⟨l.st,aT,l.nT,cT,l.t,none,0,0,fun _=>none,l.uL,fun _=>0,l.uz,l.R.cp aq cq ad cd gS A C⟩:Lng)=p:=⟨_,rfl⟩
   replace hP:Put X5 X gB p.cells 48:=hP.cast (by rw [←ep];rfl)
   exact H8
  obtain ⟨X6,eV⟩:∃ X,V.alloc (.cells af 48)=X:=⟨_,rfl⟩
  have hb:Below V.heap.size V X6:=by rw [←eV];exact (Below.refl _ _).alloc (Nat.le_refl _) _
  have kB:X6.heap[V.heap.size]?=some (.cells af 48 (0,0)):=by rw [←eV];exact iy _ _
  have hgB:w.heap.size+1<V.heap.size:=iw HX.b
  go_simp
  clear eV
  replace HX:=aa (HX.up hb)
  replace hT0:=HX.a
  have hz:=(hb).size
  clear hb hz
  obtain ⟨gB,eB⟩:∃ g,V.heap.size=g:=⟨_,rfl⟩
  rw [eB] at kB hgB ⊢
  refine hK _ _ hT0 ?_
  clear hK K
  try simp only [Act.put,PZ]
  refine iz (rs:=[4]) (by kernel_rfl) (by simp) ?_
  refine ix.cons rfl (fun K hK=>?_) ix.nil
  go_simp
  refine (lZ l.aT l.nT l.cT l.t _ HS.t (HR.t.up HX.bel)).mono ?_
  rintro e X7 ⟨aT,cT,rfl,oT,hb⟩
  replace oT:=oT.mono (base':=w.heap.size) HX.bel.size
  have lT:=OI.blk oT
  replace HX:=aa (HX.up hb)
  replace hT0:=HX.a
  have hz:=(hb).size
  replace kB:=(hb.block _ (iw kB)).trans kB
  clear hb hz
  go_wp2_with fail
  refine hK _ _ hT0 ?_
  clear hK K
  try simp only [Act.put,PZ]
  refine iz (rs:=[7]) (by kernel_rfl) (by simp) ?_
  refine ix.cons rfl (fun K hK=>?_) ix.nil
  go_simp
  refine (oI l.R _ HS.r (HR.r.up HX.bel)).mono ?_
  rintro e X8 ⟨aq,cq,ad,cd,gS,A,C,rfl,oR,hb⟩
  have hTR:∀ x∈iR aT,x∉(l.R.cp aq cq ad cd gS A C).kj:=fun x hx hy=>by have:=(OI.blk oT x hx).2;have:=(oR.blk x hy).1;omega
  replace oR:=oR.vH (base':=w.heap.size) HX.bel.size
  replace HX:=aa (HX.up hb)
  replace hT0:=HX.a
  have hz:=(hb).size
  replace oT:=oT.up hb
  replace kB:=(hb.block _ (iw kB)).trans kB
  clear hb hz
  dsimp only [Rnd.cells,Rnd.cp]
  go_wp2_with fail
  refine hK _ _ hT0 ?_
  clear hK K
  try simp only [Act.put,PZ]
  refine tE 8 14 hT0 ?_
  refine iz (rs:=[10]) (by kernel_rfl) (by simp) ?_
  refine ix.last rfl (fun K hK=>?_)
  refine jY (by kernel_rfl) none rfl 48 (.tmp 3) (.tmp 14) rfl gB 0 rfl (.agg #[.bool l.st,.slice aT l.nT cT,.slice none 0 0,.slice aq l.R.nQ cq,.slice ad l.R.nD cd,.int .i64 l.R.turn,.bool l.R.fresh,.slice (some (Hh gS 0)) l.R.nS l.R.nS]) rfl 8 rfl 48 _ kB kt (Nat.le_of_ble_eq_true rfl) (by simp [Value.cells,Value.oneCell']) ?_
  intro X hP
  refine ah (hK _ _) ?_
  clear hK K
  refine jf (by kernel_rfl) ?_ _
  obtain ⟨p,ep⟩:∃ p,(⟨l.st,aT,l.nT,cT,l.t,none,0,0,fun _=>none,l.uL,fun _=>0,l.uz,l.R.cp aq cq ad cd gS A C⟩:Lng)=p:=⟨_,rfl⟩
  replace hP:Put X8 X gB p.cells 48:=hP.cast (by rw [←ep];rfl)
  exact H8
 obtain ⟨gB,p,rfl,hgB,hnU,haU,hcU,hC,hX⟩:=hcut
 have HC:=aa hC
 replace HX:=aa hX
 have HP0:=aa hnU
 have HgB:=aa hgB
 clear hC hX hnU haU hcU hgB
 have HU:=aa HR.u
 obtain ⟨aU,eU⟩:∃ a,l.aU=a:=⟨_,rfl⟩
 have c2:wc.cell? (Hh w.heap.size 2)=some (.slice aU l.nU l.cU):=by rw [←eU];exact iv HX.a 2
 rw [eU] at HU
 clear eU
 have hnu:=HS.u
 go_wp2_with fail
 clear c2
 go_loopw [18] (fun i wr=>∃ (k:Nat) (q:Lng),k≤l.nU∧i=.int .i64 k∧Hid (q.nU=k∧CpL w.heap.size gB l q wr∧Two w l.cells qx 48 wr)) (fun i _=>l.nU-(intOf i).toNat)
 case atStart=>exact ⟨0,p,Nat.zero_le _,rfl,⟨HP0.out,HC.out,HX.out⟩⟩
 clear HC HX
 obtain ⟨k,q,hk,rfl,HQ⟩:=hrel
 by_cases hlt:k<l.nU
 ·
  have hlt':(k:Int)<l.nU:=by omega
  obtain ⟨g0,o0,ea,hc0⟩:=(HU.up HQ.2.2.bel) k hlt
  subst ea
  dsimp only at hc0
  go_wp2_with fail
  refine jv (fun w'=>w'.heap[gB]?=some (.cells q.cells 48 (0,0))) 7 (by kernel_rfl) ?_
  have hd:Below wr.heap.size wr wr.drew:=(Below.refl _ _).drew
  replace HQ:Hid (q.nU=k∧CpL w.heap.size gB l q wr.drew∧Two w l.cells qx 48 wr.drew):=⟨HQ.1,HQ.2.1.up hd,HQ.2.2.up hd⟩
  clear hd hc0
  generalize wr.drew=V at *
  have hT0:=HQ.2.1.box
  refine tE 0 22 hT0 ?_
  refine ko (i:=1) (some 23) (v:=?_) ?_ hT0 ?_
  rotate_left
  ·
   intro wx hSw
   have c2:wx.cell? (Hh gB 2)=some (.slice q.aU k q.cU):=by rw [iv hSw 2,←HQ.1];rfl
   go_simp
   try with_reducible rfl
  try simp only [Act.put,PZ]
  refine tE 2 24 hT0 ?_
  refine iz (rs:=[3]) (by kernel_rfl) (by simp) ?_
  refine ix.cons rfl (fun K hK=>?_) ix.nil
  go_simp
  refine (lZ (l.uA k) (l.uL k) (l.uC k) (l.uz k) _ (HS.z k hlt) ((HR.z k hlt).up HQ.2.2.bel)).mono ?_
  rintro e X1 ⟨a1,c1,rfl,oA,hb⟩
  have HA1:Hid (OI X1 V.heap.size a1 (l.uL k) c1 (l.uz k)∧Below V.heap.size V X1):=⟨oA,hb⟩
  have Q1:=HQ.2.1.up hb
  have hu0:OG 27 1 X1 w.heap.size q.aU k q.cU (sk k q.uA q.uL q.uC):=by have:=Q1.own.u;rw [HQ.1] at this;exact this
  obtain ⟨g1,c3,X3,hr,hu,ht,hg⟩:=me 44 27 (.slice none 0 0) 1 24 xK Tryz.underlying44 rfl (by decide) (by decide) hu0 (by omega) (Nat.le_trans HQ.2.2.bel.size hb.size) #[.slice a1 (l.uL k) c1] rfl (by simp [Value.oneCell'])
  have hT1:=Q1.box
  have hT2:(X1.alloc (.cells #[.slice a1 (l.uL k) c1] 27)).heap[gB]?=some (.cells q.cells 48 (0,0)):=(iN _ (iw hT1)).trans hT1
  have hT3:X3.heap[gB]?=some (.cells q.cells 48 (0,0)):=(ht.block gB (iw hT1) (hu0.mv (by decide) hT1)).trans hT1
  have HN3:Hid (OG 27 1 X3 w.heap.size (some (Hh g1 0)) (k+1) c3 (sk k q.uA q.uL q.uC++[.slice a1 (l.uL k) c1])∧Touch (iR q.aU) X1 X3∧(g1∈iR q.aU∨X1.heap.size≤g1)):=⟨hu,ht,hg⟩
  have HR3:=aa hr
  clear oA hb Q1 hu0 hr hu ht hg hT0
  go_wp2_with fail
  refine hK _ _ hT1 ?_
  clear hK K
  try simp only [Act.put,PZ]
  refine iz (rs:=[4]) (by kernel_rfl) (by simp) ?_
  refine ix.cons rfl (fun K hK=>?_) ix.nil
  go_simp
  refine hK _ _ hT2 ?_
  clear hK K
  try simp only [Act.put,PZ]
  refine iz (rs:=[5]) (by kernel_rfl) (by simp) ?_
  refine ix.cons rfl (fun K hK=>?_) ix.nil
  refine lV (by kernel_rfl) (some 27) rfl (.tmp 23) (.tmp 26) 44 _ _ _ rfl rfl rfl rfl HR3.out ?_
  refine hK _ _ hT3 ?_
  clear hK K hT2 HR3
  try simp only [Act.put,PZ]
  have hT0:=hT3
  refine tE 6 28 hT0 ?_
  refine iz (rs:=[7]) (by kernel_rfl) (by simp) ?_
  refine ix.last rfl (fun K hK=>?_)
  refine jY (by kernel_rfl) none rfl 44 (.tmp 28) (.tmp 27) rfl gB 2 rfl (.slice (some (Hh g1 0)) (k+1) c3) rfl 1 rfl 48 _ hT3 Cc (Nat.le_of_ble_eq_true rfl) (by simp [Value.cells,Value.oneCell']) ?_
  intro X4 hP
  refine ah (hK _ _) ?_
  clear hK K
  refine jf (by kernel_rfl) ?_ _
  have hlo:w.heap.size+1<X1.heap.size:=iw (HQ.2.2.up HA1.2).b
  have HN:Hid ((q.more k (some (Hh g1 0)) c3 a1 c1).nU=k+1∧CpL w.heap.size gB l (q.more k (some (Hh g1 0)) c3 a1 c1) X4∧Two w l.cells qx 48 X4):=⟨rfl,HQ.2.1.more HQ.1 HA1.2 HQ.2.2.bel.size HA1.1 HN3.1 HN3.2.1 HN3.2.2 hP,((HQ.2.2.up HA1.2).far HN3.2.1 (fun hg=>(HQ.2.1.up HA1.2).own.u.mv (by decide) hg) (fun x hx=>((HQ.2.1.up HA1.2).own.u.blk x hx).1)).put hP HgB.out⟩
  clear hP hT0 hT1 hT3 HN3 HA1 HQ hlo
  go_wp2_with fail
  go_roundw
  case rel=>exact ⟨k+1,_,by omega,by go_num,HN⟩
  case measure=>simp [intOf];omega
 obtain rfl:k=l.nU:=by omega
 obtain ⟨hq1,hq2,hq3⟩:=HQ.out
 have HL:Hid (∀ j,j<8→wr.cell? (Hh gB (0+j))=q.cells[j]?):=fun j _=>by rw [Nat.zero_add];exact iv hq2.box j
 have HD:=aa hq3.b
 clear hq1 hq2 hq3
 go_wp2_with (first | refine iC rfl 48 8 _ Tryz.underlying48 rfl kt (.tmp 3) rfl gB 0 rfl q.cells rfl HL.out ?_ | refine iA rfl 48 (.tmp 2) (.tmp 30) rfl (w.heap.size+1) 0 rfl (.agg q.cells) rfl 8 rfl 48 _ HD kt (Nat.le_of_ble_eq_true rfl) (Lng.mc _) ?_)
 intro X hP
 replace hP:Put wr X (w.heap.size+1) q.cells 48:=hP.cast rfl
 have HK:=aa hP.blk
 have HF:Hid (iT l q∧iS X w.heap.size q∧Below w.heap.size w X):=⟨⟨HQ.2.1.st,HQ.2.1.nT,HQ.2.1.t,HQ.1,HQ.2.1.ul,HQ.2.1.uz,HQ.2.1.r⟩,HQ.2.1.own.box HD (by decide) (by decide) hP.to,HQ.2.2.bel.trans (hP.to.below HQ.2.2.bel.size (fun x hx=>by simp at hx;omega))⟩
 clear hP HL HD HQ
 go_wp2_with fail
 exact bodyPost_ret (kr Tryz.results57 8 _ Tryz.underlying48 rfl kt _ _ (w.heap.size+1) q.cells rfl 48 HK.out rfl) rfl ⟨q,rfl,HF.1,HF.2.1,HF.2.2⟩
def mw (x:Ent):List Ent→List Ent
 | []=>[x]
 | y :: r=>if x.m<y.m then x :: y :: r else y :: mw x r
def notM (k:Int) (L:List Ent):List Ent:=L.filter fun y=>decide (y.m≠k)
def Ge (k:Int) (L:List Ent):Bool:=L.any fun y=>decide (y.m=k)
def atM (k:Int) (L:List Ent):Ent:=(L.find? fun y=>decide (y.m=k)).getD ⟨0,0,0⟩
theorem qH {k:Int} (h:∀ y∈L,y.m≠k):notM k L=L:=by
 unfold notM
 rw [List.filter_eq_self]
 intro y hy
 simp [h y hy]
theorem xH {x:Ent}:∀ {L:List Ent},(∀ y∈L,y.m<x.m)→mw x L=L++[x]
 | [],_=>rfl
 | y :: r,h=>by
  have h1:=h y (by simp)
  unfold mw
  rw [if_neg (by omega),xH (fun z hz=>h z (by simp [hz]))]
  rfl
def iU (n:Nat) (f:Nat→Ent):List Ent:=(List.range n).map f
theorem kM (n:Nat) (f:Nat→Ent):iU (n+1) f=iU n f++[f n]:=by simp [iU,List.range_succ]
theorem kc (n:Nat) (f:Nat→Ent):(iU n f).length=n:=by simp [iU]
theorem kY.lt {n:Nat} {f:Nat→Ent} (h:kY n f):∀ j i,i<j→j<n→(f i).m<(f j).m
 | 0,i,hi,_=>by omega
 | j+1,i,hi,hj=>by
  have h1:=(h (j+1) hj).2 (by omega)
  simp only [Nat.add_sub_cancel] at h1
  by_cases e:i=j
  ·
   subst e;exact h1
  have:=kY.lt h j i (by omega) (by omega)
  omega
theorem FM {k:Int} (h0:-9223372036854775808≤k) (h1:k≤9223372036854775807):keyOf Tryz.prog 2 (.int .i64 k)=some (.int .i64 k) :=
 Maps.keyOf_int_mk Tryz.underlying2 (by simp [Lit.wf,IntKind.min,IntKind.max,IntKind.signed,IntKind.bits];omega)
theorem Fk:(Tryz.prog.info? 75).map (fun i=>(i.zero,i.size,i.bytes))=some (some (.agg #[.int .i64 0,.int .i64 0,.int .i64 0]),3,24):=by kernel_rfl
def ly (x:Ent):List Value:=[.int .i64 x.m,.int .i64 x.p,.int .i64 x.t]
def jt (L:List Ent):List Value:=L.flatMap ly
theorem nM:∀ L:List Ent,(jt L).length=L.length*3
 | []=>rfl
 | x :: r=>by
  have:=nM r
  unfold jt at this ⊢
  simp [ly,this];omega
theorem uU (L:List Ent) (x:Ent):jt (L++[x])=jt L++ly x:=by simp [jt]
theorem nN:∀ (L:List Ent) (i:Nat),i<L.length→(jt L)[i*3]?=some (.int .i64 (L.getD i default).m)∧(jt L)[i*3+1]?=some (.int .i64 (L.getD i default).p)∧(jt L)[i*3+2]?=some (.int .i64 (L.getD i default).t)
 | [],i,h=>by simp at h
 | x :: r,0,_=>by simp [jt,ly]
 | x :: r,i+1,h=>by
  have hr:=nN r i (by simpa using h)
  have e:jt (x :: r)=.int .i64 x.m :: .int .i64 x.p :: .int .i64 x.t :: jt r:=by simp [jt,ly]
  rw [e,show (i+1)*3=i*3+1+1+1 by omega]
  simpa using hr
def nY (w:World) (base:Nat) (v:Value) (L:List Ent):Prop:=w.ownsRow base 75 3 v L.length (jt L)
theorem jw (w:World) (x:Ent) (t:TypeId):∀ j u,(ly x)[j]?=some u→(w.alloc (.cells #[.int .i64 x.m,.int .i64 x.p,.int .i64 x.t] t)).cell? (((Hh w.heap.size 0):Addr).add j)=some u:=by
 intro j u hj
 have hc:=iv (iy w (.cells #[.int .i64 x.m,.int .i64 x.p,.int .i64 x.t] t))
 match j,hj with
 | 0,hj=>simpa [ly,Addr.add] using (hc 0).trans hj
 | 1,hj=>simpa [ly,Addr.add] using (hc 1).trans hj
 | 2,hj=>simpa [ly,Addr.add] using (hc 2).trans hj
theorem CU (x:Ent):∀ u∈ly x,u.oneCell'=true:=by
 intro u hu
 simp [ly] at hu
 rcases hu with rfl | rfl | rfl <;> rfl
theorem nY.row (h:nY w base v L):(v=.slice none 0 0∧L=[])∨∃ g cap,v=.slice (some (Hh g 0)) L.length cap∧base≤g∧ja g 75 (L.length*3) (flat fun i=>L.getD i default) (L.length*3) w:=by
 rcases h.2 with ⟨h1,h2⟩ | ⟨g,cap,cur,hv,hg,hblk,hn,hc,hs,ht⟩
 ·
  exact .inl ⟨h1,List.eq_nil_of_length_eq_zero h2⟩
 refine .inr ⟨g,cap,hv,hg,cur,hblk,by rw [hs];omega,fun j hj=>?_⟩
 have hg0:cur[j]?=(jt L)[j]?:=by
  rw [←ht,List.getElem?_take_of_lt hj,Array.getElem?_toList]
 rw [hg0]
 obtain ⟨i,hi | hi | hi⟩:∃ i,j=i*3∨j=i*3+1∨j=i*3+2:=⟨j / 3,by omega⟩
 ·
  subst hi;rw [AK,(nN L i (by omega)).1]
 ·
  subst hi;rw [DX,(nN L i (by omega)).2.1]
 subst hi;rw [AJ,(nN L i (by omega)).2.2]
theorem nY.up (h:nY w base v L) (hb:Below w.heap.size w w'):nY w' base v L:=mH h hb (Nat.le_refl _)
theorem yZ (t e:TypeId) (z:Value) (sz bytes:Nat) (hinfo:(Tryz.prog.info? e).map (fun i=>(i.zero,i.size,i.bytes))=some (some z,sz,bytes)) (hu:Tryz.prog.underlying t=some (.slice e)) (h:W.ownsRow base e sz v 0 []) :
  (Builtin.append_ #[t,t] t #[v,.slice none 0 c]).run Tryz.prog W=.ok v W:=by
 obtain ⟨i0,hi,hz0,hz1,hz2⟩:=info_parts hinfo
 rcases h.2 with ⟨rfl,_⟩ | ⟨g,cap,cur,rfl,_⟩
 ·
  simp [Builtin.append_,run_underlying hu,sizeOf,typeInfo,hi,Builtin.lenOf,Builtin.firstCells,loadCells,loadCellsFrom]
 simp [Builtin.append_,run_underlying hu,sizeOf,typeInfo,hi,Builtin.lenOf,Builtin.firstCells,loadCells,loadCellsFrom,storeCells]
def CQ (w:World) (a:Option Addr) (xs:List Value):Prop:=∀ j u,xs[j]?=some u→∃ g o,a=some (Hh g o)∧w.cell? (Hh g (o+j))=some u
theorem CQ.up {w2:World} (h:CQ w a xs) (hb:Below w.heap.size w w2):CQ w2 a xs:=fun j u hj=>by
 obtain ⟨g,o,ha,hc⟩:=h j u hj
 exact ⟨g,o,ha,(hb.cell (p:=(Hh g (o+j))) (la hc)).trans hc⟩
theorem yd (t e:TypeId) (z:Value) (sz bytes:Nat) (hinfo:(Tryz.prog.info? e).map (fun i=>(i.zero,i.size,i.bytes))=some (some z,sz,bytes)) (hu:Tryz.prog.underlying t=some (.slice e)) (hz:z.cells.size=sz) (hsz:0<sz) (hby:bytes≤1000)
  (h:W.ownsRow base e sz v 0 []) (hb:base≤W.heap.size) (hn:n≤1048576) (hl:xs.length=n*sz) (hr:CQ W a xs) (h1:∀ u∈xs,u.oneCell'=true) :
  ∃ a' c' W',(Builtin.append_ #[t,t] t #[v,.slice a n c]).run Tryz.prog W=.ok (.slice a' n c') W'∧OG e sz W' base a' n c' xs∧W.grownBy W' v.ownBlock:=by
 have fin:∀ (v':Value) (W':World),W'.ownsRow base e sz v' n xs→∃ a' c',v'=.slice a' n c'∧OG e sz W' base a' n c' xs:=by
  intro v' W' h2
  rcases h2.2 with ⟨e1,e2⟩ | ⟨g,cap,cur,e1,_⟩
  ·
   subst e1
   subst e2
   exact ⟨none,0,rfl,h2⟩
  refine ⟨some (Hh g 0),cap,e1,?_⟩
  rw [e1] at h2
  exact h2
 have hbb:(0+n)*bytes≤140737488355328:=by
  have:=Nat.mul_le_mul (show 0+n≤1048577 by omega) hby
  omega
 obtain ⟨i0,hi,hz0,hz1,hz2⟩:=info_parts hinfo
 cases a with
 | none =>
  have hx:xs=[]:=by
   cases xs with
   | nil=>rfl
   | cons x r =>
    obtain ⟨g,o,ha,_⟩:=hr 0 x rfl
    cases ha
  subst hx
  have hl':n*sz=0:=hl.symm
  have h0:n=0:=(Nat.mul_eq_zero.1 hl').resolve_right (by omega)
  subst h0
  obtain ⟨a',c',rfl,hv⟩:=fin v W h
  exact ⟨a',c',W,yZ t e z sz bytes hinfo hu h,hv,⟨rfl,rfl,rfl,Nat.le_refl _,fun _ _ _=>rfl⟩⟩
 | some ad =>
  obtain ⟨v',W',hr',h2,h3,h4,h5⟩:=run_append_own_at (P:=Tryz.prog) W base t t e i0 z sz bytes hu hi hz0 hz1 hz2 hz hsz v 0 [] h ad n c xs hl (fun j u hj=>by
   obtain ⟨g,o,ha,hc⟩:=hr j u hj
   cases ha
   have e0:((Hh g o):Addr).add j=(Hh g (o+j)):=by unfold Addr.add;split <;> simp_all
   rw [e0]
   exact hc) h1 (by unfold maxLen;omega) hbb hb
  rw [Nat.zero_add,List.nil_append] at h2
  obtain ⟨a',c',rfl,hv⟩:=fin v' W' h2
  exact ⟨a',c',W',hr',hv,h3⟩
theorem si (t e:TypeId) (z:Value) (sz bytes:Nat) (hinfo:(Tryz.prog.info? e).map (fun i=>(i.zero,i.size,i.bytes))=some (some z,sz,bytes)) (hu:Tryz.prog.underlying t=some (.slice e)) (hz:z.cells.size=sz) (hsz:0<sz) (hby:bytes≤1000)
  (hn:n≤1048576) (hl:xs.length=n*sz) (hr:CQ W a xs) (h1:∀ u∈xs,u.oneCell'=true) :
  ∃ a' c' W',(Builtin.append_ #[t,t] t #[.slice none 0 0,.slice a n c]).run Tryz.prog W=.ok (.slice a' n c') W'∧OG e sz W' W.heap.size a' n c' xs∧Below W.heap.size W W':=by
 obtain ⟨a',c',W',h2,h3,h4⟩:=yd (c:=c) t e z sz bytes hinfo hu hz hsz hby (World.ownsRow_nil W W.heap.size e sz) (Nat.le_refl _) hn hl hr h1
 exact ⟨a',c',W',h2,h3,(Below.refl _ _).grown h4 (Nat.le_refl _) (fun k e=>by simp [Value.ownBlock] at e)⟩
theorem nh (t e:TypeId) (z:Value) (sz bytes:Nat) (hinfo:(Tryz.prog.info? e).map (fun i=>(i.zero,i.size,i.bytes))=some (some z,sz,bytes)) (hu:Tryz.prog.underlying t=some (.slice e)) (hz:z.cells.size=sz) (hsz:0<sz) (hby:bytes≤1000)
  (hn:n≤1048576) (hl:xs.length=n*sz) (hr:CQ V a xs) (h1:∀ u∈xs,u.oneCell'=true) :
  ∃ a' c' W',(Builtin.append_ #[t,t] t #[.slice (some (Hh V.heap.size 0)) 0 0,.slice a n c]).run Tryz.prog (V.alloc (.cells #[] e))=.ok (.slice a' n c') W'∧OG e sz W' V.heap.size a' n c' xs∧Below V.heap.size V W':=by
 have hA:Below V.heap.size V (V.alloc (.cells #[] e)):=(Below.refl _ _).alloc (Nat.le_refl _) _
 have hm:(V.alloc (.cells #[] e)).ownsRow V.heap.size e sz (.slice (some (Hh V.heap.size 0)) 0 0) 0 []:=World.ownsRow_made V #[] 0 (Nat.le_refl _) (Nat.zero_le _) (by simp)
 obtain ⟨a',c',W',h2,h3,h4⟩:=yd (c:=c) t e z sz bytes hinfo hu hz hsz hby hm (by simp) hn hl (hr.up hA) h1
 exact ⟨a',c',W',h2,h3,hA.grown h4 (by simp) (fun k e=>by simp [Value.ownBlock] at e;omega)⟩
def qm (n:Nat) (K:Nat→Pkt):List Value:=(List.range n).flatMap fun i=>(K i).cells.toList
theorem lJ (n:Nat) (K:Nat→Pkt):qm (n+1) K=qm n K++(K n).cells.toList:=by simp [qm,List.range_succ]
theorem mT (n:Nat) (K:Nat→Pkt):(qm n K).length=n*8:=by
 induction n with
 | zero=>rfl
 | succ n ih=>rw [lJ,List.length_append,ih,Array.length_toList,Pkt.iW];omega
theorem vz (n:Nat) (K:Nat→Pkt) (i j:Nat) (hi:i<n) (hj:j<8):(qm n K)[i*8+j]?=(K i).cells[j]?:=by
 induction n with
 | zero=>omega
 | succ n ih =>
  rw [lJ]
  by_cases e:i=n
  ·
   subst e
   rw [List.getElem?_append_right (by rw [mT];omega),mT,show i*8+j-i*8=j by omega,Array.getElem?_toList]
  rw [List.getElem?_append_left (by rw [mT];omega)]
  exact ih (by omega)
theorem xl (n:Nat) (K:Nat→Pkt) (j:Nat) (hj:j<n*8):(qm n K)[j]?=some (uq K j):=by
 have h:=vz n K (j / 8) (j % 8) (by omega) (by omega)
 rw [show j / 8*8+j % 8=j by omega] at h
 rw [h,←mZ K (j / 8) (j % 8) (by omega),show j / 8*8+j % 8=j by omega]
theorem sr (n:Nat) (K:Nat→Pkt):∀ u∈qm n K,u.oneCell'=true:=by
 intro u hu
 unfold qm at hu
 simp only [List.mem_flatMap,List.mem_range] at hu
 obtain ⟨i,_,hu⟩:=hu
 exact (Array.all_eq_true_iff_forall_mem.1 (Pkt.mc (K i))) u (by simpa using hu)
theorem pP.cs {K:Nat→Pkt} (h:pP w a n K):CQ w a (qm n K):=by
 intro j u hj
 have hlt:j<n*8:=by
  have:=(List.getElem?_eq_some_iff.1 hj).1
  rwa [mT] at this
 obtain ⟨g,o,ha,hc⟩:=h (j / 8) (by omega)
 refine ⟨g,o,ha,?_⟩
 have h2:=hc (j % 8) (by omega)
 rw [show o+j / 8*8+j % 8=o+j by omega] at h2
 rw [h2,←vz n K (j / 8) (j % 8) (by omega) (by omega),show j / 8*8+j % 8=j by omega]
 exact hj
def wH (n:Nat) (L:Nat→Lng):List Value:=(List.range n).flatMap fun i=>(L i).cells.toList
theorem pB (n:Nat) (L:Nat→Lng):wH (n+1) L=wH n L++(L n).cells.toList:=by simp [wH,List.range_succ]
theorem ow (n:Nat) (L:Nat→Lng):(wH n L).length=n*8:=by
 induction n with
 | zero=>rfl
 | succ n ih=>rw [pB,List.length_append,ih,Array.length_toList,Lng.iW];omega
theorem DM {L L':Nat→Lng} (h:∀ i,i<n→L i=L' i):wH n L=wH n L':=by
 induction n with
 | zero=>rfl
 | succ n ih=>rw [pB,pB,ih (fun i hi=>h i (by omega)),h n (by omega)]
theorem sv (n:Nat) (L:Nat→Lng) (i j:Nat) (hi:i<n) (hj:j<8):(wH n L)[i*8+j]?=(L i).cells[j]?:=by
 induction n with
 | zero=>omega
 | succ n ih =>
  rw [pB]
  by_cases e:i=n
  ·
   subst e
   rw [List.getElem?_append_right (by rw [ow];omega),ow,show i*8+j-i*8=j by omega,Array.getElem?_toList]
  rw [List.getElem?_append_left (by rw [ow];omega)]
  exact ih (by omega)
theorem ta (n:Nat) (L:Nat→Lng) (j:Nat) (hj:j<n*8):(wH n L)[j]?=some (rJ L j):=by
 have h:=sv n L (j / 8) (j % 8) (by omega) (by omega)
 rw [show j / 8*8+j % 8=j by omega] at h
 rw [h,←mB L (j / 8) (j % 8) (by omega),show j / 8*8+j % 8=j by omega]
theorem lO.cs (h:lO w a n f):CQ w a (jt (iU n f)):=by
 intro j u hj
 have hlt:j<n*3:=by
  have:=(List.getElem?_eq_some_iff.1 hj).1
  rwa [nM,kc] at this
 have hg:∀ i,i<n→(iU n f).getD i default=f i:=fun i hi=>by simp [iU,hi]
 obtain ⟨i,hm⟩:∃ i,j=i*3∨j=i*3+1∨j=i*3+2:=⟨j / 3,by omega⟩
 obtain ⟨g,o,ha,h1,h2,h3⟩:=h i (by omega)
 obtain ⟨q1,q2,q3⟩:=nN (iU n f) i (by rw [kc];omega)
 rw [hg _ (by omega)] at q1 q2 q3
 refine ⟨g,o,ha,?_⟩
 rcases hm with e | e | e
 ·
  subst e
  rw [q1] at hj
  cases hj
  exact h1
 ·
  subst e
  rw [q2] at hj
  cases hj
  rw [←Nat.add_assoc]
  exact h2
 subst e
 rw [q3] at hj
 cases hj
 rw [←Nat.add_assoc]
 exact h3
theorem xR (L:List Ent):∀ u∈jt L,u.oneCell'=true:=by
 intro u hu
 unfold jt at hu
 simp only [List.mem_flatMap] at hu
 obtain ⟨x,_,hu⟩:=hu
 exact CU x u hu
theorem AG (n:Nat) (f:Nat→Ent) (j:Nat) (hj:j<n*3):(jt (iU n f))[j]?=some (flat f j):=by
 have hg:∀ i,i<n→(iU n f).getD i default=f i:=fun i hi=>by simp [iU,hi]
 obtain ⟨i,hm⟩:∃ i,j=i*3∨j=i*3+1∨j=i*3+2:=⟨j / 3,by omega⟩
 obtain ⟨q1,q2,q3⟩:=nN (iU n f) i (by rw [kc];omega)
 rw [hg _ (by omega)] at q1 q2 q3
 rcases hm with e | e | e
 ·
  subst e
  rw [q1,AK]
 ·
  subst e
  rw [q2,DX]
 subst e
 rw [q3,AJ]
def Lng.pg (l:Lng):List Nat:=iR l.aU++jA l.R.aS l.R.nS
theorem iS.tnd {l:Lng} (h:iS w base l):l.pg.Nodup :=
 List.nodup_append.2 ⟨ma _,rL _ _,fun x hx y hy e=>h.su y hy (e▸hx)⟩
theorem iS.FK {l:Lng} (h:iS w base l):∀ x∈l.pg,base≤x∧x<w.heap.size:=by
 intro x hx
 rcases List.mem_append.1 hx with hx | hx
 ·
  exact h.u.blk x hx
 exact (h.r.own.s.sF x hx).1
theorem iS.yn {l:Lng} (h:iS w base l):∀ x∈l.pg,∃ cs,w.heap[x]?=some (.cells cs 27 (0,0)):=by
 intro x hx
 rcases List.mem_append.1 hx with hx | hx
 ·
  exact h.u.type x hx
 exact (h.r.own.s.sF x hx).2
structure ln (w:World) (base:Nat) (aL:Option Addr) (nL cL:Nat) (L:Nat→Lng):Prop where
 l:OG 48 8 w base aL nL cL (wH nL L)
 ls:∀ i,i<nL→iS w base (L i)
 nd:((List.range nL).flatMap fun i=>(L i).kj).Nodup
 td:((List.range nL).flatMap fun i=>(L i).pg).Nodup
theorem ln.up {L:Nat→Lng} (h:ln w base aL nL cL L) (hb:Below w.heap.size w w'):ln w' base aL nL cL L:=⟨h.l.up hb,fun i hi=>(h.ls i hi).up hb,h.nd,h.td⟩
theorem ln.mono {base':Nat} {L:Nat→Lng} (h:ln w base aL nL cL L) (hb:base'≤base):ln w base' aL nL cL L:=⟨h.l.mono hb,fun i hi=>(h.ls i hi).mono hb,h.nd,h.td⟩
theorem ln.box {g:Nat} {L:Nat→Lng} {cs:Array Value} (h:ln w base aL nL cL L) (hg:w.heap[g]?=some (.cells cs t (0,0))) (ht2:t≠2) (hts:t≠27) (htl:48≠t) (ht:Touch [g] w w'):ln w' base aL nL cL L :=
 ⟨h.l.iB ht (fun x hx hy=>h.l.mv htl hg ((List.mem_singleton.1 hy)▸hx)),fun i hi=>(h.ls i hi).box hg ht2 hts ht,h.nd,h.td⟩
theorem ln.nil (w:World) (base:Nat) (L:Nat→Lng):ln w base none 0 0 L:=⟨OG.nil _ _ _ _,fun i hi=>absurd hi (Nat.not_lt_zero _),by simp,by simp⟩
theorem ln.more {g:Nat} {L:Nat→Lng} {l2:Lng} (h:ln V base aL k cL L) (hb:Below V.heap.size V V1) (hbase:base≤V.heap.size) (ho:iS V1 V.heap.size l2)
  (hu:OG 48 8 W base (some (Hh g 0)) (k+1) c2 (wH k L++l2.cells.toList)) (ht:Touch (iR aL) V1 W):ln W base (some (Hh g 0)) (k+1) c2 (fun i=>if i=k then l2 else L i):=by
 have h1:=h.up hb
 have far:∀ {b:Nat} {l:Lng},iS V1 b l→iS W b l:=fun hl=>hl.jE ht (fun x hx hy=>by
   obtain ⟨cs,e1⟩:=hl.type2 x hx
   exact h1.l.mv (by decide) e1 hy) (fun x hx hy=>by
   obtain ⟨cs,e1⟩:=hl.u.type x hx
   exact h1.l.mv (by decide) e1 hy) (fun x hx hy=>by
   obtain ⟨_,cs,e1⟩:=hl.r.own.s.sF x hx
   exact h1.l.mv (by decide) e1 hy)
 refine ⟨?_,fun i hi=>?_,?_,?_⟩
 ·
  rw [pB,DM (L':=L) (fun i hi=>if_neg (by omega)),if_pos rfl]
  exact hu
 ·
  by_cases e:i=k
  ·
   rw [if_pos e]
   exact (far ho).mono hbase
  rw [if_neg e]
  exact far (h1.ls i (by omega))
 ·
  rw [List.range_succ,List.flatMap_append]
  simp only [List.flatMap_cons,List.flatMap_nil,List.append_nil,if_true]
  rw [jz (f:=fun i=>(if i=k then l2 else L i).kj) (g:=fun i=>(L i).kj) (fun i hi=>by rw [if_neg (by omega)])]
  refine qI h.nd ho.nd V.heap.size (fun x hx=>?_) (fun x hx=>(ho.blk x hx).1)
  simp only [List.mem_flatMap,List.mem_range] at hx
  obtain ⟨i,hi,hx⟩:=hx
  exact ((h.ls i hi).blk x hx).2
 rw [List.range_succ,List.flatMap_append]
 simp only [List.flatMap_cons,List.flatMap_nil,List.append_nil,if_true]
 rw [jz (f:=fun i=>(if i=k then l2 else L i).pg) (g:=fun i=>(L i).pg) (fun i hi=>by rw [if_neg (by omega)])]
 refine qI h.td ho.tnd V.heap.size (fun x hx=>?_) (fun x hx=>(ho.FK x hx).1)
 simp only [List.mem_flatMap,List.mem_range] at hx
 obtain ⟨i,hi,hx⟩:=hx
 exact ((h.ls i hi).FK x hx).2
structure iP (w:World) (base:Nat) (S:Swg):Prop where
 e:OG 75 3 w base S.aE S.nE S.cE (jt (iU S.nE S.e))
 n:jb w base S.N
 k:OG 50 8 w base S.aK S.nK S.cK (qm S.nK S.K)
 l:ln w base S.aL S.nL S.cL S.L
 un:∀ x∈ju S.N.aU S.N.nU,x∉(List.range S.nL).flatMap fun i=>(S.L i).kj
theorem BG (l:Lng):∀ x∈l.nq,x∈l.kj:=by
 intro x hx
 have hv:∀ {a:Option Addr} {n:Nat},x∈ju a n→x∈iR a:=fun h=>(nc _ _).subset h
 unfold Lng.nq at hx
 unfold Lng.kj Rnd.kj
 simp only [List.mem_append,oK,jW] at hx ⊢
 rcases hx with hx | ⟨i,hi,hx⟩ | hx | hx | ⟨i,hi,hx⟩
 ·
  exact .inl (.inl (hv hx))
 ·
  exact .inr ⟨i,hi,hv hx⟩
 ·
  exact .inl (.inr (.inl hx))
 ·
  exact .inl (.inr (.inr (.inl hx)))
 exact .inl (.inr (.inr (.inr ⟨i,hi,hv hx⟩)))
theorem Fv {f g:Nat→List Nat}:∀ n,((List.range n).flatMap g).Nodup→(∀ i,i<n→(f i).Nodup)→(∀ i,i<n→∀ x∈f i,x∈g i)→((List.range n).flatMap f).Nodup:=by
 intro n hg hf hs
 refine nB n hf (fun i j hi hj hne x hx hy=>?_)
 have:∀ n,((List.range n).flatMap g).Nodup→∀ i j,i<j→j<n→∀ x,x∈g i→x∉g j:=by
  intro n
  induction n with
  | zero=>intro _ i j _ hj;omega
  | succ n ih =>
   intro hn i j hij hj x h1 h2
   rw [List.range_succ,List.flatMap_append] at hn
   simp only [List.flatMap_cons,List.flatMap_nil,List.append_nil] at hn
   obtain ⟨n1,n2,n3⟩:=List.nodup_append.1 hn
   by_cases e:j=n
   ·
    subst e
    exact n3 x (by simp only [List.mem_flatMap,List.mem_range];exact ⟨i,hij,h1⟩) x h2 rfl
   exact ih n1 i j hij (by omega) x h1 h2
 rcases Nat.lt_or_gt_of_ne hne with h | h
 ·
  exact this n hg i j h hj x (hs i hi x hx) (hs j hj x hy)
 exact this n hg j i h hi x (hs j hj x hy) (hs i hi x hx)
theorem iP.g {S:Swg} (h:iP w base S):jK w base S:=by
 refine ⟨h.e.vt (fun i hi=>AG _ _ i hi),h.n.u,h.n.p,h.k.vt (fun i hi=>xl _ _ i hi),h.l.l.vt (fun i hi=>ta _ _ i hi),fun i hi=>(h.l.ls i hi).g,?_⟩
 refine List.nodup_append.2 ⟨uV _ _,Fv _ h.l.nd (fun i hi=>(h.l.ls i hi).g.nd) (fun i hi=>BG _),fun x hx y hy e=>h.un x hx ?_⟩
 subst e
 simp only [List.mem_flatMap,List.mem_range] at hy ⊢
 obtain ⟨i,hi,hy⟩:=hy
 exact ⟨i,hi,BG _ x hy⟩
theorem lK {cs:Array Value} (h:o+cs.size≤cur.size) (j:Nat) (hj:o+cs.size≤j):(lay cur o cs)[j]?=cur[j]?:=by
 unfold lay
 simp only [List.getElem?_toArray]
 rw [List.getElem?_append_right (by simp;omega),List.getElem?_drop,←Array.getElem?_toList]
 congr 1
 simp
 omega
theorem vL {a:Array Value} (h:o+a.size≤cur.size) (hk:k+b.size≤a.size):lay (lay cur o a) (o+k) b=lay cur o (lay a k b):=by
 have s1:=jJ h
 have s2:=jJ (cur:=a) (cs:=b) (o:=k) hk
 have h1:o+k+b.size≤(lay cur o a).size:=by omega
 have h2:o+(lay a k b).size≤cur.size:=by omega
 refine Array.ext_getElem? fun j=>?_
 by_cases e1:j<o
 ·
  rw [kh h1 j (by omega),kh h j e1,kh h2 j e1]
 by_cases e2:j<o+a.size
 ·
  have q:=jC h2 (j-o) (by omega)
  have q2:=jC h (j-o) (by omega)
  rw [show o+(j-o)=j by omega] at q q2
  rw [q]
  by_cases e3:j-o<k
  ·
   rw [kh hk _ e3,kh h1 j (by omega)]
   exact q2
  by_cases e4:j-o<k+b.size
  ·
   have q3:=jC hk (j-o-k) (by omega)
   have q4:=jC h1 (j-o-k) (by omega)
   rw [show k+(j-o-k)=j-o by omega] at q3
   rw [show o+k+(j-o-k)=j by omega] at q4
   rw [q3,q4]
  rw [lK hk _ (by omega),lK h1 j (by omega)]
  exact q2
 rw [lK h1 j (by omega),lK h j (by omega),lK h2 j (by omega)]
theorem BN {cs:Array Value} (h:o+cs.size≤cur.size) (hc:∀ j,j<cs.size→cur[o+j]?=cs[j]?):lay cur o cs=cur:=by
 refine Array.ext_getElem? fun j=>?_
 by_cases h1:j<o
 ·
  exact kh h j h1
 by_cases h2:j<o+cs.size
 ·
  have e:=jC h (j-o) (by omega)
  have e2:=hc (j-o) (by omega)
  rw [show o+(j-o)=j by omega] at e e2
  rw [e,e2]
 exact lK h j (by omega)
theorem jn {y:Nat} {a:Array Value} (hx:w.heap[x]?=some (.cells a t (0,0))) (hy:w.heap[y]?=some (.cells b t' (0,0))) (hne:t≠t'):x≠y:=by
 intro e
 subst e
 rw [hx] at hy
 simp at hy
 exact hne hy.2
theorem lp {f:Nat→List Nat}:∀ n,((List.range n).flatMap f).Nodup→∀ i k,i<n→k<n→i≠k→∀ x∈f i,x∉f k
 | 0,_,i,_,hi,_,_=>by omega
 | n+1,h,i,k,hi,hk,hne=>by
  rw [List.range_succ,List.flatMap_append] at h
  simp only [List.flatMap_cons,List.flatMap_nil,List.append_nil] at h
  obtain ⟨h1,h2,h3⟩:=List.nodup_append.1 h
  intro x hx hy
  by_cases ei:i=n
  ·
   subst ei
   exact h3 x (by simp only [List.mem_flatMap,List.mem_range];exact ⟨k,by omega,hy⟩) x hx rfl
  by_cases ek:k=n
  ·
   subst ek
   exact h3 x (by simp only [List.mem_flatMap,List.mem_range];exact ⟨i,by omega,hx⟩) x hy rfl
  exact lp n h1 i k (by omega) (by omega) hne x hx hy
structure Gy (w w':World) (base gL gp o:Nat) (cur:Array Value) (l l2:Lng):Prop where
 blk:w'.heap[gL]?=some (.cells (lay cur o l2.cells) 48 (0,0))
 own:iS w' base l2
 z:∀ x∈l2.kj,x∈l.kj∨w.heap.size≤x
 t:∀ x∈l2.pg,x∈l.pg∨w.heap.size≤x
 hit:∃ T,Touch T w w'∧∀ x∈T,x=gL∨x=gp∨x∈l.kj∨x∈l.pg
theorem ln.at {L:Nat→Lng} (h:ln w base aL nL cL L) (h0:0<nL):∃ gL cur,aL=some (Hh gL 0)∧base≤gL∧w.heap[gL]?=some (.cells cur 48 (0,0))∧nL*8≤cur.size∧(∀ i,i<nL→lay cur (i*8) (L i).cells=cur)∧∀ i,i<nL→∀ j,j<8→cur[i*8+j]?=(L i).cells[j]?:=by
 rcases h.l.2 with ⟨_,e⟩ | ⟨g,cap,cur,e,hg,hbk,hn,hm,hs,ht⟩
 ·
  omega
 cases e
 have hsz:nL*8≤cur.size:=by rw [hs];exact Nat.mul_le_mul_right _ hn
 have hc:∀ i,i<nL→∀ j,j<8→cur[i*8+j]?=(L i).cells[j]?:=fun i hi j hj=>by
  rw [←Array.getElem?_toList,←List.getElem?_take_of_lt (show i*8+j<nL*8 by omega),ht]
  exact sv nL L i j hi hj
 exact ⟨g,cur,rfl,hg,hbk,hsz,fun i hi=>BN (by rw [Lng.iW];omega) (fun j hj=>hc i hi j (by rw [Lng.iW] at hj;exact hj)),hc⟩
theorem ln.swap {gL gp:Nat} {L:Nat→Lng} {l2:Lng} {cp:Array Value} (h:ln w base aL nL cL L) (hi:i<nL) (eL:aL=some (Hh gL 0)) (kL:w.heap[gL]?=some (.cells cur 48 (0,0))) (kP:w.heap[gp]?=some (.cells cp 50 (0,0))) (hn:Gy w w' base gL gp (i*8) cur (L i) l2) :
  ln w' base aL nL cL (fun k=>if k=i then l2 else L k):=by
 obtain ⟨T,hto,hT⟩:=hn.hit
 refine ⟨?_,fun k hk=>?_,?_,?_⟩
 ·
  subst eL
  have hl:w.ownsRow base 48 8 (.slice (some (Hh gL 0)) nL cL) nL (wH nL L):=h.l
  show w'.ownsRow base 48 8 (.slice (some (Hh gL 0)) nL cL) nL _
  refine ⟨ow _ _,?_⟩
  rcases hl.2 with ⟨_,e⟩ | ⟨g,cap,cur',e,hg,hbk,h1,hm,hs,ht⟩
  ·
   omega
  cases e
  rw [kL] at hbk
  cases hbk
  have hsz:nL*8≤cur.size:=by rw [hs];exact Nat.mul_le_mul_right _ h1
  have hf:i*8+l2.cells.size≤cur.size:=by rw [Lng.iW];omega
  refine .inr ⟨gL,cL,_,rfl,hg,hn.blk,h1,hm,by rw [jJ hf];exact hs,?_⟩
  refine List.ext_getElem? fun j=>?_
  by_cases hj:j<nL*8
  ·
   rw [List.getElem?_take_of_lt hj,ta nL _ j hj,Array.getElem?_toList]
   have hfl:=mB (fun k=>if k=i then l2 else L k) (j / 8) (j % 8) (by omega)
   rw [show j / 8*8+j % 8=j by omega] at hfl
   rw [hfl]
   by_cases e:j / 8=i
   ·
    rw [if_pos e]
    have q:=jC hf (j % 8) (by rw [Lng.iW];omega)
    rw [show i*8+j % 8=j by omega] at q
    exact q
   rw [if_neg e]
   have hc:=sv nL L (j / 8) (j % 8) (by omega) (by omega)
   rw [show j / 8*8+j % 8=j by omega,←ht,List.getElem?_take_of_lt hj,Array.getElem?_toList] at hc
   rw [←hc]
   rcases Nat.lt_or_ge j (i*8) with c | c
   ·
    exact kh hf j c
   exact lK hf j (by rw [Lng.iW];omega)
  rw [List.getElem?_eq_none (by rw [List.length_take];omega),List.getElem?_eq_none (by rw [ow];omega)]
 ·
  show iS w' base (if k=i then l2 else L k)
  by_cases e:k=i
  ·
   rw [if_pos e]
   exact hn.own
  rw [if_neg e]
  have ok:=h.ls k hk
  have oi:=h.ls i hi
  refine ok.jE hto (fun x hx hy=>?_) (fun x hx hy=>?_) (fun x hx hy=>?_)
  ·
   obtain ⟨cs,k1⟩:=ok.type2 x hx
   rcases hT x hy with e1 | e1 | e1 | e1
   ·
    exact jn k1 kL (by decide) e1
   ·
    exact jn k1 kP (by decide) e1
   ·
    exact lp _ h.nd k i hk hi e x hx e1
   obtain ⟨c2,k2⟩:=oi.yn x e1
   exact dE
  ·
   obtain ⟨cs,k1⟩:=ok.u.type x hx
   rcases hT x hy with e1 | e1 | e1 | e1
   ·
    exact jn k1 kL (by decide) e1
   ·
    exact jn k1 kP (by decide) e1
   ·
    obtain ⟨c2,k2⟩:=oi.type2 x e1
    exact dE
   exact lp _ h.td k i hk hi e x (List.mem_append_left _ hx) e1
  obtain ⟨_,cs,k1⟩:=ok.r.own.s.sF x hx
  rcases hT x hy with e1 | e1 | e1 | e1
  ·
   exact jn k1 kL (by decide) e1
  ·
   exact jn k1 kP (by decide) e1
  ·
   obtain ⟨c2,k2⟩:=oi.type2 x e1
   exact dE
  exact lp _ h.td k i hk hi e x (List.mem_append_right _ hx) e1
 ·
  refine nB nL (fun k hk=>?_) (fun j k hj hk hne x hx hy=>?_)
  ·
   show (if k=i then l2 else L k).kj.Nodup
   by_cases e:k=i
   ·
    rw [if_pos e];exact hn.own.nd
   rw [if_neg e];exact (h.ls k hk).nd
  have hx':x∈(if j=i then l2 else L j).kj:=hx
  have hy':x∈(if k=i then l2 else L k).kj:=hy
  by_cases e:j=i
  ·
   rw [if_pos e] at hx'
   rw [if_neg (fun e2=>hne (e.trans e2.symm))] at hy'
   rcases hn.z x hx' with e1 | e1
   ·
    exact lp _ h.nd k i hk hi (fun e2=>hne (e.trans e2.symm)) x hy' e1
   have:=((h.ls k hk).blk x hy').2
   omega
  rw [if_neg e] at hx'
  by_cases e2:k=i
  ·
   rw [if_pos e2] at hy'
   rcases hn.z x hy' with e1 | e1
   ·
    exact lp _ h.nd j i hj hi e x hx' e1
   have:=((h.ls j hj).blk x hx').2
   omega
  rw [if_neg e2] at hy'
  exact lp _ h.nd j k hj hk hne x hx' hy'
 refine nB nL (fun k hk=>?_) (fun j k hj hk hne x hx hy=>?_)
 ·
  show (if k=i then l2 else L k).pg.Nodup
  by_cases e:k=i
  ·
   rw [if_pos e];exact hn.own.tnd
  rw [if_neg e];exact (h.ls k hk).tnd
 have hx':x∈(if j=i then l2 else L j).pg:=hx
 have hy':x∈(if k=i then l2 else L k).pg:=hy
 by_cases e:j=i
 ·
  rw [if_pos e] at hx'
  rw [if_neg (fun e2=>hne (e.trans e2.symm))] at hy'
  rcases hn.t x hx' with e1 | e1
  ·
   exact lp _ h.td k i hk hi (fun e2=>hne (e.trans e2.symm)) x hy' e1
  have:=((h.ls k hk).FK x hy').2
  omega
 rw [if_neg e] at hx'
 by_cases e2:k=i
 ·
  rw [if_pos e2] at hy'
  rcases hn.t x hy' with e1 | e1
  ·
   exact lp _ h.td j i hj hi e x hx' e1
  have:=((h.ls j hj).FK x hx').2
  omega
 rw [if_neg e2] at hy'
 exact lp _ h.td j k hj hk hne x hx' hy'
theorem CL {f:Nat→Int} (h:OI w base a n c f) (hl:n≤1048576) (hb:base≤w.heap.size) (s:Int) :
  ∃ g c' W,(Builtin.append_ #[27,27] 27 #[.slice a n c,.slice (some (Hh w.heap.size 0)) 1 1]).run Tryz.prog (w.alloc (.cells #[.int .i64 s] 2))=.ok (.slice (some (Hh g 0)) (n+1) c') W∧OI W base (some (Hh g 0)) (n+1) c' (ki n s f)∧Touch (iR a) w W∧(g∈iR a∨w.heap.size≤g):=by
 have h0:OG 2 1 w base a n c (lB n f):=h
 obtain ⟨g,c',W,h1,h2,h3,h4⟩:=me 27 2 (.int .i64 0) 1 8 sn Tryz.underlying27 rfl (by decide) (by decide) h0 hl hb #[.int .i64 s] rfl (by simp [Value.oneCell'])
 have e:lB n f++(#[.int .i64 s]:Array Value).toList=lB (n+1) (ki n s f):=uS n s f
 rw [e] at h2
 exact ⟨g,c',W,h1,h2,h3,h4⟩
def Lng.rh (l:Lng) (id:Int) (a:Option Addr) (c:Nat):Lng:={ l with aT:=a,nT:=l.nT+1,cT:=c,t:=ki l.nT id l.t }
def Lng.ql (l:Lng) (k:Nat) (id:Int) (a:Option Addr) (c:Nat):Lng :=
 { l with uA:=fun i=>if i=k then a else l.uA i,uL:=fun i=>if i=k then l.uL k+1 else l.uL i,uC:=fun i=>if i=k then c else l.uC i,uz:=fun i j=>if i=k then ki (l.uL k) id (l.uz k) j else l.uz i j }
def Lng.wait (l:Lng) (p id cl:Int):Lng:=if p=2 then l.rh id none 0 else { l.ql p.toNat id none 0 with R:=l.R.push p.toNat cl none 0 }
theorem nd3 {A B C:List Nat}:((A++B)++C).Nodup↔(A.Nodup∧B.Nodup∧C.Nodup)∧(∀ x∈A,x∉B)∧(∀ x∈A,x∉C)∧∀ x∈B,x∉C:=by
 constructor
 ·
  intro h
  obtain ⟨h1,h2,h3⟩:=List.nodup_append.1 h
  obtain ⟨h4,h5,h6⟩:=List.nodup_append.1 h1
  exact ⟨⟨h4,h5,h2⟩,fun x hx hy=>h6 x hx x hy rfl,fun x hx hy=>h3 x (List.mem_append_left _ hx) x hy rfl,fun x hx hy=>h3 x (List.mem_append_right _ hx) x hy rfl⟩
 rintro ⟨⟨h1,h2,h3⟩,h4,h5,h6⟩
 refine List.nodup_append.2 ⟨List.nodup_append.2 ⟨h1,h2,fun x hx y hy e=>h4 x hx (e▸hy)⟩,h3,fun x hx y hy e=>?_⟩
 rcases List.mem_append.1 hx with hx | hx
 ·
  exact h5 x hx (e▸hy)
 exact h6 x hx (e▸hy)
theorem nf {g:Nat} (h:x∈iR (some (Hh g 0))):x=g:=by simpa [iR] using h
theorem iS.aps {l:Lng} (h:iS w base l):(∀ x∈iR l.aT,x∉l.R.kj)∧(∀ x∈iR l.aT,x∉flO l.nU l.uA)∧∀ x∈l.R.kj,x∉flO l.nU l.uA:=(nd3.1 h.nd).2
theorem iS.inT {l:Lng} (h:x∈iR l.aT):x∈l.kj:=List.mem_append_left _ (List.mem_append_left _ h)
theorem iS.inR {l:Lng} (h:x∈l.R.kj):x∈l.kj:=List.mem_append_left _ (List.mem_append_right _ h)
theorem iS.inU {l:Lng} (hi:i<l.nU) (h:x∈iR (l.uA i)):x∈l.kj:=List.mem_append_right _ (jW.2 ⟨i,hi,h⟩)
theorem iS.DI {l:Lng} (h:iS w base l) (hx:x∈l.kj) (hy:x∈l.pg):False:=by
 obtain ⟨c1,k1⟩:=h.type2 x hx
 obtain ⟨c2,k2⟩:=h.yn x hy
 exact dE
theorem iS.rh {g:Nat} {l:Lng} (h:iS w base l) (ha:OI W base (some (Hh g 0)) (l.nT+1) c (ki l.nT id l.t)) (ht:Touch (iR l.aT) w W) (hg:g∈iR l.aT∨w.heap.size≤g):iS W base (l.rh id (some (Hh g 0)) c):=by
 obtain ⟨a1,a2,a3⟩:=h.aps
 have b:=h.blk
 refine ⟨ha,h.u.iB ht (fun x hx hy=>h.DI (iS.inT hy) (List.mem_append_left _ hx)),fun i hi=>(h.z i hi).iB ht (fun x hx hy=>a2 x hy (jW.2 ⟨i,hi,hx⟩)),h.r.uE ht (fun x hx hy=>a1 x hy hx) (fun x hx hy=>h.DI (iS.inT hy) (List.mem_append_right _ hx)),?_,h.su⟩
 obtain ⟨⟨n1,n2,n3⟩,_⟩:=nd3.1 h.nd
 refine nd3.2 ⟨⟨ma _,n2,n3⟩,fun x hx hy=>?_,fun x hx hy=>?_,a3⟩
 ·
  obtain rfl:=nf hx
  rcases hg with hg | hg
  ·
   exact a1 x hg hy
  have:=(b x (iS.inR hy)).2
  omega
 obtain rfl:=nf hx
 rcases hg with hg | hg
 ·
  exact a2 x hg hy
 have:=(b x (List.mem_append_right _ hy)).2
 omega
theorem EC {l:Lng} {g:Nat} (hg:g∈iR l.aT∨w.heap.size≤g):∀ x∈(l.rh id (some (Hh g 0)) c).kj,x∈l.kj∨w.heap.size≤x:=by
 intro x hx
 rcases List.mem_append.1 hx with hx | hx
 ·
  rcases List.mem_append.1 hx with hx | hx
  ·
   obtain rfl:=nf hx
   rcases hg with hg | hg
   ·
    exact .inl (iS.inT hg)
   exact .inr hg
  exact .inl (iS.inR hx)
 exact .inl (List.mem_append_right _ hx)
theorem OG.FX {g:Nat} (h:OG t 1 w base (some (Hh g 0)) n c xs) (kG:w.heap[g]?=some (.cells cur t (0,0))) (hk:k<n) (hP:Put w X g (lay cur k #[v]) t):OG t 1 X base (some (Hh g 0)) n c (xs.set k v):=by
 have h':w.ownsRow base t 1 (.slice (some (Hh g 0)) n c) n xs:=h
 show X.ownsRow base t 1 (.slice (some (Hh g 0)) n c) n _
 refine ⟨by rw [List.length_set];exact h'.1,?_⟩
 rcases h'.2 with ⟨_,e⟩ | ⟨g2,cap,cur',e,hg,hbk,h1,hm,hs,ht⟩
 ·
  omega
 cases e
 rw [kG] at hbk
 cases hbk
 have hf:k+(#[v]:Array Value).size≤cur.size:=by show k+1≤_;rw [hs];omega
 refine .inr ⟨g,c,_,rfl,hg,hP.blk,h1,hm,by rw [jJ hf];exact hs,?_⟩
 refine List.ext_getElem? fun j=>?_
 rw [←ht]
 by_cases hj:j<n*1
 ·
  rw [List.getElem?_take_of_lt hj,Array.getElem?_toList]
  by_cases e:j=k
  ·
   subst e
   have q:=jC hf 0 (by show 0<1;omega)
   rw [Nat.add_zero] at q
   rw [q,List.getElem?_set_self (by rw [List.length_take,Array.length_toList,hs];omega)]
   rfl
  rw [List.getElem?_set_ne (by omega),List.getElem?_take_of_lt hj,Array.getElem?_toList]
  rcases Nat.lt_or_ge j k with c | c
  ·
   exact kh hf j c
  exact lK hf j (by show k+1≤j;omega)
 rw [List.getElem?_eq_none (by rw [List.length_take];omega),List.getElem?_eq_none (by rw [List.length_set,List.length_take];omega)]
theorem Dp (A:Nat→Option Addr) (L C:Nat→Nat) (a:Option Addr) (l c:Nat) (hk:k<n):(sk n A L C).set k (.slice a l c)=sk n (fun i=>if i=k then a else A i) (fun i=>if i=k then l else L i) (fun i=>if i=k then c else C i):=by
 refine List.ext_getElem? fun j=>?_
 by_cases hj:j<n
 ·
  rw [qC _ _ _ _ _ hj]
  by_cases e:j=k
  ·
   subst e
   rw [List.getElem?_set_self (by simp [sk];omega),if_pos rfl,if_pos rfl,if_pos rfl]
  rw [List.getElem?_set_ne (by omega),qC _ _ _ _ _ hj,if_neg e,if_neg e,if_neg e]
 rw [List.getElem?_eq_none (by simp [sk];omega),List.getElem?_eq_none (by simp [sk];omega)]
theorem iS.ql {g gu:Nat} {l:Lng} (h:iS w base l) (hk:k<l.nU) (eU:l.aU=some (Hh gu 0)) (ha:OI W base (some (Hh g 0)) (l.uL k+1) c (ki (l.uL k) id (l.uz k))) (ht:Touch (iR (l.uA k)) w W) (hg:g∈iR (l.uA k)∨w.heap.size≤g)
  (kU:W.heap[gu]?=some (.cells cur 27 (0,0))) (hP:Put W X gu (lay cur k #[.slice (some (Hh g 0)) (l.uL k+1) c]) 27):iS X base (l.ql k id (some (Hh g 0)) c):=by
 obtain ⟨a1,a2,a3⟩:=h.aps
 have b:=h.blk
 obtain ⟨⟨n1,n2,n3⟩,_⟩:=nd3.1 h.nd
 have uu:∀ i,i<l.nU→i≠k→∀ x∈iR (l.uA i),x∉iR (l.uA k):=fun i hi hne=>lp l.nU n3 i k hi hk hne
 have t2:∀ {a:Option Addr} {n c1:Nat} {f:Nat→Int},OI W base a n c1 f→OI X base a n c1 f:=fun k0=>k0.iB hP.to (fun x hx hy=>by
  obtain rfl:=List.mem_singleton.1 hy
  exact OG.mv (t:=2) (sz:=1) k0 (by decide) kU hx)
 have hR:jT W base l.R:=h.r.uE ht (fun x hx hy=>a3 x hx (jW.2 ⟨k,hk,hy⟩)) (fun x hx hy=>h.DI (iS.inU hk hy) (List.mem_append_right _ hx))
 have hu:OG 27 1 W base l.aU l.nU l.cU (sk l.nU l.uA l.uL l.uC):=h.u.iB ht (fun x hx hy=>h.DI (iS.inU hk hy) (List.mem_append_left _ hx))
 have sx:∀ x∈jA l.R.aS l.R.nS,x∉[gu]:=fun x hx hy=>h.su x hx (by rw [eU];simpa [iR] using hy)
 refine ⟨t2 (h.t.iB ht (fun x hx hy=>a2 x hx (jW.2 ⟨k,hk,hy⟩))),?_,fun i hi=>?_,?_,?_,h.su⟩
 ·
  show OG 27 1 X base l.aU l.nU l.cU (sk l.nU _ _ _)
  rw [eU] at hu ⊢
  have q:=hu.FX kU hk hP
  rw [Dp l.uA l.uL l.uC _ _ _ hk] at q
  exact q
 ·
  show OI X base (if i=k then some (Hh g 0) else l.uA i) (if i=k then l.uL k+1 else l.uL i) (if i=k then c else l.uC i) (fun j=>if i=k then ki (l.uL k) id (l.uz k) j else l.uz i j)
  by_cases e:i=k
  ·
   simp only [if_pos e]
   exact t2 ha
  simp only [if_neg e]
  exact t2 ((h.z i hi).iB ht (uu i hi e))
 ·
  exact hR.uE hP.to (fun x hx hy=>by
   obtain rfl:=List.mem_singleton.1 hy
   obtain ⟨c1,k1⟩:=hR.type2 x hx
   exact jn k1 kU (by decide) rfl) sx
 refine nd3.2 ⟨⟨n1,n2,nB _ (fun i _=>ma _) (fun i j hi hj hne x hx hy=>?_)⟩,a1,fun x hx hy=>?_,fun x hx hy=>?_⟩
 ·
  have hx':x∈iR (if i=k then some (Hh g 0) else l.uA i):=hx
  have hy':x∈iR (if j=k then some (Hh g 0) else l.uA j):=hy
  have hi':i<l.nU:=hi
  have hj':j<l.nU:=hj
  by_cases e:i=k
  ·
   have e2:j≠k:=fun e2=>hne (e.trans e2.symm)
   rw [if_pos e] at hx'
   rw [if_neg e2] at hy'
   obtain rfl:=nf hx'
   rcases hg with hg | hg
   ·
    exact uu j hj' e2 x hy' hg
   have:=(b x (iS.inU hj' hy')).2
   omega
  rw [if_neg e] at hx'
  by_cases e2:j=k
  ·
   rw [if_pos e2] at hy'
   obtain rfl:=nf hy'
   rcases hg with hg | hg
   ·
    exact uu i hi' e x hx' hg
   have:=(b x (iS.inU hi' hx')).2
   omega
  rw [if_neg e2] at hy'
  exact lp l.nU n3 i j hi' hj' hne x hx' hy'
 ·
  obtain ⟨i,hi,hy⟩:=jW.1 hy
  have hy':x∈iR (if i=k then some (Hh g 0) else l.uA i):=hy
  have hx':x∈iR l.aT:=hx
  have hi':i<l.nU:=hi
  by_cases e:i=k
  ·
   rw [if_pos e] at hy'
   obtain rfl:=nf hy'
   rcases hg with hg | hg
   ·
    exact a2 x hx' (jW.2 ⟨k,hk,hg⟩)
   have:=(b x (iS.inT hx')).2
   omega
  rw [if_neg e] at hy'
  exact a2 x hx' (jW.2 ⟨i,hi',hy'⟩)
 obtain ⟨i,hi,hy⟩:=jW.1 hy
 have hy':x∈iR (if i=k then some (Hh g 0) else l.uA i):=hy
 have hx':x∈l.R.kj:=hx
 have hi':i<l.nU:=hi
 by_cases e:i=k
 ·
  rw [if_pos e] at hy'
  obtain rfl:=nf hy'
  rcases hg with hg | hg
  ·
   exact a3 x hx' (jW.2 ⟨k,hk,hg⟩)
  have:=(b x (iS.inR hx')).2
  omega
 rw [if_neg e] at hy'
 exact a3 x hx' (jW.2 ⟨i,hi',hy'⟩)
theorem EW {l:Lng} {g:Nat} (hk:k<l.nU) (hg:g∈iR (l.uA k)∨w.heap.size≤g):∀ x∈(l.ql k id (some (Hh g 0)) c).kj,x∈l.kj∨w.heap.size≤x:=by
 intro x hx
 rcases List.mem_append.1 hx with hx | hx
 ·
  exact .inl (List.mem_append_left _ hx)
 obtain ⟨i,hi,hy⟩:=jW.1 hx
 have hy':x∈iR (if i=k then some (Hh g 0) else l.uA i):=hy
 by_cases e:i=k
 ·
  rw [if_pos e] at hy'
  obtain rfl:=nf hy'
  rcases hg with hg | hg
  ·
   exact .inl (iS.inU hk hg)
  exact .inr hg
 rw [if_neg e] at hy'
 exact .inl (iS.inU hi hy')
theorem iS.vF {l:Lng} (h:iS w base l) (hb:Below w.heap.size w W) (hm:w.heap.size≤m) (hbs:base≤w.heap.size) (hR:jT W m R):iS W base { l with R:=R }:=by
 obtain ⟨⟨n1,n2,n3⟩,a1,a2,a3⟩:=nd3.1 h.nd
 have b:=h.blk
 have rb:=hR.blk
 refine ⟨h.t.up hb,h.u.up hb,fun i hi=>(h.z i hi).up hb,hR.vH (by omega),?_,fun x hx hy=>?_⟩
 ·
  refine nd3.2 ⟨⟨n1,hR.nd,n3⟩,fun x hx hy=>?_,a2,fun x hx hy=>?_⟩
  ·
   have:=(b x (iS.inT hx)).2
   have:=(rb x hy).1
   omega
  have:=(b x (List.mem_append_right _ hy)).2
  have:=(rb x hx).1
  omega
 have h1:=(h.u.blk x hy).2
 have h2:=((hR.own.s.sF x hx).1).1
 omega
theorem F6 {base:Nat} {l:Lng} (hR:jT W m R) (hm:w.heap.size≤m):∀ x∈({ l with R:=R }:Lng).kj,x∈l.kj∨w.heap.size≤x:=by
 intro x hx
 rcases List.mem_append.1 hx with hx | hx
 ·
  rcases List.mem_append.1 hx with hx | hx
  ·
   exact .inl (iS.inT hx)
  exact .inr (Nat.le_trans hm (hR.blk x hx).1)
 exact .inl (List.mem_append_right _ hx)
theorem F7 {base:Nat} {l:Lng} (hR:jT W m R) (hm:w.heap.size≤m):∀ x∈({ l with R:=R }:Lng).pg,x∈l.pg∨w.heap.size≤x:=by
 intro x hx
 rcases List.mem_append.1 hx with hx | hx
 ·
  exact .inl (List.mem_append_left _ hx)
 exact .inr (Nat.le_trans hm ((hR.own.s.sF x hx).1).1)
