import Derived.Test.YtjippgbmmlcgoaaGreatDoorB25
import Derived.Deep.Cut
import Derived.Deep.DeepCutAuto
import Derived.Maps.OwnSet
namespace Go.Proofs.YtjippgbmmlcgoaaGreatDoor
set_option maxRecDepth 100000
set_option maxHeartbeats 9000000
open Go.RowKit
set_option linter.unusedVariables false
set_option linter.unusedSimpArgs false
variable {B b cur:Array Value} {y:Ent} {id:Int} {L:List Ent} {xs:List Value} {base base' c c2 cL cd cq gB gS i k m n nL o x:Nat} {f:Nat→Ent} {C:Nat→Nat} {A:Nat→Option Addr} {a aL ad aq:Option Addr} {p:Prop} {R:Rnd} {t t':TypeId} {v:Value} {V V1 W W' X w w':World}
theorem Hq (h:p:=by
 have HC:Hid (Ge w l (.pointer (some ⟨gB,0,none⟩)) X):=⟨gB,p,rfl,hgB,by rw [←ep],by rw [←ep],by rw [←ep],by
  rw [←ep] at hP ⊢
  exact F4 oT oR hTR kB hP,⟨(hP.to.block _ (ig HX.a) (by simp;omega)).trans HX.a,(hP.to.block _ (ig HX.b) (by simp;omega)).trans HX.b,HX.bel.trans (hP.to.below HX.bel.size (fun x hx=>by simp at hx;omega))⟩⟩
 clear hP oT oR kB hTR HX hT0 ep
 go_wp2_with fail
 go_meet
 case rel=>exact HC.out):p:=h
theorem dw (h:p:=by
 exact iT k1 k2 (by decide) rfl):p:=h
theorem mf (R:Rnd) (w:World) (hs:R.Small) (h:mN w R) :
  Calls Tryz.prog 84 #[.agg R.cells] w fun e w'=>∃ aq cq ad cd gS A C,e=.returned (.agg (R.cp aq cq ad cd gS A C).cells)∧jD w' w.heap.size (R.cp aq cq ad cd gS A C)∧Below w.heap.size w w':=by
 obtain ⟨aQ,nQ,cQ,q,aD,nD,cD,d,turn,fresh,aS,nS,cS,A,L,C,z⟩:=R
 have HR:=aa h
 have HS:=aa hs
 have mk:=uZ nS hs.s
 have hnS:(nS:Int)≤1048576:=by have:nS≤1048576:=hs.s;omega
 clear h hs
 unfold Rnd.cells
 dsimp only
 go_enter Tryz.func84,Tryz.ntmps84
 go_wp2_with fail
 have HA:Hid (∀ A B C,Below w.heap.size w (((w.alloc A).alloc B).alloc C)):=fun A B C=>(((Below.refl _ _).alloc (Nat.le_refl _) _).alloc (by simp) _).alloc (by simp;omega) _
 have e3:∀ A B C,(((w.alloc A).alloc B).alloc C).heap.size=w.heap.size+1+1+1:=fun A B C=>by simp
 refine (lA aQ nQ cQ q _ HS.q (HR.q.up (HA _ _ _))).mono ?_
 rintro e w1 ⟨aq,cq,rfl,hVo,hb1⟩
 have hV:=hVo.vi
 clear hVo
 obtain ⟨kA,kB,kC,B1,z1⟩:=sa hb1
 rw [e3] at hV
 have cA:=ie kA
 have cC:=ie kC
 have fC:=ix kC
 clear hb1 HA
 go_wp2_with fail
 have ht:Touch [w.heap.size+1+1] w1 (w1.setCell ⟨w.heap.size+1+1,0,none⟩ (.slice aq nQ cq)):=(Touch.refl _ _).set (by simp) 0 _
 have kA':=(ht.block _ (ig kA) (by simp only [List.mem_singleton];omega)).trans kA
 have kB':=(ht.block _ (ig kB) (by simp only [List.mem_singleton];omega)).trans kB
 have kC':(w1.setCell ⟨w.heap.size+1+1,0,none⟩ (.slice aq nQ cq)).heap[w.heap.size+1+1]?=some (.cells #[.slice aq nQ cq,.slice aD nD cD,.int .i64 turn,.bool fresh,.slice aS nS cS] 45 (0,0)):=iL kC _
 have hV':=hV.iu ht (fun x hx hx2=>by have:=(hV.blk x hx).1;simp at hx2;omega)
 have B1':=B1.trans (ht.below B1.size (fun x hx=>by simp at hx;omega))
 have z1':(w.heap.size+1+1+1)≤(w1.setCell ⟨w.heap.size+1+1,0,none⟩ (.slice aq nQ cq)).heap.size:=by have:=ht.size;omega
 clear kA kB kC cA cC fC hV B1 ht z1
 generalize w1.setCell ⟨w.heap.size+1+1,0,none⟩ (.slice aq nQ cq)=W at *
 refine (lA aD nD cD d _ HS.d (HR.d.up B1')).mono ?_
 rintro e w2 ⟨ad,cd,rfl,hDo,hb2⟩
 have hD:=hDo.vi
 clear hDo
 have hQD:=Cz hV' hD (Nat.le_refl _)
 have hV2:=hV'.up hb2
 have kA2:=(hb2.block _ (ig kA')).trans kA'
 have kB2:=(hb2.block _ (ig kB')).trans kB'
 have kC2:=(hb2.block _ (ig kC')).trans kC'
 have B2:Below w.heap.size w w2:=B1'.trans (hb2.mono B1'.size)
 have z2:(w.heap.size+1+1+1)≤w2.heap.size:=Nat.le_trans z1' hb2.size
 replace hD:=hD.mono z1'
 have cA:=ie kA2
 have cC:=ie kC2
 have fC:=ix kC2
 clear hb2 kA' kB' kC' hV' B1' z1'
 have ht:Touch [w.heap.size+1+1] w2 (w2.setCell ⟨w.heap.size+1+1,1,none⟩ (.slice ad nD cd)):=(Touch.refl _ _).set (by simp) 1 _
 have hA:=(Below.refl (w2.setCell ⟨w.heap.size+1+1,1,none⟩ (.slice ad nD cd)).heap.size (w2.setCell ⟨w.heap.size+1+1,1,none⟩ (.slice ad nD cd))).alloc (Nat.le_refl _) (.cells (sZ nS) 27)
 have hz:(w2.setCell ⟨w.heap.size+1+1,1,none⟩ (.slice ad nD cd)).heap.size=w2.heap.size:=by simp [World.setCell]
 have kC3:(w2.setCell ⟨w.heap.size+1+1,1,none⟩ (.slice ad nD cd)).heap[w.heap.size+1+1]?=some (.cells #[.slice aq nQ cq,.slice ad nD cd,.int .i64 turn,.bool fresh,.slice aS nS cS] 45 (0,0)):=iL kC2 _
 have kC4:=(hA.block _ (ig kC3)).trans kC3
 have kA4:=(hA.block _ (by rw [hz];exact ig kA2)).trans ((ht.block _ (ig kA2) (by simp only [List.mem_singleton];omega)).trans kA2)
 have kB4:=(hA.block _ (by rw [hz];exact ig kB2)).trans ((ht.block _ (ig kB2) (by simp only [List.mem_singleton];omega)).trans kB2)
 have kS4:=im (w2.setCell ⟨w.heap.size+1+1,1,none⟩ (.slice ad nD cd)) (.cells (sZ nS) 27)
 rw [hz] at kS4
 have hV4:=(hV2.iu ht (fun x hx hx2=>by have:=(hV2.blk x hx).1;simp at hx2;omega)).up hA
 have hD4:=(hD.iu ht (fun x hx hx2=>by have:=(hD.blk x hx).1;simp at hx2;omega)).up hA
 have B3:=B2.trans (ht.below B2.size (fun x hx=>by simp at hx;omega))
 have B4:=B3.trans (hA.mono B3.size)
 have cA4:=ie kA4
 have cC4:=ie kC4
 have fC4:=ix kC4
 clear ht hA kC3 kA2 kB2 kC2 hV2 hD B2 B3
 go_wp2_with fail
 have ht:=(Touch.refl [w.heap.size+1+1] ((w2.setCell ⟨w.heap.size+1+1,1,none⟩ (.slice ad nD cd)).alloc (.cells (sZ nS) 27))).set (g:=w.heap.size+1+1) (by simp) 4 (.slice (some ⟨w2.heap.size,0,none⟩) nS nS)
 have HCp0:Hid (Cp ⟨aQ,nQ,cQ,q,aD,nD,cD,d,turn,fresh,aS,nS,cS,A,L,C,z⟩ (w.heap.size+1+1+1) (((w2.setCell ⟨w.heap.size+1+1,1,none⟩ (.slice ad nD cd)).alloc (.cells (sZ nS) 27)).setCell ⟨w.heap.size+1+1,4,none⟩ (.slice (some ⟨w2.heap.size,0,none⟩) nS nS)) aq ad w2.heap.size A C 0) :=
  ⟨hV4.iu ht (fun x hx hx2=>by have:=(hV4.blk x hx).1;simp at hx2;omega),hD4.iu ht (fun x hx hx2=>by have:=(hD4.blk x hx).1;simp at hx2;omega),
   .inr ⟨_,rfl,z2,((uq kS4).jQ (ht.block _ (ig kS4) (by simp only [List.mem_singleton];omega))).ext (fun i hi=>by simp)⟩,fun i hi=>by omega,hQD,fun i hi=>by omega,fun i hi=>by omega,fun i j hi=>by omega⟩
 have HB0:Hid (Below w.heap.size w (((w2.setCell ⟨w.heap.size+1+1,1,none⟩ (.slice ad nD cd)).alloc (.cells (sZ nS) 27)).setCell ⟨w.heap.size+1+1,4,none⟩ (.slice (some ⟨w2.heap.size,0,none⟩) nS nS))):=B4.trans (ht.below B4.size (fun x hx=>by simp at hx;omega))
 have kB5:=(ht.block _ (ig kB4) (by simp only [List.mem_singleton];omega)).trans kB4
 have kC5:(((w2.setCell ⟨w.heap.size+1+1,1,none⟩ (.slice ad nD cd)).alloc (.cells (sZ nS) 27)).setCell ⟨w.heap.size+1+1,4,none⟩ (.slice (some ⟨w2.heap.size,0,none⟩) nS nS)).heap[w.heap.size+1+1]?=some (.cells #[.slice aq nQ cq,.slice ad nD cd,.int .i64 turn,.bool fresh,.slice (some ⟨w2.heap.size,0,none⟩) nS nS] 45 (0,0)):=iL kC4 _
 have HkB0:=aa kB5
 have HkC0:=aa kC5
 clear ht kB5 kC5 kA4 kB4 kC4 kS4 hV4 hD4 B4 cA4 cC4 fC4 cA cC fC hz hQD mk
 generalize ((w2.setCell ⟨w.heap.size+1+1,1,none⟩ (.slice ad nD cd)).alloc (.cells (sZ nS) 27)).setCell ⟨w.heap.size+1+1,4,none⟩ (.slice (some ⟨w2.heap.size,0,none⟩) nS nS)=W5 at *
 generalize w2.heap.size=gS at *
 go_loopw [23] (fun i wr=>∃ (k:Nat) (A':Nat→Option Addr) (C':Nat→Nat),k≤nS∧i=.int .i64 k∧Cp ⟨aQ,nQ,cQ,q,aD,nD,cD,d,turn,fresh,aS,nS,cS,A,L,C,z⟩ (w.heap.size+1+1+1) wr aq ad gS A' C' k∧Below w.heap.size w wr∧(w.heap.size+1+1+1)≤wr.heap.size∧wr.heap[w.heap.size+1]?=some (.cells ae 45 (0,0))∧wr.heap[w.heap.size+1+1]?=some (.cells #[.slice aq nQ cq,.slice ad nD cd,.int .i64 turn,.bool fresh,.slice (some ⟨gS,0,none⟩) nS nS] 45 (0,0))) (fun i _=>nS-(intOf i).toNat)
 case atStart=>exact ⟨0,A,C,Nat.zero_le _,rfl,HCp0.out,HB0.out,by have:=ig HkC0.out;omega,HkB0.out,HkC0.out⟩
 obtain ⟨k,A',C',hk,rfl,hCp,hB,hBs,hkB,hkC⟩:=hrel
 clear HCp0 HB0 HkB0 HkC0
 have HCp:=aa hCp
 have HB:=aa hB
 have HBs:=aa hBs
 have kBd:=aa hkB
 have kCd:=aa hkC
 clear hCp hB hBs
 by_cases hlt:k<nS
 ·
  have hlt':(k:Int)<nS:=by omega
  obtain ⟨gs,os,rfl,hc⟩:=(HR.s.up HB.out) k hlt
  dsimp only at hc
  clear hkB hkC
  go_wp2_with fail
  refine wp_region_held_drew (S:=fun w'=>w'.cell? ⟨w.heap.size+1+1,4,none⟩=some (.slice (some ⟨gS,0,none⟩) nS nS)) (by kernel_rfl) (ie kCd.out 4) (fun hHeld=>?_)
  refine t0 ?_
  iterate 3 refine tN ?_
  refine rq1 4 (fun K hK=>?_)
  go_simp
  refine (lA (A k) (L k) (C k) (z k) _ (HS.l k hlt) ((HR.z k hlt).up (HB.drew))).mono ?_
  rintro e w4 ⟨a',c',rfl,hv,hb⟩
  have hC0:=HCp.up (W':=wr.drew) ((Below.refl _ _).drew)
  have HCp4:=aa (hC0.next (c':=c') hlt hb HBs hv)
  have HB4:=aa (HB.drew.trans (hb.mono HB.size))
  have kB4:=(hb.block _ (ig kBd.out)).trans kBd.out
  have kC4:=(hb.block _ (ig kCd.out)).trans kCd.out
  have q4:w4.cell? ⟨w.heap.size+1+1,4,none⟩=some (.slice (some ⟨gS,0,none⟩) nS nS):=ie kC4 4
  have hrow:(w.heap.size+1+1+1)≤gS∧(∃ x,w4.cell? ⟨gS,k,none⟩=some x)∧w4.frozen? ⟨gS,k,none⟩=false:=by
   rcases hC0.s with h0 | ⟨g,hg,hbg,hr⟩
   ·
    exact absurd hlt (by rw [show nS=0 from h0];omega)
   cases hg
   exact ⟨hbg,(hr.jQ (hb.block _ hr.lt)).there k hlt,(hr.jQ (hb.block _ hr.lt)).free k⟩
  obtain ⟨hgS,⟨xS,cS4⟩,fS4⟩:=hrow
  have HkB:Hid ((w4.setCell ⟨gS,k,none⟩ (.slice a' (L k) c')).heap[w.heap.size+1]?=_):=(iE (by omega) _).trans kB4
  have HkC:Hid ((w4.setCell ⟨gS,k,none⟩ (.slice a' (L k) c')).heap[w.heap.size+1+1]?=_):=(iE (by omega) _).trans kC4
  have HBn:Hid (Below w.heap.size w (w4.setCell ⟨gS,k,none⟩ (.slice a' (L k) c'))):=HB4.setCell (by show w.heap.size≤gS;omega) _
  have HBsn:Hid ((w.heap.size+1+1+1)≤(w4.setCell ⟨gS,k,none⟩ (.slice a' (L k) c')).heap.size):=by
   have:=ig HkC.out
   show _≤_
   omega
  have q4s:(w4.setCell ⟨gS,k,none⟩ (.slice a' (L k) c')).cell? ⟨w.heap.size+1+1,4,none⟩=some (.slice (some ⟨gS,0,none⟩) nS nS):=ie HkC 4
  clear hv hb hC0 kB4 kC4
  go_wp2_with fail
  refine ah (hK _ _ q4) ?_
  intro hHeld
  clear hK K
  refine tN ?_
  refine rq1 6 (fun K hK=>?_)
  go_simp
  refine ah (hK _ _ q4s) ?_
  intro hHeld
  clear hK K
  refine dnq ?_
  go_wp2_with fail
  go_roundw
  case rel=>exact ⟨k+1,_,_,by omega,by go_num,HCp4.out,HBn.out,HBsn.out,HkB.out,HkC.out⟩
  case measure=>simp [intOf];omega
 obtain rfl:k=nS:=by omega
 have cC:=ie hkC
 have cB:=ie hkB
 have fB:=ix hkB
 go_wp2_with fail
 have ht:=jv wr (w.heap.size+1) (.slice aq nQ cq) (.slice ad nD cd) (.int .i64 turn) (.bool fresh) (.slice (some ⟨gS,0,none⟩) k k)
 have cF:=ie (ln hkB (.slice aq nQ cq) (.slice ad nD cd) (.int .i64 turn) (.bool fresh) (.slice (some ⟨gS,0,none⟩) k k))
 have hBf:=HB.trans (ht.below HB.size (fun x hx=>by simp at hx;omega))
 have hOf:=((HCp.own cq cd).kk ht (fun x hx=>by simp at hx;omega)).mono (show w.heap.size≤(w.heap.size+1+1+1) by omega)
 unfold sg at cF hBf hOf
 exact bodyPost_ret (v:=.agg (Rnd.cp ⟨aQ,nQ,cQ,q,aD,nD,cD,d,turn,fresh,aS,k,cS,A,L,C,z⟩ aq cq ad cd gS A' C').cells) (by simp [results,Tryz.results84,go_sem,cF,Rnd.cp,Rnd.cells]) rfl ⟨aq,cq,ad,cd,gS,A',C',rfl,hOf,hBf⟩
theorem Cq:Alike R (R.cp aq cq ad cd gS A C):=⟨rfl,rfl,rfl,rfl,rfl,rfl,rfl,rfl,rfl⟩
def pK:Array Value:=#[.bool false,.slice none 0 0,.slice none 0 0,.slice none 0 0,.slice none 0 0,.int .i64 0,.bool false,.slice none 0 0]
structure CpL (base gB:Nat) (l p:Lng) (W:World):Prop where
 own:iK W base p
 box:W.heap[gB]?=some (.cells p.cells 47 (0,0))
 st:p.st=l.st
 nT:p.nT=l.nT
 t:p.t=l.t
 ul:p.uL=l.uL
 uz:p.uz=l.uz
 r:Alike l.R p.R
def Ge (w:World) (l:Lng) (v:Value) (wc:World):Prop:=∃ gB p,v=.pointer (some ⟨gB,0,none⟩)∧w.heap.size+1<gB∧p.nU=0∧p.aU=none∧p.cU=0∧CpL w.heap.size gB l p wc∧Two w l.cells pK 47 wc
theorem CpL.up {l p:Lng} (h:CpL base gB l p W) (hb:Below W.heap.size W W'):CpL base gB l p W' :=
 ⟨h.own.up hb,(hb.block _ (ig h.box)).trans h.box,h.st,h.nT,h.t,h.ul,h.uz,h.r⟩
theorem CpL.more {g:Nat} {l p:Lng} {W2:World} (h:CpL base gB l p V) (hk:p.nU=k) (hb:Below V.heap.size V V1) (hbase:base≤V.heap.size) (ho:OI V1 V.heap.size a (l.uL k) c (l.uz k))
  (hu:OG 27 1 W base (some ⟨g,0,none⟩) (k+1) c2 (rB k p.uA p.uL p.uC++[.slice a (l.uL k) c])) (ht:Touch (iI p.aU) V1 W) (hg:g∈iI p.aU∨V1.heap.size≤g) (hP:Put W W2 gB (lay p.cells 2 #[.slice (some ⟨g,0,none⟩) (k+1) c2]) 47):CpL base gB l (p.more k (some ⟨g,0,none⟩) c2 a c) W2:=by
 rw [←h.ul,←h.uz] at ho
 rw [←h.ul] at hu
 have h1:=h.own.more hk hb hbase ho hu ht hg
 have hbx:W.heap[gB]?=some (.cells p.cells 47 (0,0)):=by
  have e1:=(h.up hb).box
  refine (ht.block gB (ig e1) ?_).trans e1
  exact (h.up hb).own.u.lM (by decide) e1
 exact ⟨h1.box hbx (by decide) (by decide) hP.to,hP.blk,h.st,h.nT,h.t,h.ul,h.uz,h.r⟩
theorem rdR {g:Nat} {l:Lng} (h:w.heap[g]?=some (.cells l.cells t (0,0))):∀ j,j<5→w.cell? ⟨g,3+j,none⟩=l.R.cells[j]?:=by
 intro j hj
 rw [ie h]
 match j,hj with
 | 0,_=>rfl
 | 1,_=>rfl
 | 2,_=>rfl
 | 3,_=>rfl
 | 4,_=>rfl
theorem Two.far {A:Array Value} {S:List Nat} (h:Two w A B t W) (ht:Touch S W W') (hn:∀ {g:Nat} {cs:Array Value},W.heap[g]?=some (.cells cs t (0,0))→g∉S) (hl:∀ x∈S,w.heap.size≤x):Two w A B t W' :=
 ⟨(ht.block _ (ig h.a) (hn h.a)).trans h.a,(ht.block _ (ig h.b) (hn h.b)).trans h.b,h.bel.trans (ht.below h.bel.size hl)⟩
theorem Two.put {A C:Array Value} {g:Nat} (h:Two w A B t W) (hp:Put W W' g C t') (hg:w.heap.size+1<g):Two w A B t W' :=
 ⟨(hp.to.block _ (ig h.a) (by simp;omega)).trans h.a,(hp.to.block _ (ig h.b) (by simp;omega)).trans h.b,h.bel.trans (hp.to.below h.bel.size (fun x hx=>by simp at hx;omega))⟩
theorem F4 {l:Lng} {aT:Option Addr} {cT:Nat} (oT:OI V base aT l.nT cT l.t) (oR:jD V base (l.R.cp aq cq ad cd gS A C)) (hTR:∀ x∈iI aT,x∉(l.R.cp aq cq ad cd gS A C).jN)
  (kB:V.heap[gB]?=some (.cells cur 47 (0,0))) (hP:Put V X gB (Lng.cells ⟨l.st,aT,l.nT,cT,l.t,none,0,0,fun _=>none,l.uL,fun _=>0,l.uz,l.R.cp aq cq ad cd gS A C⟩) 47):CpL base gB l ⟨l.st,aT,l.nT,cT,l.t,none,0,0,fun _=>none,l.uL,fun _=>0,l.uz,l.R.cp aq cq ad cd gS A C⟩ X:=by
 have h1:iK V base ⟨l.st,aT,l.nT,cT,l.t,none,0,0,fun _=>none,l.uL,fun _=>0,l.uz,l.R.cp aq cq ad cd gS A C⟩:=by
  refine ⟨oT,OG.nil _ _ _ _,fun i hi=>absurd hi (Nat.not_lt_zero _),oR,?_,fun x hx hy=>by simp [iI] at hy⟩
  show ((iI aT++_)++[]).Nodup
  rw [List.append_nil]
  exact List.nodup_append.2 ⟨lB _,oR.nd,fun x hx y hy e=>hTR x hx (e▸hy)⟩
 exact ⟨h1.box kB (by decide) (by decide) hP.to,hP.blk,rfl,rfl,rfl,rfl,rfl,Cq⟩
theorem xr (l:Lng) (w:World) (hs:l.Small) (h:zo w l) :
  Calls Tryz.prog 49 #[.agg l.cells] w fun e w'=>∃ l2,e=.returned (.agg l2.cells)∧iO l l2∧iK w' w.heap.size l2∧Below w.heap.size w w':=by
 have HR:=aa h
 have HS:=aa hs
 obtain ⟨W,eW⟩:∃ W,(w.alloc (.cells l.cells 47)).alloc (.cells af 47)=W:=⟨_,rfl⟩
 have HX:Hid (Two w l.cells pK 47 W):=by rw [←eW];exact Two.start _ _ _ _
 clear h hs
 go_enter Tryz.func49,Tryz.ntmps49
 go_wp2_with fail
 clear eW
 go_cut [3] (fun v wc=>Ge w l v wc)
 case first =>
  replace HX:Hid (Two w l.cells pK 47 W.drew):=HX.up ((Below.refl _ _).drew)
  have hz0:w.heap.size+1<W.drew.heap.size:=ig HX.b
  refine jc (fun w'=>w'.heap[w.heap.size]?=some (.cells l.cells 47 (0,0))) 10 (by kernel_rfl) ?_
  generalize W.drew=V at *
  have hT0:=HX.a
  refine tE 0 6 hT0 ?_
  refine kE (i:=1) (some 7) (v:=?_) ?_ hT0 ?_
  rotate_left
  ·
   intro wx hSw
   have c0:wx.cell? ⟨w.heap.size,0,none⟩=some (.bool l.st):=ie hSw 0
   go_simp
   try with_reducible rfl
  try simp only [Act.put,PZ]
  refine tE 2 8 hT0 ?_
  refine kE (i:=3) (some 9) (v:=?_) ?_ hT0 ?_
  rotate_left
  ·
   intro wx hSw
   have c1:wx.cell? ⟨w.heap.size,1,none⟩=some (.slice l.aT l.nT l.cT):=ie hSw 1
   go_simp
   try with_reducible rfl
  try simp only [Act.put,PZ]
  refine tE 5 11 hT0 ?_
  refine kE (i:=6) (some 12) (v:=.agg l.R.cells) ?_ hT0 ?_
  ·
   intro wx hSw
   exact jg 45 5 _ Tryz.underlying45 rfl BF (.tmp 11) rfl w.heap.size 3 rfl l.R.cells rfl (fun j hj=>rdR hSw j hj)
  try simp only [Act.put,PZ]
  refine il (rs:=[4,9]) (by kernel_rfl) (by simp) ?_
  refine ij.cons rfl (fun K hK=>?_) (ij.cons rfl (fun K hK=>?_) ij.nil)
  ·
   go_simp
   refine (lA l.aT l.nT l.cT l.t _ HS.t (HR.t.up HX.bel)).mono ?_
   rintro e X1 ⟨aT,cT,rfl,oT,hb⟩
   replace oT:=oT.mono (base':=w.heap.size) HX.bel.size
   have lT:=OI.blk oT
   replace HX:=aa (HX.up hb)
   replace hT0:=HX.a
   have hz:=(hb).size
   clear hb hz
   go_wp2_with fail
   refine hK _ _ hT0 ?_
   clear hK K
   try simp only [Act.put,PZ]
   refine il (rs:=[7,9]) (by kernel_rfl) (by simp) ?_
   refine ij.cons rfl (fun K hK=>?_) (ij.cons rfl (fun K hK=>?_) ij.nil)
   ·
    go_simp
    refine (mf l.R _ HS.r (HR.r.up HX.bel)).mono ?_
    rintro e X2 ⟨aq,cq,ad,cd,gS,A,C,rfl,oR,hb⟩
    have hTR:∀ x∈iI aT,x∉(l.R.cp aq cq ad cd gS A C).jN:=fun x hx hy=>by have:=(OI.blk oT x hx).2;have:=(oR.blk x hy).1;omega
    replace oR:=oR.uY (base':=w.heap.size) HX.bel.size
    replace HX:=aa (HX.up hb)
    replace hT0:=HX.a
    have hz:=(hb).size
    replace oT:=oT.up hb
    clear hb hz
    dsimp only [Rnd.cells,Rnd.cp]
    go_wp2_with fail
    refine hK _ _ hT0 ?_
    clear hK K
    try simp only [Act.put,PZ]
    refine tE 8 14 hT0 ?_
    refine il (rs:=[9]) (by kernel_rfl) (by simp) ?_
    refine ij.cons rfl (fun K hK=>?_) ij.nil
    obtain ⟨X3,eV⟩:∃ X,X2.alloc (.cells af 47)=X:=⟨_,rfl⟩
    have hb:Below X2.heap.size X2 X3:=by rw [←eV];exact (Below.refl _ _).alloc (Nat.le_refl _) _
    have kB:X3.heap[X2.heap.size]?=some (.cells af 47 (0,0)):=by rw [←eV];exact im _ _
    have hgB:w.heap.size+1<X2.heap.size:=ig HX.b
    go_simp
    clear eV
    replace HX:=aa (HX.up hb)
    replace hT0:=HX.a
    have hz:=(hb).size
    replace oT:=oT.up hb
    replace oR:=oR.upZ hb
    clear hb hz
    obtain ⟨gB,eB⟩:∃ g,X2.heap.size=g:=⟨_,rfl⟩
    rw [eB] at kB hgB ⊢
    refine hK _ _ hT0 ?_
    clear hK K
    try simp only [Act.put,PZ]
    refine il (rs:=[10]) (by kernel_rfl) (by simp) ?_
    refine ij.last rfl (fun K hK=>?_)
    refine jn (by kernel_rfl) none rfl 47 (.tmp 3) (.tmp 14) rfl gB 0 rfl (.agg #[.bool l.st,.slice aT l.nT cT,.slice none 0 0,.slice aq l.R.nQ cq,.slice ad l.R.nD cd,.int .i64 l.R.turn,.bool l.R.fresh,.slice (some ⟨gS,0,none⟩) l.R.nS l.R.nS]) rfl 8 rfl 47 _ kB jT (Nat.le_of_ble_eq_true rfl) (by simp [Value.cells,Value.oneCell']) ?_
    intro X hP
    refine ah (hK _ _) ?_
    clear hK K
    refine iQ (by kernel_rfl) ?_ _
    obtain ⟨p,ep⟩:∃ p,(⟨l.st,aT,l.nT,cT,l.t,none,0,0,fun _=>none,l.uL,fun _=>0,l.uz,l.R.cp aq cq ad cd gS A C⟩:Lng)=p:=⟨_,rfl⟩
    replace hP:Put X3 X gB p.cells 47:=hP.cast (by rw [←ep];rfl)
    exact Hq
   obtain ⟨X4,eV⟩:∃ X,X1.alloc (.cells af 47)=X:=⟨_,rfl⟩
   have hb:Below X1.heap.size X1 X4:=by rw [←eV];exact (Below.refl _ _).alloc (Nat.le_refl _) _
   have kB:X4.heap[X1.heap.size]?=some (.cells af 47 (0,0)):=by rw [←eV];exact im _ _
   have hgB:w.heap.size+1<X1.heap.size:=ig HX.b
   go_simp
   clear eV
   replace HX:=aa (HX.up hb)
   replace hT0:=HX.a
   have hz:=(hb).size
   replace oT:=oT.up hb
   clear hb hz
   obtain ⟨gB,eB⟩:∃ g,X1.heap.size=g:=⟨_,rfl⟩
   rw [eB] at kB hgB ⊢
   refine hK _ _ hT0 ?_
   clear hK K
   try simp only [Act.put,PZ]
   refine il (rs:=[7]) (by kernel_rfl) (by simp) ?_
   refine ij.cons rfl (fun K hK=>?_) ij.nil
   go_simp
   refine (mf l.R _ HS.r (HR.r.up HX.bel)).mono ?_
   rintro e X5 ⟨aq,cq,ad,cd,gS,A,C,rfl,oR,hb⟩
   have hTR:∀ x∈iI aT,x∉(l.R.cp aq cq ad cd gS A C).jN:=fun x hx hy=>by have:=(OI.blk oT x hx).2;have:=(oR.blk x hy).1;omega
   replace oR:=oR.uY (base':=w.heap.size) HX.bel.size
   replace HX:=aa (HX.up hb)
   replace hT0:=HX.a
   have hz:=(hb).size
   replace oT:=oT.up hb
   replace kB:=(hb.block _ (ig kB)).trans kB
   clear hb hz
   dsimp only [Rnd.cells,Rnd.cp]
   go_wp2_with fail
   refine hK _ _ hT0 ?_
   clear hK K
   try simp only [Act.put,PZ]
   refine tE 8 14 hT0 ?_
   refine il (rs:=[10]) (by kernel_rfl) (by simp) ?_
   refine ij.last rfl (fun K hK=>?_)
   refine jn (by kernel_rfl) none rfl 47 (.tmp 3) (.tmp 14) rfl gB 0 rfl (.agg #[.bool l.st,.slice aT l.nT cT,.slice none 0 0,.slice aq l.R.nQ cq,.slice ad l.R.nD cd,.int .i64 l.R.turn,.bool l.R.fresh,.slice (some ⟨gS,0,none⟩) l.R.nS l.R.nS]) rfl 8 rfl 47 _ kB jT (Nat.le_of_ble_eq_true rfl) (by simp [Value.cells,Value.oneCell']) ?_
   intro X hP
   refine ah (hK _ _) ?_
   clear hK K
   refine iQ (by kernel_rfl) ?_ _
   obtain ⟨p,ep⟩:∃ p,(⟨l.st,aT,l.nT,cT,l.t,none,0,0,fun _=>none,l.uL,fun _=>0,l.uz,l.R.cp aq cq ad cd gS A C⟩:Lng)=p:=⟨_,rfl⟩
   replace hP:Put X5 X gB p.cells 47:=hP.cast (by rw [←ep];rfl)
   exact Hq
  obtain ⟨X6,eV⟩:∃ X,V.alloc (.cells af 47)=X:=⟨_,rfl⟩
  have hb:Below V.heap.size V X6:=by rw [←eV];exact (Below.refl _ _).alloc (Nat.le_refl _) _
  have kB:X6.heap[V.heap.size]?=some (.cells af 47 (0,0)):=by rw [←eV];exact im _ _
  have hgB:w.heap.size+1<V.heap.size:=ig HX.b
  go_simp
  clear eV
  replace HX:=aa (HX.up hb)
  replace hT0:=HX.a
  have hz:=(hb).size
  clear hb hz
  obtain ⟨gB,eB⟩:∃ g,V.heap.size=g:=⟨_,rfl⟩
  rw [eB] at kB hgB ⊢
  refine hK _ _ hT0 ?_
  clear hK K
  try simp only [Act.put,PZ]
  refine il (rs:=[4]) (by kernel_rfl) (by simp) ?_
  refine ij.cons rfl (fun K hK=>?_) ij.nil
  go_simp
  refine (lA l.aT l.nT l.cT l.t _ HS.t (HR.t.up HX.bel)).mono ?_
  rintro e X7 ⟨aT,cT,rfl,oT,hb⟩
  replace oT:=oT.mono (base':=w.heap.size) HX.bel.size
  have lT:=OI.blk oT
  replace HX:=aa (HX.up hb)
  replace hT0:=HX.a
  have hz:=(hb).size
  replace kB:=(hb.block _ (ig kB)).trans kB
  clear hb hz
  go_wp2_with fail
  refine hK _ _ hT0 ?_
  clear hK K
  try simp only [Act.put,PZ]
  refine il (rs:=[7]) (by kernel_rfl) (by simp) ?_
  refine ij.cons rfl (fun K hK=>?_) ij.nil
  go_simp
  refine (mf l.R _ HS.r (HR.r.up HX.bel)).mono ?_
  rintro e X8 ⟨aq,cq,ad,cd,gS,A,C,rfl,oR,hb⟩
  have hTR:∀ x∈iI aT,x∉(l.R.cp aq cq ad cd gS A C).jN:=fun x hx hy=>by have:=(OI.blk oT x hx).2;have:=(oR.blk x hy).1;omega
  replace oR:=oR.uY (base':=w.heap.size) HX.bel.size
  replace HX:=aa (HX.up hb)
  replace hT0:=HX.a
  have hz:=(hb).size
  replace oT:=oT.up hb
  replace kB:=(hb.block _ (ig kB)).trans kB
  clear hb hz
  dsimp only [Rnd.cells,Rnd.cp]
  go_wp2_with fail
  refine hK _ _ hT0 ?_
  clear hK K
  try simp only [Act.put,PZ]
  refine tE 8 14 hT0 ?_
  refine il (rs:=[10]) (by kernel_rfl) (by simp) ?_
  refine ij.last rfl (fun K hK=>?_)
  refine jn (by kernel_rfl) none rfl 47 (.tmp 3) (.tmp 14) rfl gB 0 rfl (.agg #[.bool l.st,.slice aT l.nT cT,.slice none 0 0,.slice aq l.R.nQ cq,.slice ad l.R.nD cd,.int .i64 l.R.turn,.bool l.R.fresh,.slice (some ⟨gS,0,none⟩) l.R.nS l.R.nS]) rfl 8 rfl 47 _ kB jT (Nat.le_of_ble_eq_true rfl) (by simp [Value.cells,Value.oneCell']) ?_
  intro X hP
  refine ah (hK _ _) ?_
  clear hK K
  refine iQ (by kernel_rfl) ?_ _
  obtain ⟨p,ep⟩:∃ p,(⟨l.st,aT,l.nT,cT,l.t,none,0,0,fun _=>none,l.uL,fun _=>0,l.uz,l.R.cp aq cq ad cd gS A C⟩:Lng)=p:=⟨_,rfl⟩
  replace hP:Put X8 X gB p.cells 47:=hP.cast (by rw [←ep];rfl)
  exact Hq
 obtain ⟨gB,p,rfl,hgB,hnU,haU,hcU,hC,hX⟩:=hcut
 have HC:=aa hC
 replace HX:=aa hX
 have HP0:=aa hnU
 have HgB:=aa hgB
 clear hC hX hnU haU hcU hgB
 have HU:=aa HR.u
 obtain ⟨aU,eU⟩:∃ a,l.aU=a:=⟨_,rfl⟩
 have c2:wc.cell? ⟨w.heap.size,2,none⟩=some (.slice aU l.nU l.cU):=by rw [←eU];exact ie HX.a 2
 rw [eU] at HU
 clear eU
 have hnu:=HS.u
 go_wp2_with fail
 clear c2
 go_loopw [18] (fun i wr=>∃ (k:Nat) (q:Lng),k≤l.nU∧i=.int .i64 k∧Hid (q.nU=k∧CpL w.heap.size gB l q wr∧Two w l.cells pK 47 wr)) (fun i _=>l.nU-(intOf i).toNat)
 case atStart=>exact ⟨0,p,Nat.zero_le _,rfl,⟨HP0.out,HC.out,HX.out⟩⟩
 clear HC HX
 obtain ⟨k,q,hk,rfl,HQ⟩:=hrel
 by_cases hlt:k<l.nU
 ·
  have hlt':(k:Int)<l.nU:=by omega
  obtain ⟨g0,o0,ea,hc0⟩:=(HU.up HQ.2.2.bel) k hlt
  subst ea
  dsimp only at hc0
  go_wp2_with fail
  refine jc (fun w'=>w'.heap[gB]?=some (.cells q.cells 47 (0,0))) 7 (by kernel_rfl) ?_
  have hd:Below wr.heap.size wr wr.drew:=(Below.refl _ _).drew
  replace HQ:Hid (q.nU=k∧CpL w.heap.size gB l q wr.drew∧Two w l.cells pK 47 wr.drew):=⟨HQ.1,HQ.2.1.up hd,HQ.2.2.up hd⟩
  clear hd hc0
  generalize wr.drew=V at *
  have hT0:=HQ.2.1.box
  refine tE 0 22 hT0 ?_
  refine kE (i:=1) (some 23) (v:=?_) ?_ hT0 ?_
  rotate_left
  ·
   intro wx hSw
   have c2:wx.cell? ⟨gB,2,none⟩=some (.slice q.aU k q.cU):=by rw [ie hSw 2,←HQ.1];rfl
   go_simp
   try with_reducible rfl
  try simp only [Act.put,PZ]
  refine tE 2 24 hT0 ?_
  refine il (rs:=[3]) (by kernel_rfl) (by simp) ?_
  refine ij.cons rfl (fun K hK=>?_) ij.nil
  go_simp
  refine (lA (l.uA k) (l.uL k) (l.uC k) (l.uz k) _ (HS.z k hlt) ((HR.z k hlt).up HQ.2.2.bel)).mono ?_
  rintro e X1 ⟨a1,c1,rfl,oA,hb⟩
  have HA1:Hid (OI X1 V.heap.size a1 (l.uL k) c1 (l.uz k)∧Below V.heap.size V X1):=⟨oA,hb⟩
  have Q1:=HQ.2.1.up hb
  have hu0:OG 27 1 X1 w.heap.size q.aU k q.cU (rB k q.uA q.uL q.uC):=by have:=Q1.own.u;rw [HQ.1] at this;exact this
  obtain ⟨g1,c3,X3,hr,hu,ht,hg⟩:=lH 43 27 (.slice none 0 0) 1 24 wW Tryz.underlying43 rfl (by decide) (by decide) hu0 (by omega) (Nat.le_trans HQ.2.2.bel.size hb.size) #[.slice a1 (l.uL k) c1] rfl (by simp [Value.oneCell'])
  have hT1:=Q1.box
  have hT2:(X1.alloc (.cells #[.slice a1 (l.uL k) c1] 27)).heap[gB]?=some (.cells q.cells 47 (0,0)):=(iH _ (ig hT1)).trans hT1
  have hT3:X3.heap[gB]?=some (.cells q.cells 47 (0,0)):=(ht.block gB (ig hT1) (hu0.lM (by decide) hT1)).trans hT1
  have HN3:Hid (OG 27 1 X3 w.heap.size (some ⟨g1,0,none⟩) (k+1) c3 (rB k q.uA q.uL q.uC++[.slice a1 (l.uL k) c1])∧Touch (iI q.aU) X1 X3∧(g1∈iI q.aU∨X1.heap.size≤g1)):=⟨hu,ht,hg⟩
  have HR3:=aa hr
  clear oA hb Q1 hu0 hr hu ht hg hT0
  go_wp2_with fail
  refine hK _ _ hT1 ?_
  clear hK K
  try simp only [Act.put,PZ]
  refine il (rs:=[4]) (by kernel_rfl) (by simp) ?_
  refine ij.cons rfl (fun K hK=>?_) ij.nil
  go_simp
  refine hK _ _ hT2 ?_
  clear hK K
  try simp only [Act.put,PZ]
  refine il (rs:=[5]) (by kernel_rfl) (by simp) ?_
  refine ij.cons rfl (fun K hK=>?_) ij.nil
  refine kg (by kernel_rfl) (some 27) rfl (.tmp 23) (.tmp 26) 43 _ _ _ rfl rfl rfl rfl HR3.out ?_
  refine hK _ _ hT3 ?_
  clear hK K hT2 HR3
  try simp only [Act.put,PZ]
  have hT0:=hT3
  refine tE 6 28 hT0 ?_
  refine il (rs:=[7]) (by kernel_rfl) (by simp) ?_
  refine ij.last rfl (fun K hK=>?_)
  refine jn (by kernel_rfl) none rfl 43 (.tmp 28) (.tmp 27) rfl gB 2 rfl (.slice (some ⟨g1,0,none⟩) (k+1) c3) rfl 1 rfl 47 _ hT3 BM (Nat.le_of_ble_eq_true rfl) (by simp [Value.cells,Value.oneCell']) ?_
  intro X4 hP
  refine ah (hK _ _) ?_
  clear hK K
  refine iQ (by kernel_rfl) ?_ _
  have hlo:w.heap.size+1<X1.heap.size:=ig (HQ.2.2.up HA1.2).b
  have HN:Hid ((q.more k (some ⟨g1,0,none⟩) c3 a1 c1).nU=k+1∧CpL w.heap.size gB l (q.more k (some ⟨g1,0,none⟩) c3 a1 c1) X4∧Two w l.cells pK 47 X4):=⟨rfl,HQ.2.1.more HQ.1 HA1.2 HQ.2.2.bel.size HA1.1 HN3.1 HN3.2.1 HN3.2.2 hP,((HQ.2.2.up HA1.2).far HN3.2.1 (fun hg=>(HQ.2.1.up HA1.2).own.u.lM (by decide) hg) (fun x hx=>((HQ.2.1.up HA1.2).own.u.blk x hx).1)).put hP HgB.out⟩
  clear hP hT0 hT1 hT3 HN3 HA1 HQ hlo
  go_wp2_with fail
  go_roundw
  case rel=>exact ⟨k+1,_,by omega,by go_num,HN⟩
  case measure=>simp [intOf];omega
 obtain rfl:k=l.nU:=by omega
 obtain ⟨hq1,hq2,hq3⟩:=HQ.out
 have HL:Hid (∀ j,j<8→wr.cell? ⟨gB,0+j,none⟩=q.cells[j]?):=fun j _=>by rw [Nat.zero_add];exact ie hq2.box j
 have HD:=aa hq3.b
 clear hq1 hq2 hq3
 go_wp2_with (first | refine ir rfl 47 8 _ Tryz.underlying47 rfl jT (.tmp 3) rfl gB 0 rfl q.cells rfl HL.out ?_ | refine iq rfl 47 (.tmp 2) (.tmp 30) rfl (w.heap.size+1) 0 rfl (.agg q.cells) rfl 8 rfl 47 _ HD jT (Nat.le_of_ble_eq_true rfl) (Lng.lF _) ?_)
 intro X hP
 replace hP:Put wr X (w.heap.size+1) q.cells 47:=hP.cast rfl
 have HK:=aa hP.blk
 have HF:Hid (iO l q∧iK X w.heap.size q∧Below w.heap.size w X):=⟨⟨HQ.2.1.st,HQ.2.1.nT,HQ.2.1.t,HQ.1,HQ.2.1.ul,HQ.2.1.uz,HQ.2.1.r⟩,HQ.2.1.own.box HD (by decide) (by decide) hP.to,HQ.2.2.bel.trans (hP.to.below HQ.2.2.bel.size (fun x hx=>by simp at hx;omega))⟩
 clear hP HL HD HQ
 go_wp2_with fail
 exact bodyPost_ret (ll Tryz.results49 8 _ Tryz.underlying47 rfl jT _ _ (w.heap.size+1) q.cells rfl 47 HK.out rfl) rfl ⟨q,rfl,HF.1,HF.2.1,HF.2.2⟩
def CF (x:Ent):DataW Unit:=.agg [.lit (.int .i64 x.m),.lit (.int .i64 x.p),.lit (.int .i64 x.t)]
theorem DC {x:Ent} (h:CF x=CF y):x=y:=by
 cases x;cases y
 simp [CF] at h
 simp [h]
theorem Gh {x:Ent} (h:x.v=y.v):x=y:=by
 cases x;cases y
 simp [Ent.v] at h
 simp [h]
open Classical in
noncomputable def qO (v:Value):Option (DataW Unit × List MemPlace):=if h:∃ x:Ent,v=x.v then some (CF (Classical.choose h),[]) else none
theorem qN (x:Ent):qO x.v=some (CF x,[]):=by
 unfold qO
 have h:∃ y:Ent,x.v=y.v:=⟨x,rfl⟩
 rw [dif_pos h,←Gh (Classical.choose_spec h)]
theorem sR {x:Ent} {ps:List MemPlace} (h:qO v=some (CF x,ps)):v=x.v:=by
 unfold qO at h
 split at h
 ·
  rename_i hx
  have e:=Classical.choose_spec hx
  simp only [Option.some.injEq,Prod.mk.injEq] at h
  rw [e,DC h.1]
 cases h
def kv (x:Ent):Lit × DataW Unit:=(.int .i64 x.m,CF x)
def mD (L:List Ent):DataW Unit:=.map (L.map kv)
def kI (x:Ent):List Ent→List Ent
 | []=>[x]
 | y :: r=>if x.m<y.m then x :: y :: r else y :: kI x r
def notM (k:Int) (L:List Ent):List Ent:=L.filter fun y=>decide (y.m≠k)
theorem uH (a b:Int):(Lit.int .i64 a).sameKey (Lit.int .i64 b)=decide (a=b):=by simp [Lit.sameKey]
theorem Ef (x:Ent):∀ L:List Ent,DataW.insert (kv x) (L.map kv)=(kI x L).map kv
 | []=>rfl
 | y :: r=>by
  have hb:(kv x).1.before (kv y).1=decide (x.m<y.m):=by simp [kv,Lit.before]
  show DataW.insert (kv x) (kv y :: r.map kv)=_
  unfold DataW.insert kI
  rw [hb]
  by_cases h:x.m<y.m
  ·
   simp [h]
  simp [h,Ef x r]
theorem xk (k:Int) (L:List Ent):(L.map kv).filter (fun p=>!p.1.sameKey (.int .i64 k))=(notM k L).map kv:=by
 unfold notM
 induction L with
 | nil=>rfl
 | cons y r ih =>
  have hb:(kv y).1.sameKey (.int .i64 k)=decide (y.m=k):=uH _ _
  by_cases h:y.m=k
  ·
   simp [List.filter_cons,hb,h,ih]
  simp [List.filter_cons,hb,h,ih]
theorem FH (x:Ent) (L:List Ent):(mD L).put (.int .i64 x.m) (CF x)=mD (kI x (notM x.m L)):=by
 show DataW.map (DataW.insert (kv x) ((L.map kv).filter _))=_
 rw [xk,Ef];rfl
theorem Ec (k:Int) (L:List Ent):(mD L).del (.int .i64 k)=mD (notM k L):=by
 show DataW.map ((L.map kv).filter _)=_
 rw [xk];rfl
theorem vb (L:List Ent):Maps.size (mD L)=L.length:=by simp [mD,Maps.size]
def CE (k:Int) (L:List Ent):Bool:=L.any fun y=>decide (y.m=k)
def atM (k:Int) (L:List Ent):Ent:=(L.find? fun y=>decide (y.m=k)).getD ⟨0,0,0⟩
theorem FI (k:Int) (L:List Ent):Maps.has (mD L) (.int .i64 k)=CE k L:=by
 unfold mD CE
 rw [Maps.has_eq]
 induction L with
 | nil=>rfl
 | cons y r ih =>
  have hb:(kv y).1.sameKey (.int .i64 k)=decide (y.m=k):=uH _ _
  simp only [List.map_cons,List.any_cons,hb,ih]
theorem FJ (k:Int) (L:List Ent):(mD L).atKey (.int .i64 k) (CF ⟨0,0,0⟩)=CF (atM k L):=by
 unfold mD atM
 simp only [DataW.atKey]
 induction L with
 | nil=>rfl
 | cons y r ih =>
  have hb:(kv y).1.sameKey (.int .i64 k)=decide (y.m=k):=uH _ _
  by_cases h:y.m=k
  ·
   simp only [List.map_cons,List.find?_cons,hb,h,decide_true]
   rfl
  simp only [List.map_cons,List.find?_cons,hb,h,decide_false]
  exact ih
theorem mG {k:Int} (h:∀ y∈L,y.m≠k):notM k L=L:=by
 unfold notM
 rw [List.filter_eq_self]
 intro y hy
 simp [h y hy]
theorem sJ {x:Ent}:∀ {L:List Ent},(∀ y∈L,y.m<x.m)→kI x L=L++[x]
 | [],_=>rfl
 | y :: r,h=>by
  have h1:=h y (by simp)
  unfold kI
  rw [if_neg (by omega),sJ (fun z hz=>h z (by simp [hz]))]
  rfl
def iD (n:Nat) (f:Nat→Ent):List Ent:=(List.range n).map f
theorem jG (n:Nat) (f:Nat→Ent):iD (n+1) f=iD n f++[f n]:=by simp [iD,List.range_succ]
theorem jH (n:Nat) (f:Nat→Ent):(iD n f).length=n:=by simp [iD]
theorem ka.lt {n:Nat} {f:Nat→Ent} (h:ka n f):∀ j i,i<j→j<n→(f i).m<(f j).m
 | 0,i,hi,_=>by omega
 | j+1,i,hi,hj=>by
  have h1:=(h (j+1) hj).2 (by omega)
  simp only [Nat.add_sub_cancel] at h1
  by_cases e:i=j
  ·
   subst e;exact h1
  have:=ka.lt h j i (by omega) (by omega)
  omega
theorem ka.below (h:ka n f) (hk:k<n):∀ y∈iD k f,y.m<(f k).m:=by
 intro y hy
 obtain ⟨i,hi,rfl⟩:=List.mem_map.1 hy
 exact h.lt k i (List.mem_range.1 hi) hk
abbrev mO (w:World) (b n:Nat) (L:List Ent):Prop:=w.ownsMap Tryz.prog 2 qO b n (mD L)
theorem FP {k:Int} (h0:-9223372036854775808≤k) (h1:k≤9223372036854775807):keyOf Tryz.prog 2 (.int .i64 k)=some (.int .i64 k) :=
 Maps.keyOf_int_mk Tryz.underlying2 (by simp [Lit.wf,IntKind.min,IntKind.max,IntKind.signed,IntKind.bits];omega)
theorem Dv:(Tryz.prog.info? 71).map (fun i=>(i.zero,i.size,i.bytes))=some (some (.agg #[.int .i64 0,.int .i64 0,.int .i64 0]),3,24):=by kernel_rfl
def kc (x:Ent):List Value:=[.int .i64 x.m,.int .i64 x.p,.int .i64 x.t]
def jd (L:List Ent):List Value:=L.flatMap kc
theorem mZ:∀ L:List Ent,(jd L).length=L.length*3
 | []=>rfl
 | x :: r=>by
  have:=mZ r
  unfold jd at this ⊢
  simp [kc,this];omega
theorem uj (L:List Ent) (x:Ent):jd (L++[x])=jd L++kc x:=by simp [jd]
theorem na:∀ (L:List Ent) (i:Nat),i<L.length→(jd L)[i*3]?=some (.int .i64 (L.getD i default).m)∧(jd L)[i*3+1]?=some (.int .i64 (L.getD i default).p)∧(jd L)[i*3+2]?=some (.int .i64 (L.getD i default).t)
 | [],i,h=>by simp at h
 | x :: r,0,_=>by simp [jd,kc]
 | x :: r,i+1,h=>by
  have hr:=na r i (by simpa using h)
  have e:jd (x :: r)=.int .i64 x.m :: .int .i64 x.p :: .int .i64 x.t :: jd r:=by simp [jd,kc]
  rw [e,show (i+1)*3=i*3+1+1+1 by omega]
  simpa using hr
def mK (w:World) (base:Nat) (v:Value) (L:List Ent):Prop:=w.ownsRow base 71 3 v L.length (jd L)
theorem mK.nil (w:World) (base:Nat):mK w base (.slice none 0 0) []:=World.ownsRow_nil _ _ _ _
theorem ji (w:World) (x:Ent) (t:TypeId):∀ j u,(kc x)[j]?=some u→(w.alloc (.cells #[.int .i64 x.m,.int .i64 x.p,.int .i64 x.t] t)).cell? ((⟨w.heap.size,0,none⟩:Addr).add j)=some u:=by
 intro j u hj
 have hc:=ie (im w (.cells #[.int .i64 x.m,.int .i64 x.p,.int .i64 x.t] t))
 match j,hj with
 | 0,hj=>simpa [kc,Addr.add] using (hc 0).trans hj
 | 1,hj=>simpa [kc,Addr.add] using (hc 1).trans hj
 | 2,hj=>simpa [kc,Addr.add] using (hc 2).trans hj
theorem Bd (x:Ent):∀ u∈kc x,u.oneCell'=true:=by
 intro u hu
 simp [kc] at hu
 rcases hu with rfl | rfl | rfl <;> rfl
theorem mK.row (h:mK w base v L):(v=.slice none 0 0∧L=[])∨∃ g cap,v=.slice (some ⟨g,0,none⟩) L.length cap∧base≤g∧ja g 71 (L.length*3) (flat fun i=>L.getD i default) (L.length*3) w:=by
 rcases h.2 with ⟨h1,h2⟩ | ⟨g,cap,cur,hv,hg,hblk,hn,hc,hs,ht⟩
 ·
  exact .inl ⟨h1,List.eq_nil_of_length_eq_zero h2⟩
 refine .inr ⟨g,cap,hv,hg,cur,hblk,by rw [hs];omega,fun j hj=>?_⟩
 have hg0:cur[j]?=(jd L)[j]?:=by
  rw [←ht,List.getElem?_take_of_lt hj,Array.getElem?_toList]
 rw [hg0]
 obtain ⟨i,hi | hi | hi⟩:∃ i,j=i*3∨j=i*3+1∨j=i*3+2:=⟨j / 3,by omega⟩
 ·
  subst hi;rw [Am,(na L i (by omega)).1]
 ·
  subst hi;rw [DA,(na L i (by omega)).2.1]
 subst hi;rw [Al,(na L i (by omega)).2.2]
theorem mK.read (h:mK w base v L):∃ a cap,v=.slice a L.length cap∧lD w a L.length fun i=>L.getD i default:=by
 rcases h.row with ⟨rfl,rfl⟩ | ⟨g,cap,rfl,_,hr⟩
 ·
  exact ⟨_,_,rfl,lD.nil _ _ _⟩
 exact ⟨_,_,rfl,hr.DB⟩
theorem mK.up (h:mK w base v L) (hb:Below w.heap.size w w'):mK w' base v L:=mq h hb (Nat.le_refl _)
theorem mK.mono (h:mK w base v L) (hb:base'≤base):mK w base' v L:=by
 obtain ⟨h1,h2⟩:=h
 refine ⟨h1,h2.imp id ?_⟩
 rintro ⟨g,cap,cur,hv,hg,hr⟩
 exact ⟨g,cap,cur,hv,by omega,hr⟩
theorem yB (t e:TypeId) (z:Value) (sz bytes:Nat) (hinfo:(Tryz.prog.info? e).map (fun i=>(i.zero,i.size,i.bytes))=some (some z,sz,bytes)) (hu:Tryz.prog.underlying t=some (.slice e)) (h:W.ownsRow base e sz v 0 []) :
  (Builtin.append_ #[t,t] t #[v,.slice none 0 c]).run Tryz.prog W=.ok v W:=by
 obtain ⟨i0,hi,hz0,hz1,hz2⟩:=info_parts hinfo
 rcases h.2 with ⟨rfl,_⟩ | ⟨g,cap,cur,rfl,_⟩
 ·
  simp [Builtin.append_,run_underlying hu,sizeOf,typeInfo,hi,Builtin.lenOf,Builtin.firstCells,loadCells,loadCellsFrom]
 simp [Builtin.append_,run_underlying hu,sizeOf,typeInfo,hi,Builtin.lenOf,Builtin.firstCells,loadCells,loadCellsFrom,storeCells]
def CC (w:World) (a:Option Addr) (xs:List Value):Prop:=∀ j u,xs[j]?=some u→∃ g o,a=some ⟨g,o,none⟩∧w.cell? ⟨g,o+j,none⟩=some u
theorem CC.up {w2:World} (h:CC w a xs) (hb:Below w.heap.size w w2):CC w2 a xs:=fun j u hj=>by
 obtain ⟨g,o,ha,hc⟩:=h j u hj
 exact ⟨g,o,ha,(hb.cell (p:=⟨g,o+j,none⟩) (kQ hc)).trans hc⟩
theorem xz (t e:TypeId) (z:Value) (sz bytes:Nat) (hinfo:(Tryz.prog.info? e).map (fun i=>(i.zero,i.size,i.bytes))=some (some z,sz,bytes)) (hu:Tryz.prog.underlying t=some (.slice e)) (hz:z.cells.size=sz) (hsz:0<sz) (hby:bytes≤1000)
  (h:W.ownsRow base e sz v 0 []) (hb:base≤W.heap.size) (hn:n≤1048576) (hl:xs.length=n*sz) (hr:CC W a xs) (h1:∀ u∈xs,u.oneCell'=true) :
  ∃ a' c' W',(Builtin.append_ #[t,t] t #[v,.slice a n c]).run Tryz.prog W=.ok (.slice a' n c') W'∧OG e sz W' base a' n c' xs∧W.grownBy W' v.ownBlock:=by
 have fin:∀ (v':Value) (W':World),W'.ownsRow base e sz v' n xs→∃ a' c',v'=.slice a' n c'∧OG e sz W' base a' n c' xs:=by
  intro v' W' h2
  rcases h2.2 with ⟨e1,e2⟩ | ⟨g,cap,cur,e1,_⟩
  ·
   subst e1
   subst e2
   exact ⟨none,0,rfl,h2⟩
  refine ⟨some ⟨g,0,none⟩,cap,e1,?_⟩
  rw [e1] at h2
  exact h2
 have hbb:(0+n)*bytes≤140737488355328:=by
  have:=Nat.mul_le_mul (show 0+n≤1048577 by omega) hby
  omega
 obtain ⟨i0,hi,hz0,hz1,hz2⟩:=info_parts hinfo
 cases a with
 | none =>
  have hx:xs=[]:=by
   cases xs with
   | nil=>rfl
   | cons x r =>
    obtain ⟨g,o,ha,_⟩:=hr 0 x rfl
    cases ha
  subst hx
  have hl':n*sz=0:=hl.symm
  have h0:n=0:=(Nat.mul_eq_zero.1 hl').resolve_right (by omega)
  subst h0
  obtain ⟨a',c',rfl,hv⟩:=fin v W h
  exact ⟨a',c',W,yB t e z sz bytes hinfo hu h,hv,⟨rfl,rfl,rfl,Nat.le_refl _,fun _ _ _=>rfl⟩⟩
 | some ad =>
  obtain ⟨v',W',hr',h2,h3,h4,h5⟩:=run_append_own_at (P:=Tryz.prog) W base t t e i0 z sz bytes hu hi hz0 hz1 hz2 hz hsz v 0 [] h ad n c xs hl (fun j u hj=>by
   obtain ⟨g,o,ha,hc⟩:=hr j u hj
   cases ha
   have e0:(⟨g,o,none⟩:Addr).add j=⟨g,o+j,none⟩:=by unfold Addr.add;split <;> simp_all
   rw [e0]
   exact hc) h1 (by unfold maxLen;omega) hbb hb
  rw [Nat.zero_add,List.nil_append] at h2
  obtain ⟨a',c',rfl,hv⟩:=fin v' W' h2
  exact ⟨a',c',W',hr',hv,h3⟩
theorem rA (t e:TypeId) (z:Value) (sz bytes:Nat) (hinfo:(Tryz.prog.info? e).map (fun i=>(i.zero,i.size,i.bytes))=some (some z,sz,bytes)) (hu:Tryz.prog.underlying t=some (.slice e)) (hz:z.cells.size=sz) (hsz:0<sz) (hby:bytes≤1000)
  (hn:n≤1048576) (hl:xs.length=n*sz) (hr:CC W a xs) (h1:∀ u∈xs,u.oneCell'=true) :
  ∃ a' c' W',(Builtin.append_ #[t,t] t #[.slice none 0 0,.slice a n c]).run Tryz.prog W=.ok (.slice a' n c') W'∧OG e sz W' W.heap.size a' n c' xs∧Below W.heap.size W W':=by
 obtain ⟨a',c',W',h2,h3,h4⟩:=xz (c:=c) t e z sz bytes hinfo hu hz hsz hby (World.ownsRow_nil W W.heap.size e sz) (Nat.le_refl _) hn hl hr h1
 exact ⟨a',c',W',h2,h3,(Below.refl _ _).grown h4 (Nat.le_refl _) (fun k e=>by simp [Value.ownBlock] at e)⟩
theorem mJ (t e:TypeId) (z:Value) (sz bytes:Nat) (hinfo:(Tryz.prog.info? e).map (fun i=>(i.zero,i.size,i.bytes))=some (some z,sz,bytes)) (hu:Tryz.prog.underlying t=some (.slice e)) (hz:z.cells.size=sz) (hsz:0<sz) (hby:bytes≤1000)
  (hn:n≤1048576) (hl:xs.length=n*sz) (hr:CC V a xs) (h1:∀ u∈xs,u.oneCell'=true) :
  ∃ a' c' W',(Builtin.append_ #[t,t] t #[.slice (some ⟨V.heap.size,0,none⟩) 0 0,.slice a n c]).run Tryz.prog (V.alloc (.cells #[] e))=.ok (.slice a' n c') W'∧OG e sz W' V.heap.size a' n c' xs∧Below V.heap.size V W':=by
 have hA:Below V.heap.size V (V.alloc (.cells #[] e)):=(Below.refl _ _).alloc (Nat.le_refl _) _
 have hm:(V.alloc (.cells #[] e)).ownsRow V.heap.size e sz (.slice (some ⟨V.heap.size,0,none⟩) 0 0) 0 []:=World.ownsRow_made V #[] 0 (Nat.le_refl _) (Nat.zero_le _) (by simp)
 obtain ⟨a',c',W',h2,h3,h4⟩:=xz (c:=c) t e z sz bytes hinfo hu hz hsz hby hm (by simp) hn hl (hr.up hA) h1
 exact ⟨a',c',W',h2,h3,hA.grown h4 (by simp) (fun k e=>by simp [Value.ownBlock] at e;omega)⟩
def oe (n:Nat) (K:Nat→Pkt):List Value:=(List.range n).flatMap fun i=>(K i).cells.toList
theorem ko (n:Nat) (K:Nat→Pkt):oe (n+1) K=oe n K++(K n).cells.toList:=by simp [oe,List.range_succ]
theorem mC (n:Nat) (K:Nat→Pkt):(oe n K).length=n*8:=by
 induction n with
 | zero=>rfl
 | succ n ih=>rw [ko,List.length_append,ih,Array.length_toList,Pkt.iY];omega
theorem uP (n:Nat) (K:Nat→Pkt) (i j:Nat) (hi:i<n) (hj:j<8):(oe n K)[i*8+j]?=(K i).cells[j]?:=by
 induction n with
 | zero=>omega
 | succ n ih =>
  rw [ko]
  by_cases e:i=n
  ·
   subst e
   rw [List.getElem?_append_right (by rw [mC];omega),mC,show i*8+j-i*8=j by omega,Array.getElem?_toList]
  rw [List.getElem?_append_left (by rw [mC];omega)]
  exact ih (by omega)
theorem wG (n:Nat) (K:Nat→Pkt) (j:Nat) (hj:j<n*8):(oe n K)[j]?=some (xg K j):=by
 have h:=uP n K (j / 8) (j % 8) (by omega) (by omega)
 rw [show j / 8*8+j % 8=j by omega] at h
 rw [h,←qj K (j / 8) (j % 8) (by omega),show j / 8*8+j % 8=j by omega]
theorem rH (n:Nat) (K:Nat→Pkt):∀ u∈oe n K,u.oneCell'=true:=by
 intro u hu
 unfold oe at hu
 simp only [List.mem_flatMap,List.mem_range] at hu
 obtain ⟨i,_,hu⟩:=hu
 exact (Array.all_eq_true_iff_forall_mem.1 (Pkt.lF (K i))) u (by simpa using hu)
theorem pI.cs {K:Nat→Pkt} (h:pI w a n K):CC w a (oe n K):=by
 intro j u hj
 have hlt:j<n*8:=by
  have:=(List.getElem?_eq_some_iff.1 hj).1
  rwa [mC] at this
 obtain ⟨g,o,ha,hc⟩:=h (j / 8) (by omega)
 refine ⟨g,o,ha,?_⟩
 have h2:=hc (j % 8) (by omega)
 rw [show o+j / 8*8+j % 8=o+j by omega] at h2
 rw [h2,←uP n K (j / 8) (j % 8) (by omega) (by omega),show j / 8*8+j % 8=j by omega]
 exact hj
def vM (n:Nat) (L:Nat→Lng):List Value:=(List.range n).flatMap fun i=>(L i).cells.toList
theorem ow (n:Nat) (L:Nat→Lng):vM (n+1) L=vM n L++(L n).cells.toList:=by simp [vM,List.range_succ]
theorem ny (n:Nat) (L:Nat→Lng):(vM n L).length=n*8:=by
 induction n with
 | zero=>rfl
 | succ n ih=>rw [ow,List.length_append,ih,Array.length_toList,Lng.iY];omega
theorem Dp {L L':Nat→Lng} (h:∀ i,i<n→L i=L' i):vM n L=vM n L':=by
 induction n with
 | zero=>rfl
 | succ n ih=>rw [ow,ow,ih (fun i hi=>h i (by omega)),h n (by omega)]
theorem rJ (n:Nat) (L:Nat→Lng) (i j:Nat) (hi:i<n) (hj:j<8):(vM n L)[i*8+j]?=(L i).cells[j]?:=by
 induction n with
 | zero=>omega
 | succ n ih =>
  rw [ow]
  by_cases e:i=n
  ·
   subst e
   rw [List.getElem?_append_right (by rw [ny];omega),ny,show i*8+j-i*8=j by omega,Array.getElem?_toList]
  rw [List.getElem?_append_left (by rw [ny];omega)]
  exact ih (by omega)
theorem sw (n:Nat) (L:Nat→Lng) (j:Nat) (hj:j<n*8):(vM n L)[j]?=some (xh L j):=by
 have h:=rJ n L (j / 8) (j % 8) (by omega) (by omega)
 rw [show j / 8*8+j % 8=j by omega] at h
 rw [h,←nF L (j / 8) (j % 8) (by omega),show j / 8*8+j % 8=j by omega]
theorem lD.cs (h:lD w a n f):CC w a (jd (iD n f)):=by
 intro j u hj
 have hlt:j<n*3:=by
  have:=(List.getElem?_eq_some_iff.1 hj).1
  rwa [mZ,jH] at this
 have hg:∀ i,i<n→(iD n f).getD i default=f i:=fun i hi=>by simp [iD,hi]
 obtain ⟨i,hm⟩:∃ i,j=i*3∨j=i*3+1∨j=i*3+2:=⟨j / 3,by omega⟩
 obtain ⟨g,o,ha,h1,h2,h3⟩:=h i (by omega)
 obtain ⟨q1,q2,q3⟩:=na (iD n f) i (by rw [jH];omega)
 rw [hg _ (by omega)] at q1 q2 q3
 refine ⟨g,o,ha,?_⟩
 rcases hm with e | e | e
 ·
  subst e
  rw [q1] at hj
  cases hj
  exact h1
 ·
  subst e
  rw [q2] at hj
  cases hj
  rw [←Nat.add_assoc]
  exact h2
 subst e
 rw [q3] at hj
 cases hj
 rw [←Nat.add_assoc]
 exact h3
theorem xi (L:List Ent):∀ u∈jd L,u.oneCell'=true:=by
 intro u hu
 unfold jd at hu
 simp only [List.mem_flatMap] at hu
 obtain ⟨x,_,hu⟩:=hu
 exact Bd x u hu
theorem Aj (n:Nat) (f:Nat→Ent) (j:Nat) (hj:j<n*3):(jd (iD n f))[j]?=some (flat f j):=by
 have hg:∀ i,i<n→(iD n f).getD i default=f i:=fun i hi=>by simp [iD,hi]
 obtain ⟨i,hm⟩:∃ i,j=i*3∨j=i*3+1∨j=i*3+2:=⟨j / 3,by omega⟩
 obtain ⟨q1,q2,q3⟩:=na (iD n f) i (by rw [jH];omega)
 rw [hg _ (by omega)] at q1 q2 q3
 rcases hm with e | e | e
 ·
  subst e
  rw [q1,Am]
 ·
  subst e
  rw [q2,DA]
 subst e
 rw [q3,Al]
def Lng.oK (l:Lng):List Nat:=iI l.aU++jR l.R.aS l.R.nS
theorem iK.tnd {l:Lng} (h:iK w base l):l.oK.Nodup :=
 List.nodup_append.2 ⟨lB _,qP _ _,fun x hx y hy e=>h.su y hy (e▸hx)⟩
theorem iK.Fm {l:Lng} (h:iK w base l):∀ x∈l.oK,base≤x∧x<w.heap.size:=by
 intro x hx
 rcases List.mem_append.1 hx with hx | hx
 ·
  exact h.u.blk x hx
 exact (h.r.own.s.vP x hx).1
theorem iK.xL {l:Lng} (h:iK w base l):∀ x∈l.oK,∃ cs,w.heap[x]?=some (.cells cs 27 (0,0)):=by
 intro x hx
 rcases List.mem_append.1 hx with hx | hx
 ·
  exact h.u.type x hx
 exact (h.r.own.s.vP x hx).2
structure kF (w:World) (base:Nat) (aL:Option Addr) (nL cL:Nat) (L:Nat→Lng):Prop where
 l:OG 47 8 w base aL nL cL (vM nL L)
 ls:∀ i,i<nL→iK w base (L i)
 nd:((List.range nL).flatMap fun i=>(L i).jN).Nodup
 td:((List.range nL).flatMap fun i=>(L i).oK).Nodup
theorem kF.up {L:Nat→Lng} (h:kF w base aL nL cL L) (hb:Below w.heap.size w w'):kF w' base aL nL cL L:=⟨h.l.up hb,fun i hi=>(h.ls i hi).up hb,h.nd,h.td⟩
theorem kF.mono {L:Nat→Lng} (h:kF w base aL nL cL L) (hb:base'≤base):kF w base' aL nL cL L:=⟨h.l.mono hb,fun i hi=>(h.ls i hi).mono hb,h.nd,h.td⟩
theorem kF.box {g:Nat} {L:Nat→Lng} {cs:Array Value} (h:kF w base aL nL cL L) (hg:w.heap[g]?=some (.cells cs t (0,0))) (ht2:t≠2) (hts:t≠27) (htl:47≠t) (ht:Touch [g] w w'):kF w' base aL nL cL L :=
 ⟨h.l.iu ht (fun x hx hy=>h.l.lM htl hg ((List.mem_singleton.1 hy)▸hx)),fun i hi=>(h.ls i hi).box hg ht2 hts ht,h.nd,h.td⟩
theorem kF.nil (w:World) (base:Nat) (L:Nat→Lng):kF w base none 0 0 L:=⟨OG.nil _ _ _ _,fun i hi=>absurd hi (Nat.not_lt_zero _),by simp,by simp⟩
theorem kF.more {g:Nat} {L:Nat→Lng} {l2:Lng} (h:kF V base aL k cL L) (hb:Below V.heap.size V V1) (hbase:base≤V.heap.size) (ho:iK V1 V.heap.size l2)
  (hu:OG 47 8 W base (some ⟨g,0,none⟩) (k+1) c2 (vM k L++l2.cells.toList)) (ht:Touch (iI aL) V1 W):kF W base (some ⟨g,0,none⟩) (k+1) c2 (fun i=>if i=k then l2 else L i):=by
 have h1:=h.up hb
 have far:∀ {b:Nat} {l:Lng},iK V1 b l→iK W b l:=fun hl=>hl.kk ht (fun x hx hy=>by
   obtain ⟨cs,e1⟩:=hl.type2 x hx
   exact h1.l.lM (by decide) e1 hy) (fun x hx hy=>by
   obtain ⟨cs,e1⟩:=hl.u.type x hx
   exact h1.l.lM (by decide) e1 hy) (fun x hx hy=>by
   obtain ⟨_,cs,e1⟩:=hl.r.own.s.vP x hx
   exact h1.l.lM (by decide) e1 hy)
 refine ⟨?_,fun i hi=>?_,?_,?_⟩
 ·
  rw [ow,Dp (L':=L) (fun i hi=>if_neg (by omega)),if_pos rfl]
  exact hu
 ·
  by_cases e:i=k
  ·
   rw [if_pos e]
   exact (far ho).mono hbase
  rw [if_neg e]
  exact far (h1.ls i (by omega))
 ·
  rw [List.range_succ,List.flatMap_append]
  simp only [List.flatMap_cons,List.flatMap_nil,List.append_nil,if_true]
  rw [js (f:=fun i=>(if i=k then l2 else L i).jN) (g:=fun i=>(L i).jN) (fun i hi=>by rw [if_neg (by omega)])]
  refine sr h.nd ho.nd V.heap.size (fun x hx=>?_) (fun x hx=>(ho.blk x hx).1)
  simp only [List.mem_flatMap,List.mem_range] at hx
  obtain ⟨i,hi,hx⟩:=hx
  exact ((h.ls i hi).blk x hx).2
 rw [List.range_succ,List.flatMap_append]
 simp only [List.flatMap_cons,List.flatMap_nil,List.append_nil,if_true]
 rw [js (f:=fun i=>(if i=k then l2 else L i).oK) (g:=fun i=>(L i).oK) (fun i hi=>by rw [if_neg (by omega)])]
 refine sr h.td ho.tnd V.heap.size (fun x hx=>?_) (fun x hx=>(ho.Fm x hx).1)
 simp only [List.mem_flatMap,List.mem_range] at hx
 obtain ⟨i,hi,hx⟩:=hx
 exact ((h.ls i hi).Fm x hx).2
structure iG (w:World) (base:Nat) (S:Swg):Prop where
 e:OG 71 3 w base S.aE S.nE S.cE (jd (iD S.nE S.e))
 n:iN w base S.N
 k:OG 51 8 w base S.aK S.nK S.cK (oe S.nK S.K)
 l:kF w base S.aL S.nL S.cL S.L
 un:∀ x∈ku S.N.aU S.N.nU,x∉(List.range S.nL).flatMap fun i=>(S.L i).jN
theorem Ed (l:Lng):∀ x∈l.Fq,x∈l.jN:=by
 intro x hx
 have hv:∀ {a:Option Addr} {n:Nat},x∈ku a n→x∈iI a:=fun h=>(rS _ _).subset h
 unfold Lng.Fq at hx
 unfold Lng.jN Rnd.jN
 simp only [List.mem_append,DO,jF] at hx ⊢
 rcases hx with hx | ⟨i,hi,hx⟩ | hx | hx | ⟨i,hi,hx⟩
 ·
  exact .inl (.inl (hv hx))
 ·
  exact .inr ⟨i,hi,hv hx⟩
 ·
  exact .inl (.inr (.inl hx))
 ·
  exact .inl (.inr (.inr (.inl hx)))
 exact .inl (.inr (.inr (.inr ⟨i,hi,hv hx⟩)))
theorem E5 {f g:Nat→List Nat}:∀ n,((List.range n).flatMap g).Nodup→(∀ i,i<n→(f i).Nodup)→(∀ i,i<n→∀ x∈f i,x∈g i)→((List.range n).flatMap f).Nodup:=by
 intro n hg hf hs
 refine mW n hf (fun i j hi hj hne x hx hy=>?_)
 have:∀ n,((List.range n).flatMap g).Nodup→∀ i j,i<j→j<n→∀ x,x∈g i→x∉g j:=by
  intro n
  induction n with
  | zero=>intro _ i j _ hj;omega
  | succ n ih =>
   intro hn i j hij hj x h1 h2
   rw [List.range_succ,List.flatMap_append] at hn
   simp only [List.flatMap_cons,List.flatMap_nil,List.append_nil] at hn
   obtain ⟨n1,n2,n3⟩:=List.nodup_append.1 hn
   by_cases e:j=n
   ·
    subst e
    exact n3 x (by simp only [List.mem_flatMap,List.mem_range];exact ⟨i,hij,h1⟩) x h2 rfl
   exact ih n1 i j hij (by omega) x h1 h2
 rcases Nat.lt_or_gt_of_ne hne with h | h
 ·
  exact this n hg i j h hj x (hs i hi x hx) (hs j hj x hy)
 exact this n hg j i h hi x (hs j hj x hy) (hs i hi x hx)
theorem iG.g {S:Swg} (h:iG w base S):Fk w base S:=by
 refine ⟨h.e.vt (fun i hi=>Aj _ _ i hi),h.n.u,h.n.p,h.k.vt (fun i hi=>wG _ _ i hi),h.l.l.vt (fun i hi=>sw _ _ i hi),fun i hi=>(h.l.ls i hi).g,?_⟩
 refine List.nodup_append.2 ⟨Av _ _,E5 _ h.l.nd (fun i hi=>(h.l.ls i hi).g.nd) (fun i hi=>Ed _),fun x hx y hy e=>h.un x hx ?_⟩
 subst e
 simp only [List.mem_flatMap,List.mem_range] at hy ⊢
 obtain ⟨i,hi,hy⟩:=hy
 exact ⟨i,hi,Ed _ x hy⟩
theorem lp {cs:Array Value} (h:o+cs.size≤cur.size) (j:Nat) (hj:o+cs.size≤j):(lay cur o cs)[j]?=cur[j]?:=by
 unfold lay
 simp only [List.getElem?_toArray]
 rw [List.getElem?_append_right (by simp;omega),List.getElem?_drop,←Array.getElem?_toList]
 congr 1
 simp
 omega
theorem pY {a:Array Value} (h:o+a.size≤cur.size) (hk:k+b.size≤a.size):lay (lay cur o a) (o+k) b=lay cur o (lay a k b):=by
 have s1:=kp h
 have s2:=kp (cur:=a) (cs:=b) (o:=k) hk
 have h1:o+k+b.size≤(lay cur o a).size:=by omega
 have h2:o+(lay a k b).size≤cur.size:=by omega
 refine Array.ext_getElem? fun j=>?_
 by_cases e1:j<o
 ·
  rw [ox h1 j (by omega),ox h j e1,ox h2 j e1]
 by_cases e2:j<o+a.size
 ·
  have q:=lv h2 (j-o) (by omega)
  have q2:=lv h (j-o) (by omega)
  rw [show o+(j-o)=j by omega] at q q2
  rw [q]
  by_cases e3:j-o<k
  ·
   rw [ox hk _ e3,ox h1 j (by omega)]
   exact q2
  by_cases e4:j-o<k+b.size
  ·
   have q3:=lv hk (j-o-k) (by omega)
   have q4:=lv h1 (j-o-k) (by omega)
   rw [show k+(j-o-k)=j-o by omega] at q3
   rw [show o+k+(j-o-k)=j by omega] at q4
   rw [q3,q4]
  rw [lp hk _ (by omega),lp h1 j (by omega)]
  exact q2
 rw [lp h1 j (by omega),lp h j (by omega),lp h2 j (by omega)]
theorem Br {cs:Array Value} (h:o+cs.size≤cur.size) (hc:∀ j,j<cs.size→cur[o+j]?=cs[j]?):lay cur o cs=cur:=by
 refine Array.ext_getElem? fun j=>?_
 by_cases h1:j<o
 ·
  exact ox h j h1
 by_cases h2:j<o+cs.size
 ·
  have e:=lv h (j-o) (by omega)
  have e2:=hc (j-o) (by omega)
  rw [show o+(j-o)=j by omega] at e e2
  rw [e,e2]
 exact lp h j (by omega)
theorem iT {y:Nat} {a:Array Value} (hx:w.heap[x]?=some (.cells a t (0,0))) (hy:w.heap[y]?=some (.cells b t' (0,0))) (hne:t≠t'):x≠y:=by
 intro e
 subst e
 rw [hx] at hy
 simp at hy
 exact hne hy.2
theorem kr {f:Nat→List Nat}:∀ n,((List.range n).flatMap f).Nodup→∀ i k,i<n→k<n→i≠k→∀ x∈f i,x∉f k
 | 0,_,i,_,hi,_,_=>by omega
 | n+1,h,i,k,hi,hk,hne=>by
  rw [List.range_succ,List.flatMap_append] at h
  simp only [List.flatMap_cons,List.flatMap_nil,List.append_nil] at h
  obtain ⟨h1,h2,h3⟩:=List.nodup_append.1 h
  intro x hx hy
  by_cases ei:i=n
  ·
   subst ei
   exact h3 x (by simp only [List.mem_flatMap,List.mem_range];exact ⟨k,by omega,hy⟩) x hx rfl
  by_cases ek:k=n
  ·
   subst ek
   exact h3 x (by simp only [List.mem_flatMap,List.mem_range];exact ⟨i,by omega,hx⟩) x hy rfl
  exact kr n h1 i k (by omega) (by omega) hne x hx hy
structure Es (w w':World) (base gL gp o:Nat) (cur:Array Value) (l l2:Lng):Prop where
 blk:w'.heap[gL]?=some (.cells (lay cur o l2.cells) 47 (0,0))
 own:iK w' base l2
 z:∀ x∈l2.jN,x∈l.jN∨w.heap.size≤x
 t:∀ x∈l2.oK,x∈l.oK∨w.heap.size≤x
 hit:∃ T,Touch T w w'∧∀ x∈T,x=gL∨x=gp∨x∈l.jN∨x∈l.oK
theorem kF.at {L:Nat→Lng} (h:kF w base aL nL cL L) (h0:0<nL):∃ gL cur,aL=some ⟨gL,0,none⟩∧base≤gL∧w.heap[gL]?=some (.cells cur 47 (0,0))∧nL*8≤cur.size∧(∀ i,i<nL→lay cur (i*8) (L i).cells=cur)∧∀ i,i<nL→∀ j,j<8→cur[i*8+j]?=(L i).cells[j]?:=by
 rcases h.l.2 with ⟨_,e⟩ | ⟨g,cap,cur,e,hg,hbk,hn,hm,hs,ht⟩
 ·
  omega
 cases e
 have hsz:nL*8≤cur.size:=by rw [hs];exact Nat.mul_le_mul_right _ hn
 have hc:∀ i,i<nL→∀ j,j<8→cur[i*8+j]?=(L i).cells[j]?:=fun i hi j hj=>by
  rw [←Array.getElem?_toList,←List.getElem?_take_of_lt (show i*8+j<nL*8 by omega),ht]
  exact rJ nL L i j hi hj
 exact ⟨g,cur,rfl,hg,hbk,hsz,fun i hi=>Br (by rw [Lng.iY];omega) (fun j hj=>hc i hi j (by rw [Lng.iY] at hj;exact hj)),hc⟩
theorem kF.swap {gL gp:Nat} {L:Nat→Lng} {l2:Lng} {cp:Array Value} (h:kF w base aL nL cL L) (hi:i<nL) (eL:aL=some ⟨gL,0,none⟩) (kL:w.heap[gL]?=some (.cells cur 47 (0,0))) (kP:w.heap[gp]?=some (.cells cp 51 (0,0))) (hn:Es w w' base gL gp (i*8) cur (L i) l2) :
  kF w' base aL nL cL (fun k=>if k=i then l2 else L k):=by
 obtain ⟨T,hto,hT⟩:=hn.hit
 refine ⟨?_,fun k hk=>?_,?_,?_⟩
 ·
  subst eL
  have hl:w.ownsRow base 47 8 (.slice (some ⟨gL,0,none⟩) nL cL) nL (vM nL L):=h.l
  show w'.ownsRow base 47 8 (.slice (some ⟨gL,0,none⟩) nL cL) nL _
  refine ⟨ny _ _,?_⟩
  rcases hl.2 with ⟨_,e⟩ | ⟨g,cap,cur',e,hg,hbk,h1,hm,hs,ht⟩
  ·
   omega
  cases e
  rw [kL] at hbk
  cases hbk
  have hsz:nL*8≤cur.size:=by rw [hs];exact Nat.mul_le_mul_right _ h1
  have hf:i*8+l2.cells.size≤cur.size:=by rw [Lng.iY];omega
  refine .inr ⟨gL,cL,_,rfl,hg,hn.blk,h1,hm,by rw [kp hf];exact hs,?_⟩
  refine List.ext_getElem? fun j=>?_
  by_cases hj:j<nL*8
  ·
   rw [List.getElem?_take_of_lt hj,sw nL _ j hj,Array.getElem?_toList]
   have hfl:=nF (fun k=>if k=i then l2 else L k) (j / 8) (j % 8) (by omega)
   rw [show j / 8*8+j % 8=j by omega] at hfl
   rw [hfl]
   by_cases e:j / 8=i
   ·
    rw [if_pos e]
    have q:=lv hf (j % 8) (by rw [Lng.iY];omega)
    rw [show i*8+j % 8=j by omega] at q
    exact q
   rw [if_neg e]
   have hc:=rJ nL L (j / 8) (j % 8) (by omega) (by omega)
   rw [show j / 8*8+j % 8=j by omega,←ht,List.getElem?_take_of_lt hj,Array.getElem?_toList] at hc
   rw [←hc]
   rcases Nat.lt_or_ge j (i*8) with c | c
   ·
    exact ox hf j c
   exact lp hf j (by rw [Lng.iY];omega)
  rw [List.getElem?_eq_none (by rw [List.length_take];omega),List.getElem?_eq_none (by rw [ny];omega)]
 ·
  show iK w' base (if k=i then l2 else L k)
  by_cases e:k=i
  ·
   rw [if_pos e]
   exact hn.own
  rw [if_neg e]
  have ok:=h.ls k hk
  have oi:=h.ls i hi
  refine ok.kk hto (fun x hx hy=>?_) (fun x hx hy=>?_) (fun x hx hy=>?_)
  ·
   obtain ⟨cs,k1⟩:=ok.type2 x hx
   rcases hT x hy with e1 | e1 | e1 | e1
   ·
    exact iT k1 kL (by decide) e1
   ·
    exact iT k1 kP (by decide) e1
   ·
    exact kr _ h.nd k i hk hi e x hx e1
   obtain ⟨c2,k2⟩:=oi.xL x e1
   exact dw
  ·
   obtain ⟨cs,k1⟩:=ok.u.type x hx
   rcases hT x hy with e1 | e1 | e1 | e1
   ·
    exact iT k1 kL (by decide) e1
   ·
    exact iT k1 kP (by decide) e1
   ·
    obtain ⟨c2,k2⟩:=oi.type2 x e1
    exact dw
   exact kr _ h.td k i hk hi e x (List.mem_append_left _ hx) e1
  obtain ⟨_,cs,k1⟩:=ok.r.own.s.vP x hx
  rcases hT x hy with e1 | e1 | e1 | e1
  ·
   exact iT k1 kL (by decide) e1
  ·
   exact iT k1 kP (by decide) e1
  ·
   obtain ⟨c2,k2⟩:=oi.type2 x e1
   exact dw
  exact kr _ h.td k i hk hi e x (List.mem_append_right _ hx) e1
 ·
  refine mW nL (fun k hk=>?_) (fun j k hj hk hne x hx hy=>?_)
  ·
   show (if k=i then l2 else L k).jN.Nodup
   by_cases e:k=i
   ·
    rw [if_pos e];exact hn.own.nd
   rw [if_neg e];exact (h.ls k hk).nd
  have hx':x∈(if j=i then l2 else L j).jN:=hx
  have hy':x∈(if k=i then l2 else L k).jN:=hy
  by_cases e:j=i
  ·
   rw [if_pos e] at hx'
   rw [if_neg (fun e2=>hne (e.trans e2.symm))] at hy'
   rcases hn.z x hx' with e1 | e1
   ·
    exact kr _ h.nd k i hk hi (fun e2=>hne (e.trans e2.symm)) x hy' e1
   have:=((h.ls k hk).blk x hy').2
   omega
  rw [if_neg e] at hx'
  by_cases e2:k=i
  ·
   rw [if_pos e2] at hy'
   rcases hn.z x hy' with e1 | e1
   ·
    exact kr _ h.nd j i hj hi e x hx' e1
   have:=((h.ls j hj).blk x hx').2
   omega
  rw [if_neg e2] at hy'
  exact kr _ h.nd j k hj hk hne x hx' hy'
 refine mW nL (fun k hk=>?_) (fun j k hj hk hne x hx hy=>?_)
 ·
  show (if k=i then l2 else L k).oK.Nodup
  by_cases e:k=i
  ·
   rw [if_pos e];exact hn.own.tnd
  rw [if_neg e];exact (h.ls k hk).tnd
 have hx':x∈(if j=i then l2 else L j).oK:=hx
 have hy':x∈(if k=i then l2 else L k).oK:=hy
 by_cases e:j=i
 ·
  rw [if_pos e] at hx'
  rw [if_neg (fun e2=>hne (e.trans e2.symm))] at hy'
  rcases hn.t x hx' with e1 | e1
  ·
   exact kr _ h.td k i hk hi (fun e2=>hne (e.trans e2.symm)) x hy' e1
  have:=((h.ls k hk).Fm x hy').2
  omega
 rw [if_neg e] at hx'
 by_cases e2:k=i
 ·
  rw [if_pos e2] at hy'
  rcases hn.t x hy' with e1 | e1
  ·
   exact kr _ h.td j i hj hi e x hx' e1
  have:=((h.ls j hj).Fm x hx').2
  omega
 rw [if_neg e2] at hy'
 exact kr _ h.td j k hj hk hne x hx' hy'
theorem vL {f:Nat→Int} (h:OI w base a n c f) (hl:n≤1048576) (hb:base≤w.heap.size) (s:Int) :
  ∃ g c' W,(Builtin.append_ #[27,27] 27 #[.slice a n c,.slice (some ⟨w.heap.size,0,none⟩) 1 1]).run Tryz.prog (w.alloc (.cells #[.int .i64 s] 2))=.ok (.slice (some ⟨g,0,none⟩) (n+1) c') W∧OI W base (some ⟨g,0,none⟩) (n+1) c' (jM n s f)∧Touch (iI a) w W∧(g∈iI a∨w.heap.size≤g):=by
 have h0:OG 2 1 w base a n c (kW n f):=h
 obtain ⟨g,c',W,h1,h2,h3,h4⟩:=lH 27 2 (.int .i64 0) 1 8 rD Tryz.underlying27 rfl (by decide) (by decide) h0 hl hb #[.int .i64 s] rfl (by simp [Value.oneCell'])
 have e:kW n f++(#[.int .i64 s]:Array Value).toList=kW (n+1) (jM n s f):=ug n s f
 rw [e] at h2
 exact ⟨g,c',W,h1,h2,h3,h4⟩
def Lng.nV (l:Lng) (id:Int) (a:Option Addr) (c:Nat):Lng:={ l with aT:=a,nT:=l.nT+1,cT:=c,t:=jM l.nT id l.t }
def Lng.lK (l:Lng) (k:Nat) (id:Int) (a:Option Addr) (c:Nat):Lng :=
 { l with uA:=fun i=>if i=k then a else l.uA i,uL:=fun i=>if i=k then l.uL k+1 else l.uL i,uC:=fun i=>if i=k then c else l.uC i,uz:=fun i j=>if i=k then jM (l.uL k) id (l.uz k) j else l.uz i j }
def Lng.wait (l:Lng) (p id cl:Int):Lng:=if p=2 then l.nV id none 0 else { l.lK p.toNat id none 0 with R:=l.R.push p.toNat cl none 0 }
theorem nd3 {A B C:List Nat}:((A++B)++C).Nodup↔(A.Nodup∧B.Nodup∧C.Nodup)∧(∀ x∈A,x∉B)∧(∀ x∈A,x∉C)∧∀ x∈B,x∉C:=by
 constructor
 ·
  intro h
  obtain ⟨h1,h2,h3⟩:=List.nodup_append.1 h
  obtain ⟨h4,h5,h6⟩:=List.nodup_append.1 h1
  exact ⟨⟨h4,h5,h2⟩,fun x hx hy=>h6 x hx x hy rfl,fun x hx hy=>h3 x (List.mem_append_left _ hx) x hy rfl,fun x hx hy=>h3 x (List.mem_append_right _ hx) x hy rfl⟩
 rintro ⟨⟨h1,h2,h3⟩,h4,h5,h6⟩
 refine List.nodup_append.2 ⟨List.nodup_append.2 ⟨h1,h2,fun x hx y hy e=>h4 x hx (e▸hy)⟩,h3,fun x hx y hy e=>?_⟩
 rcases List.mem_append.1 hx with hx | hx
 ·
  exact h5 x hx (e▸hy)
 exact h6 x hx (e▸hy)
theorem mI {g:Nat} (h:x∈iI (some ⟨g,0,none⟩)):x=g:=by simpa [iI] using h
theorem iK.aps {l:Lng} (h:iK w base l):(∀ x∈iI l.aT,x∉l.R.jN)∧(∀ x∈iI l.aT,x∉flO l.nU l.uA)∧∀ x∈l.R.jN,x∉flO l.nU l.uA:=(nd3.1 h.nd).2
theorem iK.inT {l:Lng} (h:x∈iI l.aT):x∈l.jN:=List.mem_append_left _ (List.mem_append_left _ h)
theorem iK.inR {l:Lng} (h:x∈l.R.jN):x∈l.jN:=List.mem_append_left _ (List.mem_append_right _ h)
theorem iK.inU {l:Lng} (hi:i<l.nU) (h:x∈iI (l.uA i)):x∈l.jN:=List.mem_append_right _ (jF.2 ⟨i,hi,h⟩)
theorem iK.Di {l:Lng} (h:iK w base l) (hx:x∈l.jN) (hy:x∈l.oK):False:=by
 obtain ⟨c1,k1⟩:=h.type2 x hx
 obtain ⟨c2,k2⟩:=h.xL x hy
 exact dw
theorem iK.nV {g:Nat} {l:Lng} (h:iK w base l) (ha:OI W base (some ⟨g,0,none⟩) (l.nT+1) c (jM l.nT id l.t)) (ht:Touch (iI l.aT) w W) (hg:g∈iI l.aT∨w.heap.size≤g):iK W base (l.nV id (some ⟨g,0,none⟩) c):=by
 obtain ⟨a1,a2,a3⟩:=h.aps
 have b:=h.blk
 refine ⟨ha,h.u.iu ht (fun x hx hy=>h.Di (iK.inT hy) (List.mem_append_left _ hx)),fun i hi=>(h.z i hi).iu ht (fun x hx hy=>a2 x hy (jF.2 ⟨i,hi,hx⟩)),h.r.vZ ht (fun x hx hy=>a1 x hy hx) (fun x hx hy=>h.Di (iK.inT hy) (List.mem_append_right _ hx)),?_,h.su⟩
 obtain ⟨⟨n1,n2,n3⟩,_⟩:=nd3.1 h.nd
 refine nd3.2 ⟨⟨lB _,n2,n3⟩,fun x hx hy=>?_,fun x hx hy=>?_,a3⟩
 ·
  obtain rfl:=mI hx
  rcases hg with hg | hg
  ·
   exact a1 x hg hy
  have:=(b x (iK.inR hy)).2
  omega
 obtain rfl:=mI hx
 rcases hg with hg | hg
 ·
  exact a2 x hg hy
 have:=(b x (List.mem_append_right _ hy)).2
 omega
theorem AN {l:Lng} {g:Nat} (hg:g∈iI l.aT∨w.heap.size≤g):∀ x∈(l.nV id (some ⟨g,0,none⟩) c).jN,x∈l.jN∨w.heap.size≤x:=by
 intro x hx
 rcases List.mem_append.1 hx with hx | hx
 ·
  rcases List.mem_append.1 hx with hx | hx
  ·
   obtain rfl:=mI hx
   rcases hg with hg | hg
   ·
    exact .inl (iK.inT hg)
   exact .inr hg
  exact .inl (iK.inR hx)
 exact .inl (List.mem_append_right _ hx)
theorem OG.FB {g:Nat} (h:OG t 1 w base (some ⟨g,0,none⟩) n c xs) (kG:w.heap[g]?=some (.cells cur t (0,0))) (hk:k<n) (hP:Put w X g (lay cur k #[v]) t):OG t 1 X base (some ⟨g,0,none⟩) n c (xs.set k v):=by
 have h':w.ownsRow base t 1 (.slice (some ⟨g,0,none⟩) n c) n xs:=h
 show X.ownsRow base t 1 (.slice (some ⟨g,0,none⟩) n c) n _
 refine ⟨by rw [List.length_set];exact h'.1,?_⟩
 rcases h'.2 with ⟨_,e⟩ | ⟨g2,cap,cur',e,hg,hbk,h1,hm,hs,ht⟩
 ·
  omega
 cases e
 rw [kG] at hbk
 cases hbk
 have hf:k+(#[v]:Array Value).size≤cur.size:=by show k+1≤_;rw [hs];omega
 refine .inr ⟨g,c,_,rfl,hg,hP.blk,h1,hm,by rw [kp hf];exact hs,?_⟩
 refine List.ext_getElem? fun j=>?_
 rw [←ht]
 by_cases hj:j<n*1
 ·
  rw [List.getElem?_take_of_lt hj,Array.getElem?_toList]
  by_cases e:j=k
  ·
   subst e
   have q:=lv hf 0 (by show 0<1;omega)
   rw [Nat.add_zero] at q
   rw [q,List.getElem?_set_self (by rw [List.length_take,Array.length_toList,hs];omega)]
   rfl
  rw [List.getElem?_set_ne (by omega),List.getElem?_take_of_lt hj,Array.getElem?_toList]
  rcases Nat.lt_or_ge j k with c | c
  ·
   exact ox hf j c
  exact lp hf j (by show k+1≤j;omega)
 rw [List.getElem?_eq_none (by rw [List.length_take];omega),List.getElem?_eq_none (by rw [List.length_set,List.length_take];omega)]
theorem CV (A:Nat→Option Addr) (L C:Nat→Nat) (a:Option Addr) (l c:Nat) (hk:k<n):(rB n A L C).set k (.slice a l c)=rB n (fun i=>if i=k then a else A i) (fun i=>if i=k then l else L i) (fun i=>if i=k then c else C i):=by
 refine List.ext_getElem? fun j=>?_
 by_cases hj:j<n
 ·
  rw [oL _ _ _ _ _ hj]
  by_cases e:j=k
  ·
   subst e
   rw [List.getElem?_set_self (by simp [rB];omega),if_pos rfl,if_pos rfl,if_pos rfl]
  rw [List.getElem?_set_ne (by omega),oL _ _ _ _ _ hj,if_neg e,if_neg e,if_neg e]
 rw [List.getElem?_eq_none (by simp [rB];omega),List.getElem?_eq_none (by simp [rB];omega)]
theorem iK.lK {g gu:Nat} {l:Lng} (h:iK w base l) (hk:k<l.nU) (eU:l.aU=some ⟨gu,0,none⟩) (ha:OI W base (some ⟨g,0,none⟩) (l.uL k+1) c (jM (l.uL k) id (l.uz k))) (ht:Touch (iI (l.uA k)) w W) (hg:g∈iI (l.uA k)∨w.heap.size≤g)
  (kU:W.heap[gu]?=some (.cells cur 27 (0,0))) (hP:Put W X gu (lay cur k #[.slice (some ⟨g,0,none⟩) (l.uL k+1) c]) 27):iK X base (l.lK k id (some ⟨g,0,none⟩) c):=by
 obtain ⟨a1,a2,a3⟩:=h.aps
 have b:=h.blk
 obtain ⟨⟨n1,n2,n3⟩,_⟩:=nd3.1 h.nd
 have uu:∀ i,i<l.nU→i≠k→∀ x∈iI (l.uA i),x∉iI (l.uA k):=fun i hi hne=>kr l.nU n3 i k hi hk hne
 have t2:∀ {a:Option Addr} {n c1:Nat} {f:Nat→Int},OI W base a n c1 f→OI X base a n c1 f:=fun k0=>k0.iu hP.to (fun x hx hy=>by
  obtain rfl:=List.mem_singleton.1 hy
  exact OG.lM (t:=2) (sz:=1) k0 (by decide) kU hx)
 have hR:jD W base l.R:=h.r.vZ ht (fun x hx hy=>a3 x hx (jF.2 ⟨k,hk,hy⟩)) (fun x hx hy=>h.Di (iK.inU hk hy) (List.mem_append_right _ hx))
 have hu:OG 27 1 W base l.aU l.nU l.cU (rB l.nU l.uA l.uL l.uC):=h.u.iu ht (fun x hx hy=>h.Di (iK.inU hk hy) (List.mem_append_left _ hx))
 have sx:∀ x∈jR l.R.aS l.R.nS,x∉[gu]:=fun x hx hy=>h.su x hx (by rw [eU];simpa [iI] using hy)
 refine ⟨t2 (h.t.iu ht (fun x hx hy=>a2 x hx (jF.2 ⟨k,hk,hy⟩))),?_,fun i hi=>?_,?_,?_,h.su⟩
 ·
  show OG 27 1 X base l.aU l.nU l.cU (rB l.nU _ _ _)
  rw [eU] at hu ⊢
  have q:=hu.FB kU hk hP
  rw [CV l.uA l.uL l.uC _ _ _ hk] at q
  exact q
 ·
  show OI X base (if i=k then some ⟨g,0,none⟩ else l.uA i) (if i=k then l.uL k+1 else l.uL i) (if i=k then c else l.uC i) (fun j=>if i=k then jM (l.uL k) id (l.uz k) j else l.uz i j)
  by_cases e:i=k
  ·
   simp only [if_pos e]
   exact t2 ha
  simp only [if_neg e]
  exact t2 ((h.z i hi).iu ht (uu i hi e))
 ·
  exact hR.vZ hP.to (fun x hx hy=>by
   obtain rfl:=List.mem_singleton.1 hy
   obtain ⟨c1,k1⟩:=hR.type2 x hx
   exact iT k1 kU (by decide) rfl) sx
 refine nd3.2 ⟨⟨n1,n2,mW _ (fun i _=>lB _) (fun i j hi hj hne x hx hy=>?_)⟩,a1,fun x hx hy=>?_,fun x hx hy=>?_⟩
 ·
  have hx':x∈iI (if i=k then some ⟨g,0,none⟩ else l.uA i):=hx
  have hy':x∈iI (if j=k then some ⟨g,0,none⟩ else l.uA j):=hy
  have hi':i<l.nU:=hi
  have hj':j<l.nU:=hj
  by_cases e:i=k
  ·
   have e2:j≠k:=fun e2=>hne (e.trans e2.symm)
   rw [if_pos e] at hx'
   rw [if_neg e2] at hy'
   obtain rfl:=mI hx'
   rcases hg with hg | hg
   ·
    exact uu j hj' e2 x hy' hg
   have:=(b x (iK.inU hj' hy')).2
   omega
  rw [if_neg e] at hx'
  by_cases e2:j=k
  ·
   rw [if_pos e2] at hy'
   obtain rfl:=mI hy'
   rcases hg with hg | hg
   ·
    exact uu i hi' e x hx' hg
   have:=(b x (iK.inU hi' hx')).2
   omega
  rw [if_neg e2] at hy'
  exact kr l.nU n3 i j hi' hj' hne x hx' hy'
 ·
  obtain ⟨i,hi,hy⟩:=jF.1 hy
  have hy':x∈iI (if i=k then some ⟨g,0,none⟩ else l.uA i):=hy
  have hx':x∈iI l.aT:=hx
  have hi':i<l.nU:=hi
  by_cases e:i=k
  ·
   rw [if_pos e] at hy'
   obtain rfl:=mI hy'
   rcases hg with hg | hg
   ·
    exact a2 x hx' (jF.2 ⟨k,hk,hg⟩)
   have:=(b x (iK.inT hx')).2
   omega
  rw [if_neg e] at hy'
  exact a2 x hx' (jF.2 ⟨i,hi',hy'⟩)
 obtain ⟨i,hi,hy⟩:=jF.1 hy
 have hy':x∈iI (if i=k then some ⟨g,0,none⟩ else l.uA i):=hy
 have hx':x∈l.R.jN:=hx
 have hi':i<l.nU:=hi
 by_cases e:i=k
 ·
  rw [if_pos e] at hy'
  obtain rfl:=mI hy'
  rcases hg with hg | hg
  ·
   exact a3 x hx' (jF.2 ⟨k,hk,hg⟩)
  have:=(b x (iK.inR hx')).2
  omega
 rw [if_neg e] at hy'
 exact a3 x hx' (jF.2 ⟨i,hi',hy'⟩)
theorem A8 {l:Lng} {g:Nat} (hk:k<l.nU) (hg:g∈iI (l.uA k)∨w.heap.size≤g):∀ x∈(l.lK k id (some ⟨g,0,none⟩) c).jN,x∈l.jN∨w.heap.size≤x:=by
 intro x hx
 rcases List.mem_append.1 hx with hx | hx
 ·
  exact .inl (List.mem_append_left _ hx)
 obtain ⟨i,hi,hy⟩:=jF.1 hx
 have hy':x∈iI (if i=k then some ⟨g,0,none⟩ else l.uA i):=hy
 by_cases e:i=k
 ·
  rw [if_pos e] at hy'
  obtain rfl:=mI hy'
  rcases hg with hg | hg
  ·
   exact .inl (iK.inU hk hg)
  exact .inr hg
 rw [if_neg e] at hy'
 exact .inl (iK.inU hi hy')
theorem iK.ub {l:Lng} (h:iK w base l) (hb:Below w.heap.size w W) (hm:w.heap.size≤m) (hbs:base≤w.heap.size) (hR:jD W m R):iK W base { l with R:=R }:=by
 obtain ⟨⟨n1,n2,n3⟩,a1,a2,a3⟩:=nd3.1 h.nd
 have b:=h.blk
 have rb:=hR.blk
 refine ⟨h.t.up hb,h.u.up hb,fun i hi=>(h.z i hi).up hb,hR.uY (by omega),?_,fun x hx hy=>?_⟩
 ·
  refine nd3.2 ⟨⟨n1,hR.nd,n3⟩,fun x hx hy=>?_,a2,fun x hx hy=>?_⟩
  ·
   have:=(b x (iK.inT hx)).2
   have:=(rb x hy).1
   omega
  have:=(b x (List.mem_append_right _ hy)).2
  have:=(rb x hx).1
  omega
 have h1:=(h.u.blk x hy).2
 have h2:=((hR.own.s.vP x hx).1).1
 omega
theorem D9 {base:Nat} {l:Lng} (hR:jD W m R) (hm:w.heap.size≤m):∀ x∈({ l with R:=R }:Lng).jN,x∈l.jN∨w.heap.size≤x:=by
 intro x hx
 rcases List.mem_append.1 hx with hx | hx
 ·
  rcases List.mem_append.1 hx with hx | hx
  ·
   exact .inl (iK.inT hx)
  exact .inr (Nat.le_trans hm (hR.blk x hx).1)
 exact .inl (List.mem_append_right _ hx)
theorem Ea {base:Nat} {l:Lng} (hR:jD W m R) (hm:w.heap.size≤m):∀ x∈({ l with R:=R }:Lng).oK,x∈l.oK∨w.heap.size≤x:=by
 intro x hx
 rcases List.mem_append.1 hx with hx | hx
 ·
  exact .inl (List.mem_append_left _ hx)
 exact .inr (Nat.le_trans hm ((hR.own.s.vP x hx).1).1)
