import Derived.Test.YtjaobmbcmjgjgaaGreatDoorA06
import Derived.Test.YtjaobmbcmjgjgaaGreatDoorA21
import Derived.Deep.Cut
import Derived.Deep.DeepCutAuto
import Derived.Maps.AppendAt
import Derived.Maps.OwnSet
import Derived.Room.AppendFits
namespace Go.Proofs.YtjaobmbcmjgjgaaGreatDoor
set_option maxRecDepth 100000
set_option maxHeartbeats 4000000
open Go.RowKit
set_option linter.unusedVariables false
set_option linter.unusedSimpArgs false
theorem cI {p:Prop} (h:p:=by
 have HC:Hid (C5 w l (.pointer (some ⟨gB,0,none⟩)) X):=⟨gB,p,rfl,hgB,by rw [←ep],by rw [←ep],by rw [←ep],by
  rw [←ep] at hP ⊢
  exact CR oT oR hTR kB hP,⟨(hP.to.block _ (fG HX.out.a) (by simp;omega)).trans HX.out.a,(hP.to.block _ (fG HX.out.b) (by simp;omega)).trans HX.out.b,HX.out.bel.trans (hP.to.below HX.out.bel.size (fun x hx=>by simp at hx;omega))⟩⟩
 clear hP oT oR kB hTR HX hT0 ep
 go_wp2_with fail
 go_meet
 case rel=>exact HC.out):p:=h
theorem jW (R:Rnd) (w:World) (hs:R.Small) (h:jw w R) :
  Calls Tryz.prog 114 #[.agg R.cells] w fun e w'=>∃ aq cq ad cd gS A C,e=.returned (.agg (R.cp aq cq ad cd gS A C).cells)∧iv w' w.heap.size (R.cp aq cq ad cd gS A C)∧Below w.heap.size w w':=by
 obtain ⟨aQ,nQ,cQ,q,aD,nD,cD,d,turn,fresh,aS,nS,cS,A,L,C,z⟩:=R
 have HR:Hid (jw w ⟨aQ,nQ,cQ,q,aD,nD,cD,d,turn,fresh,aS,nS,cS,A,L,C,z⟩):=h
 have HS:Hid (Rnd.Small ⟨aQ,nQ,cQ,q,aD,nD,cD,d,turn,fresh,aS,nS,cS,A,L,C,z⟩):=hs
 have mk:=vX nS hs.s
 have hnS:(nS:Int)≤1048576:=by have:nS≤1048576:=hs.s;omega
 clear h hs
 unfold Rnd.cells
 dsimp only
 go_enter Tryz.func114,Tryz.ntmps114
 go_wp2_with fail
 have HA:Hid (∀ A B C,Below w.heap.size w (((w.alloc A).alloc B).alloc C)):=fun A B C=>(((Below.refl _ _).alloc (Nat.le_refl _) _).alloc (by simp) _).alloc (by simp;omega) _
 have e3:∀ A B C,(((w.alloc A).alloc B).alloc C).heap.size=w.heap.size+1+1+1:=fun A B C=>by simp
 refine (jC aQ nQ cQ q _ HS.out.q (HR.out.q.up (HA.out _ _ _))).mono ?_
 rintro e w1 ⟨aq,cq,rfl,hVo,hb1⟩
 have hV:=hVo.vi
 clear hVo
 obtain ⟨kA,kB,kC,B1,z1⟩:=mu hb1
 rw [e3] at hV
 have cA:=fF kA
 have cC:=fF kC
 have fC:=fZ kC
 clear hb1 HA
 go_wp2_with fail
 have ht:Touch [w.heap.size+1+1] w1 (w1.setCell ⟨w.heap.size+1+1,0,none⟩ (.slice aq nQ cq)):=(Touch.refl _ _).set (by simp) 0 _
 have kA':=(ht.block _ (fG kA) (by simp only [List.mem_singleton];omega)).trans kA
 have kB':=(ht.block _ (fG kB) (by simp only [List.mem_singleton];omega)).trans kB
 have kC':(w1.setCell ⟨w.heap.size+1+1,0,none⟩ (.slice aq nQ cq)).heap[w.heap.size+1+1]?=some (.cells #[.slice aq nQ cq,.slice aD nD cD,.int .i64 turn,.bool fresh,.slice aS nS cS] 97 (0,0)):=gv kC _
 have hV':=hV.fL ht (fun x hx hx2=>by have:=(hV.blk x hx).1;simp at hx2;omega)
 have B1':=B1.trans (ht.below B1.size (fun x hx=>by simp at hx;omega))
 have z1':(w.heap.size+1+1+1)≤(w1.setCell ⟨w.heap.size+1+1,0,none⟩ (.slice aq nQ cq)).heap.size:=by have:=ht.size;omega
 clear kA kB kC cA cC fC hV B1 ht z1
 generalize w1.setCell ⟨w.heap.size+1+1,0,none⟩ (.slice aq nQ cq)=W at *
 refine (jC aD nD cD d _ HS.out.d (HR.out.d.up B1')).mono ?_
 rintro e w2 ⟨ad,cd,rfl,hDo,hb2⟩
 have hD:=hDo.vi
 clear hDo
 have hQD:=zK hV' hD (Nat.le_refl _)
 have hV2:=hV'.up hb2
 have kA2:=(hb2.block _ (fG kA')).trans kA'
 have kB2:=(hb2.block _ (fG kB')).trans kB'
 have kC2:=(hb2.block _ (fG kC')).trans kC'
 have B2:Below w.heap.size w w2:=B1'.trans (hb2.mono B1'.size)
 have z2:(w.heap.size+1+1+1)≤w2.heap.size:=Nat.le_trans z1' hb2.size
 replace hD:=hD.mono z1'
 have cA:=fF kA2
 have cC:=fF kC2
 have fC:=fZ kC2
 clear hb2 kA' kB' kC' hV' B1' z1'
 have ht:Touch [w.heap.size+1+1] w2 (w2.setCell ⟨w.heap.size+1+1,1,none⟩ (.slice ad nD cd)):=(Touch.refl _ _).set (by simp) 1 _
 have hA:=(Below.refl (w2.setCell ⟨w.heap.size+1+1,1,none⟩ (.slice ad nD cd)).heap.size (w2.setCell ⟨w.heap.size+1+1,1,none⟩ (.slice ad nD cd))).alloc (Nat.le_refl _) (.cells (xY nS) 25)
 have hz:(w2.setCell ⟨w.heap.size+1+1,1,none⟩ (.slice ad nD cd)).heap.size=w2.heap.size:=by simp [World.setCell]
 have kC3:(w2.setCell ⟨w.heap.size+1+1,1,none⟩ (.slice ad nD cd)).heap[w.heap.size+1+1]?=some (.cells #[.slice aq nQ cq,.slice ad nD cd,.int .i64 turn,.bool fresh,.slice aS nS cS] 97 (0,0)):=gv kC2 _
 have kC4:=(hA.block _ (fG kC3)).trans kC3
 have kA4:=(hA.block _ (by rw [hz];exact fG kA2)).trans ((ht.block _ (fG kA2) (by simp only [List.mem_singleton];omega)).trans kA2)
 have kB4:=(hA.block _ (by rw [hz];exact fG kB2)).trans ((ht.block _ (fG kB2) (by simp only [List.mem_singleton];omega)).trans kB2)
 have kS4:=fK (w2.setCell ⟨w.heap.size+1+1,1,none⟩ (.slice ad nD cd)) (.cells (xY nS) 25)
 rw [hz] at kS4
 have hV4:=(hV2.fL ht (fun x hx hx2=>by have:=(hV2.blk x hx).1;simp at hx2;omega)).up hA
 have hD4:=(hD.fL ht (fun x hx hx2=>by have:=(hD.blk x hx).1;simp at hx2;omega)).up hA
 have B3:=B2.trans (ht.below B2.size (fun x hx=>by simp at hx;omega))
 have B4:=B3.trans (hA.mono B3.size)
 have cA4:=fF kA4
 have cC4:=fF kC4
 have fC4:=fZ kC4
 clear ht hA kC3 kA2 kB2 kC2 hV2 hD B2 B3
 go_wp2_with fail
 have ht:=(Touch.refl [w.heap.size+1+1] ((w2.setCell ⟨w.heap.size+1+1,1,none⟩ (.slice ad nD cd)).alloc (.cells (xY nS) 25))).set (g:=w.heap.size+1+1) (by simp) 4 (.slice (some ⟨w2.heap.size,0,none⟩) nS nS)
 have HCp0:Hid (Cp ⟨aQ,nQ,cQ,q,aD,nD,cD,d,turn,fresh,aS,nS,cS,A,L,C,z⟩ (w.heap.size+1+1+1) (((w2.setCell ⟨w.heap.size+1+1,1,none⟩ (.slice ad nD cd)).alloc (.cells (xY nS) 25)).setCell ⟨w.heap.size+1+1,4,none⟩ (.slice (some ⟨w2.heap.size,0,none⟩) nS nS)) aq ad w2.heap.size A C 0) :=
  ⟨hV4.fL ht (fun x hx hx2=>by have:=(hV4.blk x hx).1;simp at hx2;omega),hD4.fL ht (fun x hx hx2=>by have:=(hD4.blk x hx).1;simp at hx2;omega),
   .inr ⟨_,rfl,z2,((vI kS4).iB (ht.block _ (fG kS4) (by simp only [List.mem_singleton];omega))).ext (fun i hi=>by simp)⟩,fun i hi=>by omega,hQD,fun i hi=>by omega,fun i hi=>by omega,fun i j hi=>by omega⟩
 have HB0:Hid (Below w.heap.size w (((w2.setCell ⟨w.heap.size+1+1,1,none⟩ (.slice ad nD cd)).alloc (.cells (xY nS) 25)).setCell ⟨w.heap.size+1+1,4,none⟩ (.slice (some ⟨w2.heap.size,0,none⟩) nS nS))):=B4.trans (ht.below B4.size (fun x hx=>by simp at hx;omega))
 have kB5:=(ht.block _ (fG kB4) (by simp only [List.mem_singleton];omega)).trans kB4
 have kC5:(((w2.setCell ⟨w.heap.size+1+1,1,none⟩ (.slice ad nD cd)).alloc (.cells (xY nS) 25)).setCell ⟨w.heap.size+1+1,4,none⟩ (.slice (some ⟨w2.heap.size,0,none⟩) nS nS)).heap[w.heap.size+1+1]?=some (.cells #[.slice aq nQ cq,.slice ad nD cd,.int .i64 turn,.bool fresh,.slice (some ⟨w2.heap.size,0,none⟩) nS nS] 97 (0,0)):=gv kC4 _
 have HkB0:Hid (_=_):=kB5
 have HkC0:Hid (_=_):=kC5
 clear ht kB5 kC5 kA4 kB4 kC4 kS4 hV4 hD4 B4 cA4 cC4 fC4 cA cC fC hz hQD mk
 generalize ((w2.setCell ⟨w.heap.size+1+1,1,none⟩ (.slice ad nD cd)).alloc (.cells (xY nS) 25)).setCell ⟨w.heap.size+1+1,4,none⟩ (.slice (some ⟨w2.heap.size,0,none⟩) nS nS)=W5 at *
 generalize w2.heap.size=gS at *
 go_loopw [23] (fun i wr=>∃ (k:Nat) (A':Nat→Option Addr) (C':Nat→Nat),k≤nS∧i=.int .i64 k∧Cp ⟨aQ,nQ,cQ,q,aD,nD,cD,d,turn,fresh,aS,nS,cS,A,L,C,z⟩ (w.heap.size+1+1+1) wr aq ad gS A' C' k∧Below w.heap.size w wr∧(w.heap.size+1+1+1)≤wr.heap.size∧wr.heap[w.heap.size+1]?=some (.cells #[.slice none 0 0,.slice none 0 0,.int .i64 0,.bool false,.slice none 0 0] 97 (0,0))∧wr.heap[w.heap.size+1+1]?=some (.cells #[.slice aq nQ cq,.slice ad nD cd,.int .i64 turn,.bool fresh,.slice (some ⟨gS,0,none⟩) nS nS] 97 (0,0))) (fun i _=>nS-(intOf i).toNat)
 case atStart=>exact ⟨0,A,C,Nat.zero_le _,rfl,HCp0.out,HB0.out,by have:=fG HkC0.out;omega,HkB0.out,HkC0.out⟩
 obtain ⟨k,A',C',hk,rfl,hCp,hB,hBs,hkB,hkC⟩:=hrel
 clear HCp0 HB0 HkB0 HkC0
 have HCp:Hid (Cp ⟨aQ,nQ,cQ,q,aD,nD,cD,d,turn,fresh,aS,nS,cS,A,L,C,z⟩ (w.heap.size+1+1+1) wr aq ad gS A' C' k):=hCp
 have HB:Hid (Below w.heap.size w wr):=hB
 have HBs:Hid ((w.heap.size+1+1+1)≤wr.drew.heap.size):=hBs
 have kBd:Hid (wr.drew.heap[w.heap.size+1]?=some (.cells #[.slice none 0 0,.slice none 0 0,.int .i64 0,.bool false,.slice none 0 0] 97 (0,0))):=hkB
 have kCd:Hid (wr.drew.heap[w.heap.size+1+1]?=some (.cells #[.slice aq nQ cq,.slice ad nD cd,.int .i64 turn,.bool fresh,.slice (some ⟨gS,0,none⟩) nS nS] 97 (0,0))):=hkC
 clear hCp hB hBs
 by_cases hlt:k<nS
 ·
  have hlt':(k:Int)<nS:=by omega
  obtain ⟨gs,os,rfl,hc⟩:=(HR.out.s.up HB.out) k hlt
  dsimp only at hc
  clear hkB hkC
  go_wp2_with fail
  refine wp_region_held_drew (S:=fun w'=>w'.cell? ⟨w.heap.size+1+1,4,none⟩=some (.slice (some ⟨gS,0,none⟩) nS nS)) (by kernel_rfl) (fF kCd.out 4) (fun hHeld=>?_)
  refine t0 ?_
  iterate 3 refine tN ?_
  refine rq1 4 (fun K hK=>?_)
  go_simp
  refine (jC (A k) (L k) (C k) (z k) _ (HS.out.l k hlt) ((HR.out.z k hlt).up (HB.out.drew))).mono ?_
  rintro e w4 ⟨a',c',rfl,hv,hb⟩
  have hC0:=HCp.out.up (W':=wr.drew) ((Below.refl _ _).drew)
  have HCp4:Hid (Cp ⟨aQ,nQ,cQ,q,aD,nD,cD,d,turn,fresh,some ⟨gs,os,none⟩,nS,cS,A,L,C,z⟩ (w.heap.size+1+1+1) (w4.setCell ⟨gS,k,none⟩ (.slice a' (L k) c')) aq ad gS (fun i=>if i=k then a' else A' i) (fun i=>if i=k then c' else C' i) (k+1)):=hC0.next (c':=c') hlt hb HBs.out hv
  have HB4:Hid (Below w.heap.size w w4):=HB.out.drew.trans (hb.mono HB.out.size)
  have kB4:=(hb.block _ (fG kBd.out)).trans kBd.out
  have kC4:=(hb.block _ (fG kCd.out)).trans kCd.out
  have q4:w4.cell? ⟨w.heap.size+1+1,4,none⟩=some (.slice (some ⟨gS,0,none⟩) nS nS):=fF kC4 4
  have hrow:(w.heap.size+1+1+1)≤gS∧(∃ x,w4.cell? ⟨gS,k,none⟩=some x)∧w4.frozen? ⟨gS,k,none⟩=false:=by
   rcases hC0.s with h0 | ⟨g,hg,hbg,hr⟩
   ·
    exact absurd hlt (by rw [show nS=0 from h0];omega)
   cases hg
   exact ⟨hbg,(hr.iB (hb.block _ hr.lt)).there k hlt,(hr.iB (hb.block _ hr.lt)).free k⟩
  obtain ⟨hgS,⟨xS,cS4⟩,fS4⟩:=hrow
  have HkB:Hid ((w4.setCell ⟨gS,k,none⟩ (.slice a' (L k) c')).heap[w.heap.size+1]?=_):=(fS (by omega) _).trans kB4
  have HkC:Hid ((w4.setCell ⟨gS,k,none⟩ (.slice a' (L k) c')).heap[w.heap.size+1+1]?=_):=(fS (by omega) _).trans kC4
  have HBn:Hid (Below w.heap.size w (w4.setCell ⟨gS,k,none⟩ (.slice a' (L k) c'))):=HB4.out.setCell (by show w.heap.size≤gS;omega) _
  have HBsn:Hid ((w.heap.size+1+1+1)≤(w4.setCell ⟨gS,k,none⟩ (.slice a' (L k) c')).heap.size):=by
   have:=fG HkC.out
   show _≤_
   omega
  have q4s:(w4.setCell ⟨gS,k,none⟩ (.slice a' (L k) c')).cell? ⟨w.heap.size+1+1,4,none⟩=some (.slice (some ⟨gS,0,none⟩) nS nS):=fF HkC.out 4
  clear hv hb hC0 kB4 kC4
  go_wp2_with fail
  refine hK.out _ _ q4 (fun hHeld=>?_)
  clear hK K
  try simp only [Act.put,PZ]
  refine tN ?_
  refine rq1 6 (fun K hK=>?_)
  go_simp
  refine hK.out _ _ q4s (fun hHeld=>?_)
  clear hK K
  try simp only [Act.put,PZ]
  refine dnq ?_
  go_wp2_with fail
  go_roundw
  case rel=>exact ⟨k+1,_,_,by omega,by go_num,HCp4.out,HBn.out,HBsn.out,HkB.out,HkC.out⟩
  case measure=>simp [intOf];omega
 obtain rfl:k=nS:=by omega
 have cC:=fF hkC
 have cB:=fF hkB
 have fB:=fZ hkB
 go_wp2_with fail
 have ht:=iS wr (w.heap.size+1) (.slice aq nQ cq) (.slice ad nD cd) (.int .i64 turn) (.bool fresh) (.slice (some ⟨gS,0,none⟩) k k)
 have cF:=fF (kh hkB (.slice aq nQ cq) (.slice ad nD cd) (.int .i64 turn) (.bool fresh) (.slice (some ⟨gS,0,none⟩) k k))
 have hBf:=HB.out.trans (ht.below HB.out.size (fun x hx=>by simp at hx;omega))
 have hOf:=((HCp.out.own cq cd).kO ht (fun x hx=>by simp at hx;omega)).mono (show w.heap.size≤(w.heap.size+1+1+1) by omega)
 unfold qJ at cF hBf hOf
 exact bodyPost_ret (v:=.agg (Rnd.cp ⟨aQ,nQ,cQ,q,aD,nD,cD,d,turn,fresh,aS,k,cS,A,L,C,z⟩ aq cq ad cd gS A' C').cells) (by simp [results,Tryz.results114,go_sem,cF,Rnd.cp,Rnd.cells]) rfl ⟨aq,cq,ad,cd,gS,A',C',rfl,hOf,hBf⟩
theorem zA {R:Rnd} {aq ad:Option Addr} {cq cd gS:Nat} {A:Nat→Option Addr} {C:Nat→Nat}:Alike R (R.cp aq cq ad cd gS A C):=⟨rfl,rfl,rfl,rfl,rfl,rfl,rfl,rfl,rfl⟩
def iL:Array Value:=#[.bool false,.slice none 0 0,.slice none 0 0,.slice none 0 0,.slice none 0 0,.int .i64 0,.bool false,.slice none 0 0]
structure CpL (base gB:Nat) (l p:Lng) (W:World):Prop where
 own:gg W base p
 box:W.heap[gB]?=some (.cells p.cells 99 (0,0))
 st:p.st=l.st
 nT:p.nT=l.nT
 t:p.t=l.t
 ul:p.uL=l.uL
 uz:p.uz=l.uz
 r:Alike l.R p.R
def C5 (w:World) (l:Lng) (v:Value) (wc:World):Prop:=∃ gB p,v=.pointer (some ⟨gB,0,none⟩)∧w.heap.size+1<gB∧p.nU=0∧p.aU=none∧p.cU=0∧CpL w.heap.size gB l p wc∧Two w l.cells iL 99 wc
theorem CpL.up {base gB:Nat} {l p:Lng} {W W':World} (h:CpL base gB l p W) (hb:Below W.heap.size W W'):CpL base gB l p W' :=
 ⟨h.own.up hb,(hb.block _ (fG h.box)).trans h.box,h.st,h.nT,h.t,h.ul,h.uz,h.r⟩
theorem CpL.more {base gB k g c2 c:Nat} {l p:Lng} {a:Option Addr} {V V1 W W2:World} (h:CpL base gB l p V) (hk:p.nU=k) (hb:Below V.heap.size V V1) (hbase:base≤V.heap.size) (ho:OI V1 V.heap.size a (l.uL k) c (l.uz k))
  (hu:OG 25 1 W base (some ⟨g,0,none⟩) (k+1) c2 (ox k p.uA p.uL p.uC++[.slice a (l.uL k) c])) (ht:Touch (gi p.aU) V1 W) (hg:g∈gi p.aU∨V1.heap.size≤g) (hP:Put W W2 gB (lay p.cells 2 #[.slice (some ⟨g,0,none⟩) (k+1) c2]) 99):CpL base gB l (p.more k (some ⟨g,0,none⟩) c2 a c) W2:=by
 rw [←h.ul,←h.uz] at ho
 rw [←h.ul] at hu
 have h1:=h.own.more hk hb hbase ho hu ht hg
 have hbx:W.heap[gB]?=some (.cells p.cells 99 (0,0)):=by
  have e1:=(h.up hb).box
  refine (ht.block gB (fG e1) ?_).trans e1
  exact (h.up hb).own.u.k8 (by decide) e1
 exact ⟨h1.box hbx (by decide) (by decide) hP.to,hP.blk,h.st,h.nT,h.t,h.ul,h.uz,h.r⟩
theorem rdR {w:World} {g:Nat} {l:Lng} {t:TypeId} (h:w.heap[g]?=some (.cells l.cells t (0,0))):∀ j,j<5→w.cell? ⟨g,3+j,none⟩=l.R.cells[j]?:=by
 intro j hj
 rw [fF h]
 match j,hj with
 | 0,_=>rfl
 | 1,_=>rfl
 | 2,_=>rfl
 | 3,_=>rfl
 | 4,_=>rfl
theorem Two.far {w W W':World} {A B:Array Value} {t:TypeId} {S:List Nat} (h:Two w A B t W) (ht:Touch S W W') (hn:∀ {g:Nat} {cs:Array Value},W.heap[g]?=some (.cells cs t (0,0))→g∉S) (hl:∀ x∈S,w.heap.size≤x):Two w A B t W' :=
 ⟨(ht.block _ (fG h.a) (hn h.a)).trans h.a,(ht.block _ (fG h.b) (hn h.b)).trans h.b,h.bel.trans (ht.below h.bel.size hl)⟩
theorem Two.put {w W W':World} {A B C:Array Value} {t t':TypeId} {g:Nat} (h:Two w A B t W) (hp:Put W W' g C t') (hg:w.heap.size+1<g):Two w A B t W' :=
 ⟨(hp.to.block _ (fG h.a) (by simp;omega)).trans h.a,(hp.to.block _ (fG h.b) (by simp;omega)).trans h.b,h.bel.trans (hp.to.below h.bel.size (fun x hx=>by simp at hx;omega))⟩
theorem CR {V X:World} {base gB:Nat} {l:Lng} {aT aq ad:Option Addr} {cT cq cd gS:Nat} {A:Nat→Option Addr} {C:Nat→Nat} {cur:Array Value} (oT:OI V base aT l.nT cT l.t) (oR:iv V base (l.R.cp aq cq ad cd gS A C)) (hTR:∀ x∈gi aT,x∉(l.R.cp aq cq ad cd gS A C).iJ)
  (kB:V.heap[gB]?=some (.cells cur 99 (0,0))) (hP:Put V X gB (Lng.cells ⟨l.st,aT,l.nT,cT,l.t,none,0,0,fun _=>none,l.uL,fun _=>0,l.uz,l.R.cp aq cq ad cd gS A C⟩) 99):CpL base gB l ⟨l.st,aT,l.nT,cT,l.t,none,0,0,fun _=>none,l.uL,fun _=>0,l.uz,l.R.cp aq cq ad cd gS A C⟩ X:=by
 have h1:gg V base ⟨l.st,aT,l.nT,cT,l.t,none,0,0,fun _=>none,l.uL,fun _=>0,l.uz,l.R.cp aq cq ad cd gS A C⟩:=by
  refine ⟨oT,OG.nil _ _ _ _,fun i hi=>absurd hi (Nat.not_lt_zero _),oR,?_,fun x hx hy=>by simp [gi] at hy⟩
  show ((gi aT++_)++[]).Nodup
  rw [List.append_nil]
  exact List.nodup_append.2 ⟨jD _,oR.nd,fun x hx y hy e=>hTR x hx (e▸hy)⟩
 exact ⟨h1.box kB (by decide) (by decide) hP.to,hP.blk,rfl,rfl,rfl,rfl,rfl,zA⟩
theorem tZ (l:Lng) (w:World) (hs:l.Small) (h:mh w l) :
  Calls Tryz.prog 73 #[.agg l.cells] w fun e w'=>∃ l2,e=.returned (.agg l2.cells)∧gk l l2∧gg w' w.heap.size l2∧Below w.heap.size w w':=by
 have HR:Hid (mh w l):=h
 have HS:Hid l.Small:=hs
 obtain ⟨W,eW⟩:∃ W,(w.alloc (.cells l.cells 99)).alloc (.cells #[.bool false,.slice none 0 0,.slice none 0 0,.slice none 0 0,.slice none 0 0,.int .i64 0,.bool false,.slice none 0 0] 99)=W:=⟨_,rfl⟩
 have HX:Hid (Two w l.cells iL 99 W):=by rw [←eW];exact Two.start _ _ _ _
 clear h hs
 go_enter Tryz.func73,Tryz.ntmps73
 go_wp2_with fail
 clear eW
 go_cut [3] (fun v wc=>C5 w l v wc)
 case first =>
  replace HX:Hid (Two w l.cells iL 99 W.drew):=HX.out.up ((Below.refl _ _).drew)
  have hz0:w.heap.size+1<W.drew.heap.size:=fG HX.out.b
  refine ia (fun w'=>w'.heap[w.heap.size]?=some (.cells l.cells 99 (0,0))) 10 (by kernel_rfl) ?_
  generalize W.drew=V at *
  have hT0:=HX.out.a
  refine tE 0 6 hT0 ?_
  refine j3 (i:=1) (some 7) (v:=?_) ?_ hT0 ?_
  rotate_left
  ·
   intro wx hSw
   have c0:wx.cell? ⟨w.heap.size,0,none⟩=some (.bool l.st):=fF hSw 0
   go_simp
   try with_reducible rfl
  try simp only [Act.put,PZ]
  refine tE 2 8 hT0 ?_
  refine j3 (i:=3) (some 9) (v:=?_) ?_ hT0 ?_
  rotate_left
  ·
   intro wx hSw
   have c1:wx.cell? ⟨w.heap.size,1,none⟩=some (.slice l.aT l.nT l.cT):=fF hSw 1
   go_simp
   try with_reducible rfl
  try simp only [Act.put,PZ]
  refine tE 5 11 hT0 ?_
  refine j3 (i:=6) (some 12) (v:=.agg l.R.cells) ?_ hT0 ?_
  ·
   intro wx hSw
   exact gO 97 5 _ Tryz.underlying97 rfl yV (.tmp 11) rfl w.heap.size 3 rfl l.R.cells rfl (fun j hj=>rdR hSw j hj)
  try simp only [Act.put,PZ]
  refine fI (rs:=[4,9]) (by kernel_rfl) (by simp) ?_
  refine fH.cons rfl (fun K hK=>?_) (fH.cons rfl (fun K hK=>?_) fH.nil)
  ·
   go_simp
   refine (jC l.aT l.nT l.cT l.t _ HS.out.t (HR.out.t.up HX.out.bel)).mono ?_
   rintro e X1 ⟨aT,cT,rfl,oT,hb⟩
   replace oT:=oT.mono (base':=w.heap.size) HX.out.bel.size
   have lT:=OI.blk oT
   replace HX:Hid (Two w l.cells iL 99 X1):=HX.out.up hb
   replace hT0:=HX.out.a
   have hz:=(hb).size
   clear hb hz
   go_wp2_with fail
   refine hK.out _ _ hT0 ?_
   clear hK K
   try simp only [Act.put,PZ]
   refine fI (rs:=[7,9]) (by kernel_rfl) (by simp) ?_
   refine fH.cons rfl (fun K hK=>?_) (fH.cons rfl (fun K hK=>?_) fH.nil)
   ·
    go_simp
    refine (jW l.R _ HS.out.r (HR.out.r.up HX.out.bel)).mono ?_
    rintro e X2 ⟨aq,cq,ad,cd,gS,A,C,rfl,oR,hb⟩
    have hTR:∀ x∈gi aT,x∉(l.R.cp aq cq ad cd gS A C).iJ:=fun x hx hy=>by have:=(OI.blk oT x hx).2;have:=(oR.blk x hy).1;omega
    replace oR:=oR.qR (base':=w.heap.size) HX.out.bel.size
    replace HX:Hid (Two w l.cells iL 99 X2):=HX.out.up hb
    replace hT0:=HX.out.a
    have hz:=(hb).size
    replace oT:=oT.up hb
    clear hb hz
    dsimp only [Rnd.cells,Rnd.cp]
    go_wp2_with fail
    refine hK.out _ _ hT0 ?_
    clear hK K
    try simp only [Act.put,PZ]
    refine tE 8 14 hT0 ?_
    refine fI (rs:=[9]) (by kernel_rfl) (by simp) ?_
    refine fH.cons rfl (fun K hK=>?_) fH.nil
    obtain ⟨X3,eV⟩:∃ X,X2.alloc (.cells #[.bool false,.slice none 0 0,.slice none 0 0,.slice none 0 0,.slice none 0 0,.int .i64 0,.bool false,.slice none 0 0] 99)=X:=⟨_,rfl⟩
    have hb:Below X2.heap.size X2 X3:=by rw [←eV];exact (Below.refl _ _).alloc (Nat.le_refl _) _
    have kB:X3.heap[X2.heap.size]?=some (.cells #[.bool false,.slice none 0 0,.slice none 0 0,.slice none 0 0,.slice none 0 0,.int .i64 0,.bool false,.slice none 0 0] 99 (0,0)):=by rw [←eV];exact fK _ _
    have hgB:w.heap.size+1<X2.heap.size:=fG HX.out.b
    go_simp
    clear eV
    replace HX:Hid (Two w l.cells iL 99 X3):=HX.out.up hb
    replace hT0:=HX.out.a
    have hz:=(hb).size
    replace oT:=oT.up hb
    replace oR:=oR.upZ hb
    clear hb hz
    obtain ⟨gB,eB⟩:∃ g,X2.heap.size=g:=⟨_,rfl⟩
    rw [eB] at kB hgB ⊢
    refine hK.out _ _ hT0 ?_
    clear hK K
    try simp only [Act.put,PZ]
    refine fI (rs:=[10]) (by kernel_rfl) (by simp) ?_
    refine fH.last rfl (fun K hK=>?_)
    refine iz (by kernel_rfl) none rfl 99 (.tmp 3) (.tmp 14) rfl gB 0 rfl (.agg #[.bool l.st,.slice aT l.nT cT,.slice none 0 0,.slice aq l.R.nQ cq,.slice ad l.R.nD cd,.int .i64 l.R.turn,.bool l.R.fresh,.slice (some ⟨gS,0,none⟩) l.R.nS l.R.nS]) rfl 8 rfl 99 _ kB ir (Nat.le_of_ble_eq_true rfl) (by simp [Value.cells,Value.oneCell']) ?_
    intro X hP
    refine hK.out _ _ ?_
    clear hK K
    try simp only [Act.put,PZ]
    refine gx (by kernel_rfl) ?_ _
    obtain ⟨p,ep⟩:∃ p,(⟨l.st,aT,l.nT,cT,l.t,none,0,0,fun _=>none,l.uL,fun _=>0,l.uz,l.R.cp aq cq ad cd gS A C⟩:Lng)=p:=⟨_,rfl⟩
    replace hP:Put X3 X gB p.cells 99:=hP.cast (by rw [←ep];rfl)
    exact cI
   obtain ⟨X4,eV⟩:∃ X,X1.alloc (.cells #[.bool false,.slice none 0 0,.slice none 0 0,.slice none 0 0,.slice none 0 0,.int .i64 0,.bool false,.slice none 0 0] 99)=X:=⟨_,rfl⟩
   have hb:Below X1.heap.size X1 X4:=by rw [←eV];exact (Below.refl _ _).alloc (Nat.le_refl _) _
   have kB:X4.heap[X1.heap.size]?=some (.cells #[.bool false,.slice none 0 0,.slice none 0 0,.slice none 0 0,.slice none 0 0,.int .i64 0,.bool false,.slice none 0 0] 99 (0,0)):=by rw [←eV];exact fK _ _
   have hgB:w.heap.size+1<X1.heap.size:=fG HX.out.b
   go_simp
   clear eV
   replace HX:Hid (Two w l.cells iL 99 X4):=HX.out.up hb
   replace hT0:=HX.out.a
   have hz:=(hb).size
   replace oT:=oT.up hb
   clear hb hz
   obtain ⟨gB,eB⟩:∃ g,X1.heap.size=g:=⟨_,rfl⟩
   rw [eB] at kB hgB ⊢
   refine hK.out _ _ hT0 ?_
   clear hK K
   try simp only [Act.put,PZ]
   refine fI (rs:=[7]) (by kernel_rfl) (by simp) ?_
   refine fH.cons rfl (fun K hK=>?_) fH.nil
   go_simp
   refine (jW l.R _ HS.out.r (HR.out.r.up HX.out.bel)).mono ?_
   rintro e X5 ⟨aq,cq,ad,cd,gS,A,C,rfl,oR,hb⟩
   have hTR:∀ x∈gi aT,x∉(l.R.cp aq cq ad cd gS A C).iJ:=fun x hx hy=>by have:=(OI.blk oT x hx).2;have:=(oR.blk x hy).1;omega
   replace oR:=oR.qR (base':=w.heap.size) HX.out.bel.size
   replace HX:Hid (Two w l.cells iL 99 X5):=HX.out.up hb
   replace hT0:=HX.out.a
   have hz:=(hb).size
   replace oT:=oT.up hb
   replace kB:=(hb.block _ (fG kB)).trans kB
   clear hb hz
   dsimp only [Rnd.cells,Rnd.cp]
   go_wp2_with fail
   refine hK.out _ _ hT0 ?_
   clear hK K
   try simp only [Act.put,PZ]
   refine tE 8 14 hT0 ?_
   refine fI (rs:=[10]) (by kernel_rfl) (by simp) ?_
   refine fH.last rfl (fun K hK=>?_)
   refine iz (by kernel_rfl) none rfl 99 (.tmp 3) (.tmp 14) rfl gB 0 rfl (.agg #[.bool l.st,.slice aT l.nT cT,.slice none 0 0,.slice aq l.R.nQ cq,.slice ad l.R.nD cd,.int .i64 l.R.turn,.bool l.R.fresh,.slice (some ⟨gS,0,none⟩) l.R.nS l.R.nS]) rfl 8 rfl 99 _ kB ir (Nat.le_of_ble_eq_true rfl) (by simp [Value.cells,Value.oneCell']) ?_
   intro X hP
   refine hK.out _ _ ?_
   clear hK K
   try simp only [Act.put,PZ]
   refine gx (by kernel_rfl) ?_ _
   obtain ⟨p,ep⟩:∃ p,(⟨l.st,aT,l.nT,cT,l.t,none,0,0,fun _=>none,l.uL,fun _=>0,l.uz,l.R.cp aq cq ad cd gS A C⟩:Lng)=p:=⟨_,rfl⟩
   replace hP:Put X5 X gB p.cells 99:=hP.cast (by rw [←ep];rfl)
   exact cI
  obtain ⟨X6,eV⟩:∃ X,V.alloc (.cells #[.bool false,.slice none 0 0,.slice none 0 0,.slice none 0 0,.slice none 0 0,.int .i64 0,.bool false,.slice none 0 0] 99)=X:=⟨_,rfl⟩
  have hb:Below V.heap.size V X6:=by rw [←eV];exact (Below.refl _ _).alloc (Nat.le_refl _) _
  have kB:X6.heap[V.heap.size]?=some (.cells #[.bool false,.slice none 0 0,.slice none 0 0,.slice none 0 0,.slice none 0 0,.int .i64 0,.bool false,.slice none 0 0] 99 (0,0)):=by rw [←eV];exact fK _ _
  have hgB:w.heap.size+1<V.heap.size:=fG HX.out.b
  go_simp
  clear eV
  replace HX:Hid (Two w l.cells iL 99 X6):=HX.out.up hb
  replace hT0:=HX.out.a
  have hz:=(hb).size
  clear hb hz
  obtain ⟨gB,eB⟩:∃ g,V.heap.size=g:=⟨_,rfl⟩
  rw [eB] at kB hgB ⊢
  refine hK.out _ _ hT0 ?_
  clear hK K
  try simp only [Act.put,PZ]
  refine fI (rs:=[4]) (by kernel_rfl) (by simp) ?_
  refine fH.cons rfl (fun K hK=>?_) fH.nil
  go_simp
  refine (jC l.aT l.nT l.cT l.t _ HS.out.t (HR.out.t.up HX.out.bel)).mono ?_
  rintro e X7 ⟨aT,cT,rfl,oT,hb⟩
  replace oT:=oT.mono (base':=w.heap.size) HX.out.bel.size
  have lT:=OI.blk oT
  replace HX:Hid (Two w l.cells iL 99 X7):=HX.out.up hb
  replace hT0:=HX.out.a
  have hz:=(hb).size
  replace kB:=(hb.block _ (fG kB)).trans kB
  clear hb hz
  go_wp2_with fail
  refine hK.out _ _ hT0 ?_
  clear hK K
  try simp only [Act.put,PZ]
  refine fI (rs:=[7]) (by kernel_rfl) (by simp) ?_
  refine fH.cons rfl (fun K hK=>?_) fH.nil
  go_simp
  refine (jW l.R _ HS.out.r (HR.out.r.up HX.out.bel)).mono ?_
  rintro e X8 ⟨aq,cq,ad,cd,gS,A,C,rfl,oR,hb⟩
  have hTR:∀ x∈gi aT,x∉(l.R.cp aq cq ad cd gS A C).iJ:=fun x hx hy=>by have:=(OI.blk oT x hx).2;have:=(oR.blk x hy).1;omega
  replace oR:=oR.qR (base':=w.heap.size) HX.out.bel.size
  replace HX:Hid (Two w l.cells iL 99 X8):=HX.out.up hb
  replace hT0:=HX.out.a
  have hz:=(hb).size
  replace oT:=oT.up hb
  replace kB:=(hb.block _ (fG kB)).trans kB
  clear hb hz
  dsimp only [Rnd.cells,Rnd.cp]
  go_wp2_with fail
  refine hK.out _ _ hT0 ?_
  clear hK K
  try simp only [Act.put,PZ]
  refine tE 8 14 hT0 ?_
  refine fI (rs:=[10]) (by kernel_rfl) (by simp) ?_
  refine fH.last rfl (fun K hK=>?_)
  refine iz (by kernel_rfl) none rfl 99 (.tmp 3) (.tmp 14) rfl gB 0 rfl (.agg #[.bool l.st,.slice aT l.nT cT,.slice none 0 0,.slice aq l.R.nQ cq,.slice ad l.R.nD cd,.int .i64 l.R.turn,.bool l.R.fresh,.slice (some ⟨gS,0,none⟩) l.R.nS l.R.nS]) rfl 8 rfl 99 _ kB ir (Nat.le_of_ble_eq_true rfl) (by simp [Value.cells,Value.oneCell']) ?_
  intro X hP
  refine hK.out _ _ ?_
  clear hK K
  try simp only [Act.put,PZ]
  refine gx (by kernel_rfl) ?_ _
  obtain ⟨p,ep⟩:∃ p,(⟨l.st,aT,l.nT,cT,l.t,none,0,0,fun _=>none,l.uL,fun _=>0,l.uz,l.R.cp aq cq ad cd gS A C⟩:Lng)=p:=⟨_,rfl⟩
  replace hP:Put X8 X gB p.cells 99:=hP.cast (by rw [←ep];rfl)
  exact cI
 obtain ⟨gB,p,rfl,hgB,hnU,haU,hcU,hC,hX⟩:=hcut
 have HC:Hid (CpL w.heap.size gB l p wc):=hC
 replace HX:Hid (Two w l.cells iL 99 wc):=hX
 have HP0:Hid (p.nU=0):=hnU
 have HgB:Hid (w.heap.size+1<gB):=hgB
 clear hC hX hnU haU hcU hgB
 have HU:Hid (fW w l.aU l.nU fun i=>.slice (l.uA i) (l.uL i) (l.uC i)):=HR.out.u
 obtain ⟨aU,eU⟩:∃ a,l.aU=a:=⟨_,rfl⟩
 have c2:wc.cell? ⟨w.heap.size,2,none⟩=some (.slice aU l.nU l.cU):=by rw [←eU];exact fF HX.out.a 2
 rw [eU] at HU
 clear eU
 have hnu:=HS.out.u
 go_wp2_with fail
 clear c2
 go_loopw [18] (fun i wr=>∃ (k:Nat) (q:Lng),k≤l.nU∧i=.int .i64 k∧Hid (q.nU=k∧CpL w.heap.size gB l q wr∧Two w l.cells iL 99 wr)) (fun i _=>l.nU-(intOf i).toNat)
 case atStart=>exact ⟨0,p,Nat.zero_le _,rfl,⟨HP0.out,HC.out,HX.out⟩⟩
 clear HC HX
 obtain ⟨k,q,hk,rfl,HQ⟩:=hrel
 by_cases hlt:k<l.nU
 ·
  have hlt':(k:Int)<l.nU:=by omega
  obtain ⟨g0,o0,ea,hc0⟩:=(HU.out.up HQ.out.2.2.bel) k hlt
  subst ea
  dsimp only at hc0
  go_wp2_with fail
  refine ia (fun w'=>w'.heap[gB]?=some (.cells q.cells 99 (0,0))) 7 (by kernel_rfl) ?_
  have hd:Below wr.heap.size wr wr.drew:=(Below.refl _ _).drew
  replace HQ:Hid (q.nU=k∧CpL w.heap.size gB l q wr.drew∧Two w l.cells iL 99 wr.drew):=⟨HQ.out.1,HQ.out.2.1.up hd,HQ.out.2.2.up hd⟩
  clear hd hc0
  generalize wr.drew=V at *
  have hT0:=HQ.out.2.1.box
  refine tE 0 22 hT0 ?_
  refine j3 (i:=1) (some 23) (v:=?_) ?_ hT0 ?_
  rotate_left
  ·
   intro wx hSw
   have c2:wx.cell? ⟨gB,2,none⟩=some (.slice q.aU k q.cU):=by rw [fF hSw 2,←HQ.out.1];rfl
   go_simp
   try with_reducible rfl
  try simp only [Act.put,PZ]
  refine tE 2 24 hT0 ?_
  refine fI (rs:=[3]) (by kernel_rfl) (by simp) ?_
  refine fH.cons rfl (fun K hK=>?_) fH.nil
  go_simp
  refine (jC (l.uA k) (l.uL k) (l.uC k) (l.uz k) _ (HS.out.z k hlt) ((HR.out.z k hlt).up HQ.out.2.2.bel)).mono ?_
  rintro e X1 ⟨a1,c1,rfl,oA,hb⟩
  have HA1:Hid (OI X1 V.heap.size a1 (l.uL k) c1 (l.uz k)∧Below V.heap.size V X1):=⟨oA,hb⟩
  have Q1:=HQ.out.2.1.up hb
  have hu0:OG 25 1 X1 w.heap.size q.aU k q.cU (ox k q.uA q.uL q.uC):=by have:=Q1.own.u;rw [HQ.out.1] at this;exact this
  obtain ⟨g1,c3,X3,hr,hu,ht,hg⟩:=lH 83 25 (.slice none 0 0) 1 24 tm Tryz.underlying83 rfl (by decide) (by decide) hu0 (by omega) (Nat.le_trans HQ.out.2.2.bel.size hb.size) #[.slice a1 (l.uL k) c1] rfl (by simp [Value.oneCell'])
  have hT1:=Q1.box
  have hT2:(X1.alloc (.cells #[.slice a1 (l.uL k) c1] 25)).heap[gB]?=some (.cells q.cells 99 (0,0)):=(fY _ (fG hT1)).trans hT1
  have hT3:X3.heap[gB]?=some (.cells q.cells 99 (0,0)):=(ht.block gB (fG hT1) (hu0.k8 (by decide) hT1)).trans hT1
  have HN3:Hid (OG 25 1 X3 w.heap.size (some ⟨g1,0,none⟩) (k+1) c3 (ox k q.uA q.uL q.uC++[.slice a1 (l.uL k) c1])∧Touch (gi q.aU) X1 X3∧(g1∈gi q.aU∨X1.heap.size≤g1)):=⟨hu,ht,hg⟩
  have HR3:Hid ((Builtin.append_ #[83,83] 83 #[.slice q.aU k q.cU,.slice (some ⟨X1.heap.size,0,none⟩) 1 1]).run Tryz.prog (X1.alloc (.cells #[.slice a1 (l.uL k) c1] 25))=.ok (.slice (some ⟨g1,0,none⟩) (k+1) c3) X3):=hr
  clear oA hb Q1 hu0 hr hu ht hg hT0
  go_wp2_with fail
  refine hK.out _ _ hT1 ?_
  clear hK K
  try simp only [Act.put,PZ]
  refine fI (rs:=[4]) (by kernel_rfl) (by simp) ?_
  refine fH.cons rfl (fun K hK=>?_) fH.nil
  go_simp
  refine hK.out _ _ hT2 ?_
  clear hK K
  try simp only [Act.put,PZ]
  refine fI (rs:=[5]) (by kernel_rfl) (by simp) ?_
  refine fH.cons rfl (fun K hK=>?_) fH.nil
  refine jz (by kernel_rfl) (some 27) rfl (.tmp 23) (.tmp 26) 83 _ _ _ rfl rfl rfl rfl HR3.out ?_
  refine hK.out _ _ hT3 ?_
  clear hK K hT2 HR3
  try simp only [Act.put,PZ]
  have hT0:=hT3
  refine tE 6 28 hT0 ?_
  refine fI (rs:=[7]) (by kernel_rfl) (by simp) ?_
  refine fH.last rfl (fun K hK=>?_)
  refine iz (by kernel_rfl) none rfl 83 (.tmp 28) (.tmp 27) rfl gB 2 rfl (.slice (some ⟨g1,0,none⟩) (k+1) c3) rfl 1 rfl 99 _ hT3 vd (Nat.le_of_ble_eq_true rfl) (by simp [Value.cells,Value.oneCell']) ?_
  intro X4 hP
  refine hK.out _ _ ?_
  clear hK K
  try simp only [Act.put,PZ]
  refine gx (by kernel_rfl) ?_ _
  have hlo:w.heap.size+1<X1.heap.size:=fG (HQ.out.2.2.up HA1.out.2).b
  have HN:Hid ((q.more k (some ⟨g1,0,none⟩) c3 a1 c1).nU=k+1∧CpL w.heap.size gB l (q.more k (some ⟨g1,0,none⟩) c3 a1 c1) X4∧Two w l.cells iL 99 X4):=⟨rfl,HQ.out.2.1.more HQ.out.1 HA1.out.2 HQ.out.2.2.bel.size HA1.out.1 HN3.out.1 HN3.out.2.1 HN3.out.2.2 hP,((HQ.out.2.2.up HA1.out.2).far HN3.out.2.1 (fun hg=>(HQ.out.2.1.up HA1.out.2).own.u.k8 (by decide) hg) (fun x hx=>((HQ.out.2.1.up HA1.out.2).own.u.blk x hx).1)).put hP HgB.out⟩
  clear hP hT0 hT1 hT3 HN3 HA1 HQ hlo
  go_wp2_with fail
  go_roundw
  case rel=>exact ⟨k+1,_,by omega,by go_num,HN⟩
  case measure=>simp [intOf];omega
 obtain rfl:k=l.nU:=by omega
 obtain ⟨hq1,hq2,hq3⟩:=HQ.out
 have HL:Hid (∀ j,j<8→wr.cell? ⟨gB,0+j,none⟩=q.cells[j]?):=fun j _=>by rw [Nat.zero_add];exact fF hq2.box j
 have HD:Hid (wr.heap[w.heap.size+1]?=some (.cells iL 99 (0,0))):=hq3.b
 clear hq1 hq2 hq3
 go_wp2_with (first | refine fM rfl 99 8 _ Tryz.underlying99 rfl ir (.tmp 3) rfl gB 0 rfl q.cells rfl HL.out ?_ | refine fJ rfl 99 (.tmp 2) (.tmp 30) rfl (w.heap.size+1) 0 rfl (.agg q.cells) rfl 8 rfl 99 _ HD.out ir (Nat.le_of_ble_eq_true rfl) (Lng.mi _) ?_)
 intro X hP
 replace hP:Put wr X (w.heap.size+1) q.cells 99:=hP.cast rfl
 have HK:Hid (X.heap[w.heap.size+1]?=some (.cells q.cells 99 (0,0))):=hP.blk
 have HF:Hid (gk l q∧gg X w.heap.size q∧Below w.heap.size w X):=⟨⟨HQ.out.2.1.st,HQ.out.2.1.nT,HQ.out.2.1.t,HQ.out.1,HQ.out.2.1.ul,HQ.out.2.1.uz,HQ.out.2.1.r⟩,HQ.out.2.1.own.box HD.out (by decide) (by decide) hP.to,HQ.out.2.2.bel.trans (hP.to.below HQ.out.2.2.bel.size (fun x hx=>by simp at hx;omega))⟩
 clear hP HL HD HQ
 go_wp2_with fail
 exact bodyPost_ret (js Tryz.results73 8 _ Tryz.underlying99 rfl ir _ _ (w.heap.size+1) q.cells rfl 99 HK.out rfl) rfl ⟨q,rfl,HF.out.1,HF.out.2.1,HF.out.2.2⟩
def zZ (x:Ent):DataW Unit:=.agg [.lit (.int .i64 x.m),.lit (.int .i64 x.p),.lit (.int .i64 x.t)]
theorem AP {x y:Ent} (h:zZ x=zZ y):x=y:=by
 cases x;cases y
 simp [zZ] at h
 simp [h]
theorem Da {x y:Ent} (h:x.v=y.v):x=y:=by
 cases x;cases y
 simp [Ent.v] at h
 simp [h]
open Classical in
noncomputable def nA (v:Value):Option (DataW Unit × List MemPlace):=if h:∃ x:Ent,v=x.v then some (zZ (Classical.choose h),[]) else none
theorem nz (x:Ent):nA x.v=some (zZ x,[]):=by
 unfold nA
 have h:∃ y:Ent,x.v=y.v:=⟨x,rfl⟩
 rw [dif_pos h,←Da (Classical.choose_spec h)]
theorem px {v:Value} {x:Ent} {ps:List MemPlace} (h:nA v=some (zZ x,ps)):v=x.v:=by
 unfold nA at h
 split at h
 ·
  rename_i hx
  have e:=Classical.choose_spec hx
  simp only [Option.some.injEq,Prod.mk.injEq] at h
  rw [e,AP h.1]
 cases h
def kv (x:Ent):Lit × DataW Unit:=(.int .i64 x.m,zZ x)
def mD (L:List Ent):DataW Unit:=.map (L.map kv)
def iX (x:Ent):List Ent→List Ent
 | []=>[x]
 | y :: r=>if x.m<y.m then x :: y :: r else y :: iX x r
def notM (k:Int) (L:List Ent):List Ent:=L.filter fun y=>decide (y.m≠k)
theorem qE (a b:Int):(Lit.int .i64 a).sameKey (Lit.int .i64 b)=decide (a=b):=by simp [Lit.sameKey]
theorem Bf (x:Ent):∀ L:List Ent,DataW.insert (kv x) (L.map kv)=(iX x L).map kv
 | []=>rfl
 | y :: r=>by
  have hb:(kv x).1.before (kv y).1=decide (x.m<y.m):=by simp [kv,Lit.before]
  show DataW.insert (kv x) (kv y :: r.map kv)=_
  unfold DataW.insert iX
  rw [hb]
  by_cases h:x.m<y.m
  ·
   simp [h]
  simp [h,Bf x r]
theorem tD (k:Int) (L:List Ent):(L.map kv).filter (fun p=>!p.1.sameKey (.int .i64 k))=(notM k L).map kv:=by
 unfold notM
 induction L with
 | nil=>rfl
 | cons y r ih =>
  have hb:(kv y).1.sameKey (.int .i64 k)=decide (y.m=k):=qE _ _
  by_cases h:y.m=k
  ·
   simp [List.filter_cons,hb,h,ih]
  simp [List.filter_cons,hb,h,ih]
theorem CC (x:Ent) (L:List Ent):(mD L).put (.int .i64 x.m) (zZ x)=mD (iX x (notM x.m L)):=by
 show DataW.map (DataW.insert (kv x) ((L.map kv).filter _))=_
 rw [tD,Bf];rfl
theorem Bc (k:Int) (L:List Ent):(mD L).del (.int .i64 k)=mD (notM k L):=by
 show DataW.map ((L.map kv).filter _)=_
 rw [tD];rfl
theorem qW (L:List Ent):Maps.size (mD L)=L.length:=by simp [mD,Maps.size]
def AO (k:Int) (L:List Ent):Bool:=L.any fun y=>decide (y.m=k)
def atM (k:Int) (L:List Ent):Ent:=(L.find? fun y=>decide (y.m=k)).getD ⟨0,0,0⟩
theorem CD (k:Int) (L:List Ent):Maps.has (mD L) (.int .i64 k)=AO k L:=by
 unfold mD AO
 rw [Maps.has_eq]
 induction L with
 | nil=>rfl
 | cons y r ih =>
  have hb:(kv y).1.sameKey (.int .i64 k)=decide (y.m=k):=qE _ _
  simp only [List.map_cons,List.any_cons,hb,ih]
theorem CE (k:Int) (L:List Ent):(mD L).atKey (.int .i64 k) (zZ ⟨0,0,0⟩)=zZ (atM k L):=by
 unfold mD atM
 simp only [DataW.atKey]
 induction L with
 | nil=>rfl
 | cons y r ih =>
  have hb:(kv y).1.sameKey (.int .i64 k)=decide (y.m=k):=qE _ _
  by_cases h:y.m=k
  ·
   simp only [List.map_cons,List.find?_cons,hb,h,decide_true]
   rfl
  simp only [List.map_cons,List.find?_cons,hb,h,decide_false]
  exact ih
theorem km {k:Int} {L:List Ent} (h:∀ y∈L,y.m≠k):notM k L=L:=by
 unfold notM
 rw [List.filter_eq_self]
 intro y hy
 simp [h y hy]
theorem ph {x:Ent}:∀ {L:List Ent},(∀ y∈L,y.m<x.m)→iX x L=L++[x]
 | [],_=>rfl
 | y :: r,h=>by
  have h1:=h y (by simp)
  unfold iX
  rw [if_neg (by omega),ph (fun z hz=>h z (by simp [hz]))]
  rfl
def gb (n:Nat) (f:Nat→Ent):List Ent:=(List.range n).map f
theorem iK (n:Nat) (f:Nat→Ent):gb (n+1) f=gb n f++[f n]:=by simp [gb,List.range_succ]
theorem iH (n:Nat) (f:Nat→Ent):(gb n f).length=n:=by simp [gb]
theorem iE.lt {n:Nat} {f:Nat→Ent} (h:iE n f):∀ j i,i<j→j<n→(f i).m<(f j).m
 | 0,i,hi,_=>by omega
 | j+1,i,hi,hj=>by
  have h1:=(h (j+1) hj).2 (by omega)
  simp only [Nat.add_sub_cancel] at h1
  by_cases e:i=j
  ·
   subst e;exact h1
  have:=iE.lt h j i (by omega) (by omega)
  omega
theorem iE.below {n k:Nat} {f:Nat→Ent} (h:iE n f) (hk:k<n):∀ y∈gb k f,y.m<(f k).m:=by
 intro y hy
 obtain ⟨i,hi,rfl⟩:=List.mem_map.1 hy
 exact h.lt k i (List.mem_range.1 hi) hk
abbrev kg (w:World) (b n:Nat) (L:List Ent):Prop:=w.ownsMap Tryz.prog 2 nA b n (mD L)
theorem CK {k:Int} (h0:-9223372036854775808≤k) (h1:k≤9223372036854775807):keyOf Tryz.prog 2 (.int .i64 k)=some (.int .i64 k) :=
 Maps.keyOf_int_mk Tryz.underlying2 (by simp [Lit.wf,IntKind.min,IntKind.max,IntKind.signed,IntKind.bits];omega)
theorem BT:(Tryz.prog.info? 92).map (fun i=>(i.zero,i.size,i.bytes))=some (some (.agg #[.int .i64 0,.int .i64 0,.int .i64 0]),3,24):=by kernel_rfl
def iZ (x:Ent):List Value:=[.int .i64 x.m,.int .i64 x.p,.int .i64 x.t]
def hF (L:List Ent):List Value:=L.flatMap iZ
theorem lj:∀ L:List Ent,(hF L).length=L.length*3
 | []=>rfl
 | x :: r=>by
  have:=lj r
  unfold hF at this ⊢
  simp [iZ,this];omega
theorem xE (L:List Ent) (x:Ent):hF (L++[x])=hF L++iZ x:=by simp [hF]
theorem ln:∀ (L:List Ent) (i:Nat),i<L.length→(hF L)[i*3]?=some (.int .i64 (L.getD i default).m)∧(hF L)[i*3+1]?=some (.int .i64 (L.getD i default).p)∧(hF L)[i*3+2]?=some (.int .i64 (L.getD i default).t)
 | [],i,h=>by simp at h
 | x :: r,0,_=>by simp [hF,iZ]
 | x :: r,i+1,h=>by
  have hr:=ln r i (by simpa using h)
  have e:hF (x :: r)=.int .i64 x.m :: .int .i64 x.p :: .int .i64 x.t :: hF r:=by simp [hF,iZ]
  rw [e,show (i+1)*3=i*3+1+1+1 by omega]
  simpa using hr
def ks (w:World) (base:Nat) (v:Value) (L:List Ent):Prop:=w.ownsRow base 92 3 v L.length (hF L)
theorem ks.nil (w:World) (base:Nat):ks w base (.slice none 0 0) []:=World.ownsRow_nil _ _ _ _
theorem ic (w:World) (x:Ent) (t:TypeId):∀ j u,(iZ x)[j]?=some u→(w.alloc (.cells #[.int .i64 x.m,.int .i64 x.p,.int .i64 x.t] t)).cell? ((⟨w.heap.size,0,none⟩:Addr).add j)=some u:=by
 intro j u hj
 have hc:=fF (fK w (.cells #[.int .i64 x.m,.int .i64 x.p,.int .i64 x.t] t))
 match j,hj with
 | 0,hj=>simpa [iZ,Addr.add] using (hc 0).trans hj
 | 1,hj=>simpa [iZ,Addr.add] using (hc 1).trans hj
 | 2,hj=>simpa [iZ,Addr.add] using (hc 2).trans hj
theorem zW (x:Ent):∀ u∈iZ x,u.oneCell'=true:=by
 intro u hu
 simp [iZ] at hu
 rcases hu with rfl | rfl | rfl <;> rfl
theorem ks.row {w:World} {base:Nat} {v:Value} {L:List Ent} (h:ks w base v L):(v=.slice none 0 0∧L=[])∨∃ g cap,v=.slice (some ⟨g,0,none⟩) L.length cap∧base≤g∧fU g 92 (L.length*3) (flat fun i=>L.getD i default) (L.length*3) w:=by
 rcases h.2 with ⟨h1,h2⟩ | ⟨g,cap,cur,hv,hg,hblk,hn,hc,hs,ht⟩
 ·
  exact .inl ⟨h1,List.eq_nil_of_length_eq_zero h2⟩
 refine .inr ⟨g,cap,hv,hg,cur,hblk,by rw [hs];omega,fun j hj=>?_⟩
 have hg0:cur[j]?=(hF L)[j]?:=by
  rw [←ht,List.getElem?_take_of_lt hj,Array.getElem?_toList]
 rw [hg0]
 obtain ⟨i,hi | hi | hi⟩:∃ i,j=i*3∨j=i*3+1∨j=i*3+2:=⟨j / 3,by omega⟩
 ·
  subst hi;rw [vp,(ln L i (by omega)).1]
 ·
  subst hi;rw [zr,(ln L i (by omega)).2.1]
 subst hi;rw [vo,(ln L i (by omega)).2.2]
theorem ks.read {w:World} {base:Nat} {v:Value} {L:List Ent} (h:ks w base v L):∃ a cap,v=.slice a L.length cap∧iu w a L.length fun i=>L.getD i default:=by
 rcases h.row with ⟨rfl,rfl⟩ | ⟨g,cap,rfl,_,hr⟩
 ·
  exact ⟨_,_,rfl,iu.nil _ _ _⟩
 exact ⟨_,_,rfl,hr.Ca⟩
theorem ks.up {w w':World} {base:Nat} {v:Value} {L:List Ent} (h:ks w base v L) (hb:Below w.heap.size w w'):ks w' base v L:=k7 h hb (Nat.le_refl _)
theorem ks.mono {w:World} {base base':Nat} {v:Value} {L:List Ent} (h:ks w base v L) (hb:base'≤base):ks w base' v L:=by
 obtain ⟨h1,h2⟩:=h
 refine ⟨h1,h2.imp id ?_⟩
 rintro ⟨g,cap,cur,hv,hg,hr⟩
 exact ⟨g,cap,cur,hv,by omega,hr⟩
theorem vD {W:World} {v:Value} {c base:Nat} (t e:TypeId) (z:Value) (sz bytes:Nat) (hinfo:(Tryz.prog.info? e).map (fun i=>(i.zero,i.size,i.bytes))=some (some z,sz,bytes)) (hu:Tryz.prog.underlying t=some (.slice e)) (h:W.ownsRow base e sz v 0 []) :
  (Builtin.append_ #[t,t] t #[v,.slice none 0 c]).run Tryz.prog W=.ok v W:=by
 obtain ⟨i0,hi,hz0,hz1,hz2⟩:=info_parts hinfo
 rcases h.2 with ⟨rfl,_⟩ | ⟨g,cap,cur,rfl,_⟩
 ·
  simp [Builtin.append_,run_underlying hu,sizeOf,typeInfo,hi,Builtin.lenOf,Builtin.firstCells,loadCells,loadCellsFrom]
 simp [Builtin.append_,run_underlying hu,sizeOf,typeInfo,hi,Builtin.lenOf,Builtin.firstCells,loadCells,loadCellsFrom,storeCells]
def Bt (w:World) (a:Option Addr) (xs:List Value):Prop:=∀ j u,xs[j]?=some u→∃ g o,a=some ⟨g,o,none⟩∧w.cell? ⟨g,o+j,none⟩=some u
theorem Bt.up {w w2:World} {a:Option Addr} {xs:List Value} (h:Bt w a xs) (hb:Below w.heap.size w w2):Bt w2 a xs:=fun j u hj=>by
 obtain ⟨g,o,ha,hc⟩:=h j u hj
 exact ⟨g,o,ha,(hb.cell (p:=⟨g,o+j,none⟩) (iI hc)).trans hc⟩
theorem uh {W:World} {base:Nat} {v:Value} {a:Option Addr} {n c:Nat} {xs:List Value} (t e:TypeId) (z:Value) (sz bytes:Nat) (hinfo:(Tryz.prog.info? e).map (fun i=>(i.zero,i.size,i.bytes))=some (some z,sz,bytes)) (hu:Tryz.prog.underlying t=some (.slice e)) (hz:z.cells.size=sz) (hsz:0<sz) (hby:bytes≤1000)
  (h:W.ownsRow base e sz v 0 []) (hb:base≤W.heap.size) (hn:n≤1048576) (hl:xs.length=n*sz) (hr:Bt W a xs) (h1:∀ u∈xs,u.oneCell'=true) :
  ∃ a' c' W',(Builtin.append_ #[t,t] t #[v,.slice a n c]).run Tryz.prog W=.ok (.slice a' n c') W'∧OG e sz W' base a' n c' xs∧W.grownBy W' v.ownBlock:=by
 have fin:∀ (v':Value) (W':World),W'.ownsRow base e sz v' n xs→∃ a' c',v'=.slice a' n c'∧OG e sz W' base a' n c' xs:=by
  intro v' W' h2
  rcases h2.2 with ⟨e1,e2⟩ | ⟨g,cap,cur,e1,_⟩
  ·
   subst e1
   subst e2
   exact ⟨none,0,rfl,h2⟩
  refine ⟨some ⟨g,0,none⟩,cap,e1,?_⟩
  rw [e1] at h2
  exact h2
 have hbb:(0+n)*bytes≤140737488355328:=by
  have:=Nat.mul_le_mul (show 0+n≤1048577 by omega) hby
  omega
 obtain ⟨i0,hi,hz0,hz1,hz2⟩:=info_parts hinfo
 cases a with
 | none =>
  have hx:xs=[]:=by
   cases xs with
   | nil=>rfl
   | cons x r =>
    obtain ⟨g,o,ha,_⟩:=hr 0 x rfl
    cases ha
  subst hx
  have hl':n*sz=0:=hl.symm
  have h0:n=0:=(Nat.mul_eq_zero.1 hl').resolve_right (by omega)
  subst h0
  obtain ⟨a',c',rfl,hv⟩:=fin v W h
  exact ⟨a',c',W,vD t e z sz bytes hinfo hu h,hv,⟨rfl,rfl,rfl,Nat.le_refl _,fun _ _ _=>rfl⟩⟩
 | some ad =>
  obtain ⟨v',W',hr',h2,h3,h4,h5⟩:=run_append_own_at (P:=Tryz.prog) W base t t e i0 z sz bytes hu hi hz0 hz1 hz2 hz hsz v 0 [] h ad n c xs hl (fun j u hj=>by
   obtain ⟨g,o,ha,hc⟩:=hr j u hj
   cases ha
   have e0:(⟨g,o,none⟩:Addr).add j=⟨g,o+j,none⟩:=by unfold Addr.add;split <;> simp_all
   rw [e0]
   exact hc) h1 (by unfold maxLen;omega) hbb hb
  rw [Nat.zero_add,List.nil_append] at h2
  obtain ⟨a',c',rfl,hv⟩:=fin v' W' h2
  exact ⟨a',c',W',hr',hv,h3⟩
theorem oc {W:World} {a:Option Addr} {n c:Nat} {xs:List Value} (t e:TypeId) (z:Value) (sz bytes:Nat) (hinfo:(Tryz.prog.info? e).map (fun i=>(i.zero,i.size,i.bytes))=some (some z,sz,bytes)) (hu:Tryz.prog.underlying t=some (.slice e)) (hz:z.cells.size=sz) (hsz:0<sz) (hby:bytes≤1000)
  (hn:n≤1048576) (hl:xs.length=n*sz) (hr:Bt W a xs) (h1:∀ u∈xs,u.oneCell'=true) :
  ∃ a' c' W',(Builtin.append_ #[t,t] t #[.slice none 0 0,.slice a n c]).run Tryz.prog W=.ok (.slice a' n c') W'∧OG e sz W' W.heap.size a' n c' xs∧Below W.heap.size W W':=by
 obtain ⟨a',c',W',h2,h3,h4⟩:=uh (c:=c) t e z sz bytes hinfo hu hz hsz hby (World.ownsRow_nil W W.heap.size e sz) (Nat.le_refl _) hn hl hr h1
 exact ⟨a',c',W',h2,h3,(Below.refl _ _).grown h4 (Nat.le_refl _) (fun k e=>by simp [Value.ownBlock] at e)⟩
theorem oe {V:World} {a:Option Addr} {n c:Nat} {xs:List Value} (t e:TypeId) (z:Value) (sz bytes:Nat) (hinfo:(Tryz.prog.info? e).map (fun i=>(i.zero,i.size,i.bytes))=some (some z,sz,bytes)) (hu:Tryz.prog.underlying t=some (.slice e)) (hz:z.cells.size=sz) (hsz:0<sz) (hby:bytes≤1000)
  (hn:n≤1048576) (hl:xs.length=n*sz) (hr:Bt V a xs) (h1:∀ u∈xs,u.oneCell'=true) :
  ∃ a' c' W',(Builtin.append_ #[t,t] t #[.slice (some ⟨V.heap.size,0,none⟩) 0 0,.slice a n c]).run Tryz.prog (V.alloc (.cells #[] e))=.ok (.slice a' n c') W'∧OG e sz W' V.heap.size a' n c' xs∧Below V.heap.size V W':=by
 have hA:Below V.heap.size V (V.alloc (.cells #[] e)):=(Below.refl _ _).alloc (Nat.le_refl _) _
 have hm:(V.alloc (.cells #[] e)).ownsRow V.heap.size e sz (.slice (some ⟨V.heap.size,0,none⟩) 0 0) 0 []:=World.ownsRow_made V #[] 0 (Nat.le_refl _) (Nat.zero_le _) (by simp)
 obtain ⟨a',c',W',h2,h3,h4⟩:=uh (c:=c) t e z sz bytes hinfo hu hz hsz hby hm (by simp) hn hl (hr.up hA) h1
 exact ⟨a',c',W',h2,h3,hA.grown h4 (by simp) (fun k e=>by simp [Value.ownBlock] at e;omega)⟩
def o3 (n:Nat) (K:Nat→Pkt):List Value:=(List.range n).flatMap fun i=>(K i).cells.toList
theorem k6 (n:Nat) (K:Nat→Pkt):o3 (n+1) K=o3 n K++(K n).cells.toList:=by simp [o3,List.range_succ]
theorem me (n:Nat) (K:Nat→Pkt):(o3 n K).length=n*8:=by
 induction n with
 | zero=>rfl
 | succ n ih=>rw [k6,List.length_append,ih,Array.length_toList,Pkt.gJ];omega
theorem qM (n:Nat) (K:Nat→Pkt) (i j:Nat) (hi:i<n) (hj:j<8):(o3 n K)[i*8+j]?=(K i).cells[j]?:=by
 induction n with
 | zero=>omega
 | succ n ih =>
  rw [k6]
  by_cases e:i=n
  ·
   subst e
   rw [List.getElem?_append_right (by rw [me];omega),me,show i*8+j-i*8=j by omega,Array.getElem?_toList]
  rw [List.getElem?_append_left (by rw [me];omega)]
  exact ih (by omega)
theorem yk (n:Nat) (K:Nat→Pkt) (j:Nat) (hj:j<n*8):(o3 n K)[j]?=some (pv K j):=by
 have h:=qM n K (j / 8) (j % 8) (by omega) (by omega)
 rw [show j / 8*8+j % 8=j by omega] at h
 rw [h,←rB K (j / 8) (j % 8) (by omega),show j / 8*8+j % 8=j by omega]
theorem vU (n:Nat) (K:Nat→Pkt):∀ u∈o3 n K,u.oneCell'=true:=by
 intro u hu
 unfold o3 at hu
 simp only [List.mem_flatMap,List.mem_range] at hu
 obtain ⟨i,_,hu⟩:=hu
 exact (Array.all_eq_true_iff_forall_mem.1 (Pkt.mi (K i))) u (by simpa using hu)
theorem kK.cs {w:World} {a:Option Addr} {n:Nat} {K:Nat→Pkt} (h:kK w a n K):Bt w a (o3 n K):=by
 intro j u hj
 have hlt:j<n*8:=by
  have:=(List.getElem?_eq_some_iff.1 hj).1
  rwa [me] at this
 obtain ⟨g,o,ha,hc⟩:=h (j / 8) (by omega)
 refine ⟨g,o,ha,?_⟩
 have h2:=hc (j % 8) (by omega)
 rw [show o+j / 8*8+j % 8=o+j by omega] at h2
 rw [h2,←qM n K (j / 8) (j % 8) (by omega) (by omega),show j / 8*8+j % 8=j by omega]
 exact hj
def sb (n:Nat) (L:Nat→Lng):List Value:=(List.range n).flatMap fun i=>(L i).cells.toList
theorem lX (n:Nat) (L:Nat→Lng):sb (n+1) L=sb n L++(L n).cells.toList:=by simp [sb,List.range_succ]
theorem lB (n:Nat) (L:Nat→Lng):(sb n L).length=n*8:=by
 induction n with
 | zero=>rfl
 | succ n ih=>rw [lX,List.length_append,ih,Array.length_toList,Lng.gJ];omega
theorem AD {n:Nat} {L L':Nat→Lng} (h:∀ i,i<n→L i=L' i):sb n L=sb n L':=by
 induction n with
 | zero=>rfl
 | succ n ih=>rw [lX,lX,ih (fun i hi=>h i (by omega)),h n (by omega)]
theorem oC (n:Nat) (L:Nat→Lng) (i j:Nat) (hi:i<n) (hj:j<8):(sb n L)[i*8+j]?=(L i).cells[j]?:=by
 induction n with
 | zero=>omega
 | succ n ih =>
  rw [lX]
  by_cases e:i=n
  ·
   subst e
   rw [List.getElem?_append_right (by rw [lB];omega),lB,show i*8+j-i*8=j by omega,Array.getElem?_toList]
  rw [List.getElem?_append_left (by rw [lB];omega)]
  exact ih (by omega)
theorem pb (n:Nat) (L:Nat→Lng) (j:Nat) (hj:j<n*8):(sb n L)[j]?=some (l3 L j):=by
 have h:=oC n L (j / 8) (j % 8) (by omega) (by omega)
 rw [show j / 8*8+j % 8=j by omega] at h
 rw [h,←jU L (j / 8) (j % 8) (by omega),show j / 8*8+j % 8=j by omega]
theorem iu.cs {w:World} {a:Option Addr} {n:Nat} {f:Nat→Ent} (h:iu w a n f):Bt w a (hF (gb n f)):=by
 intro j u hj
 have hlt:j<n*3:=by
  have:=(List.getElem?_eq_some_iff.1 hj).1
  rwa [lj,iH] at this
 have hg:∀ i,i<n→(gb n f).getD i default=f i:=fun i hi=>by simp [gb,hi]
 obtain ⟨i,hm⟩:∃ i,j=i*3∨j=i*3+1∨j=i*3+2:=⟨j / 3,by omega⟩
 obtain ⟨g,o,ha,h1,h2,h3⟩:=h i (by omega)
 obtain ⟨q1,q2,q3⟩:=ln (gb n f) i (by rw [iH];omega)
 rw [hg _ (by omega)] at q1 q2 q3
 refine ⟨g,o,ha,?_⟩
 rcases hm with e | e | e
 ·
  subst e
  rw [q1] at hj
  cases hj
  exact h1
 ·
  subst e
  rw [q2] at hj
  cases hj
  rw [←Nat.add_assoc]
  exact h2
 subst e
 rw [q3] at hj
 cases hj
 rw [←Nat.add_assoc]
 exact h3
theorem tx (L:List Ent):∀ u∈hF L,u.oneCell'=true:=by
 intro u hu
 unfold hF at hu
 simp only [List.mem_flatMap] at hu
 obtain ⟨x,_,hu⟩:=hu
 exact zW x u hu
theorem xF (n:Nat) (f:Nat→Ent) (j:Nat) (hj:j<n*3):(hF (gb n f))[j]?=some (flat f j):=by
 have hg:∀ i,i<n→(gb n f).getD i default=f i:=fun i hi=>by simp [gb,hi]
 obtain ⟨i,hm⟩:∃ i,j=i*3∨j=i*3+1∨j=i*3+2:=⟨j / 3,by omega⟩
 obtain ⟨q1,q2,q3⟩:=ln (gb n f) i (by rw [iH];omega)
 rw [hg _ (by omega)] at q1 q2 q3
 rcases hm with e | e | e
 ·
  subst e
  rw [q1,vp]
 ·
  subst e
  rw [q2,zr]
 subst e
 rw [q3,vo]
def Lng.mL (l:Lng):List Nat:=gi l.aU++jO l.R.aS l.R.nS
theorem gg.tnd {w:World} {base:Nat} {l:Lng} (h:gg w base l):l.mL.Nodup :=
 List.nodup_append.2 ⟨jD _,nB _ _,fun x hx y hy e=>h.su y hy (e▸hx)⟩
theorem gg.Cl {w:World} {base:Nat} {l:Lng} (h:gg w base l):∀ x∈l.mL,base≤x∧x<w.heap.size:=by
 intro x hx
 rcases List.mem_append.1 hx with hx | hx
 ·
  exact h.u.blk x hx
 exact (h.r.own.s.l7 x hx).1
theorem gg.ux {w:World} {base:Nat} {l:Lng} (h:gg w base l):∀ x∈l.mL,∃ cs,w.heap[x]?=some (.cells cs 25 (0,0)):=by
 intro x hx
 rcases List.mem_append.1 hx with hx | hx
 ·
  exact h.u.type x hx
 exact (h.r.own.s.l7 x hx).2
structure iV (w:World) (base:Nat) (aL:Option Addr) (nL cL:Nat) (L:Nat→Lng):Prop where
 l:OG 99 8 w base aL nL cL (sb nL L)
 ls:∀ i,i<nL→gg w base (L i)
 nd:((List.range nL).flatMap fun i=>(L i).iJ).Nodup
 td:((List.range nL).flatMap fun i=>(L i).mL).Nodup
theorem iV.up {w w':World} {base:Nat} {aL:Option Addr} {nL cL:Nat} {L:Nat→Lng} (h:iV w base aL nL cL L) (hb:Below w.heap.size w w'):iV w' base aL nL cL L:=⟨h.l.up hb,fun i hi=>(h.ls i hi).up hb,h.nd,h.td⟩
theorem iV.mono {w:World} {base base':Nat} {aL:Option Addr} {nL cL:Nat} {L:Nat→Lng} (h:iV w base aL nL cL L) (hb:base'≤base):iV w base' aL nL cL L:=⟨h.l.mono hb,fun i hi=>(h.ls i hi).mono hb,h.nd,h.td⟩
theorem iV.low {w w':World} {base:Nat} {aL:Option Addr} {nL cL:Nat} {L:Nat→Lng} {S:List Nat} (h:iV w base aL nL cL L) (ht:Touch S w w') (hS:∀ x∈S,x<base):iV w' base aL nL cL L:=⟨h.l.low ht hS,fun i hi=>(h.ls i hi).low ht hS,h.nd,h.td⟩
theorem iV.box {w w':World} {base g:Nat} {aL:Option Addr} {nL cL:Nat} {L:Nat→Lng} {cs:Array Value} {t:TypeId} (h:iV w base aL nL cL L) (hg:w.heap[g]?=some (.cells cs t (0,0))) (ht2:t≠2) (hts:t≠25) (htl:99≠t) (ht:Touch [g] w w'):iV w' base aL nL cL L :=
 ⟨h.l.fL ht (fun x hx hy=>h.l.k8 htl hg ((List.mem_singleton.1 hy)▸hx)),fun i hi=>(h.ls i hi).box hg ht2 hts ht,h.nd,h.td⟩
theorem iV.nil (w:World) (base:Nat) (L:Nat→Lng):iV w base none 0 0 L:=⟨OG.nil _ _ _ _,fun i hi=>absurd hi (Nat.not_lt_zero _),by simp,by simp⟩
theorem iV.more {V V1 W:World} {base g c2 k cL:Nat} {aL:Option Addr} {L:Nat→Lng} {l2:Lng} (h:iV V base aL k cL L) (hb:Below V.heap.size V V1) (hbase:base≤V.heap.size) (ho:gg V1 V.heap.size l2)
  (hu:OG 99 8 W base (some ⟨g,0,none⟩) (k+1) c2 (sb k L++l2.cells.toList)) (ht:Touch (gi aL) V1 W):iV W base (some ⟨g,0,none⟩) (k+1) c2 (fun i=>if i=k then l2 else L i):=by
 have h1:=h.up hb
 have far:∀ {b:Nat} {l:Lng},gg V1 b l→gg W b l:=fun hl=>hl.kO ht (fun x hx hy=>by
   obtain ⟨cs,e1⟩:=hl.type2 x hx
   exact h1.l.k8 (by decide) e1 hy) (fun x hx hy=>by
   obtain ⟨cs,e1⟩:=hl.u.type x hx
   exact h1.l.k8 (by decide) e1 hy) (fun x hx hy=>by
   obtain ⟨_,cs,e1⟩:=hl.r.own.s.l7 x hx
   exact h1.l.k8 (by decide) e1 hy)
 refine ⟨?_,fun i hi=>?_,?_,?_⟩
 ·
  rw [lX,AD (L':=L) (fun i hi=>if_neg (by omega)),if_pos rfl]
  exact hu
 ·
  by_cases e:i=k
  ·
   rw [if_pos e]
   exact (far ho).mono hbase
  rw [if_neg e]
  exact far (h1.ls i (by omega))
 ·
  rw [List.range_succ,List.flatMap_append]
  simp only [List.flatMap_cons,List.flatMap_nil,List.append_nil,if_true]
  rw [ij (f:=fun i=>(if i=k then l2 else L i).iJ) (g:=fun i=>(L i).iJ) (fun i hi=>by rw [if_neg (by omega)])]
  refine iY h.nd ho.nd V.heap.size (fun x hx=>?_) (fun x hx=>(ho.blk x hx).1)
  simp only [List.mem_flatMap,List.mem_range] at hx
  obtain ⟨i,hi,hx⟩:=hx
  exact ((h.ls i hi).blk x hx).2
 rw [List.range_succ,List.flatMap_append]
 simp only [List.flatMap_cons,List.flatMap_nil,List.append_nil,if_true]
 rw [ij (f:=fun i=>(if i=k then l2 else L i).mL) (g:=fun i=>(L i).mL) (fun i hi=>by rw [if_neg (by omega)])]
 refine iY h.td ho.tnd V.heap.size (fun x hx=>?_) (fun x hx=>(ho.Cl x hx).1)
 simp only [List.mem_flatMap,List.mem_range] at hx
 obtain ⟨i,hi,hx⟩:=hx
 exact ((h.ls i hi).Cl x hx).2
structure gy (w:World) (base:Nat) (S:Swg):Prop where
 e:OG 92 3 w base S.aE S.nE S.cE (hF (gb S.nE S.e))
 n:gV w base S.N
 k:OG 94 8 w base S.aK S.nK S.cK (o3 S.nK S.K)
 l:iV w base S.aL S.nL S.cL S.L
 un:∀ x∈ib S.N.aU S.N.nU,x∉(List.range S.nL).flatMap fun i=>(S.L i).iJ
theorem Bd (l:Lng):∀ x∈l.kH,x∈l.iJ:=by
 intro x hx
 have hv:∀ {a:Option Addr} {n:Nat},x∈ib a n→x∈gi a:=fun h=>(rV _ _).subset h
 unfold Lng.kH at hx
 unfold Lng.iJ Rnd.iJ
 simp only [List.mem_append,ig,iC] at hx ⊢
 rcases hx with hx | ⟨i,hi,hx⟩ | hx | hx | ⟨i,hi,hx⟩
 ·
  exact .inl (.inl (hv hx))
 ·
  exact .inr ⟨i,hi,hv hx⟩
 ·
  exact .inl (.inr (.inl hx))
 ·
  exact .inl (.inr (.inr (.inl hx)))
 exact .inl (.inr (.inr (.inr ⟨i,hi,hv hx⟩)))
theorem BZ {f g:Nat→List Nat}:∀ n,((List.range n).flatMap g).Nodup→(∀ i,i<n→(f i).Nodup)→(∀ i,i<n→∀ x∈f i,x∈g i)→((List.range n).flatMap f).Nodup:=by
 intro n hg hf hs
 refine la n hf (fun i j hi hj hne x hx hy=>?_)
 have:∀ n,((List.range n).flatMap g).Nodup→∀ i j,i<j→j<n→∀ x,x∈g i→x∉g j:=by
  intro n
  induction n with
  | zero=>intro _ i j _ hj;omega
  | succ n ih =>
   intro hn i j hij hj x h1 h2
   rw [List.range_succ,List.flatMap_append] at hn
   simp only [List.flatMap_cons,List.flatMap_nil,List.append_nil] at hn
   obtain ⟨n1,n2,n3⟩:=List.nodup_append.1 hn
   by_cases e:j=n
   ·
    subst e
    exact n3 x (by simp only [List.mem_flatMap,List.mem_range];exact ⟨i,hij,h1⟩) x h2 rfl
   exact ih n1 i j hij (by omega) x h1 h2
 rcases Nat.lt_or_gt_of_ne hne with h | h
 ·
  exact this n hg i j h hj x (hs i hi x hx) (hs j hj x hy)
 exact this n hg j i h hi x (hs j hj x hy) (hs i hi x hx)
theorem gy.g {w:World} {base:Nat} {S:Swg} (h:gy w base S):iD w base S:=by
 refine ⟨h.e.vt (fun i hi=>xF _ _ i hi),h.n.u,h.n.p,h.k.vt (fun i hi=>yk _ _ i hi),h.l.l.vt (fun i hi=>pb _ _ i hi),fun i hi=>(h.l.ls i hi).g,?_⟩
 refine List.nodup_append.2 ⟨jZ _ _,BZ _ h.l.nd (fun i hi=>(h.l.ls i hi).g.nd) (fun i hi=>Bd _),fun x hx y hy e=>h.un x hx ?_⟩
 subst e
 simp only [List.mem_flatMap,List.mem_range] at hy ⊢
 obtain ⟨i,hi,hy⟩:=hy
 exact ⟨i,hi,Bd _ x hy⟩
theorem jv {cur cs:Array Value} {o:Nat} (h:o+cs.size≤cur.size) (j:Nat) (hj:o+cs.size≤j):(lay cur o cs)[j]?=cur[j]?:=by
 unfold lay
 simp only [List.getElem?_toArray]
 rw [List.getElem?_append_right (by simp;omega),List.getElem?_drop,←Array.getElem?_toList]
 congr 1
 simp
 omega
theorem mW {cur a b:Array Value} {o k:Nat} (h:o+a.size≤cur.size) (hk:k+b.size≤a.size):lay (lay cur o a) (o+k) b=lay cur o (lay a k b):=by
 have s1:=jc h
 have s2:=jc (cur:=a) (cs:=b) (o:=k) hk
 have h1:o+k+b.size≤(lay cur o a).size:=by omega
 have h2:o+(lay a k b).size≤cur.size:=by omega
 refine Array.ext_getElem? fun j=>?_
 by_cases e1:j<o
 ·
  rw [lg h1 j (by omega),lg h j e1,lg h2 j e1]
 by_cases e2:j<o+a.size
 ·
  have q:=jx h2 (j-o) (by omega)
  have q2:=jx h (j-o) (by omega)
  rw [show o+(j-o)=j by omega] at q q2
  rw [q]
  by_cases e3:j-o<k
  ·
   rw [lg hk _ e3,lg h1 j (by omega)]
   exact q2
  by_cases e4:j-o<k+b.size
  ·
   have q3:=jx hk (j-o-k) (by omega)
   have q4:=jx h1 (j-o-k) (by omega)
   rw [show k+(j-o-k)=j-o by omega] at q3
   rw [show o+k+(j-o-k)=j by omega] at q4
   rw [q3,q4]
  rw [jv hk _ (by omega),jv h1 j (by omega)]
  exact q2
 rw [jv h1 j (by omega),jv h j (by omega),jv h2 j (by omega)]
theorem yJ {cur cs:Array Value} {o:Nat} (h:o+cs.size≤cur.size) (hc:∀ j,j<cs.size→cur[o+j]?=cs[j]?):lay cur o cs=cur:=by
 refine Array.ext_getElem? fun j=>?_
 by_cases h1:j<o
 ·
  exact lg h j h1
 by_cases h2:j<o+cs.size
 ·
  have e:=jx h (j-o) (by omega)
  have e2:=hc (j-o) (by omega)
  rw [show o+(j-o)=j by omega] at e e2
  rw [e,e2]
 exact jv h j (by omega)
theorem gj {w:World} {x y:Nat} {a b:Array Value} {t t':TypeId} (hx:w.heap[x]?=some (.cells a t (0,0))) (hy:w.heap[y]?=some (.cells b t' (0,0))) (hne:t≠t'):x≠y:=by
 intro e
 subst e
 rw [hx] at hy
 simp at hy
 exact hne hy.2
theorem jd {f:Nat→List Nat}:∀ n,((List.range n).flatMap f).Nodup→∀ i k,i<n→k<n→i≠k→∀ x∈f i,x∉f k
 | 0,_,i,_,hi,_,_=>by omega
 | n+1,h,i,k,hi,hk,hne=>by
  rw [List.range_succ,List.flatMap_append] at h
  simp only [List.flatMap_cons,List.flatMap_nil,List.append_nil] at h
  obtain ⟨h1,h2,h3⟩:=List.nodup_append.1 h
  intro x hx hy
  by_cases ei:i=n
  ·
   subst ei
   exact h3 x (by simp only [List.mem_flatMap,List.mem_range];exact ⟨k,by omega,hy⟩) x hx rfl
  by_cases ek:k=n
  ·
   subst ek
   exact h3 x (by simp only [List.mem_flatMap,List.mem_range];exact ⟨i,by omega,hx⟩) x hy rfl
  exact jd n h1 i k (by omega) (by omega) hne x hx hy
structure Bv (w w':World) (base gL gp o:Nat) (cur:Array Value) (l l2:Lng):Prop where
 blk:w'.heap[gL]?=some (.cells (lay cur o l2.cells) 99 (0,0))
 own:gg w' base l2
 z:∀ x∈l2.iJ,x∈l.iJ∨w.heap.size≤x
 t:∀ x∈l2.mL,x∈l.mL∨w.heap.size≤x
 hit:∃ T,Touch T w w'∧∀ x∈T,x=gL∨x=gp∨x∈l.iJ∨x∈l.mL
theorem iV.at {w:World} {base:Nat} {aL:Option Addr} {nL cL:Nat} {L:Nat→Lng} (h:iV w base aL nL cL L) (h0:0<nL):∃ gL cur,aL=some ⟨gL,0,none⟩∧base≤gL∧w.heap[gL]?=some (.cells cur 99 (0,0))∧nL*8≤cur.size∧(∀ i,i<nL→lay cur (i*8) (L i).cells=cur)∧∀ i,i<nL→∀ j,j<8→cur[i*8+j]?=(L i).cells[j]?:=by
 rcases h.l.2 with ⟨_,e⟩ | ⟨g,cap,cur,e,hg,hbk,hn,hm,hs,ht⟩
 ·
  omega
 cases e
 have hsz:nL*8≤cur.size:=by rw [hs];exact Nat.mul_le_mul_right _ hn
 have hc:∀ i,i<nL→∀ j,j<8→cur[i*8+j]?=(L i).cells[j]?:=fun i hi j hj=>by
  rw [←Array.getElem?_toList,←List.getElem?_take_of_lt (show i*8+j<nL*8 by omega),ht]
  exact oC nL L i j hi hj
 exact ⟨g,cur,rfl,hg,hbk,hsz,fun i hi=>yJ (by rw [Lng.gJ];omega) (fun j hj=>hc i hi j (by rw [Lng.gJ] at hj;exact hj)),hc⟩
theorem iV.swap {w w':World} {base gL gp i:Nat} {aL:Option Addr} {nL cL:Nat} {L:Nat→Lng} {l2:Lng} {cur cp:Array Value} (h:iV w base aL nL cL L) (hi:i<nL) (eL:aL=some ⟨gL,0,none⟩) (kL:w.heap[gL]?=some (.cells cur 99 (0,0))) (kP:w.heap[gp]?=some (.cells cp 94 (0,0))) (hn:Bv w w' base gL gp (i*8) cur (L i) l2) :
  iV w' base aL nL cL (fun k=>if k=i then l2 else L k):=by
 obtain ⟨T,hto,hT⟩:=hn.hit
 refine ⟨?_,fun k hk=>?_,?_,?_⟩
 ·
  subst eL
  have hl:w.ownsRow base 99 8 (.slice (some ⟨gL,0,none⟩) nL cL) nL (sb nL L):=h.l
  show w'.ownsRow base 99 8 (.slice (some ⟨gL,0,none⟩) nL cL) nL _
  refine ⟨lB _ _,?_⟩
  rcases hl.2 with ⟨_,e⟩ | ⟨g,cap,cur',e,hg,hbk,h1,hm,hs,ht⟩
  ·
   omega
  cases e
  rw [kL] at hbk
  cases hbk
  have hsz:nL*8≤cur.size:=by rw [hs];exact Nat.mul_le_mul_right _ h1
  have hf:i*8+l2.cells.size≤cur.size:=by rw [Lng.gJ];omega
  refine .inr ⟨gL,cL,_,rfl,hg,hn.blk,h1,hm,by rw [jc hf];exact hs,?_⟩
  refine List.ext_getElem? fun j=>?_
  by_cases hj:j<nL*8
  ·
   rw [List.getElem?_take_of_lt hj,pb nL _ j hj,Array.getElem?_toList]
   have hfl:=jU (fun k=>if k=i then l2 else L k) (j / 8) (j % 8) (by omega)
   rw [show j / 8*8+j % 8=j by omega] at hfl
   rw [hfl]
   by_cases e:j / 8=i
   ·
    rw [if_pos e]
    have q:=jx hf (j % 8) (by rw [Lng.gJ];omega)
    rw [show i*8+j % 8=j by omega] at q
    exact q
   rw [if_neg e]
   have hc:=oC nL L (j / 8) (j % 8) (by omega) (by omega)
   rw [show j / 8*8+j % 8=j by omega,←ht,List.getElem?_take_of_lt hj,Array.getElem?_toList] at hc
   rw [←hc]
   rcases Nat.lt_or_ge j (i*8) with c | c
   ·
    exact lg hf j c
   exact jv hf j (by rw [Lng.gJ];omega)
  rw [List.getElem?_eq_none (by rw [List.length_take];omega),List.getElem?_eq_none (by rw [lB];omega)]
 ·
  show gg w' base (if k=i then l2 else L k)
  by_cases e:k=i
  ·
   rw [if_pos e]
   exact hn.own
  rw [if_neg e]
  have ok:=h.ls k hk
  have oi:=h.ls i hi
  refine ok.kO hto (fun x hx hy=>?_) (fun x hx hy=>?_) (fun x hx hy=>?_)
  ·
   obtain ⟨cs,k1⟩:=ok.type2 x hx
   rcases hT x hy with e1 | e1 | e1 | e1
   ·
    exact gj k1 kL (by decide) e1
   ·
    exact gj k1 kP (by decide) e1
   ·
    exact jd _ h.nd k i hk hi e x hx e1
   obtain ⟨c2,k2⟩:=oi.ux x e1
   exact gj k1 k2 (by decide) rfl
  ·
   obtain ⟨cs,k1⟩:=ok.u.type x hx
   rcases hT x hy with e1 | e1 | e1 | e1
   ·
    exact gj k1 kL (by decide) e1
   ·
    exact gj k1 kP (by decide) e1
   ·
    obtain ⟨c2,k2⟩:=oi.type2 x e1
    exact gj k1 k2 (by decide) rfl
   exact jd _ h.td k i hk hi e x (List.mem_append_left _ hx) e1
  obtain ⟨_,cs,k1⟩:=ok.r.own.s.l7 x hx
  rcases hT x hy with e1 | e1 | e1 | e1
  ·
   exact gj k1 kL (by decide) e1
  ·
   exact gj k1 kP (by decide) e1
  ·
   obtain ⟨c2,k2⟩:=oi.type2 x e1
   exact gj k1 k2 (by decide) rfl
  exact jd _ h.td k i hk hi e x (List.mem_append_right _ hx) e1
 ·
  refine la nL (fun k hk=>?_) (fun j k hj hk hne x hx hy=>?_)
  ·
   show (if k=i then l2 else L k).iJ.Nodup
   by_cases e:k=i
   ·
    rw [if_pos e];exact hn.own.nd
   rw [if_neg e];exact (h.ls k hk).nd
  have hx':x∈(if j=i then l2 else L j).iJ:=hx
  have hy':x∈(if k=i then l2 else L k).iJ:=hy
  by_cases e:j=i
  ·
   rw [if_pos e] at hx'
   rw [if_neg (fun e2=>hne (e.trans e2.symm))] at hy'
   rcases hn.z x hx' with e1 | e1
   ·
    exact jd _ h.nd k i hk hi (fun e2=>hne (e.trans e2.symm)) x hy' e1
   have:=((h.ls k hk).blk x hy').2
   omega
  rw [if_neg e] at hx'
  by_cases e2:k=i
  ·
   rw [if_pos e2] at hy'
   rcases hn.z x hy' with e1 | e1
   ·
    exact jd _ h.nd j i hj hi e x hx' e1
   have:=((h.ls j hj).blk x hx').2
   omega
  rw [if_neg e2] at hy'
  exact jd _ h.nd j k hj hk hne x hx' hy'
 refine la nL (fun k hk=>?_) (fun j k hj hk hne x hx hy=>?_)
 ·
  show (if k=i then l2 else L k).mL.Nodup
  by_cases e:k=i
  ·
   rw [if_pos e];exact hn.own.tnd
  rw [if_neg e];exact (h.ls k hk).tnd
 have hx':x∈(if j=i then l2 else L j).mL:=hx
 have hy':x∈(if k=i then l2 else L k).mL:=hy
 by_cases e:j=i
 ·
  rw [if_pos e] at hx'
  rw [if_neg (fun e2=>hne (e.trans e2.symm))] at hy'
  rcases hn.t x hx' with e1 | e1
  ·
   exact jd _ h.td k i hk hi (fun e2=>hne (e.trans e2.symm)) x hy' e1
  have:=((h.ls k hk).Cl x hy').2
  omega
 rw [if_neg e] at hx'
 by_cases e2:k=i
 ·
  rw [if_pos e2] at hy'
  rcases hn.t x hy' with e1 | e1
  ·
   exact jd _ h.td j i hj hi e x hx' e1
  have:=((h.ls j hj).Cl x hx').2
  omega
 rw [if_neg e2] at hy'
 exact jd _ h.td j k hj hk hne x hx' hy'
def kY (n:Nat) (s:Int) (z:Nat→Int) (j:Nat):Int:=if j=n then s else z j
theorem qh (n:Nat) (s:Int) (z:Nat→Int):ke n z++[.int .i64 s]=ke (n+1) (kY n s z):=by
 unfold ke
 rw [List.range_succ,List.map_append]
 congr 1
 ·
  refine List.map_congr_left fun j hj=>?_
  have:j<n:=List.mem_range.1 hj
  unfold kY
  rw [if_neg (by omega)]
 simp [kY]
def Rnd.push (R:Rnd) (c:Nat) (s:Int) (a':Option Addr) (c':Nat):Rnd :=
 { R with A:=fun i=>if i=c then a' else R.A i,L:=fun i=>if i=c then R.L c+1 else R.L i,C:=fun i=>if i=c then c' else R.C i,z:=fun i j=>if i=c then kY (R.L c) s (R.z c) j else R.z i j }
theorem VI.CL {W W2:World} {base:Nat} {a:Option Addr} {n:Nat} {f:Nat→Int} (h:VI W base a n f) (hk:∀ x∈jO a n,x<W.heap.size→W2.heap[x]?=W.heap[x]?):VI W2 base a n f:=by
 by_cases h0:n=0
 ·
  exact .inl h0
 rcases h with h1 | ⟨g,rfl,hg,hr⟩
 ·
  exact absurd h1 h0
 exact .inr ⟨g,rfl,hg,hr.iB (hk g (rW h0) hr.lt)⟩
structure zS (R:Rnd) (base:Nat) (W W2:World) (c gS:Nat) (s:Int) (a':Option Addr) (c':Nat):Prop where
 oz:iv (W2.setCell ⟨gS,c,none⟩ (.slice a' (R.L c+1) c')) base (R.push c s a' c')
 below:Below base W (W2.setCell ⟨gS,c,none⟩ (.slice a' (R.L c+1) c'))
 row:fU gS 25 R.nS (fun i=>.slice (R.A i) (R.L i) (R.C i)) R.nS W2
 box:∀ (g:Nat) (arr:Array Value) (t:TypeId),t≠2→W.heap[g]?=some (.cells arr t (0,0))→W2.heap[g]?=some (.cells arr t (0,0))
 cap:R.L c+1≤c'
theorem zS.own {R:Rnd} {base:Nat} {W W2:World} {c gS:Nat} {s:Int} {a':Option Addr} {c':Nat} (h:zS R base W W2 c gS s a' c'):mj (W2.setCell ⟨gS,c,none⟩ (.slice a' (R.L c+1) c')) base (R.push c s a' c'):=h.oz.own
theorem iv.A7 {R:Rnd} {base:Nat} {W:World} {c gS:Nat} (h:iv W base R) (hc:c<R.nS) (hl:R.L c≤1000) (hb:base≤W.heap.size) (hS:R.aS=some ⟨gS,0,none⟩) (s:Int) :
  ∃ a' c' W2,(Builtin.append_ #[25,25] 25 #[.slice (R.A c) (R.L c) (R.C c),.slice (some ⟨W.heap.size,0,none⟩) 1 1]).run Tryz.prog (W.alloc (.cells #[.int .i64 s] 2))=.ok (.slice a' (R.L c+1) c') W2∧zS R base W W2 c gS s a' c':=by
 obtain ⟨i0,hi,hz0,hz1,hz2⟩:=info_parts pH
 have hA:Below W.heap.size W (W.alloc (.cells #[.int .i64 s] 2)):=(Below.refl _ _).alloc (Nat.le_refl _) _
 have e1:(W.alloc (.cells #[.int .i64 s] 2)).heap.size=W.heap.size+1:=by simp
 have hnew:=fF (fK W (.cells #[.int .i64 s] 2))
 obtain ⟨v',W2,hr,h2,h3,h4,h5⟩:=run_append_own_at (P:=Tryz.prog) (W.alloc (.cells #[.int .i64 s] 2)) base 25 25 2 i0 (.int .i64 0) 1 8 Tryz.underlying25 hi hz0 hz1 hz2 rfl (by decide) (.slice (R.A c) (R.L c) (R.C c)) (R.L c) (ke (R.L c) (R.z c)) ((h.z c hc).up hA) ⟨W.heap.size,0,none⟩ 1 1 [.int .i64 s] rfl (fun j u hj=>by
  have hj0:j=0:=by
   have:=(List.getElem?_eq_some_iff.1 hj).1
   simp at this
   exact this
  subst hj0
  have e:(⟨W.heap.size,0,none⟩:Addr).add 0=⟨W.heap.size,0,none⟩:=by unfold Addr.add;split <;> simp_all
  rw [e,hnew 0]
  simpa using hj) (fun u hu=>by
  simp at hu
  subst hu
  rfl) (by unfold maxLen;omega) (by omega) (by omega)
 rw [qh] at h2
 obtain ⟨a',c',rfl,hv⟩:=yl h2
 have hcap':R.L c+1≤c':=by
  rcases h2.2 with ⟨_,e0⟩ | ⟨g9,cap9,cur9,e9,_,_,h9,_⟩
  ·
   omega
  cases e9
  exact h9
 refine ⟨a',c',W2,hr,?_⟩
 have hown:∀ x,x∈gi (R.A c)↔some x=(Value.slice (R.A c) (R.L c) (R.C c)).ownBlock:=by
  intro x
  cases R.A c with
  | none=>simp [gi,Value.ownBlock]
  | some ad=>simp [gi,Value.ownBlock]
 have hblk:∀ k,k<W.heap.size→k∉gi (R.A c)→W2.heap[k]?=W.heap[k]?:=fun k hk hne=>(h3.block k (by omega) (fun e=>hne ((hown k).2 e))).trans (hA.block k hk)
 have hty:∀ x∈gi (R.A c),∃ arr,W.heap[x]?=some (.cells arr 2 (0,0)):=fun x hx=>by
  rcases (h.z c hc).2 with ⟨e,_⟩ | ⟨g,cap,cur,e,hg,hbk,_⟩
  ·
   injection e with e2
   rw [e2] at hx
   simp [gi] at hx
  have e2:R.A c=some ⟨g,0,none⟩:=by injection e with e2
  rw [e2] at hx
  simp [gi] at hx
  subst hx
  exact ⟨cur,hbk⟩
 have hnt:∀ (g:Nat) (arr:Array Value) (t:TypeId),t≠2→W.heap[g]?=some (.cells arr t (0,0))→g∉gi (R.A c):=fun g arr t ht hg hx=>by
  obtain ⟨arr',h'⟩:=hty g hx
  rw [hg] at h'
  simp at h'
  exact ht h'.2
 rcases h.own.s with h0 | ⟨g,hg,hbg,hrow⟩
 ·
  omega
 rw [hS] at hg
 cases hg
 have hrow2:fU gS 25 R.nS (fun i=>.slice (R.A i) (R.L i) (R.C i)) R.nS W2:=by
  refine hrow.iB (hblk gS hrow.lt ?_)
  obtain ⟨arr,hx,_⟩:=hrow
  exact hnt gS arr _ (by decide) hx
 obtain ⟨arr2,hb2,hn2,hc2⟩:=hrow2
 have ht:Touch [gS] W2 (W2.setCell ⟨gS,c,none⟩ (.slice a' (R.L c+1) c')):=(Touch.refl _ _).set (by simp) c _
 have key2:∀ {a:Option Addr} {n:Nat} {f:Nat→Int},VI W2 base a n f→VI (W2.setCell ⟨gS,c,none⟩ (.slice a' (R.L c+1) c')) base a n f:=fun hv=>hv.fL ht (fun x hx hx2=>by
  simp at hx2
  subst hx2
  exact A8 hv (by decide) hb2 hx)
 have key:∀ {a:Option Addr} {n:Nat} {f:Nat→Int},VI W base a n f→(∀ x∈jO a n,x∉gi (R.A c))→VI (W2.setCell ⟨gS,c,none⟩ (.slice a' (R.L c+1) c')) base a n f:=fun hv hp=>key2 (hv.CL (fun x hx hlt=>hblk x hlt (hp x hx)))
 have hnO:∀ x∈gi a',x∈gi (R.A c)∨x=W.heap.size+1:=fun x hx'=>by
  cases a' with
  | none=>simp [gi] at hx'
  | some ad =>
   simp [gi] at hx'
   subst hx'
   rcases h5 with h5 | h5
   ·
    exact .inl ((hown _).2 (by rw [←h5];rfl))
   right
   rw [e1] at h5
   simpa [Value.ownBlock] using h5
 have hnb:∀ x∈jO a' (R.L c+1),x∈gi (R.A c)∨x=W.heap.size+1:=fun x hx=>hnO x (iU hx)
 have hoi:OI W2 base a' (R.L c+1) c' (kY (R.L c) s (R.z c)):=h2
 have keyz:∀ {a:Option Addr} {n c1:Nat} {f:Nat→Int},OI W2 base a n c1 f→OI (W2.setCell ⟨gS,c,none⟩ (.slice a' (R.L c+1) c')) base a n c1 f:=fun k=>⟨k.1,k.2.imp id (by
  rintro ⟨g,cap,cur,e,hg,hbk,hr⟩
  refine ⟨g,cap,cur,e,hg,(ht.block g (fG hbk) (fun hx=>?_)).trans hbk,hr⟩
  simp at hx
  subst hx
  rw [hb2] at hbk
  simp at hbk)⟩
 have keyO:∀ {a:Option Addr} {n c1:Nat} {f:Nat→Int},OI W base a n c1 f→(∀ x∈gi a,x∉gi (R.A c))→OI W2 base a n c1 f:=fun k hp=>⟨k.1,k.2.imp id (by
  rintro ⟨g,cap,cur,e,hg,hbk,hr⟩
  refine ⟨g,cap,cur,e,hg,(hblk g (fG hbk) (hp g ?_)).trans hbk,hr⟩
  injection e with e2
  rw [e2]
  simp [gi])⟩
 have hbO:∀ {a:Option Addr} {n c1:Nat} {f:Nat→Int},OI W base a n c1 f→∀ x∈gi a,x<W.heap.size:=fun k x hx=>by
  rcases k.2 with ⟨e,_⟩ | ⟨g,cap,cur,e,hg,hbk,_⟩
  ·
   injection e with e2
   rw [e2] at hx
   simp [gi] at hx
  injection e with e2
  rw [e2] at hx
  simp [gi] at hx
  subst hx
  exact fG hbk
 have hap:∀ {a:Option Addr} {n:Nat} {f:Nat→Int},VI W base a n f→(∀ x∈jO a n,x∉gi (R.A c))→jy a n a' (R.L c+1):=fun hv hp x hx hy=>by
  rcases hnb x hy with h6 | h6
  ·
   exact hp x hx h6
  have:=(hv.blk x hx).2
  omega
 have hpz:∀ i,i<R.nS→i≠c→∀ x∈jO (R.A i) (R.L i),x∉gi (R.A c):=fun i hi hne x hx=>h.zz i c hi hc hne x (iU hx)
 refine ⟨⟨⟨key h.own.q (h.qz c hc),key h.own.d (h.dz c hc),.inr ⟨gS,hS,hbg,?_⟩,fun i hi=>?_,h.own.qd,fun i hi=>?_,fun i hi=>?_,fun i j hi hj hne=>?_⟩,fun i hi=>?_,fun i hi=>?_,fun i hi=>?_,fun i j hi hj hne=>?_⟩,?_,⟨arr2,hb2,hn2,hc2⟩,fun g arr t htt hg=>(hblk g (fG hg) (hnt g arr t htt hg)).trans hg,hcap'⟩
 ·
  refine ⟨_,gv hb2 _,by simpa [Rnd.push] using hn2,fun i hi=>?_⟩
  show _=some (Value.slice (if i=c then a' else R.A i) (if i=c then R.L c+1 else R.L i) (if i=c then c' else R.C i))
  by_cases e:i=c
  ·
   subst e
   simp only [if_true]
   exact Array.getElem?_setIfInBounds_self_of_lt (by omega)
  rw [Array.getElem?_setIfInBounds_ne (by omega),hc2 i hi,if_neg e,if_neg e,if_neg e]
 ·
  show VI _ base (if i=c then a' else R.A i) (if i=c then R.L c+1 else R.L i) (fun j=>if i=c then kY (R.L c) s (R.z c) j else R.z i j)
  by_cases e:i=c
  ·
   subst e
   simp only [if_true]
   exact key2 hv
  simp only [if_neg e]
  exact key (h.own.z i hi) (hpz i hi e)
 ·
  show jy R.aQ R.nQ (if i=c then a' else R.A i) (if i=c then R.L c+1 else R.L i)
  by_cases e:i=c
  ·
   subst e
   simp only [if_true]
   exact hap h.own.q (h.qz i hc)
  simp only [if_neg e]
  exact h.own.qz i hi
 ·
  show jy R.aD R.nD (if i=c then a' else R.A i) (if i=c then R.L c+1 else R.L i)
  by_cases e:i=c
  ·
   subst e
   simp only [if_true]
   exact hap h.own.d (h.dz i hc)
  simp only [if_neg e]
  exact h.own.dz i hi
 ·
  show jy (if i=c then a' else R.A i) (if i=c then R.L c+1 else R.L i) (if j=c then a' else R.A j) (if j=c then R.L c+1 else R.L j)
  by_cases e:i=c
  ·
   have e2:j≠c:=fun e2=>hne (e.trans e2.symm)
   simp only [if_pos e,if_neg e2]
   exact (hap (h.own.z j hj) (hpz j hj e2)).symm
  by_cases e2:j=c
  ·
   simp only [if_neg e,if_pos e2]
   exact hap (h.own.z i hi) (hpz i hi e)
  simp only [if_neg e,if_neg e2]
  exact h.own.zz i j hi hj hne
 ·
  show OI _ base (if i=c then a' else R.A i) (if i=c then R.L c+1 else R.L i) (if i=c then c' else R.C i) (fun j=>if i=c then kY (R.L c) s (R.z c) j else R.z i j)
  by_cases e:i=c
  ·
   subst e
   simp only [if_true]
   exact keyz hoi
  simp only [if_neg e]
  exact keyz (keyO (h.z i hi) (h.zz i c hi hc e))
 ·
  show ∀ x∈jO R.aQ R.nQ,x∉gi (if i=c then a' else R.A i)
  intro x hx hy
  by_cases e:i=c
  ·
   rw [if_pos e] at hy
   rcases hnO x hy with h6 | h6
   ·
    exact h.qz c hc x hx h6
   have:=(h.own.q.blk x hx).2
   omega
  rw [if_neg e] at hy
  exact h.qz i hi x hx hy
 ·
  show ∀ x∈jO R.aD R.nD,x∉gi (if i=c then a' else R.A i)
  intro x hx hy
  by_cases e:i=c
  ·
   rw [if_pos e] at hy
   rcases hnO x hy with h6 | h6
   ·
    exact h.dz c hc x hx h6
   have:=(h.own.d.blk x hx).2
   omega
  rw [if_neg e] at hy
  exact h.dz i hi x hx hy
 ·
  show ∀ x∈gi (if i=c then a' else R.A i),x∉gi (if j=c then a' else R.A j)
  intro x hx hy
  by_cases e:i=c
  ·
   have e2:j≠c:=fun e2=>hne (e.trans e2.symm)
   rw [if_pos e] at hx
   rw [if_neg e2] at hy
   rcases hnO x hx with h6 | h6
   ·
    exact h.zz j c hj hc e2 x hy h6
   have:=hbO (h.z j hj) x hy
   omega
  rw [if_neg e] at hx
  by_cases e2:j=c
  ·
   rw [if_pos e2] at hy
   rcases hnO x hy with h6 | h6
   ·
    exact h.zz i c hi hc e x hx h6
   have:=hbO (h.z i hi) x hx
   omega
  rw [if_neg e2] at hy
  exact h.zz i j hi hj hne x hx hy
 exact (((Below.refl base W).alloc hb (.cells #[.int .i64 s] 2)).grown h3 (by omega) (fun k e=>((h.z c hc).blk k ((hown k).2 e.symm)).1)).setCell hbg _
end Go.Proofs.YtjaobmbcmjgjgaaGreatDoor
