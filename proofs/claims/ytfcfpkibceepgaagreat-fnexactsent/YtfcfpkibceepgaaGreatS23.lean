import Derived.Test.YtfcfpkibceepgaaGreatS08
import Derived.Test.YtfcfpkibceepgaaGreatS21
import Derived.Test.YtfcfpkibceepgaaGreatS22
namespace Go.Proofs.YtfcfpkibceepgaaGreat
set_option maxRecDepth 100000
set_option maxHeartbeats 4000000
open Go.RowKit
set_option linter.unusedVariables false
set_option linter.unusedSimpArgs false
theorem dE {p:Prop} (h:p:=by
 have kz3:=iG kR4 (.slice none 0 0) (.int .i64 0) (.slice none 0 0)
 have HB:Hid (Below w.heap.size w (j6 w4 (w.heap.size+1+1) (.slice none 0 0) (.int .i64 0) (.slice none 0 0))):=B4.trans ((ia _ _ _ _ _).below B4.size (fun x hx=>by simp at hx;omega))
 have cB:=fG kz3
 clear kz3 kX4 kR4 B4 hM4
 unfold j6 at cB
 go_wp2_with fail
 exact bodyPost_ret (v:=.tuple #[.agg #[.slice none 0 0,.int .i64 0,.slice none 0 0],.bool false]) (by simp [results,Tryz.results154,go_sem,cB]) rfl ⟨ym,rfl,o6 _ _,HB.out,gx.refl _⟩):p:=h
theorem dF {p:Prop} (h:p:=by
 have kz3:=iG kR4 (.slice none 0 0) (.int .i64 0) (.slice none 0 0)
 have HB:Hid (Below w.heap.size w (j6 w4 (w.heap.size+1+1) (.slice none 0 0) (.int .i64 0) (.slice none 0 0))):=B4.trans ((ia _ _ _ _ _).below B4.size (fun x hx=>by simp at hx;omega))
 have cB:=fG kz3
 clear kz3 kX4 kR4 B4 hM4
 unfold j6 at cB
 go_wp2_with fail
 exact bodyPost_ret (v:=.tuple #[.agg #[.slice none 0 0,.int .i64 0,.slice none 0 0],.bool false]) (by simp [results,Tryz.results59,go_sem,cB]) rfl ⟨ym,rfl,o6 _ _,HB.out,gx.refl _⟩):p:=h
theorem dG {p:Prop} (h:p:=by
 go_enter Tryz.func117,Tryz.ntmps117
 go_wp2_with fail
 go_ret
 exact ⟨fQ (by simp [gJ]),HA.out _⟩):p:=h
theorem pY (R:Rnd) (w:World) (hs:R.Small) (h:iY w R) (ho:R.Ok) (hno:∀ i,i<R.nQ→R.L i=0) :
  Calls Tryz.prog 57 #[.agg R.cells] w fun e w'=>∃ M,e=.returned (.tuple #[.agg M.cells,.int .i64 (-1),.int .i64 0])∧iQ w' w.heap.size M∧Below w.heap.size w w'∧Alike R M∧∀ i,i<M.nS→M.L i≤M.C i:=by
 obtain ⟨aQ,nQ,cQ,q,aD,nD,cD,d,turn,fresh,aS,nS,cS,A,L,C,z⟩:=R
 have HSm:Hid (Rnd.Small ⟨aQ,nQ,cQ,q,aD,nD,cD,d,turn,fresh,aS,nS,cS,A,L,C,z⟩):=hs
 have HRd:Hid (iY w ⟨aQ,nQ,cQ,q,aD,nD,cD,d,turn,fresh,aS,nS,cS,A,L,C,z⟩):=h
 have hsS:nS≤1048576:=hs.s
 have HnS:Hid (nS=nQ):=ho.s
 have HNo:Hid (∀ i,i<nQ→L i=0):=hno
 have HRow:Hid (fY w aS nS fun i=>.slice (A i) (L i) (C i)):=h.s
 have hB:Below (w.heap.size+2) ((w.alloc (.cells #[.slice aQ nQ cQ,.slice aD nD cD,.int .i64 turn,.bool fresh,.slice aS nS cS] 100)).alloc (.cells #[.slice none 0 0,.slice none 0 0,.int .i64 0,.bool false,.slice none 0 0] 100)) ((w.alloc (.cells #[.slice aQ nQ cQ,.slice aD nD cD,.int .i64 turn,.bool fresh,.slice aS nS cS] 100)).alloc (.cells #[.slice none 0 0,.slice none 0 0,.int .i64 0,.bool false,.slice none 0 0] 100)):=Below.refl _ _
 have cb:=Ag hB
 clear hs h ho hno
 unfold Rnd.cells
 dsimp only
 go_enter Tryz.func57,Tryz.ntmps57
 go_wp2_with fail
 go_loop [5,6] (fun bv i=>∃ (j:Nat),j≤nS∧i=.int .i64 j∧bv=.bool false) (fun _ i=>nS-(intOf i).toNat)
 case atStart=>exact ⟨0,Nat.zero_le _,rfl,rfl⟩
 obtain ⟨j,hj,rfl,rfl⟩:=hrel
 by_cases hlt:j<nS
 ·
  have hlt':(j:Int)<nS:=by omega
  obtain ⟨g,o,rfl,s1⟩:=(HRow.out.up (mO hB)) j hlt
  dsimp only at s1
  have hLj:L j=0:=HNo.out j (by have:=HnS.out;omega)
  rw [hLj] at s1
  clear hLj
  go_wp2_with fail
  go_round
  case rel=>exact ⟨j+1,by omega,by go_num,rfl⟩
  case measure=>simp [intOf];omega
 obtain rfl:j=nS:=by omega
 have hjj:¬ ((j:Nat):Int)<((j:Nat):Int):=by omega
 go_wp2_with fail
 refine (jV ⟨aQ,nQ,cQ,q,aD,nD,cD,d,turn,fresh,aS,j,cS,A,L,C,z⟩ _ HSm.out (HRd.out.up (mO hB))).mono ?_
 rintro e w3 ⟨aq,cq,ad,cd,av,cv,A2,C2,rfl,hOw,hb⟩
 have HCap:Hid (∀ i,i<j→L i≤C2 i):=fun i hi=>CJ (hOw.z i hi)
 replace hB:=ox hB hb
 have hA:=(Below.refl w3.heap.size w3).alloc (Nat.le_refl _) (.cells #[.slice aq nQ cq,.slice ad nD cd,.int .i64 turn,.bool fresh,.slice av j cv] 100)
 have kb:=fL w3 (.cells #[.slice aq nQ cq,.slice ad nD cd,.int .i64 turn,.bool fresh,.slice av j cv] 100)
 have hOw2:=hOw.own.up hA
 have hgb:w.heap.size+2≤w3.heap.size:=by have:=js hB;omega
 replace hB:=ox hB hA
 clear hb hA hOw
 dsimp only [Rnd.cells,Rnd.cp2]
 go_wp2_with fail
 generalize w3.alloc (.cells #[.slice aq nQ cq,.slice ad nD cd,.int .i64 turn,.bool fresh,.slice av j cv] 100)=w4 at *
 generalize w3.heap.size=gb at *
 have HB4:Hid (Below (w.heap.size+2) _ w4):=hB
 have kR:=BR hB
 have cR:=fG kR
 have fR:=fX kR
 have cG:=fG kb
 have hne:gb≠w.heap.size+1:=by omega
 have hne2:w.heap.size+1≠gb:=by omega
 have hbase:((w.alloc (.cells #[.slice aQ nQ cQ,.slice aD nD cD,.int .i64 turn,.bool fresh,.slice aS j cS] 100)).alloc (.cells #[.slice none 0 0,.slice none 0 0,.int .i64 0,.bool false,.slice none 0 0] 100)).heap.size=w.heap.size+2:=by simp
 rw [hbase] at hOw2
 have HOw:Hid (iQ w4 (w.heap.size+2) (Rnd.cp2 ⟨aQ,nQ,cQ,q,aD,nD,cD,d,turn,fresh,aS,j,cS,A,L,C,z⟩ aq cq ad cd av cv A2 C2)):=hOw2
 have HKR:Hid (w4.heap[w.heap.size+1]?=some (.cells #[.slice none 0 0,.slice none 0 0,.int .i64 0,.bool false,.slice none 0 0] 100 (0,0))):=kR
 have HUn:Hid (Below w.heap.size w w4):=mO hB
 clear hOw2 hbase hB kR kb HRd HSm HRow HNo HnS
 go_loopw [8] (fun _ wr=>wr=w4) (fun _ _=>0)
 case atStart=>rfl
 obtain rfl:=hrel
 go_wp2_with fail
 have ht:=jU wr (w.heap.size+1) (.slice aq nQ cq) (.slice ad nD cd) (.int .i64 turn) (.bool fresh) (.slice av j cv)
 have cF:=fG (nf HKR.out (.slice aq nQ cq) (.slice ad nD cd) (.int .i64 turn) (.bool fresh) (.slice av j cv))
 have hBf:=HUn.out.trans (ht.below HUn.out.size (fun x hx=>by simp at hx;omega))
 have hOf:=(HOw.out.iU ht (fun x hx=>by simp at hx;omega)).mono (show w.heap.size≤w.heap.size+2 by omega)
 unfold sZ at cF hBf hOf
 exact bodyPost_ret (v:=.tuple #[.agg #[.slice aq nQ cq,.slice ad nD cd,.int .i64 turn,.bool fresh,.slice av j cv],.int .i64 (-1),.int .i64 0]) (by simp [results,Tryz.results57,go_sem,cF]) rfl ⟨Rnd.cp2 ⟨aQ,nQ,cQ,q,aD,nD,cD,d,turn,fresh,aS,j,cS,A,L,C,z⟩ aq cq ad cd av cv A2 C2,rfl,hOf,hBf,⟨rfl,rfl,rfl,rfl,rfl,rfl,rfl,rfl,rfl⟩,HCap.out⟩
def mm (R M:Rnd) (x s:Int):Prop :=
 (¬ R.Ok∧M=zR∧x=-1∧s=0)∨(R.Ok∧(∀ i,i<R.nQ→R.L i=0)∧M=R∧x=-1∧s=0)∨(R.Ok∧(∃ c0,c0<R.nQ∧R.L c0≠0)∧∃ k c,iP k R M c s∧x=((c:Nat):Int))
theorem AP (R:Rnd):∃ M x s,mm R M x s:=by
 by_cases ho:R.Ok
 ·
  by_cases hw:∃ c0,c0<R.nQ∧R.L c0≠0
  ·
   obtain ⟨c0,h1,h2⟩:=hw
   obtain ⟨k,R',c,s,hp⟩:=AN c0 _ R rfl ho h1 h2
   exact ⟨R',c,s,.inr (.inr ⟨ho,⟨c0,h1,h2⟩,k,c,hp,rfl⟩)⟩
  refine ⟨R,-1,0,.inr (.inl ⟨ho,fun i hi=>?_,rfl,rfl,rfl⟩)⟩
  by_cases e:R.L i=0
  ·
   exact e
  exact absurd ⟨i,hi,e⟩ hw
 exact ⟨zR,-1,0,.inl ⟨ho,rfl,rfl,rfl⟩⟩
theorem Alike.okI {A B:Rnd} (h:Alike A B):B.Ok↔A.Ok:=by
 have key:∀ {A B:Rnd},Alike A B→A.Ok→B.Ok:=fun {A B} h ho=>by
  refine ⟨by rw [h.nQ];exact ho.n,by rw [h.nD,h.nQ];exact ho.d,by rw [h.nS,h.nQ];exact ho.s,by rw [h.t,h.nQ];exact ho.t,fun i hi=>?_⟩
  have:=ho.c i (by rw [←h.nQ];exact hi)
  unfold Rnd.begun at this ⊢
  rw [h.q,h.d,h.l,h.z,h.t,h.f]
  exact this
 exact ⟨key h.symm,key h⟩
theorem mm.pQ {R M B:Rnd} {x s:Int} (h:mm R M x s) (ha:Alike R B):∃ M',mm B M' x s∧Alike M M':=by
 rcases h with ⟨ho,rfl,h1,h2⟩ | ⟨ho,hn,rfl,h1,h2⟩ | ⟨ho,⟨c0,h1,h2⟩,k,c,hp,hx⟩
 ·
  exact ⟨zR,.inl ⟨fun hb=>ho (ha.okI.1 hb),rfl,h1,h2⟩,Alike.refl _⟩
 ·
  exact ⟨B,.inr (.inl ⟨ha.okI.2 ho,fun i hi=>by rw [ha.l];exact hn i (by rw [←ha.nQ];exact hi),rfl,h1,h2⟩),ha⟩
 obtain ⟨B',hp2,ha2⟩:=hp.pQ ha
 exact ⟨B',.inr (.inr ⟨ha.okI.2 ho,⟨c0,by rw [ha.nQ];exact h1,by rw [ha.l];exact h2⟩,k,c,hp2,hx⟩),ha2⟩
theorem rB (R M:Rnd) (x s:Int) (w:World) (hs:R.Small) (h:iY w R) (ho:R.Ok) (hp:mm R M x s) :
  Calls Tryz.prog 57 #[.agg R.cells] w fun e w'=>∃ R',e=.returned (.tuple #[.agg R'.cells,.int .i64 x,.int .i64 s])∧iQ w' w.heap.size R'∧Below w.heap.size w w'∧Alike M R'∧∀ i,i<R'.nS→R'.L i≤R'.C i:=by
 rcases hp with ⟨hn,_⟩ | ⟨_,hn,rfl,rfl,rfl⟩ | ⟨_,⟨c0,h1,h2⟩,k,c,hp,rfl⟩
 ·
  exact absurd ho hn
 ·
  exact pY _ w hs h ho hn
 exact tH R w hs h ho c0 h1 h2 k M c s hp
theorem rC (R M:Rnd) (x s:Int) (w:World) (hs:R.Small) (h:iY w R) (ho:R.Ok) (hp:mm R M x s) :
  Calls Tryz.prog 57 #[.agg R.cells] w fun e w'=>∃ R',e=.returned (.tuple #[.agg R'.cells,.int .i64 x,.int .i64 s])∧iQ w' w.heap.size R'∧Below w.heap.size w w'∧Alike M R' :=
 (rB R M x s w hs h ho hp).mono fun e w' ⟨M,h1,h2,h3,h4,_⟩=>⟨M,h1,h2,h3,h4⟩
theorem lB (R:Rnd) (w:World) (hs:R.Small) (h:iY w R) :
  Calls Tryz.prog 116 #[.agg R.cells] w fun e w'=>∃ aq cq ad cd gS A C,e=.returned (.agg (R.cp aq cq ad cd gS A C).cells)∧jc w' w.heap.size (R.cp aq cq ad cd gS A C)∧Below w.heap.size w w':=by
 obtain ⟨aQ,nQ,cQ,q,aD,nD,cD,d,turn,fresh,aS,nS,cS,A,L,C,z⟩:=R
 have HR:Hid (iY w ⟨aQ,nQ,cQ,q,aD,nD,cD,d,turn,fresh,aS,nS,cS,A,L,C,z⟩):=h
 have HS:Hid (Rnd.Small ⟨aQ,nQ,cQ,q,aD,nD,cD,d,turn,fresh,aS,nS,cS,A,L,C,z⟩):=hs
 have mk:=wO nS hs.s
 have hnS:(nS:Int)≤1048576:=by have:nS≤1048576:=hs.s;omega
 clear h hs
 unfold Rnd.cells
 dsimp only
 go_enter Tryz.func116,Tryz.ntmps116
 go_wp2_with fail
 have HA:Hid (∀ A B C,Below w.heap.size w (((w.alloc A).alloc B).alloc C)):=fun A B C=>(((Below.refl _ _).alloc (Nat.le_refl _) _).alloc (by simp) _).alloc (by simp;omega) _
 have e3:∀ A B C,(((w.alloc A).alloc B).alloc C).heap.size=w.heap.size+1+1+1:=fun A B C=>by simp
 refine (jD aQ nQ cQ q _ HS.out.q (HR.out.q.up (HA.out _ _ _))).mono ?_
 rintro e w1 ⟨aq,cq,rfl,hVo,hb1⟩
 have hV:=hVo.vi
 clear hVo
 obtain ⟨kA,kB,kC,B1,z1⟩:=mR hb1
 rw [e3] at hV
 have cA:=fG kA
 have cC:=fG kC
 have fC:=fX kC
 clear hb1 HA
 go_wp2_with fail
 have ht:Touch [w.heap.size+1+1] w1 (w1.setCell ⟨w.heap.size+1+1,0,none⟩ (.slice aq nQ cq)):=(Touch.refl _ _).set (by simp) 0 _
 have kA':=(ht.block _ (fH kA) (by simp only [List.mem_singleton];omega)).trans kA
 have kB':=(ht.block _ (fH kB) (by simp only [List.mem_singleton];omega)).trans kB
 have kC':(w1.setCell ⟨w.heap.size+1+1,0,none⟩ (.slice aq nQ cq)).heap[w.heap.size+1+1]?=some (.cells #[.slice aq nQ cq,.slice aD nD cD,.int .i64 turn,.bool fresh,.slice aS nS cS] 100 (0,0)):=gj kC _
 have hV':=hV.fK ht (fun x hx hx2=>by have:=(hV.blk x hx).1;simp at hx2;omega)
 have B1':=B1.trans (ht.below B1.size (fun x hx=>by simp at hx;omega))
 have z1':(w.heap.size+1+1+1)≤(w1.setCell ⟨w.heap.size+1+1,0,none⟩ (.slice aq nQ cq)).heap.size:=by have:=ht.size;omega
 clear kA kB kC cA cC fC hV B1 ht z1
 generalize w1.setCell ⟨w.heap.size+1+1,0,none⟩ (.slice aq nQ cq)=W at *
 refine (jD aD nD cD d _ HS.out.d (HR.out.d.up B1')).mono ?_
 rintro e w2 ⟨ad,cd,rfl,hDo,hb2⟩
 have hD:=hDo.vi
 clear hDo
 have hQD:=Ak hV' hD (Nat.le_refl _)
 have hV2:=hV'.up hb2
 have kA2:=(hb2.block _ (fH kA')).trans kA'
 have kB2:=(hb2.block _ (fH kB')).trans kB'
 have kC2:=(hb2.block _ (fH kC')).trans kC'
 have B2:Below w.heap.size w w2:=B1'.trans (hb2.mono B1'.size)
 have z2:(w.heap.size+1+1+1)≤w2.heap.size:=Nat.le_trans z1' hb2.size
 replace hD:=hD.mono z1'
 have cA:=fG kA2
 have cC:=fG kC2
 have fC:=fX kC2
 clear hb2 kA' kB' kC' hV' B1' z1'
 have ht:Touch [w.heap.size+1+1] w2 (w2.setCell ⟨w.heap.size+1+1,1,none⟩ (.slice ad nD cd)):=(Touch.refl _ _).set (by simp) 1 _
 have hA:=(Below.refl (w2.setCell ⟨w.heap.size+1+1,1,none⟩ (.slice ad nD cd)).heap.size (w2.setCell ⟨w.heap.size+1+1,1,none⟩ (.slice ad nD cd))).alloc (Nat.le_refl _) (.cells (yn nS) 25)
 have hz:(w2.setCell ⟨w.heap.size+1+1,1,none⟩ (.slice ad nD cd)).heap.size=w2.heap.size:=by simp [World.setCell]
 have kC3:(w2.setCell ⟨w.heap.size+1+1,1,none⟩ (.slice ad nD cd)).heap[w.heap.size+1+1]?=some (.cells #[.slice aq nQ cq,.slice ad nD cd,.int .i64 turn,.bool fresh,.slice aS nS cS] 100 (0,0)):=gj kC2 _
 have kC4:=(hA.block _ (fH kC3)).trans kC3
 have kA4:=(hA.block _ (by rw [hz];exact fH kA2)).trans ((ht.block _ (fH kA2) (by simp only [List.mem_singleton];omega)).trans kA2)
 have kB4:=(hA.block _ (by rw [hz];exact fH kB2)).trans ((ht.block _ (fH kB2) (by simp only [List.mem_singleton];omega)).trans kB2)
 have kS4:=fL (w2.setCell ⟨w.heap.size+1+1,1,none⟩ (.slice ad nD cd)) (.cells (yn nS) 25)
 rw [hz] at kS4
 have hV4:=(hV2.fK ht (fun x hx hx2=>by have:=(hV2.blk x hx).1;simp at hx2;omega)).up hA
 have hD4:=(hD.fK ht (fun x hx hx2=>by have:=(hD.blk x hx).1;simp at hx2;omega)).up hA
 have B3:=B2.trans (ht.below B2.size (fun x hx=>by simp at hx;omega))
 have B4:=B3.trans (hA.mono B3.size)
 have cA4:=fG kA4
 have cC4:=fG kC4
 have fC4:=fX kC4
 clear ht hA kC3 kA2 kB2 kC2 hV2 hD B2 B3
 go_wp2_with fail
 have ht:=(Touch.refl [w.heap.size+1+1] ((w2.setCell ⟨w.heap.size+1+1,1,none⟩ (.slice ad nD cd)).alloc (.cells (yn nS) 25))).set (g:=w.heap.size+1+1) (by simp) 4 (.slice (some ⟨w2.heap.size,0,none⟩) nS nS)
 have HCp0:Hid (Cp ⟨aQ,nQ,cQ,q,aD,nD,cD,d,turn,fresh,aS,nS,cS,A,L,C,z⟩ (w.heap.size+1+1+1) (((w2.setCell ⟨w.heap.size+1+1,1,none⟩ (.slice ad nD cd)).alloc (.cells (yn nS) 25)).setCell ⟨w.heap.size+1+1,4,none⟩ (.slice (some ⟨w2.heap.size,0,none⟩) nS nS)) aq ad w2.heap.size A C 0) :=
  ⟨hV4.fK ht (fun x hx hx2=>by have:=(hV4.blk x hx).1;simp at hx2;omega),hD4.fK ht (fun x hx hx2=>by have:=(hD4.blk x hx).1;simp at hx2;omega),
   .inr ⟨_,rfl,z2,((wA kS4).ir (ht.block _ (fH kS4) (by simp only [List.mem_singleton];omega))).ext (fun i hi=>by simp)⟩,fun i hi=>by omega,hQD,fun i hi=>by omega,fun i hi=>by omega,fun i j hi=>by omega⟩
 have HB0:Hid (Below w.heap.size w (((w2.setCell ⟨w.heap.size+1+1,1,none⟩ (.slice ad nD cd)).alloc (.cells (yn nS) 25)).setCell ⟨w.heap.size+1+1,4,none⟩ (.slice (some ⟨w2.heap.size,0,none⟩) nS nS))):=B4.trans (ht.below B4.size (fun x hx=>by simp at hx;omega))
 have kB5:=(ht.block _ (fH kB4) (by simp only [List.mem_singleton];omega)).trans kB4
 have kC5:(((w2.setCell ⟨w.heap.size+1+1,1,none⟩ (.slice ad nD cd)).alloc (.cells (yn nS) 25)).setCell ⟨w.heap.size+1+1,4,none⟩ (.slice (some ⟨w2.heap.size,0,none⟩) nS nS)).heap[w.heap.size+1+1]?=some (.cells #[.slice aq nQ cq,.slice ad nD cd,.int .i64 turn,.bool fresh,.slice (some ⟨w2.heap.size,0,none⟩) nS nS] 100 (0,0)):=gj kC4 _
 have HkB0:Hid (_=_):=kB5
 have HkC0:Hid (_=_):=kC5
 clear ht kB5 kC5 kA4 kB4 kC4 kS4 hV4 hD4 B4 cA4 cC4 fC4 cA cC fC hz hQD mk
 generalize ((w2.setCell ⟨w.heap.size+1+1,1,none⟩ (.slice ad nD cd)).alloc (.cells (yn nS) 25)).setCell ⟨w.heap.size+1+1,4,none⟩ (.slice (some ⟨w2.heap.size,0,none⟩) nS nS)=W5 at *
 generalize w2.heap.size=gS at *
 go_loopw [23] (fun i wr=>∃ (k:Nat) (A':Nat→Option Addr) (C':Nat→Nat),k≤nS∧i=.int .i64 k∧Cp ⟨aQ,nQ,cQ,q,aD,nD,cD,d,turn,fresh,aS,nS,cS,A,L,C,z⟩ (w.heap.size+1+1+1) wr aq ad gS A' C' k∧Below w.heap.size w wr∧(w.heap.size+1+1+1)≤wr.heap.size∧wr.heap[w.heap.size+1]?=some (.cells #[.slice none 0 0,.slice none 0 0,.int .i64 0,.bool false,.slice none 0 0] 100 (0,0))∧wr.heap[w.heap.size+1+1]?=some (.cells #[.slice aq nQ cq,.slice ad nD cd,.int .i64 turn,.bool fresh,.slice (some ⟨gS,0,none⟩) nS nS] 100 (0,0))) (fun i _=>nS-(intOf i).toNat)
 case atStart=>exact ⟨0,A,C,Nat.zero_le _,rfl,HCp0.out,HB0.out,by have:=fH HkC0.out;omega,HkB0.out,HkC0.out⟩
 obtain ⟨k,A',C',hk,rfl,hCp,hB,hBs,hkB,hkC⟩:=hrel
 clear HCp0 HB0 HkB0 HkC0
 have HCp:Hid (Cp ⟨aQ,nQ,cQ,q,aD,nD,cD,d,turn,fresh,aS,nS,cS,A,L,C,z⟩ (w.heap.size+1+1+1) wr aq ad gS A' C' k):=hCp
 have HB:Hid (Below w.heap.size w wr):=hB
 have HBs:Hid ((w.heap.size+1+1+1)≤wr.drew.heap.size):=hBs
 have kBd:Hid (wr.drew.heap[w.heap.size+1]?=some (.cells #[.slice none 0 0,.slice none 0 0,.int .i64 0,.bool false,.slice none 0 0] 100 (0,0))):=hkB
 have kCd:Hid (wr.drew.heap[w.heap.size+1+1]?=some (.cells #[.slice aq nQ cq,.slice ad nD cd,.int .i64 turn,.bool fresh,.slice (some ⟨gS,0,none⟩) nS nS] 100 (0,0))):=hkC
 clear hCp hB hBs
 by_cases hlt:k<nS
 ·
  have hlt':(k:Int)<nS:=by omega
  obtain ⟨gs,os,rfl,hc⟩:=(HR.out.s.up HB.out) k hlt
  dsimp only at hc
  clear hkB hkC
  go_wp2_with fail
  refine wp_region_held_drew (S:=fun w'=>w'.cell? ⟨w.heap.size+1+1,4,none⟩=some (.slice (some ⟨gS,0,none⟩) nS nS)) (by kernel_rfl) (fG kCd.out 4) (fun hHeld=>?_)
  refine t0 ?_
  iterate 3 refine tN ?_
  refine rq1 4 (fun K hK=>?_)
  go_simp
  refine (jD (A k) (L k) (C k) (z k) _ (HS.out.l k hlt) ((HR.out.z k hlt).up (HB.out.drew))).mono ?_
  rintro e w4 ⟨a',c',rfl,hv,hb⟩
  have hC0:=HCp.out.up (W':=wr.drew) ((Below.refl _ _).drew)
  have HCp4:Hid (Cp ⟨aQ,nQ,cQ,q,aD,nD,cD,d,turn,fresh,some ⟨gs,os,none⟩,nS,cS,A,L,C,z⟩ (w.heap.size+1+1+1) (w4.setCell ⟨gS,k,none⟩ (.slice a' (L k) c')) aq ad gS (fun i=>if i=k then a' else A' i) (fun i=>if i=k then c' else C' i) (k+1)):=hC0.next (c':=c') hlt hb HBs.out hv
  have HB4:Hid (Below w.heap.size w w4):=HB.out.drew.trans (hb.mono HB.out.size)
  have kB4:=(hb.block _ (fH kBd.out)).trans kBd.out
  have kC4:=(hb.block _ (fH kCd.out)).trans kCd.out
  have q4:w4.cell? ⟨w.heap.size+1+1,4,none⟩=some (.slice (some ⟨gS,0,none⟩) nS nS):=fG kC4 4
  have hrow:(w.heap.size+1+1+1)≤gS∧(∃ x,w4.cell? ⟨gS,k,none⟩=some x)∧w4.frozen? ⟨gS,k,none⟩=false:=by
   rcases hC0.s with h0 | ⟨g,hg,hbg,hr⟩
   ·
    exact absurd hlt (by rw [show nS=0 from h0];omega)
   cases hg
   exact ⟨hbg,(hr.ir (hb.block _ hr.lt)).there k hlt,(hr.ir (hb.block _ hr.lt)).free k⟩
  obtain ⟨hgS,⟨xS,cS4⟩,fS4⟩:=hrow
  have HkB:Hid ((w4.setCell ⟨gS,k,none⟩ (.slice a' (L k) c')).heap[w.heap.size+1]?=_):=(fO (by omega) _).trans kB4
  have HkC:Hid ((w4.setCell ⟨gS,k,none⟩ (.slice a' (L k) c')).heap[w.heap.size+1+1]?=_):=(fO (by omega) _).trans kC4
  have HBn:Hid (Below w.heap.size w (w4.setCell ⟨gS,k,none⟩ (.slice a' (L k) c'))):=HB4.out.setCell (by show w.heap.size≤gS;omega) _
  have HBsn:Hid ((w.heap.size+1+1+1)≤(w4.setCell ⟨gS,k,none⟩ (.slice a' (L k) c')).heap.size):=by
   have:=fH HkC.out
   show _≤_
   omega
  have q4s:(w4.setCell ⟨gS,k,none⟩ (.slice a' (L k) c')).cell? ⟨w.heap.size+1+1,4,none⟩=some (.slice (some ⟨gS,0,none⟩) nS nS):=fG HkC.out 4
  clear hv hb hC0 kB4 kC4
  go_wp2_with fail
  refine hK.out _ _ q4 (fun hHeld=>?_)
  clear hK K
  try simp only [Act.put,PZ]
  refine tN ?_
  refine rq1 6 (fun K hK=>?_)
  go_simp
  refine hK.out _ _ q4s (fun hHeld=>?_)
  clear hK K
  try simp only [Act.put,PZ]
  refine dnq ?_
  go_wp2_with fail
  go_roundw
  case rel=>exact ⟨k+1,_,_,by omega,by go_num,HCp4.out,HBn.out,HBsn.out,HkB.out,HkC.out⟩
  case measure=>simp [intOf];omega
 obtain rfl:k=nS:=by omega
 have cC:=fG hkC
 have cB:=fG hkB
 have fB:=fX hkB
 go_wp2_with fail
 have ht:=jU wr (w.heap.size+1) (.slice aq nQ cq) (.slice ad nD cd) (.int .i64 turn) (.bool fresh) (.slice (some ⟨gS,0,none⟩) k k)
 have cF:=fG (nf hkB (.slice aq nQ cq) (.slice ad nD cd) (.int .i64 turn) (.bool fresh) (.slice (some ⟨gS,0,none⟩) k k))
 have hBf:=HB.out.trans (ht.below HB.out.size (fun x hx=>by simp at hx;omega))
 have hOf:=((HCp.out.own cq cd).iU ht (fun x hx=>by simp at hx;omega)).mono (show w.heap.size≤(w.heap.size+1+1+1) by omega)
 unfold sZ at cF hBf hOf
 exact bodyPost_ret (v:=.agg (Rnd.cp ⟨aQ,nQ,cQ,q,aD,nD,cD,d,turn,fresh,aS,k,cS,A,L,C,z⟩ aq cq ad cd gS A' C').cells) (by simp [results,Tryz.results116,go_sem,cF,Rnd.cp,Rnd.cells]) rfl ⟨aq,cq,ad,cd,gS,A',C',rfl,hOf,hBf⟩
open Go.RowKit Go.Shelf
attribute [local go_sem] Oper.semAt_some
theorem yJ (X0:Rnd) (base top:Nat) (gb:oN) (gD gS:Nat) (w:World) (h:iy w base top gb gD gS X0) (hok:X0.Ok) (hno:∀ i,i<X0.nQ→X0.L i=0) :
  Calls Tryz.prog 138 #[.pointer (some ⟨gb.g,gb.o,none⟩)] w fun e w'=>e=.returned (.tuple #[.int .i64 (-1),.int .i64 0])∧Below w.heap.size w w':=by
 have HR:Hid (iy w base top gb gD gS X0):=h
 have HOk:Hid X0.Ok:=hok
 have HNo:Hid (∀ i,i<X0.nQ→X0.L i=0):=hno
 clear h hok hno
 refine (callsIn_wide (n:=8)).1 ?_
 refine callsIn_of_wp_marks Tryz.func138 rfl trivial ?_ rfl
 simp only [Tryz.ntmps138,List.size_toArray,List.length_cons,List.length_nil,Nat.reduceAdd,Nat.reduceSub,Array.replicate_succ,Array.replicate_zero,List.push_toArray,List.append_toArray,List.nil_append,List.cons_append]
 have f33:Fence.wide.fn 150:=trivial
 gi_wp2_with (gi_at_call 150;refine (callsIn_wide.2 (wE gb.g gb.o _)).mono ?_;rintro e w2 ⟨rfl,rfl⟩)
 obtain ⟨q1,q2,q3,q4,q5,qb⟩:=four (w:=w) (o1:=.cells #[.pointer (some ⟨gb.g,gb.o,none⟩)] 184) (o2:=.cells #[.int .i64 0] 2) (o3:=.cells #[.int .i64 0] 2) (o4:=.cells #[.pointer (some ⟨gb.g,gb.o,none⟩)] 184)
 generalize (((w.alloc (.cells #[.pointer (some ⟨gb.g,gb.o,none⟩)] 184)).alloc (.cells #[.int .i64 0] 2)).alloc (.cells #[.int .i64 0] 2)).alloc (.cells #[.pointer (some ⟨gb.g,gb.o,none⟩)] 184)=w0 at *
 have HQ:Hid (w0.heap[w.heap.size+1]?=some (.cells #[.int .i64 0] 2 (0,0))∧w0.heap[w.heap.size+1+1]?=some (.cells #[.int .i64 0] 2 (0,0))∧w0.heap[w.heap.size+1+1+1]?=some (.cells #[.pointer (some ⟨gb.g,gb.o,none⟩)] 184 (0,0))∧w0.heap.size=w.heap.size+4∧Below w.heap.size w w0):=⟨q2,q3,q4,q5,qb⟩
 clear q1 q2 q3 q4 q5 qb
 refine kG rfl (by omega) (gf:=159) (lb:=#[.pointer (some ⟨w.heap.size+1+1+1,0,none⟩)]) rfl trivial (enters_of Tryz.func159 (by kernel_rfl) rfl) (fun W=>Below w0.heap.size w0 W∧W.heap[w0.heap.size]?=some (.deferred (some []))∧∃ lo,W.heap[w0.heap.size+1]?=some lo∧lo.isCells=false) (fun _ _=>False) ?it ?done (fun c W o h=>h.elim)
 case done =>
  rintro W o ⟨hB,hD,lo,hlo,hlc⟩
  have hq5:=HQ.out.2.2.2.1
  have hp:=l3 W (w0.heap.size+1) o
  have k2:(W.putObj (w0.heap.size+1) o).heap[w.heap.size+1]?=some (.cells #[.int .i64 0] 2 (0,0)):=(World.putObj_heap_other (by omega)).trans ((hB.block _ (by omega)).trans HQ.out.1)
  have k3:(W.putObj (w0.heap.size+1) o).heap[w.heap.size+1+1]?=some (.cells #[.int .i64 0] 2 (0,0)):=(World.putObj_heap_other (by omega)).trans ((hB.block _ (by omega)).trans HQ.out.2.1)
  have kD:(W.putObj (w0.heap.size+1) o).heap[w0.heap.size]?=some (.deferred (some [])):=(World.putObj_heap_other (by omega)).trans hD
  have hBw:Below w.heap.size w (W.putObj (w0.heap.size+1) o):=(HQ.out.2.2.2.2.trans (hB.mono (by omega))).trans (hp.below (by have:=hB.size;omega) (fun x hx=>by simp at hx;omega))
  generalize W.putObj (w0.heap.size+1) o=W2 at *
  have c2:=fG k2
  have f2:=fX k2
  have c3:=fG k3
  have f3:=fX k3
  have hT3:Touch [w.heap.size+1,w.heap.size+1+1] W2 ((W2.setCell ⟨w.heap.size+1,0,none⟩ (.int .i64 (-1))).setCell ⟨w.heap.size+1+1,0,none⟩ (.int .i64 0)):=((Touch.refl _ _).set (by simp) 0 _).set (by simp) 0 _
  have hK':=(hT3.block w0.heap.size (Array.getElem?_eq_some_iff.1 kD).1 (by simp;omega)).trans kD
  have hb2:=(fO (i:=0) (show w.heap.size+1≠w.heap.size+1+1 by omega) (.int .i64 0)).trans (gj (i:=0) k2 (.int .i64 (-1)))
  have hb3:=gj (i:=0) ((fO (i:=0) (show w.heap.size+1+1≠w.heap.size+1 by omega) (.int .i64 (-1))).trans k3) (.int .i64 0)
  have hBe:=(hBw.trans (hT3.below hBw.size (fun x hx=>by simp at hx;omega))).trans ((l3 _ w0.heap.size (.deferred none)).below (by have:=hBw.size;have:=hT3.size;omega) (fun x hx=>by simp at hx;omega))
  have hc2:=(lp (o:=.deferred none) (l:=w0.heap.size) (i:=0) (show w.heap.size+1≠w0.heap.size by omega)).trans (fG hb2 0)
  have hc3:=(lp (o:=.deferred none) (l:=w0.heap.size) (i:=0) (show w.heap.size+1+1≠w0.heap.size by omega)).trans (fG hb3 0)
  have HF:Hid (_∧_∧_∧_):=⟨hK',hc2,hc3,hBe⟩
  clear hT3 hK' hb2 hb3 hBe hc2 hc3 hBw kD k2 k3 hp hq5
  gi_wp2
  refine ⟨by simp,.inl ⟨_,_,rfl,run_takeDeferred HF.out.1,?_⟩⟩
  have e2:=HF.out.2.1
  have e3:=HF.out.2.2.1
  exact ⟨.tuple #[.int .i64 (-1),.int .i64 0],by simp [results,Tryz.results138,go_sem,e2,e3],rfl,HF.out.2.2.2⟩
 intro fn hfn rc hrc
 obtain ⟨W1,hW1⟩:∃ W1,(w0.alloc (.deferred (some []))).alloc (.loop (rc .ready none))=W1:=⟨_,rfl⟩
 have hq5:=HQ.out.2.2.2.1
 have e1:(w0.alloc (.deferred (some []))).heap.size=w0.heap.size+1:=by simp
 have HW:Hid (W1.heap[w0.heap.size+1]?=some (.loop (rc .ready none))∧W1.heap[w0.heap.size]?=some (.deferred (some []))∧Below w0.heap.size w0 W1):=by
  rw [Hid,←hW1]
  refine ⟨?_,?_,((Below.refl _ _).alloc (Nat.le_refl _) _).alloc (by omega) _⟩
  ·
   rw [←e1,fL]
  rw [gg _ (by omega),fL]
 have hbw:Below w.heap.size w W1:=HQ.out.2.2.2.2.trans (HW.out.2.2.mono (by omega))
 have hRW:=HR.out.up hbw
 have cb:=hRW.cx
 have cc4:=fG ((HW.out.2.2.block (w.heap.size+1+1+1) (by omega)).trans HQ.out.2.2.1) 0
 have HRd:Hid (iY W1 X0):=hRW.own.rd
 have HBt:Hid (false=true↔∃ i,i<X0.nQ∧X0.L i≠0):=⟨fun e=>(by cases e),fun ⟨i,hi,hne⟩=>absurd (HNo.out i hi) hne⟩
 have f43:Fence.wide.fn 160:=trivial
 have HSz:Hid (w0.heap.size+1<W1.heap.size):=(Array.getElem?_eq_some_iff.1 HW.out.1).1
 rw [hW1]
 clear hrc hW1 hq5 e1 hbw hRW f33
 refine callsIn_of_wp Tryz.func159 rfl trivial ?_ rfl
 simp only [Tryz.ntmps159,List.size_toArray,List.length_cons,List.length_nil,Nat.reduceAdd,Nat.reduceSub,Array.replicate_succ,Array.replicate_zero,List.push_toArray,List.append_toArray,List.nil_append,List.cons_append]
 gi_wp2
 gi_loopw [3] (fun _ wr=>wr=W1) (fun _ _=>0)
 case atStart=>rfl
 obtain rfl:=hrel
 gi_wp2_with (gi_at_call 160;refine (callsIn_wide.2 (kd X0 wr (Bs HOk.out) HRd.out (by rw [HOk.out.d];exact Nat.le_refl _) (by rw [HOk.out.s];exact Nat.le_refl _) false HBt.out)).mono ?_;rintro e w2 ⟨rfl,hb⟩)
 refine ⟨fun _ h=>(by cases h),?_⟩
 gi_wp2
 go_end0
 have hl2:=(hb.block _ HSz.out).trans HW.out.1
 exact ⟨⟨_,rfl⟩,.inl ⟨⟨HW.out.2.2.trans (hb.mono (by have:=HSz.out;omega)),(hb.block _ (by have:=HSz.out;omega)).trans HW.out.2.1,_,hl2,rfl⟩,hl2⟩⟩
theorem tc (X M:Rnd) (x s:Int) (base top:Nat) (gb:oN) (gD gS:Nat) (w:World) (htop:top≤w.heap.size) (h:iy w base top gb gD gS X) (hok:X.Ok) (hp:mm X M x s) :
  Calls Tryz.prog 138 #[.pointer (some ⟨gb.g,gb.o,none⟩)] w fun e w'=>e=.returned (.tuple #[.int .i64 x,.int .i64 s])∧(∃ X',Alike M X'∧iy w' base top gb gD gS X')∧Touch [gb.g,gD,gS] w w':=by
 rcases hp with ⟨hn,_⟩ | ⟨_,hn,rfl,rfl,rfl⟩ | ⟨_,⟨c0,h1,h2⟩,k,c,hp,rfl⟩
 ·
  exact absurd hok hn
 ·
  refine (yJ _ base top gb gD gS w h hok hn).mono ?_
  rintro e w' ⟨rfl,hb⟩
  exact ⟨rfl,⟨_,Alike.refl _,h.up hb⟩,Touch.gY hb⟩
 exact AO X base top gb gD gS c0 w htop h hok h1 h2 k M c s hp
def nX (oz c:Nat):Nat:=if c=1 then oz else oz+1
theorem nb (g o gz oz n c:Nat) (z0:Int) (w:World) (hp:w.cell? ⟨g,o,none⟩=some (.slice (some ⟨gz,oz,none⟩) n c)) (hn:n≠0) (hz:w.cell? ⟨gz,oz,none⟩=some (.int .i64 z0)) (hfr:w.frozen? ⟨g,o,none⟩=false) :
  Calls Tryz.prog 137 #[.pointer (some ⟨g,o,none⟩)] w fun e w'=>e=.returned (.int .i64 z0)∧w'=w.setCell ⟨g,o,none⟩ (.slice (some ⟨gz,nX oz c,none⟩) (n-1) (c-1)):=by
 have hrc:∀ wx,(Instr.slice 25 (.slice (some ⟨gz,oz,none⟩) n c) (some (.int .i64 1)) none none).run Tryz.prog wx=.ok (.slice (some ⟨gz,nX oz c,none⟩) (n-1) (c-1)) wx:=fun wx=>nc gz oz _ n c wx hn rfl
 have hn':(0:Int)<(n:Int):=by omega
 go_enter Tryz.func137,Tryz.ntmps137
 go_wp2_with fail
 go_ret
 exact ⟨rfl,rfl⟩
theorem VG.drop {t:TypeId} {w:World} {base gz oz n c:Nat} {f:Nat→Value} (h:VG t w base (some ⟨gz,oz,none⟩) n f) (hn:n≠0) (hc:n≤c):VG t w base (some ⟨gz,nX oz c,none⟩) (n-1) (fun i=>f (i+1)):=by
 by_cases h1:n-1=0
 ·
  exact .inl h1
 rcases h with h | ⟨g,o,e,hb,arr,k1,k2,k3⟩
 ·
  exact absurd h hn
 cases e
 unfold nX
 rw [if_neg (by omega)]
 refine .inr ⟨gz,oz+1,rfl,hb,arr,k1,by omega,fun i hi=>?_⟩
 have:=k3 (i+1) (by omega)
 rw [show oz+1+i=oz+(i+1) by omega]
 exact this
theorem uF {gz oz o' n:Nat}:∀ x∈gF (some ⟨gz,o',none⟩) (n-1),x∈gF (some ⟨gz,oz,none⟩) n:=by
 intro x hx
 unfold gF at hx ⊢
 split at hx
 ·
  simp at hx
 rw [if_neg (by omega)]
 exact hx
theorem jJ {w wi:World} {o o' o2:Obj} (h:Below (w.heap.size+3) (((w.alloc o).alloc o').alloc o2) wi):wi.heap[w.heap.size]?=some o∧wi.heap[w.heap.size+1]?=some o'∧wi.heap[w.heap.size+1+1]?=some o2:=by
 have e1:(w.alloc o).heap.size=w.heap.size+1:=by simp
 have e2:((w.alloc o).alloc o').heap.size=w.heap.size+1+1:=by simp
 refine ⟨(h.block _ (by omega)).trans ((gg _ (by omega)).trans ((gg _ (by omega)).trans (fL _ _))),(h.block _ (by omega)).trans ((gg _ (by omega)).trans ?_),(h.block _ (by omega)).trans ?_⟩
 ·
  have:=fL (w.alloc o) o'
  rw [e1] at this
  exact this
 have:=fL ((w.alloc o).alloc o') o2
 rw [e2] at this
 exact this
theorem je {w wi:World} {o o' o2:Obj} (h:Below (w.heap.size+3) (((w.alloc o).alloc o').alloc o2) wi):Below w.heap.size w wi :=
 ((((Below.refl _ _).alloc (Nat.le_refl _) o).alloc (by simp) o').alloc (by simp;omega) o2).trans (h.mono (by omega))
theorem pf {w wi:World} {o o' o2:Obj} (h:Below (w.heap.size+3) (((w.alloc o).alloc o').alloc o2) wi):w.heap.size+3≤wi.heap.size:=by
 have:=h.size
 simpa using this
theorem nY {w wi wj:World} {o o' o2:Obj} (h:Below (w.heap.size+3) (((w.alloc o).alloc o').alloc o2) wi) (k:Below wi.heap.size wi wj):Below (w.heap.size+3) (((w.alloc o).alloc o').alloc o2) wj :=
 h.trans (k.mono (pf h))
def Cnt.nv (N:Cnt) (i:Nat) (y:Int):Cnt:={ N with u:=Go.Proofs.YtfcfpkibceepgaaGreat.nv N.u i y }
def Cnt.Ar (N:Cnt) (y:Int):Cnt:={ N with lo:=N.lo+y }
def mF (N:Cnt) (ok:Bool):Cnt:=if ok then N else ym
structure m8 (C:Cfg) (N:Cnt):Prop where
 u:2≤N.nU∧N.nU≤4
 p:2≤N.nP∧N.nP≤4
 lo:0≤N.lo∧N.lo≤1000
 at':∀ i,i<N.nU→0≤N.u i∧N.u i≤2000
theorem Cnt.Ok.facts {C:Cfg} {N:Cnt} (h:Cnt.Ok C N):m8 C N:=by
 have h1:=h.nU
 have h2:=h.nP
 have h3:=h.c.num.p
 have h4:=h.lo
 have h5:=h.c.num.lo
 have h6:=h.c.num.xo
 have h7:=h.c.num.hd
 exact ⟨⟨by omega,by omega⟩,⟨by omega,by omega⟩,⟨by omega,by omega⟩,fun i hi=>by have:=h.u i hi;omega⟩
theorem m8.small {C:Cfg} {N:Cnt} (h:m8 C N):N.Small:=⟨by have:=h.u;omega,by have:=h.p;omega⟩
theorem rV (C:Cfg) (N:Cnt) (i:Nat) (y:Int) (w:World) (hN:Cnt.Ok C N) (h:ja w N) (hi:i<N.nU) (hy1:-5≤y) (hy2:y≤5) (ok:Bool) (hok:ok=true↔Cnt.Ok C (N.nv i y)) :
  Calls Tryz.prog 154 #[.agg C.cells,.agg N.cells,.iface 173 (.agg #[.int .i64 (i:Int)]),.int .i64 y] w fun e w'=>∃ M:Cnt,e=.returned (.tuple #[.agg M.cells,.bool ok])∧gR w' w.heap.size M∧Below w.heap.size w w'∧gx (mF (N.nv i y) ok) M:=by
 have HO:Hid (ok=true↔Cnt.Ok C (N.nv i y)):=hok
 have HR:Hid (ja w N):=h
 have HFa:Hid (m8 C N):=hN.facts
 have HB0:Hid (Below (w.heap.size+3) (((w.alloc (.cells #[.int .i64 C.p,.int .i64 C.c,.int .i64 C.xo,.int .i64 C.xn,.int .i64 C.hd,.int .i64 C.lo,.int .i64 C.dl] 34)).alloc (.cells #[.slice N.aU N.nU N.cU,.int .i64 N.lo,.slice N.aP N.nP N.cP] 36)).alloc (.cells #[.slice none 0 0,.int .i64 0,.slice none 0 0] 36)) (((w.alloc (.cells #[.int .i64 C.p,.int .i64 C.c,.int .i64 C.xo,.int .i64 C.xn,.int .i64 C.hd,.int .i64 C.lo,.int .i64 C.dl] 34)).alloc (.cells #[.slice N.aU N.nU N.cU,.int .i64 N.lo,.slice N.aP N.nP N.cP] 36)).alloc (.cells #[.slice none 0 0,.int .i64 0,.slice none 0 0] 36))):=Below.refl _ _
 have hsm:=HFa.out.small.u
 have HFit:Hid (N.nU≤maxLen∧N.nP≤maxLen):=⟨HFa.out.small.fit.u,HFa.out.small.fit.p⟩
 have hl1:=HFa.out.lo.1
 have hl2:=HFa.out.lo.2
 have hu1:=(HFa.out.at' i hi).1
 have hu2:=(HFa.out.at' i hi).2
 have hi2:(i:Int)<N.nU:=by omega
 have hnm:(N.nU:Int)≤1048576:=by omega
 clear hok h hN
 unfold Cfg.cells Cnt.cells
 go_enter Tryz.func154,Tryz.ntmps154
 go_wp2_with fail
 refine (kE N _ (by have:=HFa.out.u;omega) (by have:=HFa.out.p;omega) HFa.out.small (HR.out.up (je HB0.out))).mono ?_
 rintro e w1 ⟨M,rfl,hM,hb1,hAM⟩
 have hB:=nY HB0.out hb1
 have HL1:Hid (w.heap.size+3≤w1.heap.size):=pf hB
 have HMb:Hid (w.heap.size+3≤(((w.alloc (.cells #[.int .i64 C.p,.int .i64 C.c,.int .i64 C.xo,.int .i64 C.xn,.int .i64 C.hd,.int .i64 C.lo,.int .i64 C.dl] 34)).alloc (.cells #[.slice N.aU N.nU N.cU,.int .i64 N.lo,.slice N.aP N.nP N.cP] 36)).alloc (.cells #[.slice none 0 0,.int .i64 0,.slice none 0 0] 36)).heap.size):=by rw [Hid];simp
 obtain ⟨aU,nU',cU,u',lo',aP,nP',cP,p'⟩:=M
 obtain ⟨h1,h2,h3,h4,h5⟩:=hAM
 dsimp only at h1 h2 h3 h4 h5
 subst h1 h2 h3 h4 h5
 obtain ⟨hMu,hMp⟩:=hM
 dsimp only at hMu hMp
 rcases hMu with h0 | ⟨gU,rfl,hgU,hrU⟩
 ·
  have:=HFa.out.u
  omega
 have hVP:VT 4 w1 (w.heap.size+3) aP N.nP (fun i=>.bool (N.p i)):=hMp.mono HMb.out
 have HgU:Hid (w.heap.size+3≤gU):=Nat.le_trans HMb.out hgU
 clear hb1 hMp hgU
 have hA:=(Below.refl w1.heap.size w1).alloc (Nat.le_refl _) (.cells #[.slice (some ⟨gU,0,none⟩) N.nU cU,.int .i64 N.lo,.slice aP N.nP cP] 36)
 have kX:=fL w1 (.cells #[.slice (some ⟨gU,0,none⟩) N.nU cU,.int .i64 N.lo,.slice aP N.nP cP] 36)
 have l1:=hrU.lt
 have HgX:Hid (gU≠w1.heap.size):=by show gU≠w1.heap.size;omega
 replace hrU:=hrU.ir (hA.block _ hrU.lt)
 replace hVP:=hVP.up hA
 replace hB:=nY hB hA
 have cb:=fG (jJ hB).1
 clear hA l1
 dsimp only [Cnt.cells]
 go_wp2_with fail
 generalize w1.alloc (.cells #[.slice (some ⟨gU,0,none⟩) N.nU cU,.int .i64 N.lo,.slice aP N.nP cP] 36)=w2 at *
 refine (mC w1.heap.size gU N.nU cU i _ _ N.u y _ hi (by omega) kX hrU (by omega) (by omega)).mono ?_
 rintro e w3 ⟨rfl,hr3,ht3⟩
 have kX3:=(ht3.block _ (fH kX) (by have:=HgX.out;simp;omega)).trans kX
 have hM3:gR w3 (w.heap.size+3) ⟨some ⟨gU,0,none⟩,N.nU,cU,Go.Proofs.YtfcfpkibceepgaaGreat.nv N.u i y,N.lo,aP,N.nP,cP,N.p⟩:=⟨VT.of HgU.out hr3,hVP.fK ht3 (fun x hx hy=>by simp at hy;subst hy;obtain ⟨arr,hk,_⟩:=hrU;exact VT.mL hVP (by decide) hk hx)⟩
 have kC3:=(ht3.block _ (fH (jJ hB).1) (by have:=HgU.out;have:=HL1.out;simp;omega)).trans (jJ hB).1
 have kR3:=(ht3.block _ (fH (jJ hB).2.2) (by have:=HgU.out;have:=HL1.out;simp;omega)).trans (jJ hB).2.2
 have B3:=(je hB).trans (ht3.below (je hB).size (fun x hx=>by have:=HgU.out;have:=HL1.out;simp at hx;omega))
 clear hB hrU hVP kX hr3 ht3 cb
 have cb:=fG kC3
 have cX:=fG kX3
 go_wp2_with fail
 refine (jP C ⟨some ⟨gU,0,none⟩,N.nU,cU,Go.Proofs.YtfcfpkibceepgaaGreat.nv N.u i y,N.lo,aP,N.nP,cP,N.p⟩ _ ⟨HFit.out.1,HFit.out.2⟩ hM3.rd ok (HO.out.trans ⟨fun k=>⟨k.c,k.nU,k.nP,k.lo,k.u⟩,fun k=>⟨k.c,k.nU,k.nP,k.lo,k.u⟩⟩)).mono ?_
 rintro e w4 ⟨rfl,hb4⟩
 have hM4:=hM3.up hb4
 have kX4:=(hb4.block _ (fH kX3)).trans kX3
 have kR4:=(hb4.block _ (fH kR3)).trans kR3
 have B4:=B3.trans (hb4.mono B3.size)
 clear hM3 kX3 kR3 kC3 B3 hb4 cb cX
 have cR:=fG kR4
 have fR:=fX kR4
 have cX:=fG kX4
 cases ok
 · exact dE
 have kz3:=iG kR4 (.slice (some ⟨gU,0,none⟩) N.nU cU) (.int .i64 N.lo) (.slice aP N.nP cP)
 have HB:Hid (Below w.heap.size w (j6 w4 (w.heap.size+1+1) (.slice (some ⟨gU,0,none⟩) N.nU cU) (.int .i64 N.lo) (.slice aP N.nP cP))):=B4.trans ((ia _ _ _ _ _).below B4.size (fun x hx=>by simp at hx;omega))
 have HM:Hid (gR (j6 w4 (w.heap.size+1+1) (.slice (some ⟨gU,0,none⟩) N.nU cU) (.int .i64 N.lo) (.slice aP N.nP cP)) w.heap.size ⟨some ⟨gU,0,none⟩,N.nU,cU,Go.Proofs.YtfcfpkibceepgaaGreat.nv N.u i y,N.lo,aP,N.nP,cP,N.p⟩):=(kJ hM4 kR4).mono (by omega)
 have cB:=fG kz3
 clear kz3 kX4 kR4 B4 hM4
 unfold j6 at cB
 go_wp2_with fail
 exact bodyPost_ret (v:=.tuple #[.agg #[.slice (some ⟨gU,0,none⟩) N.nU cU,.int .i64 N.lo,.slice aP N.nP cP],.bool true]) (by simp [results,Tryz.results154,go_sem,cB]) rfl ⟨⟨some ⟨gU,0,none⟩,N.nU,cU,Go.Proofs.YtfcfpkibceepgaaGreat.nv N.u i y,N.lo,aP,N.nP,cP,N.p⟩,rfl,HM.out,HB.out,⟨rfl,rfl,rfl,rfl,rfl⟩⟩
theorem rW (C:Cfg) (N:Cnt) (y:Int) (w:World) (hN:Cnt.Ok C N) (h:ja w N) (hy1:-5≤y) (hy2:y≤5) (ok:Bool) (hok:ok=true↔Cnt.Ok C (N.Ar y)) :
  Calls Tryz.prog 154 #[.agg C.cells,.agg N.cells,.iface 171 (.agg #[]),.int .i64 y] w fun e w'=>∃ M:Cnt,e=.returned (.tuple #[.agg M.cells,.bool ok])∧gR w' w.heap.size M∧Below w.heap.size w w'∧gx (mF (N.Ar y) ok) M:=by
 have HO:Hid (ok=true↔Cnt.Ok C (N.Ar y)):=hok
 have HR:Hid (ja w N):=h
 have HFa:Hid (m8 C N):=hN.facts
 have HB0:Hid (Below (w.heap.size+3) (((w.alloc (.cells #[.int .i64 C.p,.int .i64 C.c,.int .i64 C.xo,.int .i64 C.xn,.int .i64 C.hd,.int .i64 C.lo,.int .i64 C.dl] 34)).alloc (.cells #[.slice N.aU N.nU N.cU,.int .i64 N.lo,.slice N.aP N.nP N.cP] 36)).alloc (.cells #[.slice none 0 0,.int .i64 0,.slice none 0 0] 36)) (((w.alloc (.cells #[.int .i64 C.p,.int .i64 C.c,.int .i64 C.xo,.int .i64 C.xn,.int .i64 C.hd,.int .i64 C.lo,.int .i64 C.dl] 34)).alloc (.cells #[.slice N.aU N.nU N.cU,.int .i64 N.lo,.slice N.aP N.nP N.cP] 36)).alloc (.cells #[.slice none 0 0,.int .i64 0,.slice none 0 0] 36))):=Below.refl _ _
 have hsm:=HFa.out.small.u
 have HFit:Hid (N.nU≤maxLen∧N.nP≤maxLen):=⟨HFa.out.small.fit.u,HFa.out.small.fit.p⟩
 have hl1:=HFa.out.lo.1
 have hl2:=HFa.out.lo.2
 clear hok h hN
 unfold Cfg.cells Cnt.cells
 go_enter Tryz.func154,Tryz.ntmps154
 go_wp2_with fail
 refine (kE N _ (by have:=HFa.out.u;omega) (by have:=HFa.out.p;omega) HFa.out.small (HR.out.up (je HB0.out))).mono ?_
 rintro e w1 ⟨M,rfl,hM,hb1,hAM⟩
 have hB:=nY HB0.out hb1
 have HL1:Hid (w.heap.size+3≤w1.heap.size):=pf hB
 have HMb:Hid (w.heap.size+3≤(((w.alloc (.cells #[.int .i64 C.p,.int .i64 C.c,.int .i64 C.xo,.int .i64 C.xn,.int .i64 C.hd,.int .i64 C.lo,.int .i64 C.dl] 34)).alloc (.cells #[.slice N.aU N.nU N.cU,.int .i64 N.lo,.slice N.aP N.nP N.cP] 36)).alloc (.cells #[.slice none 0 0,.int .i64 0,.slice none 0 0] 36)).heap.size):=by rw [Hid];simp
 obtain ⟨aU,nU',cU,u',lo',aP,nP',cP,p'⟩:=M
 obtain ⟨h1,h2,h3,h4,h5⟩:=hAM
 dsimp only at h1 h2 h3 h4 h5
 subst h1 h2 h3 h4 h5
 obtain ⟨hMu,hMp⟩:=hM
 dsimp only at hMu hMp
 rcases hMu with h0 | ⟨gU,rfl,hgU,hrU⟩
 ·
  have:=HFa.out.u
  omega
 have hVP:VT 4 w1 (w.heap.size+3) aP N.nP (fun i=>.bool (N.p i)):=hMp.mono HMb.out
 have HgU:Hid (w.heap.size+3≤gU):=Nat.le_trans HMb.out hgU
 clear hb1 hMp hgU
 have hA:=(Below.refl w1.heap.size w1).alloc (Nat.le_refl _) (.cells #[.slice (some ⟨gU,0,none⟩) N.nU cU,.int .i64 N.lo,.slice aP N.nP cP] 36)
 have kX:=fL w1 (.cells #[.slice (some ⟨gU,0,none⟩) N.nU cU,.int .i64 N.lo,.slice aP N.nP cP] 36)
 have l1:=hrU.lt
 have HgX:Hid (gU≠w1.heap.size):=by show gU≠w1.heap.size;omega
 replace hrU:=hrU.ir (hA.block _ hrU.lt)
 replace hVP:=hVP.up hA
 replace hB:=nY hB hA
 have cb:=fG (jJ hB).1
 clear hA l1
 dsimp only [Cnt.cells]
 go_wp2_with fail
 generalize w1.alloc (.cells #[.slice (some ⟨gU,0,none⟩) N.nU cU,.int .i64 N.lo,.slice aP N.nP cP] 36)=w2 at *
 refine (l7 w1.heap.size _ _ N.lo y _ kX (by omega) (by omega)).mono ?_
 rintro e w3 ⟨rfl,kX3,ht3⟩
 have hM3:gR w3 (w.heap.size+3) ⟨some ⟨gU,0,none⟩,N.nU,cU,N.u,N.lo+y,aP,N.nP,cP,N.p⟩:=⟨VT.of HgU.out (hrU.ir (ht3.block _ hrU.lt (by have:=HgX.out;simp;omega))),hVP.fK ht3 (fun x hx hy=>by simp at hy;subst hy;exact VT.mL hVP (by decide) kX hx)⟩
 have kC3:=(ht3.block _ (fH (jJ hB).1) (by have:=HgU.out;have:=HL1.out;simp;omega)).trans (jJ hB).1
 have kR3:=(ht3.block _ (fH (jJ hB).2.2) (by have:=HgU.out;have:=HL1.out;simp;omega)).trans (jJ hB).2.2
 have B3:=(je hB).trans (ht3.below (je hB).size (fun x hx=>by have:=HgU.out;have:=HL1.out;simp at hx;omega))
 clear hB hrU hVP kX ht3 cb
 have cb:=fG kC3
 have cX:=fG kX3
 go_wp2_with fail
 refine (jP C ⟨some ⟨gU,0,none⟩,N.nU,cU,N.u,N.lo+y,aP,N.nP,cP,N.p⟩ _ ⟨HFit.out.1,HFit.out.2⟩ hM3.rd ok (HO.out.trans ⟨fun k=>⟨k.c,k.nU,k.nP,k.lo,k.u⟩,fun k=>⟨k.c,k.nU,k.nP,k.lo,k.u⟩⟩)).mono ?_
 rintro e w4 ⟨rfl,hb4⟩
 have hM4:=hM3.up hb4
 have kX4:=(hb4.block _ (fH kX3)).trans kX3
 have kR4:=(hb4.block _ (fH kR3)).trans kR3
 have B4:=B3.trans (hb4.mono B3.size)
 clear hM3 kX3 kR3 kC3 B3 hb4 cb cX
 have cR:=fG kR4
 have fR:=fX kR4
 have cX:=fG kX4
 cases ok
 · exact dE
 have kz3:=iG kR4 (.slice (some ⟨gU,0,none⟩) N.nU cU) (.int .i64 (N.lo+y)) (.slice aP N.nP cP)
 have HB:Hid (Below w.heap.size w (j6 w4 (w.heap.size+1+1) (.slice (some ⟨gU,0,none⟩) N.nU cU) (.int .i64 (N.lo+y)) (.slice aP N.nP cP))):=B4.trans ((ia _ _ _ _ _).below B4.size (fun x hx=>by simp at hx;omega))
 have HM:Hid (gR (j6 w4 (w.heap.size+1+1) (.slice (some ⟨gU,0,none⟩) N.nU cU) (.int .i64 (N.lo+y)) (.slice aP N.nP cP)) w.heap.size ⟨some ⟨gU,0,none⟩,N.nU,cU,N.u,N.lo+y,aP,N.nP,cP,N.p⟩):=(kJ hM4 kR4).mono (by omega)
 have cB:=fG kz3
 clear kz3 kX4 kR4 B4 hM4
 unfold j6 at cB
 go_wp2_with fail
 exact bodyPost_ret (v:=.tuple #[.agg #[.slice (some ⟨gU,0,none⟩) N.nU cU,.int .i64 (N.lo+y),.slice aP N.nP cP],.bool true]) (by simp [results,Tryz.results154,go_sem,cB]) rfl ⟨⟨some ⟨gU,0,none⟩,N.nU,cU,N.u,N.lo+y,aP,N.nP,cP,N.p⟩,rfl,HM.out,HB.out,⟨rfl,rfl,rfl,rfl,rfl⟩⟩
theorem q9 (C:Cfg) (N:Cnt) (i:Nat) (y:Int) (w:World) (hN:Cnt.Ok C N) (h:ja w N) (hi:i<N.nU) (hy1:-5≤y) (hy2:y≤5) (ok:Bool) (hok:ok=true↔Cnt.Ok C (N.nv i y)) :
  Calls Tryz.prog 59 #[.agg C.cells,.agg N.cells,.int .i64 (i:Int),.int .i64 2,.int .i64 y] w fun e w'=>∃ M:Cnt,e=.returned (.tuple #[.agg M.cells,.bool ok])∧gR w' w.heap.size M∧Below w.heap.size w w'∧gx (mF (N.nv i y) ok) M:=by
 have HO:Hid (ok=true↔Cnt.Ok C (N.nv i y)):=hok
 have HR:Hid (ja w N):=h
 have HFa:Hid (m8 C N):=hN.facts
 have HB0:Hid (Below (w.heap.size+3) (((w.alloc (.cells #[.int .i64 C.p,.int .i64 C.c,.int .i64 C.xo,.int .i64 C.xn,.int .i64 C.hd,.int .i64 C.lo,.int .i64 C.dl] 34)).alloc (.cells #[.slice N.aU N.nU N.cU,.int .i64 N.lo,.slice N.aP N.nP N.cP] 36)).alloc (.cells #[.slice none 0 0,.int .i64 0,.slice none 0 0] 36)) (((w.alloc (.cells #[.int .i64 C.p,.int .i64 C.c,.int .i64 C.xo,.int .i64 C.xn,.int .i64 C.hd,.int .i64 C.lo,.int .i64 C.dl] 34)).alloc (.cells #[.slice N.aU N.nU N.cU,.int .i64 N.lo,.slice N.aP N.nP N.cP] 36)).alloc (.cells #[.slice none 0 0,.int .i64 0,.slice none 0 0] 36))):=Below.refl _ _
 have hsm:=HFa.out.small.u
 have HFit:Hid (N.nU≤maxLen∧N.nP≤maxLen):=⟨HFa.out.small.fit.u,HFa.out.small.fit.p⟩
 have hl1:=HFa.out.lo.1
 have hl2:=HFa.out.lo.2
 have hu1:=(HFa.out.at' i hi).1
 have hu2:=(HFa.out.at' i hi).2
 have hi2:(i:Int)<N.nU:=by omega
 have hnm:(N.nU:Int)≤1048576:=by omega
 clear hok h hN
 unfold Cfg.cells Cnt.cells
 go_enter Tryz.func59,Tryz.ntmps59
 go_wp2_with fail
 refine (mo N _ (by have:=HFa.out.u;omega) (by have:=HFa.out.p;omega) HFa.out.small (HR.out.up (je HB0.out))).mono ?_
 rintro e w1 ⟨M,rfl,hM,hb1,hAM⟩
 have hB:=nY HB0.out hb1
 have HL1:Hid (w.heap.size+3≤w1.heap.size):=pf hB
 have HMb:Hid (w.heap.size+3≤(((w.alloc (.cells #[.int .i64 C.p,.int .i64 C.c,.int .i64 C.xo,.int .i64 C.xn,.int .i64 C.hd,.int .i64 C.lo,.int .i64 C.dl] 34)).alloc (.cells #[.slice N.aU N.nU N.cU,.int .i64 N.lo,.slice N.aP N.nP N.cP] 36)).alloc (.cells #[.slice none 0 0,.int .i64 0,.slice none 0 0] 36)).heap.size):=by rw [Hid];simp
 obtain ⟨aU,nU',cU,u',lo',aP,nP',cP,p'⟩:=M
 obtain ⟨h1,h2,h3,h4,h5⟩:=hAM
 dsimp only at h1 h2 h3 h4 h5
 subst h1 h2 h3 h4 h5
 obtain ⟨hMu,hMp⟩:=hM
 dsimp only at hMu hMp
 rcases hMu with h0 | ⟨gU,rfl,hgU,hrU⟩
 ·
  have:=HFa.out.u
  omega
 have hVP:VT 4 w1 (w.heap.size+3) aP N.nP (fun i=>.bool (N.p i)):=hMp.mono HMb.out
 have HgU:Hid (w.heap.size+3≤gU):=Nat.le_trans HMb.out hgU
 clear hb1 hMp hgU
 have hA:=(Below.refl w1.heap.size w1).alloc (Nat.le_refl _) (.cells #[.slice (some ⟨gU,0,none⟩) N.nU cU,.int .i64 N.lo,.slice aP N.nP cP] 36)
 have kX:=fL w1 (.cells #[.slice (some ⟨gU,0,none⟩) N.nU cU,.int .i64 N.lo,.slice aP N.nP cP] 36)
 have l1:=hrU.lt
 have HgX:Hid (gU≠w1.heap.size):=by show gU≠w1.heap.size;omega
 replace hrU:=hrU.ir (hA.block _ hrU.lt)
 replace hVP:=hVP.up hA
 replace hB:=nY hB hA
 have cb:=fG (jJ hB).1
 clear hA l1
 dsimp only [Cnt.cells]
 have cX:=fG kX
 have e1:IntKind.i64.wrap (N.u i+y)=N.u i+y:=mv _ (by omega) (by omega)
 go_wp2_with fail
 generalize w1.alloc (.cells #[.slice (some ⟨gU,0,none⟩) N.nU cU,.int .i64 N.lo,.slice aP N.nP cP] 36)=w2 at *
 obtain ⟨w3,hw3⟩:∃ w3,w3=(w2.setCell ⟨gU,i,none⟩ (.int .i64 (N.u i+y))).drew:=⟨_,rfl⟩
 have ht3:Touch [gU] w2 w3:=by
  rw [hw3]
  have t:=(Touch.refl [gU] w2).set (g:=gU) (by simp) i (.int .i64 (N.u i+y))
  exact ⟨t.os,t.tape,t.output,t.size,t.block⟩
 have hr3:fV gU 2 N.nU (fun k=>.int .i64 (Go.Proofs.YtfcfpkibceepgaaGreat.nv N.u i y k)) N.nU w3:=by
  rw [hw3]
  exact ((hrU.sP i (.int .i64 (N.u i+y)) hi).ir (w':=(w2.setCell ⟨gU,i,none⟩ (.int .i64 (N.u i+y))).drew) rfl).yk (fun j _=>by
   unfold Go.Proofs.YtfcfpkibceepgaaGreat.nv
   by_cases e:j=i
   ·
    subst e;simp
   ·
    simp [e])
 have kX3:=(ht3.block _ (fH kX) (by have:=HgX.out;simp;omega)).trans kX
 have cX1:=fG kX3
 have c0:w2.drew.cell? ⟨gU,i,none⟩=some (.int .i64 (N.u i)):=hrU.at i hi
 have f0:w2.drew.frozen? ⟨gU,i,none⟩=false:=hrU.free i
 rw [hw3] at cX1
 refine wp_region_held_drew (S:=fun w'=>∀ o,w'.cell? ⟨w1.heap.size,o,none⟩=(#[.slice (some ⟨gU,0,none⟩) N.nU cU,.int .i64 N.lo,.slice aP N.nP cP]:Array Value)[o]?) (by kernel_rfl) cX (fun hHeld=>?_)
 refine t0 ?_
 iterate 6 refine tN ?_
 refine tQ 8 25 ?_
 refine rq1 7 (fun K hK=>?_)
 go_simp
 refine hK.out _ _ cX (fun hHeld=>?_)
 clear hK K
 try simp only [Act.put,PZ]
 refine tQ 9 26 ?_
 refine tQ 10 27 ?_
 refine rq1 11 (fun K hK=>?_)
 go_simp
 refine hK.out _ _ cX1 (fun hHeld=>?_)
 clear hK K
 try simp only [Act.put,PZ]
 refine dnq ?_
 rw [←hw3]
 clear hw3 c0 f0 cX cX1 hHeld
 have hM3:gR w3 (w.heap.size+3) ⟨some ⟨gU,0,none⟩,N.nU,cU,Go.Proofs.YtfcfpkibceepgaaGreat.nv N.u i y,N.lo,aP,N.nP,cP,N.p⟩:=⟨VT.of HgU.out hr3,hVP.fK ht3 (fun x hx hy=>by simp at hy;subst hy;obtain ⟨arr,hk,_⟩:=hrU;exact VT.mL hVP (by decide) hk hx)⟩
 have kC3:=(ht3.block _ (fH (jJ hB).1) (by have:=HgU.out;have:=HL1.out;simp;omega)).trans (jJ hB).1
 have kR3:=(ht3.block _ (fH (jJ hB).2.2) (by have:=HgU.out;have:=HL1.out;simp;omega)).trans (jJ hB).2.2
 have B3:=(je hB).trans (ht3.below (je hB).size (fun x hx=>by have:=HgU.out;have:=HL1.out;simp at hx;omega))
 clear hB hrU hVP kX hr3 ht3 cb
 have cb:=fG kC3
 have cX:=fG kX3
 go_wp2_with fail
 refine (lj C ⟨some ⟨gU,0,none⟩,N.nU,cU,Go.Proofs.YtfcfpkibceepgaaGreat.nv N.u i y,N.lo,aP,N.nP,cP,N.p⟩ _ ⟨HFit.out.1,HFit.out.2⟩ hM3.rd ok (HO.out.trans ⟨fun k=>⟨k.c,k.nU,k.nP,k.lo,k.u⟩,fun k=>⟨k.c,k.nU,k.nP,k.lo,k.u⟩⟩)).mono ?_
 rintro e w4 ⟨rfl,hb4⟩
 have hM4:=hM3.up hb4
 have kX4:=(hb4.block _ (fH kX3)).trans kX3
 have kR4:=(hb4.block _ (fH kR3)).trans kR3
 have B4:=B3.trans (hb4.mono B3.size)
 clear hM3 kX3 kR3 kC3 B3 hb4 cb cX
 have cR:=fG kR4
 have fR:=fX kR4
 have cX:=fG kX4
 cases ok
 · exact dF
 have kz3:=iG kR4 (.slice (some ⟨gU,0,none⟩) N.nU cU) (.int .i64 N.lo) (.slice aP N.nP cP)
 have HB:Hid (Below w.heap.size w (j6 w4 (w.heap.size+1+1) (.slice (some ⟨gU,0,none⟩) N.nU cU) (.int .i64 N.lo) (.slice aP N.nP cP))):=B4.trans ((ia _ _ _ _ _).below B4.size (fun x hx=>by simp at hx;omega))
 have HM:Hid (gR (j6 w4 (w.heap.size+1+1) (.slice (some ⟨gU,0,none⟩) N.nU cU) (.int .i64 N.lo) (.slice aP N.nP cP)) w.heap.size ⟨some ⟨gU,0,none⟩,N.nU,cU,Go.Proofs.YtfcfpkibceepgaaGreat.nv N.u i y,N.lo,aP,N.nP,cP,N.p⟩):=(kJ hM4 kR4).mono (by omega)
 have cB:=fG kz3
 clear kz3 kX4 kR4 B4 hM4
 unfold j6 at cB
 go_wp2_with fail
 exact bodyPost_ret (v:=.tuple #[.agg #[.slice (some ⟨gU,0,none⟩) N.nU cU,.int .i64 N.lo,.slice aP N.nP cP],.bool true]) (by simp [results,Tryz.results59,go_sem,cB]) rfl ⟨⟨some ⟨gU,0,none⟩,N.nU,cU,Go.Proofs.YtfcfpkibceepgaaGreat.nv N.u i y,N.lo,aP,N.nP,cP,N.p⟩,rfl,HM.out,HB.out,⟨rfl,rfl,rfl,rfl,rfl⟩⟩
theorem ra (C:Cfg) (N:Cnt) (port prio:Int) (hne:prio≠2) (y:Int) (w:World) (hN:Cnt.Ok C N) (h:ja w N) (hy1:-5≤y) (hy2:y≤5) (ok:Bool) (hok:ok=true↔Cnt.Ok C (N.Ar y)) :
  Calls Tryz.prog 59 #[.agg C.cells,.agg N.cells,.int .i64 port,.int .i64 prio,.int .i64 y] w fun e w'=>∃ M:Cnt,e=.returned (.tuple #[.agg M.cells,.bool ok])∧gR w' w.heap.size M∧Below w.heap.size w w'∧gx (mF (N.Ar y) ok) M:=by
 have HO:Hid (ok=true↔Cnt.Ok C (N.Ar y)):=hok
 have HR:Hid (ja w N):=h
 have HFa:Hid (m8 C N):=hN.facts
 have HB0:Hid (Below (w.heap.size+3) (((w.alloc (.cells #[.int .i64 C.p,.int .i64 C.c,.int .i64 C.xo,.int .i64 C.xn,.int .i64 C.hd,.int .i64 C.lo,.int .i64 C.dl] 34)).alloc (.cells #[.slice N.aU N.nU N.cU,.int .i64 N.lo,.slice N.aP N.nP N.cP] 36)).alloc (.cells #[.slice none 0 0,.int .i64 0,.slice none 0 0] 36)) (((w.alloc (.cells #[.int .i64 C.p,.int .i64 C.c,.int .i64 C.xo,.int .i64 C.xn,.int .i64 C.hd,.int .i64 C.lo,.int .i64 C.dl] 34)).alloc (.cells #[.slice N.aU N.nU N.cU,.int .i64 N.lo,.slice N.aP N.nP N.cP] 36)).alloc (.cells #[.slice none 0 0,.int .i64 0,.slice none 0 0] 36))):=Below.refl _ _
 have hsm:=HFa.out.small.u
 have HFit:Hid (N.nU≤maxLen∧N.nP≤maxLen):=⟨HFa.out.small.fit.u,HFa.out.small.fit.p⟩
 have hl1:=HFa.out.lo.1
 have hl2:=HFa.out.lo.2
 have hne':(prio == 2)=false:=by simpa using hne
 clear hok h hN
 unfold Cfg.cells Cnt.cells
 go_enter Tryz.func59,Tryz.ntmps59
 go_wp2_with fail
 refine (mo N _ (by have:=HFa.out.u;omega) (by have:=HFa.out.p;omega) HFa.out.small (HR.out.up (je HB0.out))).mono ?_
 rintro e w1 ⟨M,rfl,hM,hb1,hAM⟩
 have hB:=nY HB0.out hb1
 have HL1:Hid (w.heap.size+3≤w1.heap.size):=pf hB
 have HMb:Hid (w.heap.size+3≤(((w.alloc (.cells #[.int .i64 C.p,.int .i64 C.c,.int .i64 C.xo,.int .i64 C.xn,.int .i64 C.hd,.int .i64 C.lo,.int .i64 C.dl] 34)).alloc (.cells #[.slice N.aU N.nU N.cU,.int .i64 N.lo,.slice N.aP N.nP N.cP] 36)).alloc (.cells #[.slice none 0 0,.int .i64 0,.slice none 0 0] 36)).heap.size):=by rw [Hid];simp
 obtain ⟨aU,nU',cU,u',lo',aP,nP',cP,p'⟩:=M
 obtain ⟨h1,h2,h3,h4,h5⟩:=hAM
 dsimp only at h1 h2 h3 h4 h5
 subst h1 h2 h3 h4 h5
 obtain ⟨hMu,hMp⟩:=hM
 dsimp only at hMu hMp
 rcases hMu with h0 | ⟨gU,rfl,hgU,hrU⟩
 ·
  have:=HFa.out.u
  omega
 have hVP:VT 4 w1 (w.heap.size+3) aP N.nP (fun i=>.bool (N.p i)):=hMp.mono HMb.out
 have HgU:Hid (w.heap.size+3≤gU):=Nat.le_trans HMb.out hgU
 clear hb1 hMp hgU
 have hA:=(Below.refl w1.heap.size w1).alloc (Nat.le_refl _) (.cells #[.slice (some ⟨gU,0,none⟩) N.nU cU,.int .i64 (N.lo+y),.slice aP N.nP cP] 36)
 have kX:=fL w1 (.cells #[.slice (some ⟨gU,0,none⟩) N.nU cU,.int .i64 (N.lo+y),.slice aP N.nP cP] 36)
 have l1:=hrU.lt
 have HgX:Hid (gU≠w1.heap.size):=by show gU≠w1.heap.size;omega
 replace hrU:=hrU.ir (hA.block _ hrU.lt)
 replace hVP:=hVP.up hA
 replace hB:=nY hB hA
 have cb:=fG (jJ hB).1
 clear hA l1
 dsimp only [Cnt.cells]
 have e1:IntKind.i64.wrap (N.lo+y)=N.lo+y:=mv _ (by omega) (by omega)
 have hM3:gR (w1.alloc (.cells #[.slice (some ⟨gU,0,none⟩) N.nU cU,.int .i64 (N.lo+y),.slice aP N.nP cP] 36)) (w.heap.size+3) ⟨some ⟨gU,0,none⟩,N.nU,cU,N.u,N.lo+y,aP,N.nP,cP,N.p⟩:=⟨VT.of HgU.out hrU,hVP⟩
 have kX3:=kX
 have kC3:=(jJ hB).1
 have kR3:=(jJ hB).2.2
 have B3:=je hB
 clear hB hrU hVP kX cb
 have cb:=fG kC3
 have cX3:=fG kX3
 go_wp2_with fail
 generalize w1.alloc (.cells #[.slice (some ⟨gU,0,none⟩) N.nU cU,.int .i64 (N.lo+y),.slice aP N.nP cP] 36)=w3 at *
 clear cX3
 refine (lj C ⟨some ⟨gU,0,none⟩,N.nU,cU,N.u,N.lo+y,aP,N.nP,cP,N.p⟩ _ ⟨HFit.out.1,HFit.out.2⟩ hM3.rd ok (HO.out.trans ⟨fun k=>⟨k.c,k.nU,k.nP,k.lo,k.u⟩,fun k=>⟨k.c,k.nU,k.nP,k.lo,k.u⟩⟩)).mono ?_
 rintro e w4 ⟨rfl,hb4⟩
 have hM4:=hM3.up hb4
 have kX4:=(hb4.block _ (fH kX3)).trans kX3
 have kR4:=(hb4.block _ (fH kR3)).trans kR3
 have B4:=B3.trans (hb4.mono B3.size)
 clear hM3 kX3 kR3 kC3 B3 hb4 cb
 have cR:=fG kR4
 have fR:=fX kR4
 have cX:=fG kX4
 cases ok
 · exact dF
 have kz3:=iG kR4 (.slice (some ⟨gU,0,none⟩) N.nU cU) (.int .i64 (N.lo+y)) (.slice aP N.nP cP)
 have HB:Hid (Below w.heap.size w (j6 w4 (w.heap.size+1+1) (.slice (some ⟨gU,0,none⟩) N.nU cU) (.int .i64 (N.lo+y)) (.slice aP N.nP cP))):=B4.trans ((ia _ _ _ _ _).below B4.size (fun x hx=>by simp at hx;omega))
 have HM:Hid (gR (j6 w4 (w.heap.size+1+1) (.slice (some ⟨gU,0,none⟩) N.nU cU) (.int .i64 (N.lo+y)) (.slice aP N.nP cP)) w.heap.size ⟨some ⟨gU,0,none⟩,N.nU,cU,N.u,N.lo+y,aP,N.nP,cP,N.p⟩):=(kJ hM4 kR4).mono (by omega)
 have cB:=fG kz3
 clear kz3 kX4 kR4 B4 hM4
 unfold j6 at cB
 go_wp2_with fail
 exact bodyPost_ret (v:=.tuple #[.agg #[.slice (some ⟨gU,0,none⟩) N.nU cU,.int .i64 (N.lo+y),.slice aP N.nP cP],.bool true]) (by simp [results,Tryz.results59,go_sem,cB]) rfl ⟨⟨some ⟨gU,0,none⟩,N.nU,cU,N.u,N.lo+y,aP,N.nP,cP,N.p⟩,rfl,HM.out,HB.out,⟨rfl,rfl,rfl,rfl,rfl⟩⟩
def kF (N:Cnt) (port prio y:Int):Cnt:=if prio=2 then N.nv port.toNat y else N.Ar y
theorem nw {N:Cnt} {i:Nat} {y:Int}:kF N (i:Int) 2 y=N.nv i y:=by unfold kF;rw [if_pos rfl,Int.toNat_natCast]
theorem mu {N:Cnt} {port prio y:Int} (h:prio≠2):kF N port prio y=N.Ar y:=by unfold kF;rw [if_neg h]
theorem rO (C:Cfg) (N:Cnt) (port prio cells:Int) (w:World) (hf:N.Fit) (h:ja w N) (ok:Bool) (hok:ok=true↔oK C N port prio cells∧Cnt.Ok C (kF N port prio (-cells))) :
  Calls Tryz.prog 142 #[.agg C.cells,.agg N.cells,.int .i64 port,.int .i64 prio,.int .i64 cells] w fun e w'=>∃ M:Cnt,e=.returned (.tuple #[.agg M.cells,.bool ok])∧gR w' w.heap.size M∧Below w.heap.size w w'∧gx (mF (kF N port prio (-cells)) ok) M:=by
 obtain ⟨b,hb⟩:=pt (oK C N port prio cells)
 have HO:Hid (ok=true↔oK C N port prio cells∧Cnt.Ok C (kF N port prio (-cells))):=hok
 have HR:Hid (ja w N):=h
 have HF:Hid N.Fit:=hf
 have HCb:Hid (b=true↔oK C N port prio cells):=hb
 have HB0:Hid (Below (w.heap.size+3) (((w.alloc (.cells #[.int .i64 C.p,.int .i64 C.c,.int .i64 C.xo,.int .i64 C.xn,.int .i64 C.hd,.int .i64 C.lo,.int .i64 C.dl] 34)).alloc (.cells #[.slice N.aU N.nU N.cU,.int .i64 N.lo,.slice N.aP N.nP N.cP] 36)).alloc (.cells #[.slice none 0 0,.int .i64 0,.slice none 0 0] 36)) (((w.alloc (.cells #[.int .i64 C.p,.int .i64 C.c,.int .i64 C.xo,.int .i64 C.xn,.int .i64 C.hd,.int .i64 C.lo,.int .i64 C.dl] 34)).alloc (.cells #[.slice N.aU N.nU N.cU,.int .i64 N.lo,.slice N.aP N.nP N.cP] 36)).alloc (.cells #[.slice none 0 0,.int .i64 0,.slice none 0 0] 36))):=Below.refl _ _
 clear hok h hf hb
 unfold Cfg.cells
 rw [show N.cells=#[.slice N.aU N.nU N.cU,.int .i64 N.lo,.slice N.aP N.nP N.cP] from rfl]
 go_enter Tryz.func142,Tryz.ntmps142
 go_wp2_with fail
 refine (zJ C N port prio cells _ HF.out (HR.out.up (je HB0.out)) b HCb.out).mono ?_
 rintro e w1 ⟨rfl,hb1⟩
 have hB:=nY HB0.out hb1
 clear hb1
 cases b
 ·
  have HE:Hid (ok=false):=by
   show ok=false
   rw [Bool.eq_false_iff]
   intro e
   have:=HCb.out.2 (HO.out.1 e).1
   cases this
  obtain ⟨kC2,kN2,kR2⟩:=jJ hB
  have ht:=ia w1 (w.heap.size+1+1) (.slice none 0 0) (.int .i64 0) (.slice none 0 0)
  have HB:Hid (Below w.heap.size w (j6 w1 (w.heap.size+1+1) (.slice none 0 0) (.int .i64 0) (.slice none 0 0))):=(je hB).trans (ht.below (je hB).size (fun x hx=>by simp at hx;omega))
  have cB:=fG (iG kR2 (.slice none 0 0) (.int .i64 0) (.slice none 0 0))
  have cR:=fG kR2
  have fR:=fX kR2
  clear ht kC2 kN2 kR2 hB
  unfold j6 at cB
  go_wp2_with fail
  have e:=HE.out
  subst e
  exact bodyPost_ret (v:=.tuple #[.agg #[.slice none 0 0,.int .i64 0,.slice none 0 0],.bool false]) (by simp [results,Tryz.results142,go_sem,cB]) rfl ⟨ym,rfl,o6 _ _,HB.out,gx.refl _⟩
 have HFo:Hid (oK C N port prio cells):=HCb.out.1 rfl
 clear HCb
 have hc1:=HFo.out.cells.1
 have hc2:=HFo.out.cells.2
 have e9:IntKind.i64.wrap (-cells)=-cells:=mv _ (by omega) (by omega)
 obtain ⟨i,hip⟩:∃ i:Nat,port=(i:Int):=⟨port.toNat,by have:=HFo.out.port;omega⟩
 by_cases hne:prio=2
 ·
  subst hne
  subst hip
  have HE:Hid (ok=true↔Cnt.Ok C (N.nv i (-cells))):=by
   rw [Hid,HO.out,nw]
   exact ⟨fun k=>k.2,fun k=>⟨HFo.out,k⟩⟩
  have cb:=fG (jJ hB).1
  have cn:=fG (jJ hB).2.1
  go_wp2_with fail
  refine wp_region_held_drew (S:=fun w'=>(∀ o,w'.cell? ⟨w.heap.size,o,none⟩=(#[.int .i64 C.p,.int .i64 C.c,.int .i64 C.xo,.int .i64 C.xn,.int .i64 C.hd,.int .i64 C.lo,.int .i64 C.dl]:Array Value)[o]?)∧(∀ o,w'.cell? ⟨w.heap.size+1,o,none⟩=(#[.slice N.aU N.nU N.cU,.int .i64 N.lo,.slice N.aP N.nP N.cP]:Array Value)[o]?)) (by kernel_rfl) ⟨cb,cn⟩ (fun hHeld=>?_)
  refine t0 ?_
  iterate 3 refine tN ?_
  refine tQ 5 25 ?_
  refine tQ 6 26 ?_
  refine rq1 4 (fun K hK=>?_)
  go_simp
  refine (nj _ _).mono ?_
  rintro e w' ⟨rfl,hw⟩
  rw [hw]
  clear hw w'
  go_wp2_with fail
  refine hK.out _ _ ⟨cb,cn⟩ (fun hHeld=>?_)
  clear hK K
  try simp only [Act.put,PZ]
  refine rq1 7 (fun K hK=>?_)
  go_simp
  replace hB:=hB.drew
  refine (rV C N i (-cells) _ HFo.out.ok (HR.out.up (je hB)) (by have:=HFo.out.port;have:=HFo.out.ok.nU;omega) (by omega) (by omega) ok HE.out).mono ?_
  rintro e w2 ⟨M,rfl,hM,hb2,hAM⟩
  have HAM:Hid (gx (mF (N.nv i (-cells)) ok) M):=hAM
  have HLb:Hid (w.heap.size+3≤w1.drew.heap.size):=pf hB
  replace hB:=nY hB hb2
  obtain ⟨kC2,kN2,kR2⟩:=jJ hB
  replace hM:=hM.mono (base':=w.heap.size) (by have:=HLb.out;omega)
  have ht:=ia w2 (w.heap.size+1+1) (.slice M.aU M.nU M.cU) (.int .i64 M.lo) (.slice M.aP M.nP M.cP)
  have HM:Hid (gR (j6 w2 (w.heap.size+1+1) (.slice M.aU M.nU M.cU) (.int .i64 M.lo) (.slice M.aP M.nP M.cP)) w.heap.size M):=kJ hM kR2
  have HB:Hid (Below w.heap.size w (j6 w2 (w.heap.size+1+1) (.slice M.aU M.nU M.cU) (.int .i64 M.lo) (.slice M.aP M.nP M.cP))):=(je hB).trans (ht.below (je hB).size (fun x hx=>by simp at hx;omega))
  have cB:=fG (iG kR2 (.slice M.aU M.nU M.cU) (.int .i64 M.lo) (.slice M.aP M.nP M.cP))
  have cC:=fG ((ht.block _ (fH kC2) (fun hx=>by have:=List.mem_singleton.1 hx;omega)).trans kC2)
  have cN:=fG ((ht.block _ (fH kN2) (fun hx=>by have:=List.mem_singleton.1 hx;omega)).trans kN2)
  have cR:=fG kR2
  have fR:=fX kR2
  have s1:=fG kC2
  have s2:=fG kN2
  clear hM hb2 hAM ht kC2 kN2 kR2 hB
  unfold j6 at cB cC cN
  dsimp only [Cnt.cells]
  clear cb cn
  go_wp2_with fail
  refine hK.out _ _ ⟨s1,s2⟩ (fun hHeld=>?_)
  clear hK K
  try simp only [Act.put,PZ]
  refine tQ 8 28 ?_
  refine tQ 9 29 ?_
  refine rq1 10 (fun K hK=>?_)
  go_simp
  refine hK.out _ _ ⟨cC,cN⟩ (fun hHeld=>?_)
  clear hK K
  try simp only [Act.put,PZ]
  refine rq1 11 (fun K hK=>?_)
  go_simp
  refine hK.out _ _ ⟨cC,cN⟩ (fun hHeld=>?_)
  clear hK K
  try simp only [Act.put,PZ]
  refine dnq ?_
  clear cC cN cR fR s1 s2 hHeld
  go_wp2_with fail
  exact bodyPost_ret (v:=.tuple #[.agg M.cells,.bool ok]) (by simp [results,Tryz.results142,go_sem,cB,Cnt.cells]) rfl ⟨M,rfl,HM.out,HB.out,by rw [nw];exact HAM.out⟩
 clear hip
 have HE:Hid (ok=true↔Cnt.Ok C (N.Ar (-cells))):=by
  rw [Hid,HO.out,mu hne]
  exact ⟨fun k=>k.2,fun k=>⟨HFo.out,k⟩⟩
 have cb:=fG (jJ hB).1
 have cn:=fG (jJ hB).2.1
 have Hne:Hid (prio≠2):=hne
 clear hne
 go_wp2_with fail
 refine wp_region_held_drew (S:=fun w'=>(∀ o,w'.cell? ⟨w.heap.size,o,none⟩=(#[.int .i64 C.p,.int .i64 C.c,.int .i64 C.xo,.int .i64 C.xn,.int .i64 C.hd,.int .i64 C.lo,.int .i64 C.dl]:Array Value)[o]?)∧(∀ o,w'.cell? ⟨w.heap.size+1,o,none⟩=(#[.slice N.aU N.nU N.cU,.int .i64 N.lo,.slice N.aP N.nP N.cP]:Array Value)[o]?)) (by kernel_rfl) ⟨cb,cn⟩ (fun hHeld=>?_)
 refine t0 ?_
 iterate 3 refine tN ?_
 refine tQ 5 25 ?_
 refine tQ 6 26 ?_
 refine rq1 4 (fun K hK=>?_)
 go_simp
 refine (mH _ _ _ Hne.out).mono ?_
 rintro e w' ⟨rfl,hw⟩
 rw [hw]
 clear hw w'
 go_wp2_with fail
 refine hK.out _ _ ⟨cb,cn⟩ (fun hHeld=>?_)
 clear hK K
 try simp only [Act.put,PZ]
 refine rq1 7 (fun K hK=>?_)
 go_simp
 replace hB:=hB.drew
 refine (rW C N (-cells) _ HFo.out.ok (HR.out.up (je hB)) (by omega) (by omega) ok HE.out).mono ?_
 rintro e w2 ⟨M,rfl,hM,hb2,hAM⟩
 have HAM:Hid (gx (mF (N.Ar (-cells)) ok) M):=hAM
 have HLb:Hid (w.heap.size+3≤w1.drew.heap.size):=pf hB
 replace hB:=nY hB hb2
 obtain ⟨kC2,kN2,kR2⟩:=jJ hB
 replace hM:=hM.mono (base':=w.heap.size) (by have:=HLb.out;omega)
 have ht:=ia w2 (w.heap.size+1+1) (.slice M.aU M.nU M.cU) (.int .i64 M.lo) (.slice M.aP M.nP M.cP)
 have HM:Hid (gR (j6 w2 (w.heap.size+1+1) (.slice M.aU M.nU M.cU) (.int .i64 M.lo) (.slice M.aP M.nP M.cP)) w.heap.size M):=kJ hM kR2
 have HB:Hid (Below w.heap.size w (j6 w2 (w.heap.size+1+1) (.slice M.aU M.nU M.cU) (.int .i64 M.lo) (.slice M.aP M.nP M.cP))):=(je hB).trans (ht.below (je hB).size (fun x hx=>by simp at hx;omega))
 have cB:=fG (iG kR2 (.slice M.aU M.nU M.cU) (.int .i64 M.lo) (.slice M.aP M.nP M.cP))
 have cC:=fG ((ht.block _ (fH kC2) (fun hx=>by have:=List.mem_singleton.1 hx;omega)).trans kC2)
 have cN:=fG ((ht.block _ (fH kN2) (fun hx=>by have:=List.mem_singleton.1 hx;omega)).trans kN2)
 have cR:=fG kR2
 have fR:=fX kR2
 have s1:=fG kC2
 have s2:=fG kN2
 clear hM hb2 hAM ht kC2 kN2 kR2 hB
 unfold j6 at cB cC cN
 dsimp only [Cnt.cells]
 clear cb cn
 go_wp2_with fail
 refine hK.out _ _ ⟨s1,s2⟩ (fun hHeld=>?_)
 clear hK K
 try simp only [Act.put,PZ]
 refine tQ 8 28 ?_
 refine tQ 9 29 ?_
 refine rq1 10 (fun K hK=>?_)
 go_simp
 refine hK.out _ _ ⟨cC,cN⟩ (fun hHeld=>?_)
 clear hK K
 try simp only [Act.put,PZ]
 refine rq1 11 (fun K hK=>?_)
 go_simp
 refine hK.out _ _ ⟨cC,cN⟩ (fun hHeld=>?_)
 clear hK K
 try simp only [Act.put,PZ]
 refine dnq ?_
 clear cC cN cR fR s1 s2 hHeld
 go_wp2_with fail
 exact bodyPost_ret (v:=.tuple #[.agg M.cells,.bool ok]) (by simp [results,Tryz.results142,go_sem,cB,Cnt.cells]) rfl ⟨M,rfl,HM.out,HB.out,by rw [mu Hne.out];exact HAM.out⟩
structure Ans (W0 wc:World) (M:Cnt) (gA:Nat) (R:Cnt):Prop where
 b:Below W0.heap.size W0 wc
 g:W0.heap.size≤gA
 k:wc.heap[gA]?=some (.cells R.cells 36 (0,0))
 o:gR wc W0.heap.size R
 a:gx M R
theorem Ans.of {W0 W:World} {M R:Cnt} {gA:Nat} {cs:Array Value} {x y z:Value} (hcs:cs=#[x,y,z]) (hb:Below W0.heap.size W0 W) (hg:W0.heap.size≤gA) (hk:W.heap[gA]?=some (.cells cs 36 (0,0))) (ho:gR W W0.heap.size R) (ha:gx M R) :
  Ans W0 (j6 W gA (.slice R.aU R.nU R.cU) (.int .i64 R.lo) (.slice R.aP R.nP R.cP)) M gA R:=by
 subst hcs
 exact ⟨hb.trans ((ia _ _ _ _ _).below hb.size (fun k hk=>by simp at hk;omega)),hg,iG hk _ _ _,kJ ho hk,ha⟩
def Di (N:Cnt):List Nat:=gF N.aU N.nU++gF N.aP N.nP
theorem gR.mL {w:World} {base:Nat} {N:Cnt} (h:gR w base N) {g:Nat} {cs:Array Value} {t:TypeId} (h2:2≠t) (h4:4≠t) (hk:w.heap[g]?=some (.cells cs t (0,0))):g∉Di N:=by
 intro hx
 rcases List.mem_append.1 hx with hx | hx
 ·
  exact VT.mL h.u h2 hk hx
 exact VT.mL h.p h4 hk hx
theorem gx.mF {A B:Cnt} (h:gx A B) (ok:Bool):gx (mF A ok) (Go.Proofs.YtfcfpkibceepgaaGreat.mF B ok):=by
 cases ok
 ·
  exact gx.refl _
 exact h
def gJ (C:Cfg) (u:Int) (p:Bool):Bool:=if p then decide (C.xn<u) else decide (C.xo≤u)
theorem rj (C:Cfg) (u:Int) (p:Bool) (w:World) :
  Calls Tryz.prog 117 #[.agg C.cells,.int .i64 u,.bool p] w fun e w'=>e=.returned (.bool (gJ C u p))∧Below w.heap.size w w':=by
 have HA:Hid (∀ o,Below w.heap.size w (w.alloc o)):=fun o=>(Below.refl _ _).alloc (Nat.le_refl _) _
 unfold Cfg.cells
 cases p
 · exact dG
 exact dG
end Go.Proofs.YtfcfpkibceepgaaGreat
