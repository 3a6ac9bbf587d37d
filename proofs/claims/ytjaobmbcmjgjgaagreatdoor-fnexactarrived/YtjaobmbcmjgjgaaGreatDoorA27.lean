import Derived.Test.YtjaobmbcmjgjgaaGreatDoorA14
import Derived.Test.YtjaobmbcmjgjgaaGreatDoorA26
import Derived.Deep.Cut
import Derived.Deep.DeepCutAuto
namespace Go.Proofs.YtjaobmbcmjgjgaaGreatDoor
set_option maxRecDepth 1000000
set_option maxHeartbeats 8000000
open Go.RowKit
set_option linter.unusedVariables false
set_option linter.unusedSimpArgs false
theorem dG {p:Prop} (h:p:=by
 refine rq1 13 (fun K hK=>?_)
 go_simp
 refine (na P.C P.N (i:Int) x.p x.cl _ HSm.out.n.fit HX.out.own.n.rd ok HOA.out).mono ?_
 rintro e XM ⟨M,rfl,oM,hbM,aM⟩
 replace HX:Hid (AdS w XM base gS gf (P.hI i x aE cE) x):=HX.out.up hbM
 have hTM:=And.intro HX.out.box HX.out.fr
 have HM9:Hid (gV XM base M∧(∀ y∈ib M.aU M.nU,V5.heap.size≤y)∧gw (jt (lr P.N i x.p x.cl) ok) M):=⟨oM.mono (by omega),fun y hy=>by have:=(oM.u.blk y hy).1;omega,aM⟩
 replace HG:Hid (XM.heap[g8]?=some (.cells #[.slice none 0 0,.int .i64 0,.slice none 0 0] 39 (0,0))∧base≤g8):=⟨(hbM.block _ (fG HG.out.1)).trans HG.out.1,HG.out.2⟩
 clear oM aM hbM
 go_wp2_with fail
 refine hK.out _ _ hTM (fun hHeld=>?_)
 clear hK K
 try simp only [Act.put,PZ]
 refine tQ 14 50 ?_
 refine tQ 15 65 ?_
 refine tQ 16 66 ?_
 exact dQ):p:=h
theorem dH {p:Prop} (h:p:=by
 refine ⟨(hto.block _ (fG h.box) (far h.box (by decide))).trans h.box,(hto.block _ (fG h.fr) (far h.fr (by decide))).trans h.fr,?_,h.bel.trans (hto.below (Nat.le_trans h.le.2.2 h.bel.size) (fun y hy=>by simp at hy;omega)),h.le⟩
 refine ⟨h.own.e.fL hto (fun y hy=>?_),⟨h.own.n.u.fL hto (fun y hy=>?_),h.own.n.p.fL hto (fun y hy=>?_)⟩,h.own.k.fL hto (fun y hy=>?_),h.own.l.box hg (by decide) (by decide) (by decide) hto,h.own.un⟩
 ·
  obtain ⟨c,k⟩:=h.own.e.type y hy
  exact far k (by decide)
 ·
  obtain ⟨c,k⟩:=h.own.n.u.type y hy
  exact far k (by decide)
 ·
  obtain ⟨c,k⟩:=h.own.n.p.type y hy
  exact far k (by decide)
 obtain ⟨c,k⟩:=h.own.k.type y hy
 exact far k (by decide)):p:=h
theorem dI {p:Prop} (h:p:=by
 refine gR (rs:=[18]) (by kernel_rfl) (by simp) ?_
 refine ga.last rfl (fun K hK=>?_)
 refine iz (by kernel_rfl) none rfl 38 (.tmp 29) (.tmp 26) rfl gS 9 rfl (.slice aE (P.lrL i x).length cE) rfl 1 rfl 43 _ hT1.1 qi (Nat.le_of_ble_eq_true rfl) (by simp [Value.cells,Value.oneCell']) ?_
 intro X2 hP
 exact dR):p:=h
theorem dJ {p:Prop} (h:p:=by
 have hB:Below w.heap.size w W0:=by rw [←eW];exact (Below.refl _ _).alloc (Nat.le_refl _) _
 exact ⟨(hB.block _ (fG kb)).trans kb,by rw [←eW];exact fK _ _,ho.up hB,hB.mono hbw,hbS,hbw,hbw⟩):p:=h
theorem dK {p:Prop} (h:p:=by
 replace hP:Put X X2 gS (S.lf p).cells 43:=hP.cast (by rw [eL];rfl)
 have HF:Hid (X2.heap[gS]?=some (.cells (S.lf p).cells 43 (0,0))∧Touch [gS] w X2):=⟨hP.blk,HS.out.2.trans hP.to⟩
 clear hP eL c15 c16 cA cP
 go_wp2_with fail
 go_end0
 exact ⟨⟨_,rfl⟩,HF.out⟩):p:=h
theorem dL {p:Prop} (h:p:=by
 go_enter Tryz.func142,Tryz.ntmps142
 go_wp2_with fail
 go_ret
 exact ⟨by simp [h2],rfl⟩):p:=h
theorem dM {p:Prop} (h:p:=by
 rcases HMM.out with ⟨_,h1,h2⟩ | ⟨h1,_⟩
 ·
  exact ⟨by rw [h1,hk];rfl,h2⟩
 rw [hk] at h1;cases h1):p:=h
theorem dN {p:Prop} (h:p:=by
 clear hk
 go_enter Tryz.func116,Tryz.ntmps116
 go_wp2_with fail
 go_ret
 exact ⟨rfl,HB.out⟩):p:=h
theorem dO {p:Prop} (h:p:=by
 unfold pB
 rw [if_neg (by rw [HC.out.2];decide),HC.out.1]
 exact fP.refl _):p:=h
theorem dQ {p:Prop} (h:p:=by
 refine rq1 18 (fun K hK=>?_)
 refine iz (by kernel_rfl) none rfl 39 (.tmp 8) (.tmp 65) rfl g8 0 rfl (.agg M.cells) rfl 3 rfl 39 _ HG.out.1 lY (Nat.le_of_ble_eq_true rfl) (by simp [Value.cells,Value.oneCell',Cnt.cells]) ?_
 intro X9 hP9
 replace hP9:Put _ X9 g8 M.cells 39:=hP9.cast rfl
 exact Ck):p:=h
theorem dR {p:Prop} (h:p:=by
 refine hK.out _ _ ?_
 clear hK K
 try simp only [Act.put,PZ]
 refine oN (by kernel_rfl) ?_ _
 exact CW):p:=h
def Pkt.frc (x:Pkt):Array Value:=#[.int .i64 x.k,.int .i64 x.d,.int .i64 x.s,.int .i64 x.p,.string x.b]
def pB (P P':Swg) (i:Nat) (x:Pkt) (code:Int):Swg:=if code=3 then P.hI i x none 0 else P'
def xR (w w':World) (base gS:Nat) (aF aD aL:Addr) (p code:Int) (R:Swg) (v:Value):Prop :=
 vG w' aF aD aL p code v∧∃ S2,fP R S2∧gy w' base S2∧w'.heap[gS]?=some (.cells S2.cells 43 (0,0))∧Below base w w'
theorem lY:(Tryz.prog.info? 39).map (·.size)=some 3:=by kernel_rfl
theorem zc:(Tryz.prog.info? 37).map (·.size)=some 7:=by kernel_rfl
structure AdS (w W:World) (base gS gf:Nat) (P:Swg) (x:Pkt):Prop where
 box:W.heap[gS]?=some (.cells P.cells 43 (0,0))
 fr:W.heap[gf]?=some (.cells x.frc 47 (0,0))
 own:gy W base P
 bel:Below base w W
 le:base≤gS∧base≤gf∧base≤w.heap.size
theorem AdS.up {w W W':World} {base gS gf:Nat} {P:Swg} {x:Pkt} (h:AdS w W base gS gf P x) (hb:Below W.heap.size W W'):AdS w W' base gS gf P x :=
 ⟨(hb.block _ (fG h.box)).trans h.box,(hb.block _ (fG h.fr)).trans h.fr,h.own.up hb,h.bel.trans (hb.mono (Nat.le_trans h.le.2.2 h.bel.size)),h.le⟩
theorem AdS.put {w W W':World} {base gS gf:Nat} {P P':Swg} {x:Pkt} (h:AdS w W base gS gf P x) (hP:Put W W' gS P'.cells 43) (ho:gy W base P'):AdS w W' base gS gf P' x :=
 ⟨hP.blk,(hP.to.block _ (fG h.fr) (by simpa using gj h.fr h.box (by decide))).trans h.fr,ho.off h.box hP.to,h.bel.trans (hP.to.below (Nat.le_trans h.le.2.2 h.bel.size) (fun y hy=>by simp at hy;rw [hy];exact h.le.1)),h.le⟩
theorem Bn {w:World} {g:Nat} {P:Swg} (h:w.heap[g]?=some (.cells P.cells 43 (0,0))):∀ j,j<7→w.cell? ⟨g,0+j,none⟩=P.C.cells[j]?:=by
 intro j hj
 rw [Nat.zero_add,fF h]
 rcases j with _ | _ | _ | _ | _ | _ | _ | j
 ·
  rfl
 ·
  rfl
 ·
  rfl
 ·
  rfl
 ·
  rfl
 ·
  rfl
 ·
  rfl
 omega
theorem Bm {w:World} {g:Nat} {P:Swg} (h:w.heap[g]?=some (.cells P.cells 43 (0,0))):∀ j,j<3→w.cell? ⟨g,10+j,none⟩=P.N.cells[j]?:=by
 intro j hj
 rw [fF h]
 rcases j with _ | _ | _ | j
 ·
  rfl
 ·
  rfl
 ·
  rfl
 omega
theorem lM {w:World} {g:Nat} {x:Pkt} (h:w.heap[g]?=some (.cells x.frc 47 (0,0))):∀ j,j<5→w.cell? ⟨g,0+j,none⟩=x.frc[j]?:=by
 intro j hj
 rw [Nat.zero_add,fF h]
structure AdC (w W:World) (base gS gf:Nat) (P:Swg) (x:Pkt) (i:Nat) (ok:Bool) (g8:Nat) (M:Cnt):Prop where
 s:AdS w W base gS gf P x
 k:W.heap[g8]?=some (.cells M.cells 39 (0,0))
 own:∀ y∈ib M.aU M.nU,∀ j,j<P.nL→y∉(P.L j).iJ
 cn:gV W base M
 al:gw (jt (lr P.N i x.p x.cl) ok) M
theorem CW {p:Prop} (h:p:=by
  replace hP:Put X1 X2 gS (P.hI i x aE cE).cells 43:=hP.cast rfl
  have HN:Hid (AdS w X2 base gS gf (P.hI i x aE cE) x):=HX.out.put hP HL.out
  clear hP hT1 HX HL
  go_wp2_with fail
  go_meet
  case rel=>exact ⟨aE,cE,HN⟩):p:=h
theorem AdS.Ch {w W W':World} {base gS gf g:Nat} {P:Swg} {x:Pkt} {cs:Array Value} {t:TypeId} (h:AdS w W base gS gf P x) (hg:W.heap[g]?=some (.cells cs t (0,0))) (ht:t=39) (hto:Touch [g] W W') (hb:base≤g):AdS w W' base gS gf P x:=by
 subst ht
 have far:∀ {y:Nat} {c:Array Value} {t':TypeId},W.heap[y]?=some (.cells c t' (0,0))→t'≠39→y∉[g]:=fun k hne hy=>gj k hg hne (by simpa using hy)
 exact dH
theorem gV.Ch {W W':World} {base g:Nat} {M:Cnt} {cs:Array Value} (h:gV W base M) (hg:W.heap[g]?=some (.cells cs 39 (0,0))) (hto:Touch [g] W W'):gV W' base M :=
 ⟨h.u.fL hto (fun y hy hz=>by obtain ⟨c,k⟩:=h.u.type y hy;exact gj k hg (by decide) (by simpa using hz)),h.p.fL hto (fun y hy hz=>by obtain ⟨c,k⟩:=h.p.type y hy;exact gj k hg (by decide) (by simpa using hz))⟩
theorem Bs {p:Prop} (h:p:=by
  have hB:=(Below.refl wc.heap.size wc).alloc (Nat.le_refl _) (.cells #[.int .i64 x.p,.iface 267 (.pointer (some aD))] 151)
  have H9:=HC.out.s.up hB
  refine ⟨_,rfl,.inr ⟨wc.heap.size,aD,rfl,fK _ _,.inr (.inl ⟨HC3.out,rfl⟩)⟩,P.hI i x aE cE,?_,H9.own,H9.box,H9.bel⟩
  unfold pB
  rw [if_pos HC3.out]
  exact (fP.refl P).hI _ _ _ _ _ _):p:=h
theorem yQ (k dst src:Int) (w:World):Calls Tryz.prog 142 #[.int .i64 k,.int .i64 dst,.int .i64 src] w fun e w'=>e=.returned (.bool (iR k dst src))∧w=w':=by
 unfold iR
 by_cases h1:dst=-1
 ·
  have h1':(dst == -1)=true:=by simp [h1]
  rw [if_pos h1]
  by_cases h2:k=src
  ·
   have h2':(k == src)=true:=by simp [h2]
   exact dL
  have h2':(k == src)=false:=by simp [h2]
  exact dL
 have h1':(dst == -1)=false:=by simp [h1]
 rw [if_neg h1]
 by_cases h2:k=dst
 ·
  have h2':(k == dst)=true:=by simp [h2]
  exact dL
 have h2':(k == dst)=false:=by simp [h2]
 exact dL
structure AdL (w W:World) (base gS gp:Nat) (P:Swg) (i:Nat) (x:Pkt) (dst:Int) (P3:Swg) (k:Nat) (L:Nat→Lng):Prop where
 box:W.heap[gS]?=some (.cells P3.cells 43 (0,0))
 own:gy W base { P3 with L:=L }
 pk:W.heap[gp]?=some (.cells (P.pkt i x (kE dst i k)).cells 94 (0,0))
 al:∀ j,j<P.nL→gk (P.iO i dst x k j) (L j)
 bel:Below base w W
theorem AdL.up {w W W':World} {base gS gp:Nat} {P:Swg} {i:Nat} {x:Pkt} {dst:Int} {P3:Swg} {k:Nat} {L:Nat→Lng} (h:AdL w W base gS gp P i x dst P3 k L) (hb:Below W.heap.size W W') (hbw:base≤w.heap.size):AdL w W' base gS gp P i x dst P3 k L :=
 ⟨(hb.block _ (fG h.box)).trans h.box,h.own.up hb,(hb.block _ (fG h.pk)).trans h.pk,h.al,h.bel.trans (hb.mono (Nat.le_trans hbw h.bel.size))⟩
theorem pc {P:Swg} {i:Nat} {x:Pkt} {dst:Int} {k:Nat} (hb:iR (k:Int) dst i=false) (j:Nat):P.iO i dst x (k+1) j=P.iO i dst x k j:=by
 unfold Swg.iO
 by_cases e:j=k
 ·
  subst e
  rw [if_neg (fun h=>by rw [hb] at h;exact absurd h.2 (by decide)),if_neg (fun h=>absurd h.1 (Nat.lt_irrefl _))]
 by_cases h:j<k∧iR (j:Int) dst i=true
 ·
  rw [if_pos h,if_pos ⟨by omega,h.2⟩]
 rw [if_neg h,if_neg (fun h2=>h ⟨by omega,h2.2⟩)]
theorem AdL.skip {w W:World} {base gS gp:Nat} {P:Swg} {i:Nat} {x:Pkt} {dst:Int} {P3:Swg} {k:Nat} {L:Nat→Lng} (h:AdL w W base gS gp P i x dst P3 k L) (hb:iR (k:Int) dst i=false):AdL w W base gS gp P i x dst P3 (k+1) L:=by
 refine ⟨h.box,h.own,?_,fun j hj=>by rw [pc hb];exact h.al j hj,h.bel⟩
 have e:kE dst i (k+1)=kE dst i k:=by show kE dst i k+_=_;rw [if_neg (by rw [hb];decide),Nat.add_zero]
 rw [e]
 exact h.pk
theorem AdL.next {w W W':World} {base gS gp gL:Nat} {P:Swg} {i:Nat} {x:Pkt} {dst:Int} {P3:Swg} {k:Nat} {L:Nat→Lng} {l2:Lng} {cur:Array Value} (h:AdL w W base gS gp P i x dst P3 k L) (hb:iR (k:Int) dst i=true) (hk:k<P.nL) (e3:P3.nL=P.nL) (ek:P3.aK=P.aK) (eL:P3.aL=some ⟨gL,0,none⟩) (hbw:base≤w.heap.size) (hgp:base≤gp) (hgk:gp∉gi P.aK) (kL:W.heap[gL]?=some (.cells cur 99 (0,0)))
  (kP:W'.heap[gp]?=some (.cells (P.pkt i x (kE dst i k)).more.cells 94 (0,0))) (hA:gk ((L k).wait x.p P.nx x.cl) l2) (hn:Bv W W' base gL gp (k*8) cur (L k) l2):AdL w W' base gS gp P i x dst P3 (k+1) (fun j=>if j=k then l2 else L j):=by
 have hk3:k<({ P3 with L:=L }:Swg).nL:=by show k<P3.nL;omega
 have ho:=h.own.lane (gp:=gp) hk3 eL kL h.pk (by show gp∉gi P3.aK;rw [ek];exact hgk) hn
 obtain ⟨T,hto,hT⟩:=hn.hit
 have oi:=h.own.l.ls k hk3
 refine ⟨(hto.block _ (fG h.box) (fun hx=>?_)).trans h.box,ho,?_,fun j hj=>?_,h.bel.trans (hto.below (Nat.le_trans hbw h.bel.size) (fun y hy=>?_))⟩
 ·
  rcases hT gS hx with e | e | e | e
  ·
   exact gj h.box kL (by decide) e
  ·
   exact gj h.box h.pk (by decide) e
  ·
   obtain ⟨c2,k2⟩:=oi.type2 gS e
   exact gj h.box k2 (by decide) rfl
  obtain ⟨c2,k2⟩:=oi.ux gS e
  exact gj h.box k2 (by decide) rfl
 ·
  have e:kE dst i (k+1)=kE dst i k+1:=by show kE dst i k+_=_;rw [if_pos hb]
  rw [e]
  exact kP
 ·
  have h9:=h.al j hj
  show gk (P.iO i dst x (k+1) j) (if j=k then l2 else L j)
  by_cases e:j=k
  ·
   subst e
   rw [if_pos rfl]
   unfold Swg.iO at h9 ⊢
   rw [if_neg (fun h=>absurd h.1 (Nat.lt_irrefl _))] at h9
   rw [if_pos ⟨by omega,hb⟩]
   exact (Lng.ns h9 _ _ _).trans hA
  rw [if_neg e]
  unfold Swg.iO at h9 ⊢
  by_cases h1:j<k∧iR (j:Int) dst i=true
  ·
   rw [if_pos h1] at h9
   rw [if_pos ⟨by omega,h1.2⟩]
   exact h9
  rw [if_neg h1] at h9
  rw [if_neg (fun h2=>h1 ⟨by omega,h2.2⟩)]
  exact h9
 rcases hT y hy with e | e | e | e
 ·
  rw [e]
  have h1:P3.aL=some ⟨gL,0,none⟩:=eL
  exact (h.own.l.l.blk gL (by show gL∈gi P3.aL;rw [h1];simp [gi])).1
 ·
  rw [e];exact hgp
 ·
  exact (oi.blk y e).1
 exact (oi.Cl y e).1
theorem zQ {p:Prop} (h:p:=by
  rintro e X4 ⟨⟨v4,rfl⟩,kP4,l2,aL2,nL2⟩
  clear h4 h5 hrf
  have HN2:Hid (AdL w X4 base gS gp P i x dst P3 (k+1) (fun j=>if j=k then l2 else L j)) :=
   HL.out.next hb hlt (by rw [←HE3.out];rfl) (by rw [←HE3.out];rfl) (by rw [←HE3.out];exact HgL.out) hbw HPk.out.2.1 HPk.out.2.2 HKL.out.2.2 kP4 aL2 nL2
  clear kP4 aL2 nL2 HL HKL Hal HO3 HLe
  go_wp2_with fail
  go_roundw
  case rel=>exact ⟨k+1,_,by omega,by go_num,HN2⟩
  case measure=>simp [intOf];omega):p:=h
theorem yY:(Tryz.prog.info? 40).map (·.size)=some 1:=by kernel_rfl
theorem sP {n:Nat} {K K':Nat→Pkt} (h:∀ j,j<n→K j=K' j):o3 n K=o3 n K':=by
 induction n with
 | zero=>rfl
 | succ n ih=>rw [k6,k6,ih (fun j hj=>h j (by omega)),h n (by omega)]
theorem gy.Cz {w W:World} {base g c:Nat} {P:Swg} {K:Nat→Pkt} {xs:List Value} (h:gy w base P) (hk:OG 94 8 W base (some ⟨g,0,none⟩) (P.nK+1) c xs) (ht:Touch (gi P.aK) w W) (hx:o3 (P.nK+1) K=xs):gy W base { P with aK:=some ⟨g,0,none⟩,nK:=P.nK+1,cK:=c,K:=K }:=by
 have far:∀ {y:Nat} {cs:Array Value} {t:TypeId},w.heap[y]?=some (.cells cs t (0,0))→t≠94→y∉gi P.aK:=fun k1 hne hy=>by
  obtain ⟨c2,k2⟩:=h.k.type _ hy
  exact gj k1 k2 hne rfl
 refine ⟨h.e.fL ht (fun y hy=>?_),⟨h.n.u.fL ht (fun y hy=>?_),h.n.p.fL ht (fun y hy=>?_)⟩,by rw [←hx] at hk;exact hk,⟨h.l.l.fL ht (fun y hy=>?_),fun j hj=>(h.l.ls j hj).kO ht (fun y hy=>?_) (fun y hy=>?_) (fun y hy=>?_),h.l.nd,h.l.td⟩,h.un⟩
 ·
  obtain ⟨cs,k⟩:=h.e.type y hy
  exact far k (by decide)
 ·
  obtain ⟨cs,k⟩:=h.n.u.type y hy
  exact far k (by decide)
 ·
  obtain ⟨cs,k⟩:=h.n.p.type y hy
  exact far k (by decide)
 ·
  obtain ⟨cs,k⟩:=h.l.l.type y hy
  exact far k (by decide)
 ·
  obtain ⟨cs,k⟩:=(h.l.ls j hj).type2 y hy
  exact far k (by decide)
 ·
  obtain ⟨cs,k⟩:=(h.l.ls j hj).u.type y hy
  exact far k (by decide)
 obtain ⟨_,cs,k⟩:=(h.l.ls j hj).r.own.s.l7 y hy
 exact far k (by decide)
theorem Ck {p:Prop} (h:p:=by
  have HN:Hid (AdC w X9 base gS gf (P.hI i x aE cE) x i ok g8 M):=by
   refine ⟨HX.out.Ch HG.out.1 rfl hP9.to HG.out.2,hP9.blk,fun y hy j hj hz=>?_,HM9.out.1.Ch HG.out.1 hP9.to,HM9.out.2.2⟩
   have h1:=HM9.out.2.1 y hy
   have h2:=HLo.out j hj y hz
   omega
  have hT9:=And.intro HN.out.s.box HN.out.s.fr
  refine hK.out _ _ hT9 (fun hHeld=>?_)
  clear hK K
  try simp only [Act.put,PZ]
  refine tQ 19 9 ?_
  refine dnq ?_
  clear hP9 hT9 hHeld HX HG HM9
  go_wp2_with fail
  go_meet
  case rel=>exact ⟨g8,M,rfl,rfl,HN⟩):p:=h
theorem pN (P P':Swg) (x:Pkt) (i gS base:Nat) (code:Int) (aF aD aL:Addr) (w:World) (kb:w.heap[gS]?=some (.cells P.cells 43 (0,0))) (ho:gy w base P) (hbS:base≤gS) (hbw:base≤w.heap.size) (hok:P.Ok) (hs:P.Small) (hi:i<P.nL) (hfr:x.nr) (hv:om w base aF aD aL) (hm:nG P P' i x code) :
  Calls Tryz.prog 117 #[.pointer (some ⟨gS,0,none⟩),.int .i64 (i:Int),.agg x.frc] w fun e w'=>∃ v,e=.returned v∧xR w w' base gS aF aD aL x.p code (pB P P' i x code) v:=by
 have HO:Hid (gy w base P∧w.heap[gS]?=some (.cells P.cells 43 (0,0))):=⟨ho,kb⟩
 have HOk:Hid P.Ok:=hok
 have HSm:Hid P.Small:=hs
 have HFr:Hid x.nr:=hfr
 have HV0:Hid (om w base aF aD aL):=hv
 have HM:Hid (nG P P' i x code):=hm
 obtain ⟨W0,eW⟩:∃ W0,w.alloc (.cells x.frc 47)=W0:=⟨_,rfl⟩
 have HX:Hid (AdS w W0 base gS w.heap.size P x):=dJ
 have hnow:=hok.oy.now
 clear ho kb hok hs hfr hv hm
 obtain ⟨gf,eg⟩:∃ gf,w.heap.size=gf:=⟨_,rfl⟩
 go_enter Tryz.func117,Tryz.ntmps117
 go_wp2_with fail
 rw [eg] at HX
 have Heg:Hid (w.heap.size=gf):=eg
 clear eW eg
 go_cut [26] (fun s26 wc=>∃ aE cE,Hid (AdS w wc base gS gf (P.hI i x aE cE) x))
 case first =>
  refine oK (fun w'=>w'.heap[gS]?=some (.cells P.cells 43 (0,0))∧w'.heap[gf]?=some (.cells x.frc 47 (0,0))) 18 (by kernel_rfl) ?_
  replace HX:Hid (AdS w W0.drew base gS gf P x):=HX.out.up ((Below.refl _ _).drew)
  generalize W0.drew=V at *
  have Hcs:Hid (∀ wx:World,wx.heap[gS]?=some (.cells P.cells 43 (0,0))∧wx.heap[gf]?=some (.cells x.frc 47 (0,0))→wx.cell? ⟨gS,9,none⟩=some (.slice P.aE P.nE P.cE)∧wx.cell? ⟨gf,2,none⟩=some (.int .i64 x.s)∧wx.cell? ⟨gS,7,none⟩=some (.int .i64 P.now)):=fun wx h=>⟨fF h.1 9,fF h.2 2,fF h.1 7⟩
  have hT0:=And.intro HX.out.box HX.out.fr
  refine tG 0 13 hT0 ?_
  refine tG 1 14 hT0 ?_
  refine tG 2 15 hT0 ?_
  refine tG 3 16 hT0 ?_
  refine tGX 4 17 hT0 ?_
  refine tG 5 18 hT0 ?_
  refine tGX 6 19 hT0 ?_
  refine tG 7 20 hT0 ?_
  refine tG 8 21 hT0 ?_
  refine tG 9 22 hT0 ?_
  refine tG 10 23 hT0 ?_
  refine tGX 11 24 hT0 ?_
  refine gR (rs:=[12]) (by kernel_rfl) (by simp) ?_
  refine ga.cons rfl (fun K hK=>?_) ga.nil
  go_simp
  refine (ts P.aE P.nE P.cE P.e x.s (i:Int) P.now (P.lrL i x) true _ (by have:=HSm.out.e;unfold maxLen;omega) HX.out.own.g.e.g.Ca (by have:=nc HFr.out;omega) (by have:=nc HFr.out;omega) ⟨fun _ _=>⟨rfl,rfl⟩,fun h=>absurd ⟨HOk.out.seen.1,HOk.out.lrn hi HFr.out⟩ h⟩).mono ?_
  rintro e X1 ⟨v,rfl,oA,hb1⟩
  obtain ⟨aE,cE,rfl,og⟩:=oA.ogW
  have hle1:base≤V.heap.size:=Nat.le_trans hbw HX.out.bel.size
  have HL:Hid (gy X1 base (P.hI i x aE cE)):=(HX.out.own.up hb1).hI (og.mono hle1)
  replace HX:Hid (AdS w X1 base gS gf P x):=HX.out.up hb1
  have hT1:=And.intro HX.out.box HX.out.fr
  clear oA og hb1 hT0 hle1
  go_wp2_with fail
  refine hK.out _ _ hT1 ?_
  clear hK K
  try simp only [Act.put,PZ]
  refine tG 13 12 hT1 ?_
  refine tG 14 26 hT1 ?_
  refine gR (rs:=[15,16]) (by kernel_rfl) (by simp) ?_
  refine ga.cons rfl (fun K hK=>?_) (ga.cons rfl (fun K hK=>?_) ga.nil)
  ·
   go_simp
   refine hK.out _ _ hT1 ?_
   clear hK K
   try simp only [Act.put,PZ]
   refine gR (rs:=[16]) (by kernel_rfl) (by simp) ?_
   refine ga.cons rfl (fun K hK=>?_) ga.nil
   go_simp
   refine hK.out _ _ hT1 ?_
   clear hK K
   try simp only [Act.put,PZ]
   refine tG 17 29 hT1 ?_
   exact dI
  go_simp
  refine hK.out _ _ hT1 ?_
  clear hK K
  try simp only [Act.put,PZ]
  refine tG 17 29 hT1 ?_
  refine gR (rs:=[15,18]) (by kernel_rfl) (by simp) ?_
  refine ga.cons rfl (fun K hK=>?_) (ga.last rfl (fun K hK=>?_))
  ·
   go_simp
   refine hK.out _ _ hT1 ?_
   clear hK K
   try simp only [Act.put,PZ]
   exact dI
  refine iz (by kernel_rfl) none rfl 38 (.tmp 29) (.tmp 26) rfl gS 9 rfl (.slice aE (P.lrL i x).length cE) rfl 1 rfl 43 _ hT1.1 qi (Nat.le_of_ble_eq_true rfl) (by simp [Value.cells,Value.oneCell']) ?_
  intro X2 hP
  refine hK.out _ _ ?_
  clear hK K
  try simp only [Act.put,PZ]
  refine gR (rs:=[15]) (by kernel_rfl) (by simp) ?_
  refine ga.late rfl (by kernel_rfl) (fun K hK=>?_)
  go_simp
  exact dR
 clear HX HO
 obtain ⟨aE,cE,HX⟩:=hcut
 go_wp2_with fail
 refine wp_region_held_drew (S:=fun w'=>w'.heap[gS]?=some (.cells (P.hI i x aE cE).cells 43 (0,0))∧w'.heap[gf]?=some (.cells x.frc 47 (0,0))) (by kernel_rfl) (by have h9:=HX.out.up ((Below.refl _ _).drew);exact ⟨h9.box,h9.fr⟩) (fun hHeld=>?_)
 replace HX:Hid (AdS w wc.drew base gS gf (P.hI i x aE cE) x):=HX.out.up ((Below.refl _ _).drew)
 generalize wc.drew=V at *
 have Hcs:Hid (∀ wx:World,wx.heap[gS]?=some (.cells (P.hI i x aE cE).cells 43 (0,0))∧wx.heap[gf]?=some (.cells x.frc 47 (0,0))→wx.cell? ⟨gS,9,none⟩=some (.slice aE (P.lrL i x).length cE)∧wx.cell? ⟨gf,1,none⟩=some (.int .i64 x.d)∧wx.cell? ⟨gS,7,none⟩=some (.int .i64 P.now)):=fun wx h=>⟨fF h.1 9,fF h.2 1,fF h.1 7⟩
 refine tQ 0 30 ?_
 refine tQ 1 31 ?_
 refine tQ 2 32 ?_
 refine tXq 3 33 ?_
 refine tQ 4 34 ?_
 refine tXq 5 35 ?_
 refine tQ 6 36 ?_
 refine tQ 7 37 ?_
 refine tQ 8 38 ?_
 refine tXq 9 39 ?_
 refine rq1 10 (fun K hK=>?_)
 go_simp
 refine (vf aE (P.lrL i x).length cE (fun j=>(P.lrL i x).getD j default) x.d P.now (P.toP i x) _ (by have:=(HOk.out.AA hi HFr.out).1;unfold maxLen;omega) HX.out.own.g.e.g.Ca (by have:=nc HFr.out;omega) (by have:=nc HFr.out;omega) (HOk.out.toR hi HFr.out)).mono ?_
 rintro e X2 ⟨rfl,hb2⟩
 replace HX:Hid (AdS w X2 base gS gf (P.hI i x aE cE) x):=HX.out.up hb2
 have hT2:=And.intro HX.out.box HX.out.fr
 clear hb2
 go_wp2_with fail
 refine hK.out _ _ hT2 (fun hHeld=>?_)
 clear hK K
 try simp only [Act.put,PZ]
 refine tQ 11 7 ?_
 refine dnq ?_
 clear hT2 hHeld Hcs
 obtain ⟨dst,ed⟩:∃ dst,P.toP i x=dst:=⟨_,rfl⟩
 have HD:Hid (P.toP i x=dst):=ed
 rw [ed]
 clear ed
 have c2:X2.cell? ⟨2,0,none⟩=some (.iface 267 (.pointer (some aL))):=(HV0.out.up HX.out.bel).l
 have c3:X2.cell? ⟨gf,3,none⟩=some (.int .i64 x.p):=fF HX.out.fr 3
 by_cases hto:dst=(i:Int)
 ·
  have hto':(dst == (i:Int))=true:=by simp [hto]
  have HC:Hid (code=4∧P'=P.hI i x none 0):=by
   rcases HM.out with ⟨h1,h2,h3⟩ | ⟨h1,_⟩ | ⟨h1,_⟩
   ·
    exact ⟨h3,h2⟩
   ·
    exact absurd (HD.out.trans hto) h1
   exact absurd (HD.out.trans hto) h1
  clear hto
  go_wp2_with fail
  go_ret
  have hB:=(Below.refl X2.heap.size X2).alloc (Nat.le_refl _) (.cells #[.int .i64 x.p,.iface 267 (.pointer (some aL))] 151)
  have H9:=HX.out.up hB
  refine ⟨_,rfl,.inr ⟨X2.heap.size,aL,rfl,fK _ _,.inr (.inr ⟨HC.out.1,rfl⟩)⟩,P.hI i x aE cE,?_,H9.own,H9.box,H9.bel⟩
  unfold pB
  rw [if_neg (by rw [HC.out.1];decide),HC.out.2]
  exact (fP.refl P).hI _ _ _ _ _ _
 have hto':(dst == (i:Int))=false:=by simp [hto]
 have HT:Hid (dst≠(i:Int)):=hto
 clear hto
 go_wp2_with fail
 clear c2 c3 hto'
 obtain ⟨ok,hok⟩:=mx (Cnt.Ok P.C (lr P.N i x.p x.cl))
 have HOA:Hid (ok=true↔ry P.C P.N i x.p x.cl∧Cnt.Ok P.C (lr P.N i x.p x.cl)):=by
  have hf:ry P.C P.N i x.p x.cl:=⟨HOk.out.n,⟨by omega,by have:=HOk.out.nl;omega⟩,HFr.out.pr,HFr.out.cl⟩
  rw [Hid,hok]
  exact ⟨fun h=>⟨hf,h⟩,fun h=>h.2⟩
 have HOB:Hid (ok=true↔Cnt.Ok P.C (lr P.N i x.p x.cl)):=hok
 clear hok
 go_cut [8,9] (fun s8 s9 wc=>∃ g8 M,s8=.pointer (some ⟨g8,0,none⟩)∧s9=.bool ok∧Hid (AdC w wc base gS gf (P.hI i x aE cE) x i ok g8 M))
 case first =>
  refine wp_region_held_drew (S:=fun w'=>w'.heap[gS]?=some (.cells (P.hI i x aE cE).cells 43 (0,0))∧w'.heap[gf]?=some (.cells x.frc 47 (0,0))) (by kernel_rfl) (by have h9:=HX.out.up ((Below.refl _ _).drew);exact ⟨h9.box,h9.fr⟩) (fun hHeld=>?_)
  replace HX:Hid (AdS w X2.drew base gS gf (P.hI i x aE cE) x):=HX.out.up ((Below.refl _ _).drew)
  generalize X2.drew=V5 at *
  have HLo:Hid (∀ j,j<P.nL→∀ y∈(P.L j).iJ,y<V5.heap.size):=fun j hj y hy=>((HX.out.own.l.ls j hj).blk y hy).2
  have hle5:base≤V5.heap.size:=Nat.le_trans hbw HX.out.bel.size
  have Hcs:Hid (∀ wx:World,wx.heap[gS]?=some (.cells (P.hI i x aE cE).cells 43 (0,0))∧wx.heap[gf]?=some (.cells x.frc 47 (0,0))→wx.cell? ⟨gf,3,none⟩=some (.int .i64 x.p)):=fun wx h=>fF h.2 3
  refine tQ 0 51 ?_
  refine tQ 1 52 ?_
  refine tQ 2 53 ?_
  refine tC 3 54 (v:=.agg P.C.cells) (fun wx hSw=>gO 37 7 _ Tryz.underlying37 rfl zc (.tmp 53) rfl gS 0 rfl P.C.cells rfl (Bn (P:=P.hI i x aE cE) hSw.1)) ?_
  try simp only [Act.put,PZ]
  refine tQ 4 55 ?_
  refine tQ 5 56 ?_
  refine tQ 6 57 ?_
  refine tC 7 58 (v:=.agg P.N.cells) (fun wx hSw=>gO 39 3 _ Tryz.underlying39 rfl lY (.tmp 57) rfl gS 10 rfl P.N.cells rfl (Bm (P:=P.hI i x aE cE) hSw.1)) ?_
  try simp only [Act.put,PZ]
  refine tQ 8 59 ?_
  refine tQ 9 60 ?_
  refine tXq 10 61 ?_
  refine tC 11 62 (v:=.agg x.frc) (fun wx hSw=>gO 47 5 _ Tryz.underlying47 rfl ix (.tmp 5) rfl gf 0 rfl x.frc rfl (lM hSw.2)) ?_
  try simp only [Act.put,PZ]
  refine rq2 12 17 (fun K hK=>?_) (fun K hK=>?_)
  ·
   go_simp
   unfold Pkt.frc
   refine (jl x.k x.d x.s x.p x.b _ (by have:=HFr.out.le;unfold maxLen;omega)).mono ?_
   rintro e XC ⟨rfl,hbC⟩
   rw [Cg HFr.out]
   replace HX:Hid (AdS w XC base gS gf (P.hI i x aE cE) x):=HX.out.up hbC
   have hzC:=hbC.size
   have hTC:=And.intro HX.out.box HX.out.fr
   clear hbC
   go_wp2_with fail
   refine hK.out _ _ hTC (fun hHeld=>?_)
   clear hK K
   try simp only [Act.put,PZ]
   refine rq2 13 17 (fun K hK=>?_) (fun K hK=>?_)
   ·
    go_simp
    refine (na P.C P.N (i:Int) x.p x.cl _ HSm.out.n.fit HX.out.own.n.rd ok HOA.out).mono ?_
    rintro e XM ⟨M,rfl,oM,hbM,aM⟩
    replace HX:Hid (AdS w XM base gS gf (P.hI i x aE cE) x):=HX.out.up hbM
    have hTM:=And.intro HX.out.box HX.out.fr
    have HM9:Hid (gV XM base M∧(∀ y∈ib M.aU M.nU,V5.heap.size≤y)∧gw (jt (lr P.N i x.p x.cl) ok) M):=⟨oM.mono (by omega),fun y hy=>by have:=(oM.u.blk y hy).1;omega,aM⟩
    clear oM aM hTC
    go_wp2_with fail
    refine hK.out _ _ hTM (fun hHeld=>?_)
    clear hK K
    try simp only [Act.put,PZ]
    refine tQ 14 50 ?_
    refine tQ 15 65 ?_
    refine tQ 16 66 ?_
    refine rq1 17 (fun K hK=>?_)
    go_simp
    have hbA:=(Below.refl XM.heap.size XM).alloc (Nat.le_refl _) (.cells #[.slice none 0 0,.int .i64 0,.slice none 0 0] 39)
    have hzM:=hbM.size
    have HG:Hid ((XM.alloc (.cells #[.slice none 0 0,.int .i64 0,.slice none 0 0] 39)).heap[XM.heap.size]?=some (.cells #[.slice none 0 0,.int .i64 0,.slice none 0 0] 39 (0,0))∧base≤XM.heap.size):=⟨fK _ _,by omega⟩
    replace HX:Hid (AdS w (XM.alloc (.cells #[.slice none 0 0,.int .i64 0,.slice none 0 0] 39)) base gS gf (P.hI i x aE cE) x):=HX.out.up hbA
    replace HM9:Hid (gV (XM.alloc (.cells #[.slice none 0 0,.int .i64 0,.slice none 0 0] 39)) base M∧(∀ y∈ib M.aU M.nU,V5.heap.size≤y)∧gw (jt (lr P.N i x.p x.cl) ok) M):=⟨HM9.out.1.up hbA,HM9.out.2⟩
    have hTA:=And.intro HX.out.box HX.out.fr
    clear hbA hTM hbM hzM
    refine hK.out _ _ hTA (fun hHeld=>?_)
    clear hK K
    try simp only [Act.put,PZ]
    generalize XM.heap.size=g8 at *
    generalize XM.alloc (.cells #[.slice none 0 0,.int .i64 0,.slice none 0 0] 39)=XA at *
    exact dQ
   go_simp
   have hbA:=(Below.refl XC.heap.size XC).alloc (Nat.le_refl _) (.cells #[.slice none 0 0,.int .i64 0,.slice none 0 0] 39)
   have HG:Hid ((XC.alloc (.cells #[.slice none 0 0,.int .i64 0,.slice none 0 0] 39)).heap[XC.heap.size]?=some (.cells #[.slice none 0 0,.int .i64 0,.slice none 0 0] 39 (0,0))∧base≤XC.heap.size):=⟨fK _ _,by omega⟩
   replace HX:Hid (AdS w (XC.alloc (.cells #[.slice none 0 0,.int .i64 0,.slice none 0 0] 39)) base gS gf (P.hI i x aE cE) x):=HX.out.up hbA
   have hzA:=hbA.size
   have hTA:=And.intro HX.out.box HX.out.fr
   clear hbA
   refine hK.out _ _ hTA (fun hHeld=>?_)
   clear hK K
   try simp only [Act.put,PZ]
   generalize XC.heap.size=g8 at *
   generalize XC.alloc (.cells #[.slice none 0 0,.int .i64 0,.slice none 0 0] 39)=XA at *
   exact dG
  go_simp
  have hbA:=(Below.refl V5.heap.size V5).alloc (Nat.le_refl _) (.cells #[.slice none 0 0,.int .i64 0,.slice none 0 0] 39)
  obtain ⟨XA,eXA⟩:∃ XA,V5.alloc (.cells #[.slice none 0 0,.int .i64 0,.slice none 0 0] 39)=XA:=⟨_,rfl⟩
  obtain ⟨g8,eg8⟩:∃ g8,V5.heap.size=g8:=⟨_,rfl⟩
  have HG:Hid (XA.heap[g8]?=some (.cells #[.slice none 0 0,.int .i64 0,.slice none 0 0] 39 (0,0))∧base≤g8):=by rw [←eXA,←eg8];exact ⟨fK _ _,hle5⟩
  rw [eXA] at hbA ⊢
  replace HX:Hid (AdS w XA base gS gf (P.hI i x aE cE) x):=HX.out.up hbA
  have hzA:=hbA.size
  have hTA:=And.intro HX.out.box HX.out.fr
  have hge:g8≤XA.heap.size:=by omega
  clear hbA eXA
  rw [eg8]
  refine hK.out _ _ hTA (fun hHeld=>?_)
  clear hK K
  try simp only [Act.put,PZ]
  refine rq1 12 (fun K hK=>?_)
  go_simp
  unfold Pkt.frc
  refine (jl x.k x.d x.s x.p x.b _ (by have:=HFr.out.le;unfold maxLen;omega)).mono ?_
  rintro e XC ⟨rfl,hbC⟩
  rw [Cg HFr.out]
  replace HX:Hid (AdS w XC base gS gf (P.hI i x aE cE) x):=HX.out.up hbC
  have hzC:=hbC.size
  have hTC:=And.intro HX.out.box HX.out.fr
  replace HG:Hid (XC.heap[g8]?=some (.cells #[.slice none 0 0,.int .i64 0,.slice none 0 0] 39 (0,0))∧base≤g8):=⟨(hbC.block _ (fG HG.out.1)).trans HG.out.1,HG.out.2⟩
  clear hbC
  go_wp2_with fail
  refine hK.out _ _ hTC (fun hHeld=>?_)
  clear hK K
  try simp only [Act.put,PZ]
  exact dG
 clear HX
 obtain ⟨g8,M,rfl,rfl,HC⟩:=hcut
 have c8:wc.cell? ⟨gS,8,none⟩=some (.int .i64 P.nx):=fF HC.out.s.box 8
 have c1:wc.cell? ⟨1,0,none⟩=some (.iface 267 (.pointer (some aD))):=(HV0.out.up HC.out.s.bel).d
 have c3:wc.cell? ⟨gf,3,none⟩=some (.int .i64 x.p):=fF HC.out.s.fr 3
 by_cases hdrop:ok=true∧P.nx≠1000000000
 rotate_left
 ·
  have HC3:Hid (code=3):=by
   rcases HM.out with ⟨h1,_⟩ | ⟨_,_,_,h4⟩ | ⟨_,h2,h3,_⟩
   ·
    exact absurd (HD.out.symm.trans h1) HT.out
   ·
    exact h4
   exact absurd ⟨HOB.out.2 h2,h3⟩ hdrop
  cases ok
  ·
   go_wp2_with fail
   go_ret
   exact Bs
  have hnx:P.nx=1000000000:=by
   by_cases h:P.nx=1000000000
   ·
    exact h
   exact absurd ⟨rfl,h⟩ hdrop
  have hnx':(P.nx == 1000000000)=true:=by simp [hnx]
  clear hnx hdrop
  go_wp2_with fail
  go_ret
  exact Bs
 obtain ⟨rfl,hnx⟩:=hdrop
 have HN:Hid (code=0∧P'=(P.hI i x none 0).waits i x dst):=by
  rcases HM.out with ⟨h1,_⟩ | ⟨_,h2,_⟩ | ⟨_,_,_,h4,h5⟩
  ·
   exact absurd (HD.out.symm.trans h1) HT.out
  ·
   exact absurd ⟨HOB.out.1 rfl,hnx⟩ h2
  exact ⟨h5,by rw [h4,HD.out]⟩
 have hnx':(P.nx == 1000000000)=false:=by simp [hnx]
 have hnx1:=HOk.out.oy.nx
 have hw8:IntKind.i64.wrap (P.nx+1)=P.nx+1:=j0 _ (by omega) (by omega)
 have HLd:Hid (∀ j,j<3→wc.cell? ⟨g8,0+j,none⟩=M.cells[j]?):=fun j _=>by rw [Nat.zero_add];exact fF HC.out.k j
 have HBx:Hid (wc.heap[gS]?=some (.cells (P.hI i x aE cE).cells 43 (0,0))):=HC.out.s.box
 clear c1 c3
 go_wp2_with (first | refine fM rfl 39 3 _ Tryz.underlying39 rfl lY (.tmp 8) rfl g8 0 rfl M.cells rfl HLd.out ?_ | refine fJ rfl 39 (.tmp 85) (.tmp 83) rfl gS 10 rfl (.agg M.cells) rfl 3 rfl 43 _ HBx.out lY (Nat.le_of_ble_eq_true rfl) (by simp [Value.cells,Value.oneCell',Cnt.cells]) ?_)
 intro X0 hP
 clear c8 HLd HBx hnx'
 obtain ⟨P2,eP2⟩:∃ P2,({ P.hI i x aE cE with N:=M }:Swg)=P2:=⟨_,rfl⟩
 replace hP:Put wc X0 gS P2.cells 43:=hP.cast (by rw [←eP2];rfl)
 have HX2:Hid (AdS w X0 base gS gf P2 x):=by
  refine HC.out.s.put hP ?_
  rw [←eP2]
  exact ⟨HC.out.s.own.e,HC.out.cn,HC.out.s.own.k,HC.out.s.own.l,fun y hy hz=>by
   simp only [List.mem_flatMap,List.mem_range] at hz
   obtain ⟨j,hj,hz⟩:=hz
   exact HC.out.own y hy j hj hz⟩
 have HAM:Hid (gw (lr P.N i x.p x.cl) M):=HC.out.al
 have HE2:Hid (({ P.hI i x aE cE with N:=M }:Swg)=P2):=eP2
 have HC8:Hid (P2.cells[8]?=some (.int .i64 P.nx)):=by rw [←eP2];rfl
 clear hP HC eP2
 go_wp2_with fail
 refine wp_region_held_drew (S:=fun w'=>w'.heap[gS]?=some (.cells P2.cells 43 (0,0))∧w'.heap[gf]?=some (.cells x.frc 47 (0,0))) (by kernel_rfl) (by have h9:=HX2.out.up ((Below.refl _ _).drew);exact ⟨h9.box,h9.fr⟩) (fun hHeld=>?_)
 replace HX2:Hid (AdS w X0.drew base gS gf P2 x):=HX2.out.up ((Below.refl _ _).drew)
 generalize X0.drew=V9 at *
 have Hcs:Hid (∀ wx:World,wx.heap[gS]?=some (.cells P2.cells 43 (0,0))∧wx.heap[gf]?=some (.cells x.frc 47 (0,0))→wx.cell? ⟨gS,8,none⟩=some (.int .i64 P.nx)):=fun wx h=>(fF h.1 8).trans HC8.out
 refine tQ 0 86 ?_
 refine tQ 1 87 ?_
 refine tQ 2 88 ?_
 refine tXq 3 89 ?_
 refine tQ 4 90 ?_
 refine tC 5 91 (v:=.agg x.frc) (fun wx hSw=>gO 47 5 _ Tryz.underlying47 rfl ix (.tmp 5) rfl gf 0 rfl x.frc rfl (lM hSw.2)) ?_
 try simp only [Act.put,PZ]
 unfold Pkt.frc
 refine tQ 6 92 ?_
 refine rq1 7 (fun K hK=>?_)
 go_simp
 have hbA:=(Below.refl V9.heap.size V9).alloc (Nat.le_refl _) (.cells #[.int .i64 P.nx,.int .i64 (i:Int),.int .i64 0,.int .i64 x.k,.int .i64 x.d,.int .i64 x.s,.int .i64 x.p,.string x.b] 94)
 obtain ⟨X1,eX1⟩:∃ X1,V9.alloc (.cells #[.int .i64 P.nx,.int .i64 (i:Int),.int .i64 0,.int .i64 x.k,.int .i64 x.d,.int .i64 x.s,.int .i64 x.p,.string x.b] 94)=X1:=⟨_,rfl⟩
 obtain ⟨gp,egp⟩:∃ gp,V9.heap.size=gp:=⟨_,rfl⟩
 have HPk:Hid (X1.heap[gp]?=some (.cells (P.pkt i x 0).cells 94 (0,0))∧base≤gp∧gp∉gi P.aK):=by
  refine ⟨by rw [←eX1,←egp];exact fK _ _,by rw [←egp];exact Nat.le_trans hbw HX2.out.bel.size,fun hz=>?_⟩
  have h1:=(HX2.out.own.k.blk gp (by rw [←HE2.out];exact hz)).2
  omega
 rw [eX1] at hbA ⊢
 rw [egp]
 replace HX2:Hid (AdS w X1 base gS gf P2 x):=HX2.out.up hbA
 have hTA:=And.intro HX2.out.box HX2.out.fr
 clear hbA eX1 egp
 refine hK.out _ _ hTA (fun hHeld=>?_)
 clear hK K
 try simp only [Act.put,PZ]
 refine tQ 8 10 ?_
 refine dnq ?_
 clear hTA hHeld Hcs
 have c8:X1.cell? ⟨gS,8,none⟩=some (.int .i64 P.nx):=(fF HX2.out.box 8).trans HC8.out
 have HBx:Hid (X1.heap[gS]?=some (.cells P2.cells 43 (0,0))):=HX2.out.box
 go_wp2_with (refine fJ rfl 2 (.tmp 100) (.tmp 98) rfl gS 8 rfl (.int .i64 (P.nx+1)) rfl 1 rfl 43 _ HBx.out iP (Nat.le_of_ble_eq_true rfl) (by simp [Value.cells,Value.oneCell']) ?_)
 intro X3 hP
 obtain ⟨P3,eP3⟩:∃ P3,({ P.hI i x aE cE with N:=M,nx:=P.nx+1 }:Swg)=P3:=⟨_,rfl⟩
 replace hP:Put X1 X3 gS P3.cells 43:=hP.cast (by rw [←eP3,←HE2.out];rfl)
 have hgpS:gp≠gS:=gj HPk.out.1 HBx.out (by decide)
 have HL0:Hid (AdL w X3 base gS gp P i x dst P3 0 P.L):=by
  have h9:gy X1 base P3:=by
   have h8:=HX2.out.own
   rw [←HE2.out] at h8
   rw [←eP3]
   exact ⟨h8.e,h8.n,h8.k,h8.l,h8.un⟩
  have h7:=HX2.out.put hP h9
  refine ⟨h7.box,?_,(hP.to.block gp (fG HPk.out.1) (by simpa using hgpS)).trans HPk.out.1,fun j hj=>?_,h7.bel⟩
  ·
   have h6:=h7.own
   rw [←eP3] at h6 ⊢
   exact h6
  unfold Swg.iO
  rw [if_neg (fun h=>absurd h.1 (Nat.not_lt_zero _))]
  exact gk.refl _
 have HE3:Hid (({ P.hI i x aE cE with N:=M,nx:=P.nx+1 }:Swg)=P3):=eP3
 have HC14:Hid (P3.cells[14]?=some (.slice P.aL P.nL P.cL)∧P3.cells[13]?=some (.slice P.aK P.nK P.cK)):=by rw [←eP3];exact ⟨rfl,rfl⟩
 have hnL:0<P.nL:=by omega
 have hnL2:=HSm.out.l
 obtain ⟨gL,hgL⟩:∃ gL,P.aL=some ⟨gL,0,none⟩:=by
  have h9:=HL0.out.own
  rw [←HE3.out] at h9
  obtain ⟨gL,_,e,_⟩:=h9.l.at hnL
  exact ⟨gL,e⟩
 have HgL:Hid (P.aL=some ⟨gL,0,none⟩):=hgL
 clear hP c8 HBx HX2 HC8 HE2 eP3 hgpS hnx1 hw8
 have c14:X3.cell? ⟨gS,14,none⟩=some (.slice (some ⟨gL,0,none⟩) P.nL P.cL):=by rw [←hgL];exact (fF HL0.out.box 14).trans HC14.out.1
 clear hgL
 go_wp2_with fail
 clear c14
 go_loopw [106] (fun s wr=>∃ (k:Nat) (L:Nat→Lng),k≤P.nL∧s=.int .i64 k∧Hid (AdL w wr base gS gp P i x dst P3 k L)) (fun s _=>P.nL-(intOf s).toNat)
 case atStart=>exact ⟨0,P.L,Nat.zero_le _,rfl,HL0⟩
 clear HL0
 obtain ⟨k,L,hk,rfl,HL⟩:=hrel
 by_cases hlt:k<P.nL
 ·
  have hlt':(k:Int)<P.nL:=by omega
  go_wp2_with fail
  refine (yQ (k:Int) dst (i:Int) _).mono ?_
  rintro e w' ⟨rfl,rfl⟩
  cases hb:iR (k:Int) dst (i:Int)
  ·
   have HN2:Hid (AdL w wr base gS gp P i x dst P3 (k+1) L):=HL.out.skip hb
   go_wp2_with fail
   go_roundw
   case rel=>exact ⟨k+1,L,by omega,by go_num,HN2⟩
   case measure=>simp [intOf];omega
  have c14:wr.cell? ⟨gS,14,none⟩=some (.slice (some ⟨gL,0,none⟩) P.nL P.cL):=by rw [←HgL.out];exact (fF HL.out.box 14).trans HC14.out.1
  have HO3:Hid (iV wr base (some ⟨gL,0,none⟩) P.nL P.cL L):=by
   have h9:=HL.out.own
   rw [←HE3.out] at h9
   have h8:iV wr base P.aL P.nL P.cL L:=h9.l
   rw [HgL.out] at h8
   exact h8
  obtain ⟨gL',cur,eg,hgb,kL,zL,lL,_⟩:=HO3.out.at hnL
  cases eg
  have HKL:Hid (wr.heap[gL]?=some (.cells (lay cur (k*8) (L k).cells) 99 (0,0))∧k*8+8≤cur.size∧wr.heap[gL]?=some (.cells cur 99 (0,0))):=⟨by rw [lL k hlt];exact kL,by omega,kL⟩
  have Hal:Hid (L k=L k∧gk (P.L k) (L k)):=⟨rfl,by
   have h9:=HL.out.al k hlt
   unfold Swg.iO at h9
   rw [if_neg (fun h=>absurd h.1 (Nat.lt_irrefl _))] at h9
   exact h9⟩
  have HLe:Hid (base≤wr.heap.size):=Nat.le_trans hbw HL.out.bel.size
  clear kL zL lL hgb
  go_wp2_with fail
  clear c14
  have hrf:=vn dst (i:Int) k
  have h4:=HOk.out.n.c.num.p
  have h5:=HOk.out.nl
  by_cases hp2:x.p=2
  ·
   have HP2:Hid (x.p=2):=hp2
   clear hp2
   refine (qs (L k) (P.pkt i x (kE dst i k)) gL (k*8) gp base cur _ HKL.out.2.1 HKL.out.1 HL.out.pk HP2.out ⟨by show (0:Int)≤((kE dst i k:Nat):Int);omega,by show ((kE dst i k:Nat):Int)≤1000;omega⟩ (HO3.out.ls k hlt) HLe.out (by rw [Hal.out.2.nT];have:=(HOk.out.l k hlt).t.le HOk.out.k;have:=HOk.out.k.le;omega)).mono ?_
   exact zQ
  have hpr:=HFr.out.pr
  obtain ⟨c,hc⟩:∃ c:Nat,x.p=(c:Int):=⟨x.p.toNat,by omega⟩
  obtain ⟨hc2,hwp,hul⟩:=HOk.out.room hlt HFr.out hc hp2
  have hA:=Hal.out.2
  have HCc:Hid (x.p=(c:Int)∧x.p≠2):=⟨hc,hp2⟩
  clear hc hp2
  refine (sj (L k) (P.pkt i x (kE dst i k)) gL (k*8) gp base c cur _ HKL.out.2.1 HKL.out.1 HL.out.pk HCc.out.1 HCc.out.2 (by rw [hA.nU,(HOk.out.l k hlt).u];exact hc2) (by rw [hA.nU,(HOk.out.l k hlt).u];omega) ⟨by show (0:Int)≤((kE dst i k:Nat):Int);omega,by show ((kE dst i k:Nat):Int)≤1000;omega⟩ HFr.out (HO3.out.ls k hlt) HLe.out (by rw [hA.l];omega) (hA.small (HSm.out.ls k hlt)).r ⟨hA.r.ok1 hwp.1,by rw [hA.r.nQ];exact hwp.2.1,hwp.2.2.1,by rw [hA.r.l];exact hwp.2.2.2⟩).mono ?_
  exact zQ
 obtain rfl:k=P.nL:=by omega
 have hlt':¬ (P.nL:Int)<P.nL:=by omega
 go_wp2_with fail
 refine ia (fun w'=>w'.heap[gS]?=some (.cells P3.cells 43 (0,0))∧w'.heap[gp]?=some (.cells (P.pkt i x (kE dst i P.nL)).cells 94 (0,0))) 12 (by kernel_rfl) ?_
 replace HL:Hid (AdL w wr.drew base gS gp P i x dst P3 P.nL L):=HL.out.up ((Below.refl _ _).drew) hbw
 generalize wr.drew=V at *
 obtain ⟨y,ey⟩:∃ y,P.pkt i x (kE dst i P.nL)=y:=⟨_,rfl⟩
 rw [ey]
 have HPY:Hid (V.heap[gp]?=some (.cells y.cells 94 (0,0))):=by rw [←ey];exact HL.out.pk
 have HY:Hid (P.pkt i x (kE dst i P.nL)=y):=ey
 have Hcs:Hid (∀ wx:World,wx.heap[gS]?=some (.cells P3.cells 43 (0,0))∧wx.heap[gp]?=some (.cells y.cells 94 (0,0))→wx.cell? ⟨gS,13,none⟩=some (.slice P.aK P.nK P.cK)):=fun wx h=>(fF h.1 13).trans HC14.out.2
 have hT0:=And.intro HL.out.box HPY.out
 clear ey
 refine tE 0 122 hT0 ?_
 refine tE 1 123 hT0 ?_
 refine tE 2 124 hT0 ?_
 refine tE 3 125 hT0 ?_
 refine tEX 4 126 hT0 ?_
 refine tE 5 127 hT0 ?_
 refine tE 6 128 hT0 ?_
 refine j3 (i:=7) (some 129) (v:=.agg y.cells) (fun wx hSw=>gO 94 8 _ Tryz.underlying94 rfl j6 (.tmp 128) rfl gp 0 rfl y.cells rfl (fun j hj=>by rw [Nat.zero_add];exact fF hSw.2 j)) hT0 ?_
 try simp only [Act.put,PZ]
 have HOK:Hid (OG 94 8 V base P.aK P.nK P.cK (o3 P.nK P.K)):=by
  have h9:=HL.out.own
  rw [←HE3.out] at h9
  exact h9.k
 obtain ⟨g1,c1,Y2,hr,hu,ht,hg⟩:=lH 40 94 _ 8 72 po Tryz.underlying40 rfl (by decide) (by decide) HOK.out (HSm.out.k) (Nat.le_trans hbw HL.out.bel.size) y.cells rfl (Pkt.mi y)
 have LN:y.cells=#[.int .i64 y.id,.int .i64 y.inn,.int .i64 y.refs,.int .i64 y.k,.int .i64 y.d,.int .i64 y.s,.int .i64 y.p,.string y.b]:=rfl
 rw [LN] at hr
 have hT1:(V.alloc (.cells #[.int .i64 y.id,.int .i64 y.inn,.int .i64 y.refs,.int .i64 y.k,.int .i64 y.d,.int .i64 y.s,.int .i64 y.p,.string y.b] 94)).heap[gS]?=some (.cells P3.cells 43 (0,0))∧(V.alloc (.cells #[.int .i64 y.id,.int .i64 y.inn,.int .i64 y.refs,.int .i64 y.k,.int .i64 y.d,.int .i64 y.s,.int .i64 y.p,.string y.b] 94)).heap[gp]?=some (.cells y.cells 94 (0,0)):=⟨(fY _ (fG hT0.1)).trans hT0.1,(fY _ (fG hT0.2)).trans hT0.2⟩
 have hT2:Y2.heap[gS]?=some (.cells P3.cells 43 (0,0))∧Y2.heap[gp]?=some (.cells y.cells 94 (0,0)):=⟨(ht.block gS (fG hT0.1) (HOK.out.k8 (by decide) hT0.1)).trans hT0.1,(ht.block gp (fG hT0.2) HPk.out.2.2).trans hT0.2⟩
 have HA:Hid (OG 94 8 Y2 base (some ⟨g1,0,none⟩) (P.nK+1) c1 (o3 P.nK P.K++y.cells.toList)∧Touch (gi P.aK) V Y2):=⟨hu,ht⟩
 have HR1:Hid ((Builtin.append_ #[40,40] 40 #[.slice P.aK P.nK P.cK,.slice (some ⟨V.heap.size,0,none⟩) 1 1]).run Tryz.prog (V.alloc (.cells #[.int .i64 y.id,.int .i64 y.inn,.int .i64 y.refs,.int .i64 y.k,.int .i64 y.d,.int .i64 y.s,.int .i64 y.p,.string y.b] 94))=.ok (.slice (some ⟨g1,0,none⟩) (P.nK+1) c1) Y2):=hr
 clear hu ht hg hr
 rw [LN]
 clear LN
 refine fI (rs:=[8]) (by kernel_rfl) (by simp) ?_
 refine fH.cons rfl (fun K hK=>?_) fH.nil
 go_simp
 refine hK.out _ _ hT1 ?_
 clear hK K
 try simp only [Act.put,PZ]
 clear hT1
 refine fI (rs:=[9]) (by kernel_rfl) (by simp) ?_
 refine fH.cons rfl (fun K hK=>?_) fH.nil
 refine jz (by kernel_rfl) (some 131) rfl (.tmp 126) (.tmp 130) 40 _ _ _ rfl rfl rfl rfl HR1.out ?_
 refine hK.out _ _ hT2 ?_
 clear hK K
 try simp only [Act.put,PZ]
 clear HR1 hT0
 refine fI (rs:=[10]) (by kernel_rfl) (by simp) ?_
 refine fH.cons rfl (fun K hK=>?_) fH.nil
 go_simp
 refine hK.out _ _ hT2 ?_
 clear hK K
 try simp only [Act.put,PZ]
 refine tE 11 133 hT2 ?_
 refine fI (rs:=[12]) (by kernel_rfl) (by simp) ?_
 refine fH.last rfl (fun K hK=>?_)
 refine iz (by kernel_rfl) none rfl 40 (.tmp 133) (.tmp 131) rfl gS 13 rfl (.slice (some ⟨g1,0,none⟩) (P.nK+1) c1) rfl 1 rfl 43 _ hT2.1 yY (Nat.le_of_ble_eq_true rfl) (by simp [Value.cells,Value.oneCell']) ?_
 intro Y3 hP
 refine hK.out _ _ ?_
 clear hK K
 try simp only [Act.put,PZ]
 refine gx (by kernel_rfl) ?_ _
 obtain ⟨P4,eP4⟩:∃ P4,({ P3 with L:=L,aK:=some ⟨g1,0,none⟩,nK:=P.nK+1,cK:=c1,K:=fun j=>if j=P.nK then y else P.K j }:Swg)=P4:=⟨_,rfl⟩
 replace hP:Put Y2 Y3 gS P4.cells 43:=hP.cast (by rw [←eP4,←HE3.out];rfl)
 have HF:Hid (gy Y3 base P4∧Y3.heap[gS]?=some (.cells P4.cells 43 (0,0))∧Below base w Y3∧fP P' P4):=by
  have h9:=HL.out.own
  rw [←HE3.out] at h9
  have hpk:o3 (P.nK+1) (fun j=>if j=P.nK then y else P.K j)=o3 P.nK P.K++y.cells.toList:=by
   rw [k6,sP (K:=fun j=>if j=P.nK then y else P.K j) (K':=P.K) (fun j hj=>if_neg (by omega)),if_pos rfl]
  have h8:gy Y2 base P4:=by
   rw [←eP4,←HE3.out]
   exact h9.Cz HA.out.1 HA.out.2 hpk
  refine ⟨h8.off hT2.1 hP.to,hP.blk,HL.out.bel.trans ((HA.out.2.below (Nat.le_trans hbw HL.out.bel.size) (fun z hz=>(HOK.out.blk z hz).1)).trans (hP.to.below (Nat.le_trans (Nat.le_trans hbw HL.out.bel.size) HA.out.2.size) (fun z hz=>by simp at hz;rw [hz];exact hbS))),?_⟩
  rw [HN.out.2,←eP4,←HE3.out]
  exact ⟨rfl,rfl,rfl,rfl,rfl,HAM.out,rfl,by rw [←HY.out];rfl,rfl,fun j hj=>HL.out.al j hj,rfl,rfl⟩
 clear hP eP4 hT2 HA HL HOK HPY Hcs
 go_wp2_with fail
 go_ret
 refine ⟨_,rfl,.inl ⟨HN.out.1,rfl⟩,P4,?_,HF.out.1,HF.out.2.1,HF.out.2.2.1⟩
 unfold pB
 rw [if_neg (by rw [HN.out.1];decide)]
 exact HF.out.2.2.2
theorem xC (k d s p:Int) (b:ByteArray) (w:World) (hlim:b.size≤1048576) :
  Calls Tryz.prog 118 #[.agg #[.int .i64 k,.int .i64 d,.int .i64 s,.int .i64 p,.string b]] w fun e w'=>e=.returned (.agg #[.int .i64 k,.int .i64 d,.int .i64 s,.int .i64 p,.string b])∧Below w.heap.size w w':=by
 obtain ⟨V,eV⟩:∃ V,(w.alloc (.cells #[.int .i64 k,.int .i64 d,.int .i64 s,.int .i64 p,.string b] 159)).alloc (.cells #[.int .i64 0,.int .i64 0,.int .i64 0,.int .i64 0,.string ⟨#[]⟩] 47)=V:=⟨_,rfl⟩
 have hV:V.heap[w.heap.size+1]?=some (.cells #[.int .i64 0,.int .i64 0,.int .i64 0,.int .i64 0,.string ⟨#[]⟩] 47 (0,0))∧V.heap[w.heap.size]?=some (.cells #[.int .i64 k,.int .i64 d,.int .i64 s,.int .i64 p,.string b] 159 (0,0))∧Below w.heap.size w V∧V.heap.size=w.heap.size+2:=by
  rw [←eV]
  have e:(w.alloc (.cells #[.int .i64 k,.int .i64 d,.int .i64 s,.int .i64 p,.string b] 159)).heap.size=w.heap.size+1:=by simp
  exact ⟨by rw [←e];exact fK _ _,by rw [fY _ (by omega)];exact fK _ _,((Below.refl _ _).alloc (Nat.le_refl _) _).alloc (by omega) _,by simp⟩
 have HV:Hid (V.heap[w.heap.size+1]?=some (.cells #[.int .i64 0,.int .i64 0,.int .i64 0,.int .i64 0,.string ⟨#[]⟩] 47 (0,0))∧V.heap[w.heap.size]?=some (.cells #[.int .i64 k,.int .i64 d,.int .i64 s,.int .i64 p,.string b] 159 (0,0))∧Below w.heap.size w V∧V.heap.size=w.heap.size+2):=hV
 clear hV
 have HL:Hid (∀ j,j<5→V.cell? ⟨w.heap.size,0+j,none⟩=(#[.int .i64 k,.int .i64 d,.int .i64 s,.int .i64 p,.string b]:Array Value)[j]?):=fun j _=>by rw [Nat.zero_add];exact fF HV.out.2.1 j
 go_enter Tryz.func118,Tryz.ntmps118
 go_wp2_with (refine fM rfl 47 5 _ Tryz.underlying47 rfl ix (.tmp 3) rfl w.heap.size 0 rfl #[.int .i64 k,.int .i64 d,.int .i64 s,.int .i64 p,.string b] rfl HL.out ?_)
 refine (nj k d s p b _ hlim).mono ?_
 rintro e w1 ⟨rfl,hb⟩
 have HC:Hid (w1.heap[w.heap.size+1]?=some (.cells #[.int .i64 0,.int .i64 0,.int .i64 0,.int .i64 0,.string ⟨#[]⟩] 47 (0,0))∧Below w.heap.size w w1):=⟨(hb.block _ (by have:=HV.out.2.2.2;omega)).trans HV.out.1,HV.out.2.2.1.trans (hb.mono (by have:=HV.out.2.2.2;omega))⟩
 clear hb
 go_wp2_with (refine fJ rfl 47 (.tmp 2) (.tmp 5) rfl (w.heap.size+1) 0 rfl (.agg #[.int .i64 k,.int .i64 d,.int .i64 s,.int .i64 p,.string b]) rfl 5 rfl 47 _ HC.out.1 ix (Nat.le_of_ble_eq_true rfl) (by simp [Value.cells,Value.oneCell']) ?_)
 intro W hP
 replace hP:Put w1 W (w.heap.size+1) #[.int .i64 k,.int .i64 d,.int .i64 s,.int .i64 p,.string b] 47:=hP.cast rfl
 have HK:Hid (W.heap[w.heap.size+1]?=some (.cells #[.int .i64 k,.int .i64 d,.int .i64 s,.int .i64 p,.string b] 47 (0,0))):=hP.blk
 have HB:Hid (Below w.heap.size w W):=HC.out.2.trans (hP.to.below HC.out.2.size (fun x hx=>by simp at hx;omega))
 clear hP
 go_wp2_with fail
 exact bodyPost_ret (js Tryz.results118 5 _ Tryz.underlying47 rfl ix _ _ (w.heap.size+1) #[.int .i64 k,.int .i64 d,.int .i64 s,.int .i64 p,.string b] rfl 47 HK.out rfl) rfl ⟨rfl,HB.out⟩
theorem ly (x:Pkt) (w:World) (v:Value) (hv:(x.k=2∧v=.iface 156 (.agg #[]))∨(x.k=3∧v=.iface 157 (.agg #[]))∨(x.k=1∧v=.iface 159 (.agg x.frc))) :
  Calls Tryz.prog 116 #[.agg x.frc] w fun e w'=>e=.returned v∧Below w.heap.size w w':=by
 obtain ⟨W,eW⟩:∃ W,w.alloc (.cells x.frc 47)=W:=⟨_,rfl⟩
 have HB:Hid (Below w.heap.size w W):=by rw [←eW];exact (Below.refl _ _).alloc (Nat.le_refl _) _
 have HK:Hid (W.heap[w.heap.size]?=some (.cells x.frc 47 (0,0))):=by rw [←eW];exact fK _ _
 have c0:W.cell? ⟨w.heap.size,0,none⟩=some (.int .i64 x.k):=fF HK.out 0
 have HL:Hid (∀ j,j<5→W.cell? ⟨w.heap.size,0+j,none⟩=(#[.int .i64 x.k,.int .i64 x.d,.int .i64 x.s,.int .i64 x.p,.string x.b]:Array Value)[j]?):=lM HK.out
 rcases hv with ⟨hk,rfl⟩ | ⟨hk,rfl⟩ | ⟨hk,rfl⟩
 ·
  have h2:(x.k == 2)=true:=by simp [hk]
  exact dN
 ·
  have h2:(x.k == 2)=false:=by simp [hk]
  have h3:(x.k == 3)=true:=by simp [hk]
  exact dN
 have h2:(x.k == 2)=false:=by simp [hk]
 have h3:(x.k == 3)=false:=by simp [hk]
 clear hk
 go_enter Tryz.func116,Tryz.ntmps116
 go_wp2_with (refine fM rfl 47 5 _ Tryz.underlying47 rfl ix (.tmp 1) rfl w.heap.size 0 rfl #[.int .i64 x.k,.int .i64 x.d,.int .i64 x.s,.int .i64 x.p,.string x.b] rfl HL.out ?_)
 go_ret
 exact ⟨rfl,HB.out⟩
theorem iV.row {w w':World} {base gL i:Nat} {aL:Option Addr} {nL cL:Nat} {L:Nat→Lng} {l2:Lng} {cur:Array Value} (h:iV w base aL nL cL L) (hi:i<nL) (eL:aL=some ⟨gL,0,none⟩) (kL:w.heap[gL]?=some (.cells cur 99 (0,0))) (hb:w'.heap[gL]?=some (.cells (lay cur (i*8) l2.cells) 99 (0,0))):OG 99 8 w' base aL nL cL (sb nL fun k=>if k=i then l2 else L k):=by
 subst eL
 have hl:w.ownsRow base 99 8 (.slice (some ⟨gL,0,none⟩) nL cL) nL (sb nL L):=h.l
 show w'.ownsRow base 99 8 (.slice (some ⟨gL,0,none⟩) nL cL) nL _
 refine ⟨lB _ _,?_⟩
 rcases hl.2 with ⟨_,e⟩ | ⟨g,cap,cur',e,hg,hbk,h1,hm,hs,ht⟩
 ·
  omega
 cases e
 rw [kL] at hbk
 cases hbk
 have hsz:nL*8≤cur.size:=by rw [hs];exact Nat.mul_le_mul_right _ h1
 have hf:i*8+l2.cells.size≤cur.size:=by rw [Lng.gJ];omega
 refine .inr ⟨gL,cL,_,rfl,hg,hb,h1,hm,by rw [jc hf];exact hs,?_⟩
 refine List.ext_getElem? fun j=>?_
 by_cases hj:j<nL*8
 ·
  rw [List.getElem?_take_of_lt hj,pb nL _ j hj,Array.getElem?_toList]
  have hfl:=jU (fun k=>if k=i then l2 else L k) (j / 8) (j % 8) (by omega)
  rw [show j / 8*8+j % 8=j by omega] at hfl
  rw [hfl]
  by_cases e:j / 8=i
  ·
   rw [if_pos e]
   have q:=jx hf (j % 8) (by rw [Lng.gJ];omega)
   rw [show i*8+j % 8=j by omega] at q
   exact q
  rw [if_neg e]
  have hc:=oC nL L (j / 8) (j % 8) (by omega) (by omega)
  rw [show j / 8*8+j % 8=j by omega,←ht,List.getElem?_take_of_lt hj,Array.getElem?_toList] at hc
  rw [←hc]
  rcases Nat.lt_or_ge j (i*8) with c | c
  ·
   exact lg hf j c
  exact jv hf j (by rw [Lng.gJ];omega)
 rw [List.getElem?_eq_none (by rw [List.length_take];omega),List.getElem?_eq_none (by rw [lB];omega)]
theorem layB (l:Lng) (b:Bool):lay l.cells 0 #[.bool b]=({ l with st:=b }:Lng).cells:=by simp [lay,Lng.cells]
theorem gy.stop {w w':World} {base gL i:Nat} {P:Swg} {cur:Array Value} {b:Bool} (h:gy w base P) (hi:i<P.nL) (eL:P.aL=some ⟨gL,0,none⟩) (kL:w.heap[gL]?=some (.cells cur 99 (0,0))) (hP:Put w w' gL (lay cur (i*8) ({ P.L i with st:=b }:Lng).cells) 99):gy w' base (P.stop i b):=by
 have far:∀ {y:Nat} {cs:Array Value} {t:TypeId},w.heap[y]?=some (.cells cs t (0,0))→t≠99→y∉[gL]:=fun k hne hy=>gj k kL hne (by simpa using hy)
 have eb:∀ k,(if k=i then ({ P.L i with st:=b }:Lng) else P.L k).iJ=(P.L k).iJ:=fun k=>by
  by_cases e:k=i
  ·
   rw [if_pos e,e];rfl
  rw [if_neg e]
 have et:∀ k,(if k=i then ({ P.L i with st:=b }:Lng) else P.L k).mL=(P.L k).mL:=fun k=>by
  by_cases e:k=i
  ·
   rw [if_pos e,e];rfl
  rw [if_neg e]
 have nb:((List.range P.nL).flatMap fun k=>(if k=i then ({ P.L i with st:=b }:Lng) else P.L k).iJ)=(List.range P.nL).flatMap fun k=>(P.L k).iJ:=ij (fun k _=>eb k)
 have nt:((List.range P.nL).flatMap fun k=>(if k=i then ({ P.L i with st:=b }:Lng) else P.L k).mL)=(List.range P.nL).flatMap fun k=>(P.L k).mL:=ij (fun k _=>et k)
 refine ⟨h.e.fL hP.to (fun y hy=>?_),⟨h.n.u.fL hP.to (fun y hy=>?_),h.n.p.fL hP.to (fun y hy=>?_)⟩,h.k.fL hP.to (fun y hy=>?_),⟨h.l.row hi eL kL hP.blk,fun k hk=>?_,?_,?_⟩,fun y hy hz=>?_⟩
 ·
  obtain ⟨cs,k⟩:=h.e.type y hy
  exact far k (by decide)
 ·
  obtain ⟨cs,k⟩:=h.n.u.type y hy
  exact far k (by decide)
 ·
  obtain ⟨cs,k⟩:=h.n.p.type y hy
  exact far k (by decide)
 ·
  obtain ⟨cs,k⟩:=h.k.type y hy
  exact far k (by decide)
 ·
  show gg w' base (if k=i then ({ P.L i with st:=b }:Lng) else P.L k)
  by_cases e:k=i
  ·
   rw [if_pos e]
   have q:=(h.l.ls i hi).box kL (by decide) (by decide) hP.to
   exact ⟨q.t,q.u,q.z,q.r,q.nd,q.su⟩
  rw [if_neg e]
  exact (h.l.ls k hk).box kL (by decide) (by decide) hP.to
 ·
  show ((List.range P.nL).flatMap fun k=>(if k=i then ({ P.L i with st:=b }:Lng) else P.L k).iJ).Nodup
  rw [nb]
  exact h.l.nd
 ·
  show ((List.range P.nL).flatMap fun k=>(if k=i then ({ P.L i with st:=b }:Lng) else P.L k).mL).Nodup
  rw [nt]
  exact h.l.td
 have hz':y∈(List.range P.nL).flatMap fun k=>(if k=i then ({ P.L i with st:=b }:Lng) else P.L k).iJ:=hz
 rw [nb] at hz'
 exact h.un y hy hz'
theorem ve:(Tryz.prog.info? 4).map (·.size)=some 1:=by kernel_rfl
theorem za:(Tryz.prog.info? 159).map (·.size)=some 5:=by kernel_rfl
theorem Du (w:World):(Instr.typeAssert (.iface 156 (.agg #[])) 153 156 true).run Tryz.prog w=.ok (.tuple #[.agg #[],.bool true]) w:=by kernel_rfl
theorem Dt (w:World):(Instr.typeAssert (.iface 157 (.agg #[])) 153 156 true).run Tryz.prog w=.ok (.tuple #[.agg #[],.bool false]) w:=by kernel_rfl
theorem Ds (w:World):(Instr.typeAssert (.iface 157 (.agg #[])) 153 157 true).run Tryz.prog w=.ok (.tuple #[.agg #[],.bool true]) w:=by kernel_rfl
theorem taD2 (v:Value) (w:World):(Instr.typeAssert (.iface 159 v) 153 156 true).run Tryz.prog w=.ok (.tuple #[.agg #[],.bool false]) w:=by kernel_rfl
theorem taD3 (v:Value) (w:World):(Instr.typeAssert (.iface 159 v) 153 157 true).run Tryz.prog w=.ok (.tuple #[.agg #[],.bool false]) w:=by kernel_rfl
theorem taDD (v:Value) (w:World):(Instr.typeAssert (.iface 159 v) 153 159 true).run Tryz.prog w=.ok (.tuple #[v,.bool true]) w:=by kernel_rfl
theorem AdS.jn {w W W':World} {base gS gf g:Nat} {P:Swg} {x:Pkt} {cs:Array Value} {t:TypeId} (h:AdS w W base gS gf P x) (hg:W.heap[g]?=some (.cells cs t (0,0))) (ht:t=159) (hto:Touch [g] W W') (hb:base≤g):AdS w W' base gS gf P x:=by
 subst ht
 have far:∀ {y:Nat} {c:Array Value} {t':TypeId},W.heap[y]?=some (.cells c t' (0,0))→t'≠159→y∉[g]:=fun k hne hy=>gj k hg hne (by simpa using hy)
 exact dH
theorem Bp {p:Prop} (h:p:=by
  have hB:=(Below.refl X.heap.size X).alloc (Nat.le_refl _) (.cells #[.int .i64 x.p,.iface 267 (.pointer (some aF))] 151)
  have H9:=HX.out.up hB
  refine ⟨_,rfl,.inr ⟨X.heap.size,aF,rfl,fK _ _,.inl ⟨HC.out.1,rfl⟩⟩,P,?_,H9.own,H9.box,H9.bel⟩
  unfold pB
  rw [if_neg (by rw [HC.out.1];decide),HC.out.2]
  exact fP.refl P):p:=h
theorem qD {cur:Array Value} {l:Lng} {o:Nat} (h:lay cur o l.cells=cur) (hf:o+8≤cur.size) (b:Bool):lay cur o #[.bool b]=lay cur o ({ l with st:=b }:Lng).cells:=by
 have q:=mW (cur:=cur) (a:=l.cells) (b:=#[.bool b]) (o:=o) (k:=0) hf (by show 0+1≤8;omega)
 rw [h,Nat.add_zero,layB] at q
 exact q
theorem xO (P P':Swg) (x:Pkt) (port:Int) (gS base:Nat) (code:Int) (aF aD aL:Addr) (w:World) (kb:w.heap[gS]?=some (.cells P.cells 43 (0,0))) (ho:gy w base P) (hbS:base≤gS) (hbw:base≤w.heap.size) (hok:P.Ok) (hs:P.Small) (hxb:x.b.size≤1048576) (hv:om w base aF aD aL) (hm:pQ P P' port x code) :
  Calls Tryz.prog 74 #[.pointer (some ⟨gS,0,none⟩),.int .i64 port,.agg x.frc] w fun e w'=>∃ v,e=.returned v∧xR w w' base gS aF aD aL x.p code (pB P P' port.toNat x code) v:=by
 have HOk:Hid P.Ok:=hok
 have HSm:Hid P.Small:=hs
 have HV0:Hid (om w base aF aD aL):=hv
 have HM:Hid (pQ P P' port x code):=hm
 obtain ⟨W0,eW⟩:∃ W0,w.alloc (.cells x.frc 47)=W0:=⟨_,rfl⟩
 have HX:Hid (AdS w W0 base gS w.heap.size P x):=dJ
 have hp4:=hok.n.c.num.p
 have HL1:Hid (∀ j,j<17→W0.cell? ⟨gS,0+j,none⟩=P.cells[j]?):=fun j _=>by rw [Nat.zero_add];exact fF HX.out.box j
 clear ho kb hok hs hv hm
 go_enter Tryz.func74,Tryz.ntmps74
 go_wp2_with (refine fM rfl 43 17 _ Tryz.underlying43 rfl fV (.tmp 11) rfl gS 0 rfl P.cells rfl HL1.out ?_)
 clear eW HL1
 obtain ⟨gf,eg⟩:∃ gf,w.heap.size=gf:=⟨_,rfl⟩
 rw [eg] at HX ⊢
 have Heg:Hid (w.heap.size=gf):=eg
 clear eg
 refine (mB P port _ (by omega) (by omega)).mono ?_
 rintro e X ⟨rfl,hbl⟩
 replace HX:Hid (AdS w X base gS gf P x):=HX.out.up hbl
 clear hbl
 by_cases hport:0≤port∧port≤P.C.p-1
 rotate_left
 ·
  have hdec:decide (0≤port∧port≤P.C.p-1)=false:=by simp only [decide_eq_false_iff_not];exact hport
  have HC:Hid (code=2∧P'=P):=by
   rcases HM.out with ⟨h,_⟩ | ⟨_,_,h1,h2⟩ | ⟨_,_,i,rfl,hi,_⟩
   ·
    exact absurd HOk.out h
   ·
    exact ⟨h2,h1⟩
   have:=HOk.out.nl
   exact absurd (by omega) hport
  have c0:X.cell? ⟨0,0,none⟩=some (.iface 267 (.pointer (some aF))):=(HV0.out.up HX.out.bel).f
  have c3:X.cell? ⟨gf,3,none⟩=some (.int .i64 x.p):=fF HX.out.fr 3
  rw [hdec]
  clear hport hdec
  go_wp2_with fail
  go_ret
  exact Bp
 have hdec:decide (0≤port∧port≤P.C.p-1)=true:=by simp only [decide_eq_true_eq];exact hport
 have HPt:Hid (0≤port∧port≤P.C.p-1):=hport
 have HL2:Hid (∀ j,j<5→X.cell? ⟨gf,0+j,none⟩=(#[.int .i64 x.k,.int .i64 x.d,.int .i64 x.s,.int .i64 x.p,.string x.b]:Array Value)[j]?):=lM HX.out.fr
 rw [hdec]
 clear hport hdec
 go_wp2_with (refine lu (by rfl) 47 5 _ Tryz.underlying47 rfl ix (.tmp 5) rfl gf 0 rfl #[.int .i64 x.k,.int .i64 x.d,.int .i64 x.s,.int .i64 x.p,.string x.b] rfl HL2.out ?_)
 clear HL2
 refine (kn x.k x.d x.s x.p x.b _ (by unfold maxLen;omega)).mono ?_
 rintro e X1 ⟨rfl,hbl⟩
 replace HX:Hid (AdS w X1 base gS gf P x):=HX.out.up hbl
 clear hbl
 cases hfr:jT x.k x.d x.s x.p x.b.size
 ·
  have HC:Hid (code=2∧P'=P):=by
   rcases HM.out with ⟨h,_⟩ | ⟨_,_,h1,h2⟩ | ⟨_,h,_⟩
   ·
    exact absurd HOk.out h
   ·
    exact ⟨h2,h1⟩
   rw [hfr] at h;cases h
  have c0:X1.cell? ⟨0,0,none⟩=some (.iface 267 (.pointer (some aF))):=(HV0.out.up HX.out.bel).f
  have c3:X1.cell? ⟨gf,3,none⟩=some (.int .i64 x.p):=fF HX.out.fr 3
  clear hfr
  generalize X1=X at *
  go_wp2_with fail
  go_ret
  exact Bp
 have HFrB:Hid (jT x.k x.d x.s x.p x.b.size=true):=hfr
 obtain ⟨i,hpi,hi,hmm⟩:∃ i:Nat,port=(i:Int)∧i<P.nL∧((x.k≠1∧P'=P.stop i (decide (x.k=2))∧code=0)∨(x.k=1∧nG P P' i x code)):=by
  rcases HM.out with ⟨h,_⟩ | ⟨_,h,_⟩ | ⟨_,_,h⟩
  ·
   exact absurd HOk.out h
  ·
   exact absurd ⟨HPt.out,hfr⟩ h
  exact h
 subst hpi
 have HMM:Hid ((x.k≠1∧P'=P.stop i (decide (x.k=2))∧code=0)∨(x.k=1∧nG P P' i x code)):=hmm
 have hk3:x.k=1∨x.k=2∨x.k=3:=by
  unfold jT at hfr
  simp only [decide_eq_true_eq] at hfr
  omega
 have hi':(i:Int)<(P.nL:Int):=by omega
 have HL2:Hid (∀ j,j<5→X1.cell? ⟨gf,0+j,none⟩=x.frc[j]?):=lM HX.out.fr
 clear hfr hmm HM HPt
 go_wp2_with (refine fM rfl 47 5 _ Tryz.underlying47 rfl ix (.tmp 5) rfl gf 0 rfl x.frc rfl HL2.out ?_)
 clear HL2
 rcases hk3 with hk | hk | hk
 ·
  refine (ly x _ _ (.inr (.inr ⟨hk,rfl⟩))).mono ?_
  rintro e X2 ⟨rfl,hbl⟩
  replace HX:Hid (AdS w X2 base gS gf P x):=HX.out.up hbl
  have HD:Hid (nG P P' i x code):=by
   rcases HMM.out with ⟨h1,_⟩ | ⟨_,h1⟩
   ·
    exact absurd hk h1
   exact h1
  have HFr:Hid x.nr:=⟨hk,HFrB.out⟩
  clear hbl hk HMM
  have hz2:base≤X2.heap.size:=Nat.le_trans hbw HX.out.bel.size
  have q1:=taD2
  have q2:=taD3
  have q3:=taDD
  obtain ⟨X3,eX3⟩:∃ X3,X2.alloc (.cells #[.int .i64 0,.int .i64 0,.int .i64 0,.int .i64 0,.string ⟨#[]⟩] 159)=X3:=⟨_,rfl⟩
  replace HX:Hid (AdS w X3 base gS gf P x):=HX.out.up (by rw [←eX3];exact (Below.refl _ _).alloc (Nat.le_refl _) _)
  have HK3:Hid (X3.heap[X2.heap.size]?=some (.cells #[.int .i64 0,.int .i64 0,.int .i64 0,.int .i64 0,.string ⟨#[]⟩] 159 (0,0))∧base≤X2.heap.size):=⟨by rw [←eX3];exact fK _ _,hz2⟩
  go_wp2_with (refine fJ rfl 159 (.tmp 9) (.tmp 51) rfl X2.heap.size 0 rfl (.agg x.frc) rfl 5 rfl 159 _ HK3.out.1 za (Nat.le_of_ble_eq_true rfl) (by simp [Value.cells,Value.oneCell',Pkt.frc]) ?_)
  intro X4 hP
  replace hP:Put X3 X4 X2.heap.size x.frc 159:=hP.cast rfl
  replace HX:Hid (AdS w X4 base gS gf P x):=HX.out.jn HK3.out.1 rfl hP.to HK3.out.2
  have HLd:Hid (∀ j,j<5→X4.cell? ⟨X2.heap.size,0+j,none⟩=(#[.int .i64 x.k,.int .i64 x.d,.int .i64 x.s,.int .i64 x.p,.string x.b]:Array Value)[j]?):=fun j _=>by rw [Nat.zero_add];exact fF hP.blk j
  clear hP HK3 eX3 hz2 q1 q2 q3
  go_wp2_with (refine fM rfl 159 5 _ Tryz.underlying159 rfl za (.tmp 9) rfl X2.heap.size 0 rfl #[.int .i64 x.k,.int .i64 x.d,.int .i64 x.s,.int .i64 x.p,.string x.b] rfl HLd.out ?_)
  clear HLd
  refine (xC x.k x.d x.s x.p x.b _ hxb).mono ?_
  rintro e X5 ⟨rfl,hbl⟩
  replace HX:Hid (AdS w X5 base gS gf P x):=HX.out.up hbl
  clear hbl
  go_wp2_with fail
  refine (pN P P' x i gS base code aF aD aL X5 HX.out.box HX.out.own hbS (Nat.le_trans hbw HX.out.bel.size) HOk.out HSm.out hi HFr.out (HV0.out.up HX.out.bel) HD.out).mono ?_
  rintro e X6 ⟨v,rfl,hA⟩
  have HA:Hid (xR w X6 base gS aF aD aL x.p code (pB P P' i x code) v):=by
   obtain ⟨h1,S2,h2,h3,h4,h5⟩:=hA
   exact ⟨h1,S2,h2,h3,h4,HX.out.bel.trans h5⟩
  clear hA
  go_wp2_with fail
  go_ret
  refine ⟨v,rfl,?_⟩
  rw [Int.toNat_natCast]
  exact HA.out
 ·
  refine (ly x _ _ (.inl ⟨hk,rfl⟩)).mono ?_
  rintro e X2 ⟨rfl,hbl⟩
  replace HX:Hid (AdS w X2 base gS gf P x):=HX.out.up hbl
  have HC:Hid (P'=P.stop i true∧code=0):=dM
  clear hbl hk HMM
  have q1:=Du
  have q2:=Dt
  have q3:=Ds
  obtain ⟨X3,eX3⟩:∃ X3,X2.alloc (.cells #[] 156)=X3:=⟨_,rfl⟩
  replace HX:Hid (AdS w X3 base gS gf P x):=HX.out.up (by rw [←eX3];exact (Below.refl _ _).alloc (Nat.le_refl _) _)
  obtain ⟨gL,cur,eL,hgb,kL,zL,lL,_⟩:=HX.out.own.l.at (show 0<P.nL by omega)
  have HKL:Hid (X3.heap[gL]?=some (.cells cur 99 (0,0))∧i*8+8≤cur.size∧lay cur (i*8) (P.L i).cells=cur∧P.aL=some ⟨gL,0,none⟩∧base≤gL):=⟨kL,by omega,lL i hi,eL,hgb⟩
  have c14:X3.cell? ⟨gS,14,none⟩=some (.slice (some ⟨gL,0,none⟩) P.nL P.cL):=by rw [←eL];exact fF HX.out.box 14
  have hz1:i*8+1≤cur.size:=by omega
  clear kL zL lL eL hgb
  go_wp2_with (refine fJ rfl 4 (.tmp 38) (.const (.bool true)) rfl gL (i*8) rfl (.bool true) rfl 1 rfl 99 _ HKL.out.1 ve hz1 (by simp [Value.cells,Value.oneCell']) ?_)
  intro X4 hP
  replace hP:Put X3 X4 gL (lay cur (i*8) ({ P.L i with st:=true }:Lng).cells) 99:=hP.cast (qD HKL.out.2.2.1 HKL.out.2.1 true)
  have HF:Hid (gy X4 base (P.stop i true)∧X4.heap[gS]?=some (.cells P.cells 43 (0,0))∧Below base w X4) :=
   ⟨HX.out.own.stop hi HKL.out.2.2.2.1 HKL.out.1 hP,(hP.to.block _ (fG HX.out.box) (by simpa using gj HX.out.box HKL.out.1 (by decide))).trans HX.out.box,HX.out.bel.trans (hP.to.below (Nat.le_trans hbw HX.out.bel.size) (fun y hy=>by simp at hy;rw [hy];exact HKL.out.2.2.2.2))⟩
  clear hP c14 eX3
  go_wp2_with fail
  go_ret
  refine ⟨_,rfl,.inl ⟨HC.out.2,rfl⟩,P.stop i true,?_,HF.out.1,HF.out.2.1,HF.out.2.2⟩
  exact dO
 refine (ly x _ _ (.inr (.inl ⟨hk,rfl⟩))).mono ?_
 rintro e X2 ⟨rfl,hbl⟩
 replace HX:Hid (AdS w X2 base gS gf P x):=HX.out.up hbl
 have HC:Hid (P'=P.stop i false∧code=0):=dM
 clear hbl hk HMM
 have q1:=Du
 have q2:=Dt
 have q3:=Ds
 obtain ⟨X3,eX3⟩:∃ X3,X2.alloc (.cells #[] 157)=X3:=⟨_,rfl⟩
 replace HX:Hid (AdS w X3 base gS gf P x):=HX.out.up (by rw [←eX3];exact (Below.refl _ _).alloc (Nat.le_refl _) _)
 obtain ⟨gL,cur,eL,hgb,kL,zL,lL,_⟩:=HX.out.own.l.at (show 0<P.nL by omega)
 have HKL:Hid (X3.heap[gL]?=some (.cells cur 99 (0,0))∧i*8+8≤cur.size∧lay cur (i*8) (P.L i).cells=cur∧P.aL=some ⟨gL,0,none⟩∧base≤gL):=⟨kL,by omega,lL i hi,eL,hgb⟩
 have c14:X3.cell? ⟨gS,14,none⟩=some (.slice (some ⟨gL,0,none⟩) P.nL P.cL):=by rw [←eL];exact fF HX.out.box 14
 have hz1:i*8+1≤cur.size:=by omega
 clear kL zL lL eL hgb
 go_wp2_with (refine fJ rfl 4 (.tmp 48) (.const (.bool false)) rfl gL (i*8) rfl (.bool false) rfl 1 rfl 99 _ HKL.out.1 ve hz1 (by simp [Value.cells,Value.oneCell']) ?_)
 intro X4 hP
 replace hP:Put X3 X4 gL (lay cur (i*8) ({ P.L i with st:=false }:Lng).cells) 99:=hP.cast (qD HKL.out.2.2.1 HKL.out.2.1 false)
 have HF:Hid (gy X4 base (P.stop i false)∧X4.heap[gS]?=some (.cells P.cells 43 (0,0))∧Below base w X4) :=
  ⟨HX.out.own.stop hi HKL.out.2.2.2.1 HKL.out.1 hP,(hP.to.block _ (fG HX.out.box) (by simpa using gj HX.out.box HKL.out.1 (by decide))).trans HX.out.box,HX.out.bel.trans (hP.to.below (Nat.le_trans hbw HX.out.bel.size) (fun y hy=>by simp at hy;rw [hy];exact HKL.out.2.2.2.2))⟩
 clear hP c14 eX3
 go_wp2_with fail
 go_ret
 refine ⟨_,rfl,.inl ⟨HC.out.2,rfl⟩,P.stop i false,?_,HF.out.1,HF.out.2.1,HF.out.2.2⟩
 exact dO
theorem rJ (S:Swg) (gS:Nat) (w:World) (base:Nat) (aF aD aL:Addr) (p:Int) (v:Value) (kb:w.heap[gS]?=some (.cells S.cells 43 (0,0))) (hv:om w base aF aD aL) (he:vG w aF aD aL p 3 v) (hbw:base≤w.heap.size) (hl:0≤S.lst∧S.lst≤1000000000) (hd:0≤S.dr∧S.dr≤1000000000) :
  Calls Tryz.prog 75 #[.pointer (some ⟨gS,0,none⟩),v] w fun e w'=>(∃ u,e=.returned u)∧w'.heap[gS]?=some (.cells (S.lf p).cells 43 (0,0))∧Touch [gS] w w':=by
 obtain ⟨W,eW⟩:∃ W,w.alloc (.cells #[.pointer none] 149)=W:=⟨_,rfl⟩
 have hB:Below w.heap.size w W:=by rw [←eW];exact (Below.refl _ _).alloc (Nat.le_refl _) _
 have kt:W.heap[w.heap.size]?=some (.cells #[.pointer none] 149 (0,0)):=by rw [←eW];exact fK _ _
 replace hv:om W base aF aD aL:=hv.up (hB.mono hbw)
 replace he:vG W aF aD aL p 3 v:=he.iB (fun g cs h=>hB.block g (fG h))
 replace kb:W.heap[gS]?=some (.cells S.cells 43 (0,0)):=(hB.block gS (fG kb)).trans kb
 have gd:=hv.d
 have HT:Hid (W.cell? ⟨3,0,none⟩=some (.iface 198 (.agg #[.pointer (some ⟨4,64,none⟩)]))):=hv.t
 have HB:Hid (Below w.heap.size w W):=hB
 obtain ⟨g,a,rfl,hg,ha⟩:∃ g a,v=.iface 149 (.pointer (some ⟨g,0,none⟩))∧W.heap[g]?=some (.cells #[.int .i64 p,.iface 267 (.pointer (some a))] 151 (0,0))∧a=aD:=by
  rcases he with ⟨e,_⟩ | ⟨g,a,h1,h2,h3⟩
  ·
   cases e
  refine ⟨g,a,h1,h2,?_⟩
  rcases h3 with ⟨e,_⟩ | ⟨_,e⟩ | ⟨e,_⟩
  ·
   cases e
  ·
   exact e
  cases e
 subst ha
 have hgt:g≠w.heap.size:=gj hg kt (by decide)
 have hSt:gS≠w.heap.size:=gj kb kt (by decide)
 have H1:Hid (W.cell? ⟨g,1,none⟩=some (.iface 267 (.pointer (some a)))):=fF hg 1
 have HK:Hid (W.heap[g]?=some (.cells #[.int .i64 p,.iface 267 (.pointer (some a))] 151 (0,0))∧W.heap[gS]?=some (.cells S.cells 43 (0,0))∧W.heap[w.heap.size]?=some (.cells #[.pointer none] 149 (0,0))):=⟨hg,kb,kt⟩
 have HNe:Hid (g≠w.heap.size∧gS≠w.heap.size):=⟨hgt,hSt⟩
 clear hv he hB kt kb hg hgt hSt
 go_enter Tryz.func75,Tryz.ntmps75
 go_wp2_with fail
 refine (yN g a _ H1.out).mono ?_
 rintro e w' ⟨rfl,rfl⟩
 go_wp2_with fail
 refine (CU g w.heap.size _ HT.out HK.out.2.2).mono ?_
 rintro e X ⟨rfl,kX,tX⟩
 have cA:X.cell? ⟨w.heap.size,0,none⟩=some (.pointer (some ⟨g,0,none⟩)):=fF kX 0
 have cP:X.cell? ⟨g,0,none⟩=some (.int .i64 p):=fF ((tX.block g (fG HK.out.1) (by simpa using HNe.out.1)).trans HK.out.1) 0
 have HS:Hid (X.heap[gS]?=some (.cells S.cells 43 (0,0))∧Touch [gS] w X) :=
  ⟨(tX.block gS (fG HK.out.2.1) (by simpa using HNe.out.2)).trans HK.out.2.1,⟨tX.os.trans HB.out.os,tX.tape.trans HB.out.tape,tX.output.trans HB.out.output,Nat.le_trans HB.out.size tX.size,fun k hk hn=>(tX.block k (Nat.lt_of_lt_of_le hk HB.out.size) (by simp;omega)).trans (HB.out.block k hk)⟩⟩
 have c16:X.cell? ⟨gS,16,none⟩=some (.int .i64 S.lst):=fF HS.out.1 16
 have c15:X.cell? ⟨gS,15,none⟩=some (.int .i64 S.dr):=fF HS.out.1 15
 have w1:IntKind.i64.wrap (S.lst+1)=S.lst+1:=j0 _ (by omega) (by omega)
 have w2:IntKind.i64.wrap (S.dr+1)=S.dr+1:=j0 _ (by omega) (by omega)
 clear kX tX
 by_cases hp:p=2
 ·
  have hp':(p == 2)=true:=by simp [hp]
  go_wp2_with (refine fJ rfl 2 (.tmp 28) (.tmp 26) rfl gS 16 rfl (.int .i64 (min (S.lst+1) 1000000000)) rfl 1 rfl 43 _ HS.out.1 iP (Nat.le_of_ble_eq_true rfl) (by simp [Value.cells,Value.oneCell']) ?_)
  intro X2 hP
  have eL:S.lf p={ S with lst:=min (S.lst+1) 1000000000 }:=by unfold Swg.lf;rw [if_pos hp]
  exact dK
 have hp':(p == 2)=false:=by simp [hp]
 go_wp2_with (refine fJ rfl 2 (.tmp 37) (.tmp 35) rfl gS 15 rfl (.int .i64 (min (S.dr+1) 1000000000)) rfl 1 rfl 43 _ HS.out.1 iP (Nat.le_of_ble_eq_true rfl) (by simp [Value.cells,Value.oneCell']) ?_)
 intro X2 hP
 have eL:S.lf p={ S with dr:=min (S.dr+1) 1000000000 }:=by unfold Swg.lf;rw [if_neg hp]
 exact dK
theorem gy.lf {w:World} {base:Nat} {S:Swg} (h:gy w base S) (p:Int):gy w base (S.lf p):=by
 unfold Swg.lf
 split
 ·
  exact ⟨h.e,h.n,h.k,h.l,h.un⟩
 exact ⟨h.e,h.n,h.k,h.l,h.un⟩
theorem pQ.three {S S':Swg} {port:Int} {x:Pkt} {code:Int} (h:pQ S S' port x code) (hc:code=3):S'=(S.hI port.toNat x none 0).lf x.p:=by
 subst hc
 rcases h with ⟨_,_,h⟩ | ⟨_,_,_,h⟩ | ⟨_,_,i,rfl,_,⟨_,_,h⟩ | ⟨_,h⟩⟩
 ·
  cases h
 ·
  cases h
 ·
  cases h
 rw [Int.toNat_natCast]
 rcases h with ⟨_,_,h⟩ | ⟨_,_,h,_⟩ | ⟨_,_,_,_,h⟩
 ·
  cases h
 ·
  exact h
 cases h
theorem pQ.oy {S:Swg} (h:S.Ok):(0≤S.lst∧S.lst≤1000000000)∧(0≤S.dr∧S.dr≤1000000000):=⟨h.oy.lst,h.oy.dr⟩
theorem vG.kO {w w':World} {aF aD aL:Addr} {p code:Int} {v:Value} {g:Nat} {cs:Array Value} (h:vG w aF aD aL p code v) (hg:w.heap[g]?=some (.cells cs 43 (0,0))) (ht:Touch [g] w w'):vG w' aF aD aL p code v :=
 h.iB (fun y c hy=>ht.block y (fG hy) (by simpa using gj hy hg (by decide)))
theorem nC (P P':Swg) (x:Pkt) (port:Int) (gS base:Nat) (code:Int) (aF aD aL:Addr) (w:World) (kb:w.heap[gS]?=some (.cells P.cells 43 (0,0))) (ho:gy w base P) (hbS:base≤gS) (hbw:base≤w.heap.size) (hok:P.Ok) (hs:P.Small) (hxb:x.b.size≤1048576) (hv:om w base aF aD aL) (hm:pQ P P' port x code) :
  Calls Tryz.prog 26 #[.pointer (some ⟨gS,0,none⟩),.int .i64 port,.agg x.frc] w fun e w'=>∃ v,e=.returned v∧xR w w' base gS aF aD aL x.p code P' v:=by
 have HOk:Hid P.Ok:=hok
 have HSm:Hid P.Small:=hs
 have HV0:Hid (om w base aF aD aL):=hv
 have HM:Hid (pQ P P' port x code):=hm
 obtain ⟨W0,eW⟩:∃ W0,w.alloc (.cells x.frc 47)=W0:=⟨_,rfl⟩
 have HX:Hid (AdS w W0 base gS w.heap.size P x):=dJ
 have HL:Hid (∀ j,j<5→W0.cell? ⟨w.heap.size,0+j,none⟩=x.frc[j]?):=lM HX.out.fr
 clear ho kb hok hs hv hm
 go_enter Tryz.func26,Tryz.ntmps26
 go_wp2_with (refine fM rfl 47 5 _ Tryz.underlying47 rfl ix (.tmp 5) rfl w.heap.size 0 rfl x.frc rfl HL.out ?_)
 clear HL eW
 refine (xO P P' x port gS base code aF aD aL W0 HX.out.box HX.out.own hbS (Nat.le_trans hbw HX.out.bel.size) HOk.out HSm.out hxb (HV0.out.up HX.out.bel) HM.out).mono ?_
 rintro e X ⟨v,rfl,hE,S2,hA,hO,hK,hB⟩
 have HR:Hid (vG X aF aD aL x.p code v∧fP (pB P P' port.toNat x code) S2∧gy X base S2∧X.heap[gS]?=some (.cells S2.cells 43 (0,0))∧Below base w X):=⟨hE,hA,hO,hK,HX.out.bel.trans hB⟩
 clear hE hA hO hK hB HX
 go_wp2_with fail
 by_cases hc:code=3
 ·
  have HC:Hid (code=3∧P'=(P.hI port.toNat x none 0).lf x.p∧fP (P.hI port.toNat x none 0) S2):=by
   have h1:=HR.out.2.1
   unfold pB at h1
   rw [if_pos hc] at h1
   exact ⟨hc,HM.out.three hc,h1⟩
  refine (rJ S2 gS X base aF aD aL x.p v HR.out.2.2.2.1 (HV0.out.up HR.out.2.2.2.2) (by rw [←hc];exact HR.out.1) (Nat.le_trans hbw HR.out.2.2.2.2.size) (by rw [HC.out.2.2.lst];exact HOk.out.oy.lst) (by rw [HC.out.2.2.dr];exact HOk.out.oy.dr)).mono ?_
  rintro e X2 ⟨⟨u,rfl⟩,k2,t2⟩
  have HF:Hid (xR w X2 base gS aF aD aL x.p code P' v) :=
   ⟨HR.out.1.kO HR.out.2.2.2.1 t2,S2.lf x.p,by rw [HC.out.2.1];exact HC.out.2.2.lf _,(HR.out.2.2.1.off HR.out.2.2.2.1 t2).lf _,k2,HR.out.2.2.2.2.trans (t2.below (Nat.le_trans hbw HR.out.2.2.2.2.size) (fun y hy=>by simp at hy;rw [hy];exact hbS))⟩
  clear k2 t2 hc
  go_wp2_with fail
  go_ret
  exact ⟨v,rfl,HF.out⟩
 refine (tW S2 gS X base aF aD aL x.p code v (HV0.out.up HR.out.2.2.2.2) HR.out.1 hc (Nat.le_trans hbw HR.out.2.2.2.2.size)).mono ?_
 rintro e X2 ⟨⟨u,rfl⟩,b2⟩
 have HF:Hid (xR w X2 base gS aF aD aL x.p code P' v):=by
  have h1:=HR.out.2.1
  unfold pB at h1
  rw [if_neg hc] at h1
  exact ⟨HR.out.1.iB (fun y c hy=>b2.block y (fG hy)),S2,h1,HR.out.2.2.1.up b2,(b2.block _ (fG HR.out.2.2.2.1)).trans HR.out.2.2.2.1,HR.out.2.2.2.2.trans (b2.mono (Nat.le_trans hbw HR.out.2.2.2.2.size))⟩
 clear b2 hc
 go_wp2_with fail
 go_ret
 exact ⟨v,rfl,HF.out⟩
structure Thr (w W:World) (S:Swg) (x:Pkt):Prop where
 a:W.heap[w.heap.size]?=some (.cells S.cells 43 (0,0))
 f:W.heap[w.heap.size+1]?=some (.cells x.frc 47 (0,0))
 z:W.heap[w.heap.size+2]?=some (.cells zSw 43 (0,0))
 bel:Below w.heap.size w W
theorem Thr.up {w W W':World} {S:Swg} {x:Pkt} (h:Thr w W S x) (hb:Below W.heap.size W W'):Thr w W' S x :=
 ⟨(hb.block _ (fG h.a)).trans h.a,(hb.block _ (fG h.f)).trans h.f,(hb.block _ (fG h.z)).trans h.z,h.bel.trans (hb.mono h.bel.size)⟩
theorem Thr.mE {w W W':World} {S:Swg} {x:Pkt} {B:Nat} (h:Thr w W S x) (hb:Below B W W') (hB:w.heap.size+2<B):Thr w W' S x :=
 ⟨(hb.block _ (by omega)).trans h.a,(hb.block _ (by omega)).trans h.f,(hb.block _ hB).trans h.z,h.bel.trans (hb.mono (by omega))⟩
theorem Thr.start (w:World) (S:Swg) (x:Pkt):Thr w (((w.alloc (.cells S.cells 43)).alloc (.cells x.frc 47)).alloc (.cells zSw 43)) S x:=by
 have e1:(w.alloc (.cells S.cells 43)).heap.size=w.heap.size+1:=by simp
 have e2:((w.alloc (.cells S.cells 43)).alloc (.cells x.frc 47)).heap.size=w.heap.size+2:=by simp
 refine ⟨?_,?_,?_,(((Below.refl _ _).alloc (Nat.le_refl _) _).alloc (by omega) _).alloc (by omega) _⟩
 ·
  rw [fY _ (by omega),fY _ (by omega)];exact fK _ _
 ·
  rw [fY _ (by omega),←e1];exact fK _ _
 rw [←e2];exact fK _ _
theorem ko (S S':Swg) (port:Int) (x:Pkt) (code:Int) (aF aD aL:Addr) (w:World) (hs:S.Small) (hr:jL w S) (hxb:x.b.size≤1048576) (hv:om w w.heap.size aF aD aL) (hm:pQ S S' port x code) :
  Calls Tryz.prog 9 #[.agg S.cells,.int .i64 port,.agg x.frc] w fun e w'=>∃ S2,e=.returned (.tuple #[.agg S2.cells,.int .i64 code])∧fP S' S2∧gy w' w.heap.size S2∧Below w.heap.size w w':=by
 obtain ⟨ok,hok⟩:=iw S.Ok
 have HO:Hid (ok=true↔S.Ok):=hok
 have HM:Hid (pQ S S' port x code):=hm
 have HR:Hid (jL w S):=hr
 have HS:Hid S.Small:=hs
 have HV:Hid (om w w.heap.size aF aD aL):=hv
 obtain ⟨W,eW⟩:∃ W,((w.alloc (.cells S.cells 43)).alloc (.cells x.frc 47)).alloc (.cells #[.int .i64 0,.int .i64 0,.int .i64 0,.int .i64 0,.int .i64 0,.int .i64 0,.int .i64 0,.int .i64 0,.int .i64 0,.slice none 0 0,.slice none 0 0,.int .i64 0,.slice none 0 0,.slice none 0 0,.slice none 0 0,.int .i64 0,.int .i64 0] 43)=W:=⟨_,rfl⟩
 have HX:Hid (Thr w W S x):=by rw [←eW];exact Thr.start _ _ _
 have HL:Hid (∀ j,j<17→W.cell? ⟨w.heap.size,0+j,none⟩=S.cells[j]?):=fun j _=>by rw [Nat.zero_add];exact fF HX.out.a j
 clear hs hr hok hm hv
 go_enter Tryz.func9,Tryz.ntmps9
 go_wp2_with (refine fM rfl 43 17 _ Tryz.underlying43 rfl fV (.tmp 3) rfl (w.heap.size) 0 rfl S.cells rfl HL.out ?_)
 clear eW HL
 refine (rf S _ HS.out (HR.out.up HX.out.bel) ok HO.out).mono ?_
 rintro e w1 ⟨rfl,hbl⟩
 replace HX:Hid (Thr w w1 S x):=HX.out.up hbl
 clear hbl
 have HD:Hid (w1.heap[w.heap.size+1+1]?=some (.cells zSw 43 (0,0))):=HX.out.z
 cases ok
 ·
  have HF:Hid (S'=mH∧code=1):=by
   rcases HM.out with ⟨_,h1,h2⟩ | ⟨h,_⟩ | ⟨h,_⟩
   ·
    exact ⟨h1,h2⟩
   ·
    exact absurd (HO.out.2 h) (by simp)
   exact absurd (HO.out.2 h) (by simp)
  go_wp2_with (refine fJ rfl 43 (.tmp 6) (.tmp 13) rfl (w.heap.size+1+1) 0 rfl (.agg #[.int .i64 0,.int .i64 0,.int .i64 0,.int .i64 0,.int .i64 0,.int .i64 0,.int .i64 0,.int .i64 0,.int .i64 0,.slice none 0 0,.slice none 0 0,.int .i64 0,.slice none 0 0,.slice none 0 0,.slice none 0 0,.int .i64 0,.int .i64 0]) rfl 17 rfl 43 _ HD.out fV (Nat.le_of_ble_eq_true rfl) (by simp [Value.cells,Value.oneCell']) ?_)
  intro X hP
  replace hP:Put w1 X (w.heap.size+1+1) mH.cells 43:=hP.cast rfl
  have HK:Hid (X.heap[w.heap.size+1+1]?=some (.cells mH.cells 43 (0,0))):=hP.blk
  have HB2:Hid (Below w.heap.size w X):=HX.out.bel.trans (hP.to.below HX.out.bel.size (fun y hy=>by simp at hy;omega))
  clear hP
  go_wp2_with fail
  rw [HF.out.1,HF.out.2]
  exact bodyPost_ret (kW Tryz.results9 17 _ Tryz.underlying43 rfl fV _ _ (w.heap.size+1+1) mH.cells rfl 43 HK.out rfl (.int .i64 1) rfl) rfl ⟨mH,rfl,fP.refl _,vH _ _,HB2.out⟩
 have HOk:Hid S.Ok:=HO.out.1 rfl
 have HL:Hid (∀ j,j<17→w1.cell? ⟨w.heap.size,0+j,none⟩=S.cells[j]?):=fun j _=>by rw [Nat.zero_add];exact fF HX.out.a j
 obtain ⟨_,_,_,ht4,ht5⟩:=A5 HOk.out
 go_wp2_with (refine fM rfl 43 17 _ Tryz.underlying43 rfl fV (.tmp 3) rfl (w.heap.size) 0 rfl S.cells rfl HL.out ?_)
 clear HL HD
 have hW1:w.heap.size+2<w1.heap.size:=fG HX.out.z
 refine (pL S _ HS.out ht4 ht5 (HR.out.up HX.out.bel)).mono ?_
 rintro e w2 ⟨Q,rfl,aQ,oQ,hbl⟩
 replace HX:Hid (Thr w w2 S x):=HX.out.up hbl
 have hz2:=hbl.size
 have HQ:Hid (fP S Q∧gy w2 w1.heap.size Q):=⟨aQ,oQ⟩
 clear aQ oQ hbl
 have HG:Hid ((w2.alloc (.cells #[.int .i64 0,.int .i64 0,.int .i64 0,.int .i64 0,.int .i64 0,.int .i64 0,.int .i64 0,.int .i64 0,.int .i64 0,.slice none 0 0,.slice none 0 0,.int .i64 0,.slice none 0 0,.slice none 0 0,.slice none 0 0,.int .i64 0,.int .i64 0] 43)).heap[w2.heap.size]?=some (.cells #[.int .i64 0,.int .i64 0,.int .i64 0,.int .i64 0,.int .i64 0,.int .i64 0,.int .i64 0,.int .i64 0,.int .i64 0,.slice none 0 0,.slice none 0 0,.int .i64 0,.slice none 0 0,.slice none 0 0,.slice none 0 0,.int .i64 0,.int .i64 0] 43 (0,0))):=fK _ _
 go_wp2_with (refine fJ rfl 43 (.tmp 8) (.tmp 15) rfl (w2.heap.size) 0 rfl (.agg Q.cells) rfl 17 rfl 43 _ HG.out fV (Nat.le_of_ble_eq_true rfl) (Swg.mi _) ?_)
 intro X0 hP
 replace hP:Put _ X0 w2.heap.size Q.cells 43:=hP.cast rfl
 have hbl:Below w2.heap.size w2 X0:=((Below.refl _ _).alloc (Nat.le_refl _) _).trans (hP.to.below (by simp) (fun y hy=>by simp at hy;omega))
 have kN:=hP.blk
 replace HX:Hid (Thr w X0 S x):=HX.out.up hbl
 replace HQ:Hid (fP S Q∧gy X0 w1.heap.size Q):=⟨HQ.out.1,HQ.out.2.up hbl⟩
 clear hP HG hbl
 obtain ⟨gN,eN⟩:∃ g,w2.heap.size=g:=⟨_,rfl⟩
 rw [eN] at kN hz2 ⊢
 clear eN
 obtain ⟨bQ,eQ⟩:∃ g,w1.heap.size=g:=⟨_,rfl⟩
 rw [eQ] at hW1 hz2 HQ
 clear eQ
 have HgN:Hid (w.heap.size+2<bQ∧bQ≤gN∧gN<X0.heap.size):=⟨hW1,hz2,fG kN⟩
 have HkN:Hid (X0.heap[gN]?=some (.cells Q.cells 43 (0,0))):=kN
 obtain ⟨Q',hmq,haq⟩:=HM.out.AE HQ.out.1
 have HMQ:Hid (pQ Q Q' port x code∧fP S' Q'):=⟨hmq,haq⟩
 have HLf:Hid (∀ j,j<5→X0.cell? ⟨w.heap.size+1,0+j,none⟩=x.frc[j]?):=lM HX.out.f
 clear kN hW1 hz2 hmq haq
 go_wp2_with (refine fM rfl 47 5 _ Tryz.underlying47 rfl ix (.tmp 5) rfl (w.heap.size+1) 0 rfl x.frc rfl HLf.out ?_)
 clear HLf
 refine (nC Q Q' x port gN bQ code aF aD aL X0 HkN.out HQ.out.2 HgN.out.2.1 (by have:=HgN.out;omega) (HQ.out.1.ok1 HOk.out) (HQ.out.1.small HS.out) hxb ((HV.out.up HX.out.bel).mono (by have:=HgN.out.1;omega)) HMQ.out.1).mono ?_
 rintro e X1 ⟨v,rfl,hE,S2,hA,hO,hK,hB⟩
 have HE:Hid (vG X1 aF aD aL x.p code v∧om X1 bQ aF aD aL):=⟨hE,((HV.out.up HX.out.bel).mono (by have:=HgN.out.1;omega)).up hB⟩
 replace HX:Hid (Thr w X1 S x):=HX.out.mE hB HgN.out.1
 have HN:Hid (fP S' S2∧gy X1 w.heap.size S2∧X1.heap[gN]?=some (.cells S2.cells 43 (0,0))):=⟨HMQ.out.2.trans hA,hO.mono (by have:=HgN.out.1;omega),hK⟩
 clear hE hA hO hK hB HQ HkN HMQ
 go_wp2_with fail
 have hd:Below X1.heap.size X1 X1.drew:=(Below.refl _ _).drew
 refine wp_region_held_drew (S:=fun w'=>w'.heap[gN]?=some (.cells S2.cells 43 (0,0))) (by kernel_rfl) ((hd.block _ (fG HN.out.2.2)).trans HN.out.2.2) (fun hHeld=>?_)
 replace HE:Hid (vG X1.drew aF aD aL x.p code v∧om X1.drew bQ aF aD aL):=⟨HE.out.1.iB (fun y c hy=>hd.block y (fG hy)),HE.out.2.up (hd.mono (by have:=HgN.out;have h8:=fG HN.out.2.2;omega))⟩
 replace HX:Hid (Thr w X1.drew S x):=HX.out.up hd
 replace HN:Hid (fP S' S2∧gy X1.drew w.heap.size S2∧X1.drew.heap[gN]?=some (.cells S2.cells 43 (0,0))):=⟨HN.out.1,HN.out.2.1.up hd,(hd.block _ (fG HN.out.2.2)).trans HN.out.2.2⟩
 clear hd
 generalize X1.drew=V at *
 refine tC 0 19 (v:=.agg S2.cells) (fun wx hSw=>gO 43 17 _ Tryz.underlying43 rfl fV (.tmp 8) rfl gN 0 rfl S2.cells rfl (fun j hj=>by rw [Nat.zero_add];exact fF hSw j)) ?_
 try simp only [Act.put,PZ]
 refine tQ 1 20 ?_
 refine rq1 2 (fun K hK=>?_)
 go_simp
 refine (xM _ bQ aF aD aL x.p code v HE.out.2 HE.out.1).mono ?_
 rintro e w' ⟨rfl,rfl⟩
 have hT:=HN.out.2.2
 go_wp2_with fail
 refine hK.out _ _ hT (fun hHeld=>?_)
 clear hK K
 try simp only [Act.put,PZ]
 refine rq1 3 (fun K hK=>?_)
 refine iz (by kernel_rfl) none rfl 43 (.tmp 6) (.tmp 19) rfl (w.heap.size+1+1) 0 rfl (.agg S2.cells) rfl 17 rfl 43 _ HX.out.z fV (Nat.le_of_ble_eq_true rfl) (Swg.mi _) ?_
 intro X2 hP
 replace hP:Put V X2 (w.heap.size+1+1) S2.cells 43:=hP.cast rfl
 have hT2:X2.heap[gN]?=some (.cells S2.cells 43 (0,0)):=(hP.to.block _ (fG hT) (by have:=HgN.out;simp;omega)).trans hT
 refine hK.out _ _ hT2 (fun hHeld=>?_)
 clear hK K
 try simp only [Act.put,PZ]
 refine tQ 4 7 ?_
 refine dnq ?_
 have HK:Hid (X2.heap[w.heap.size+1+1]?=some (.cells S2.cells 43 (0,0))):=hP.blk
 have HFF:Hid (gy X2 w.heap.size S2∧Below w.heap.size w X2):=⟨HN.out.2.1.off HX.out.z hP.to,HX.out.bel.trans (hP.to.below HX.out.bel.size (fun y hy=>by simp at hy;omega))⟩
 clear hP hT hT2 hHeld
 go_wp2_with fail
 exact bodyPost_ret (kW Tryz.results9 17 _ Tryz.underlying43 rfl fV _ _ (w.heap.size+1+1) S2.cells rfl 43 HK.out rfl (.int .i64 code) rfl) rfl ⟨S2,rfl,HN.out.1,HFF.out.1,HFF.out.2⟩
end Go.Proofs.YtjaobmbcmjgjgaaGreatDoor
