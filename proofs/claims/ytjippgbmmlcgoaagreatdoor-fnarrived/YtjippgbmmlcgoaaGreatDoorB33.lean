import Derived.Test.YtjippgbmmlcgoaaGreatDoorB15
import Derived.Test.YtjippgbmmlcgoaaGreatDoorB32
namespace Go.Proofs.YtjippgbmmlcgoaaGreatDoor
set_option maxRecDepth 1000000
set_option maxHeartbeats 9000000
open Go.RowKit
set_option linter.unusedVariables false
set_option linter.unusedSimpArgs false
variable {cs cur:Array Value} {code dst:Int} {l2:Lng} {base g gL gS gf gp i k:Nat} {L:Nat→Lng} {p:Prop} {P P3 S:Swg} {t:TypeId} {W W' w w':World}
theorem fv (h:p:=by
 refine rq1 13 (fun K hK=>?_)
 go_simp
 refine (qg P.C P.N (i:Int) x.p x.cl _ HSm.n.fit HX.own.n.rd ok HOA).mono ?_
 rintro e XM ⟨M,rfl,oM,hbM,aM⟩
 replace HX:=aa (HX.up hbM)
 have hTM:=And.intro HX.box HX.fr
 have HM9:Hid (iN XM base M∧(∀ y∈ku M.aU M.nU,V5.heap.size≤y)∧iR (mF (lq P.N i x.p x.cl) ok) M):=⟨oM.mono (by omega),fun y hy=>by have:=(oM.u.blk y hy).1;omega,aM⟩
 replace HG:Hid (XM.heap[g8]?=some (.cells ag 30 (0,0))∧base≤g8):=⟨(hbM.block _ (ig HG.1)).trans HG.1,HG.2⟩
 clear oM aM hbM
 go_wp2_with fail
 refine ah (hK _ _ hTM) ?_
 intro hHeld
 clear hK K
 refine tQ 14 50 ?_
 refine tQ 15 65 ?_
 refine tQ 16 66 ?_
 exact fH):p:=h
theorem fw (h:p:=by
 refine ⟨(hto.block _ (ig h.box) (far h.box (by decide))).trans h.box,(hto.block _ (ig h.fr) (far h.fr (by decide))).trans h.fr,?_,h.bel.trans (hto.below (Nat.le_trans h.le.2.2 h.bel.size) (fun y hy=>by simp at hy;omega)),h.le⟩
 refine ⟨h.own.e.iu hto (fun y hy=>?_),⟨h.own.n.u.iu hto (fun y hy=>?_),h.own.n.p.iu hto (fun y hy=>?_)⟩,h.own.k.iu hto (fun y hy=>?_),h.own.l.box hg (by decide) (by decide) (by decide) hto,h.own.un⟩
 ·
  obtain ⟨c,k⟩:=h.own.e.type y hy
  exact far k (by decide)
 ·
  obtain ⟨c,k⟩:=h.own.n.u.type y hy
  exact far k (by decide)
 ·
  obtain ⟨c,k⟩:=h.own.n.p.type y hy
  exact far k (by decide)
 obtain ⟨c,k⟩:=h.own.k.type y hy
 exact far k (by decide)):p:=h
theorem fx (h:p:=by
 refine iF (rs:=[18]) (by kernel_rfl) (by simp) ?_
 refine iz.last rfl (fun K hK=>?_)
 refine jn (by kernel_rfl) none rfl 26 (.tmp 29) (.tmp 26) rfl gS 9 rfl (.slice aE (P.lrL i x).length cE) rfl 1 rfl 34 _ hT1.1 uh (Nat.le_of_ble_eq_true rfl) (by simp [Value.cells,Value.oneCell']) ?_
 intro X2 hP
 exact fI):p:=h
theorem fy (h:p:=by
 have hB:Below w.heap.size w W0:=by rw [←eW];exact (Below.refl _ _).alloc (Nat.le_refl _) _
 exact ⟨(hB.block _ (ig kb)).trans kb,by rw [←eW];exact im _ _,ho.up hB,hB.mono hbw,hbS,hbw,hbw⟩):p:=h
theorem fA (h:p:=by
 replace hP:Put X X2 gS (S.lG p).cells 34:=hP.cast (by rw [eL];rfl)
 have HF:Hid (X2.heap[gS]?=some (.cells (S.lG p).cells 34 (0,0))∧Touch [gS] w X2):=⟨hP.blk,HS.2.trans hP.to⟩
 clear hP eL c15 c16 cA cP
 go_wp2_with fail
 go_end0
 exact ⟨⟨_,rfl⟩,HF⟩):p:=h
theorem fD (h:p:=by
 go_enter Tryz.func117,Tryz.ntmps117
 go_wp2_with fail
 go_ret
 exact ⟨by simp [h2],rfl⟩):p:=h
theorem fE (h:p:=by
 rcases HMM.out with ⟨_,h1,h2⟩ | ⟨h1,_⟩
 ·
  exact ⟨by rw [h1,hk];rfl,h2⟩
 rw [hk] at h1;cases h1):p:=h
theorem fF (h:p:=by
 clear hk
 go_enter Tryz.func86,Tryz.ntmps86
 go_wp2_with fail
 go_ret
 exact ⟨rfl,HB⟩):p:=h
theorem fG (h:p:=by
 unfold sW
 rw [if_neg (by rw [HC.2];decide),HC.1]
 exact iw.refl _):p:=h
theorem fH (h:p:=by
 refine rq1 18 (fun K hK=>?_)
 refine jn (by kernel_rfl) none rfl 30 (.tmp 8) (.tmp 65) rfl g8 0 rfl (.agg M.cells) rfl 3 rfl 30 _ HG.1 oC (Nat.le_of_ble_eq_true rfl) (by simp [Value.cells,Value.oneCell',Cnt.cells]) ?_
 intro X9 hP9
 replace hP9:Put _ X9 g8 M.cells 30:=hP9.cast rfl
 exact Fi):p:=h
theorem fI (h:p:=by
 refine ah (hK _ _) ?_
 clear hK K
 refine nh (by kernel_rfl) ?_ _
 exact F9):p:=h
def Pkt.frc (x:Pkt):Array Value:=#[.int .i64 x.k,.int .i64 x.d,.int .i64 x.s,.int .i64 x.p,.string x.b]
def sW (P P':Swg) (i:Nat) (x:Pkt) (code:Int):Swg:=if code=3 then P.jm i x none 0 else P'
def AF (w w':World) (base gS:Nat) (aF aD aL:Addr) (p code:Int) (R:Swg) (v:Value):Prop :=
 yE w' aF aD aL p code v∧∃ S2,iw R S2∧iG w' base S2∧w'.heap[gS]?=some (.cells S2.cells 34 (0,0))∧Below base w w'
theorem oC:(Tryz.prog.info? 30).map (·.size)=some 3:=by kernel_rfl
theorem BS:(Tryz.prog.info? 25).map (·.size)=some 7:=by kernel_rfl
structure AdS (w W:World) (base gS gf:Nat) (P:Swg) (x:Pkt):Prop where
 box:W.heap[gS]?=some (.cells P.cells 34 (0,0))
 fr:W.heap[gf]?=some (.cells x.frc 36 (0,0))
 own:iG W base P
 bel:Below base w W
 le:base≤gS∧base≤gf∧base≤w.heap.size
theorem AdS.up {x:Pkt} (h:AdS w W base gS gf P x) (hb:Below W.heap.size W W'):AdS w W' base gS gf P x :=
 ⟨(hb.block _ (ig h.box)).trans h.box,(hb.block _ (ig h.fr)).trans h.fr,h.own.up hb,h.bel.trans (hb.mono (Nat.le_trans h.le.2.2 h.bel.size)),h.le⟩
theorem AdS.put {P':Swg} {x:Pkt} (h:AdS w W base gS gf P x) (hP:Put W W' gS P'.cells 34) (ho:iG W base P'):AdS w W' base gS gf P' x :=
 ⟨hP.blk,(hP.to.block _ (ig h.fr) (by simpa using iT h.fr h.box (by decide))).trans h.fr,ho.off h.box hP.to,h.bel.trans (hP.to.below (Nat.le_trans h.le.2.2 h.bel.size) (fun y hy=>by simp at hy;rw [hy];exact h.le.1)),h.le⟩
theorem En (h:w.heap[g]?=some (.cells P.cells 34 (0,0))):∀ j,j<7→w.cell? ⟨g,0+j,none⟩=P.C.cells[j]?:=by
 intro j hj
 rw [Nat.zero_add,ie h]
 rcases j with _ | _ | _ | _ | _ | _ | _ | j
 ·
  rfl
 ·
  rfl
 ·
  rfl
 ·
  rfl
 ·
  rfl
 ·
  rfl
 ·
  rfl
 omega
theorem Em (h:w.heap[g]?=some (.cells P.cells 34 (0,0))):∀ j,j<3→w.cell? ⟨g,10+j,none⟩=P.N.cells[j]?:=by
 intro j hj
 rw [ie h]
 rcases j with _ | _ | _ | j
 ·
  rfl
 ·
  rfl
 ·
  rfl
 omega
theorem mu {x:Pkt} (h:w.heap[g]?=some (.cells x.frc 36 (0,0))):∀ j,j<5→w.cell? ⟨g,0+j,none⟩=x.frc[j]?:=by
 intro j hj
 rw [Nat.zero_add,ie h]
structure AdC (w W:World) (base gS gf:Nat) (P:Swg) (x:Pkt) (i:Nat) (ok:Bool) (g8:Nat) (M:Cnt):Prop where
 s:AdS w W base gS gf P x
 k:W.heap[g8]?=some (.cells M.cells 30 (0,0))
 own:∀ y∈ku M.aU M.nU,∀ j,j<P.nL→y∉(P.L j).jN
 cn:iN W base M
 al:iR (mF (lq P.N i x.p x.cl) ok) M
theorem F9 (h:p:=by
  replace hP:Put X1 X2 gS (P.jm i x aE cE).cells 34:=hP.cast rfl
  have HN:=aa (HX.put hP HL.out)
  clear hP hT1 HX HL
  go_wp2_with fail
  go_meet
  case rel=>exact ⟨aE,cE,HN⟩):p:=h
theorem AdS.Ff {x:Pkt} (h:AdS w W base gS gf P x) (hg:W.heap[g]?=some (.cells cs t (0,0))) (ht:t=30) (hto:Touch [g] W W') (hb:base≤g):AdS w W' base gS gf P x:=by
 subst ht
 have far:∀ {y:Nat} {c:Array Value} {t':TypeId},W.heap[y]?=some (.cells c t' (0,0))→t'≠30→y∉[g]:=fun k hne hy=>iT k hg hne (by simpa using hy)
 exact fw
theorem iN.Ff {M:Cnt} (h:iN W base M) (hg:W.heap[g]?=some (.cells cs 30 (0,0))) (hto:Touch [g] W W'):iN W' base M :=
 ⟨h.u.iu hto (fun y hy hz=>by obtain ⟨c,k⟩:=h.u.type y hy;exact iT k hg (by decide) (by simpa using hz)),h.p.iu hto (fun y hy hz=>by obtain ⟨c,k⟩:=h.p.type y hy;exact iT k hg (by decide) (by simpa using hz))⟩
theorem Er (h:p:=by
  have hB:=(Below.refl wc.heap.size wc).alloc (Nat.le_refl _) (.cells #[.int .i64 x.p,.iface 243 (.pointer (some aD))] 136)
  have H9:=HC.s.up hB
  refine ⟨_,rfl,.inr ⟨wc.heap.size,aD,rfl,im _ _,.inr (.inl ⟨HC3,rfl⟩)⟩,P.jm i x aE cE,?_,H9.own,H9.box,H9.bel⟩
  unfold sW
  rw [if_pos HC3.out]
  exact (iw.refl P).jm _ _ _ _ _ _):p:=h
theorem BB (k dst src:Int) (w:World):Calls Tryz.prog 117 #[.int .i64 k,.int .i64 dst,.int .i64 src] w fun e w'=>e=.returned (.bool (jj k dst src))∧w=w':=by
 unfold jj
 by_cases h1:dst=-1
 ·
  have h1':(dst == -1)=true:=by simp [h1]
  rw [if_pos h1]
  by_cases h2:k=src
  ·
   have h2':(k == src)=true:=by simp [h2]
   exact fD
  have h2':(k == src)=false:=by simp [h2]
  exact fD
 have h1':(dst == -1)=false:=by simp [h1]
 rw [if_neg h1]
 by_cases h2:k=dst
 ·
  have h2':(k == dst)=true:=by simp [h2]
  exact fD
 have h2':(k == dst)=false:=by simp [h2]
 exact fD
structure AdL (w W:World) (base gS gp:Nat) (P:Swg) (i:Nat) (x:Pkt) (dst:Int) (P3:Swg) (k:Nat) (L:Nat→Lng):Prop where
 box:W.heap[gS]?=some (.cells P3.cells 34 (0,0))
 own:iG W base { P3 with L:=L }
 pk:W.heap[gp]?=some (.cells (P.pkt i x (kY dst i k)).cells 51 (0,0))
 al:∀ j,j<P.nL→iO (P.jx i dst x k j) (L j)
 bel:Below base w W
theorem AdL.up {x:Pkt} (h:AdL w W base gS gp P i x dst P3 k L) (hb:Below W.heap.size W W') (hbw:base≤w.heap.size):AdL w W' base gS gp P i x dst P3 k L :=
 ⟨(hb.block _ (ig h.box)).trans h.box,h.own.up hb,(hb.block _ (ig h.pk)).trans h.pk,h.al,h.bel.trans (hb.mono (Nat.le_trans hbw h.bel.size))⟩
theorem sy {x:Pkt} (hb:jj (k:Int) dst i=false) (j:Nat):P.jx i dst x (k+1) j=P.jx i dst x k j:=by
 unfold Swg.jx
 by_cases e:j=k
 ·
  subst e
  rw [if_neg (fun h=>by rw [hb] at h;exact absurd h.2 (by decide)),if_neg (fun h=>absurd h.1 (Nat.lt_irrefl _))]
 by_cases h:j<k∧jj (j:Int) dst i=true
 ·
  rw [if_pos h,if_pos ⟨by omega,h.2⟩]
 rw [if_neg h,if_neg (fun h2=>h ⟨by omega,h2.2⟩)]
theorem AdL.skip {x:Pkt} (h:AdL w W base gS gp P i x dst P3 k L) (hb:jj (k:Int) dst i=false):AdL w W base gS gp P i x dst P3 (k+1) L:=by
 refine ⟨h.box,h.own,?_,fun j hj=>by rw [sy hb];exact h.al j hj,h.bel⟩
 have e:kY dst i (k+1)=kY dst i k:=by show kY dst i k+_=_;rw [if_neg (by rw [hb];decide),Nat.add_zero]
 rw [e]
 exact h.pk
theorem AdL.next {x:Pkt} (h:AdL w W base gS gp P i x dst P3 k L) (hb:jj (k:Int) dst i=true) (hk:k<P.nL) (e3:P3.nL=P.nL) (ek:P3.aK=P.aK) (eL:P3.aL=some ⟨gL,0,none⟩) (hbw:base≤w.heap.size) (hgp:base≤gp) (hgk:gp∉iI P.aK) (kL:W.heap[gL]?=some (.cells cur 47 (0,0)))
  (kP:W'.heap[gp]?=some (.cells (P.pkt i x (kY dst i k)).more.cells 51 (0,0))) (hA:iO ((L k).wait x.p P.nx x.cl) l2) (hn:Es W W' base gL gp (k*8) cur (L k) l2):AdL w W' base gS gp P i x dst P3 (k+1) (fun j=>if j=k then l2 else L j):=by
 have hk3:k<({ P3 with L:=L }:Swg).nL:=by show k<P3.nL;omega
 have ho:=h.own.lane (gp:=gp) hk3 eL kL h.pk (by show gp∉iI P3.aK;rw [ek];exact hgk) hn
 obtain ⟨T,hto,hT⟩:=hn.hit
 have oi:=h.own.l.ls k hk3
 refine ⟨(hto.block _ (ig h.box) (fun hx=>?_)).trans h.box,ho,?_,fun j hj=>?_,h.bel.trans (hto.below (Nat.le_trans hbw h.bel.size) (fun y hy=>?_))⟩
 ·
  rcases hT gS hx with e | e | e | e
  ·
   exact iT h.box kL (by decide) e
  ·
   exact iT h.box h.pk (by decide) e
  ·
   obtain ⟨c2,k2⟩:=oi.type2 gS e
   exact iT h.box k2 (by decide) rfl
  obtain ⟨c2,k2⟩:=oi.xL gS e
  exact iT h.box k2 (by decide) rfl
 ·
  have e:kY dst i (k+1)=kY dst i k+1:=by show kY dst i k+_=_;rw [if_pos hb]
  rw [e]
  exact kP
 ·
  have h9:=h.al j hj
  show iO (P.jx i dst x (k+1) j) (if j=k then l2 else L j)
  by_cases e:j=k
  ·
   subst e
   rw [if_pos rfl]
   unfold Swg.jx at h9 ⊢
   rw [if_neg (fun h=>absurd h.1 (Nat.lt_irrefl _))] at h9
   rw [if_pos ⟨by omega,hb⟩]
   exact (Lng.qw h9 _ _ _).trans hA
  rw [if_neg e]
  unfold Swg.jx at h9 ⊢
  by_cases h1:j<k∧jj (j:Int) dst i=true
  ·
   rw [if_pos h1] at h9
   rw [if_pos ⟨by omega,h1.2⟩]
   exact h9
  rw [if_neg h1] at h9
  rw [if_neg (fun h2=>h1 ⟨by omega,h2.2⟩)]
  exact h9
 rcases hT y hy with e | e | e | e
 ·
  rw [e]
  have h1:P3.aL=some ⟨gL,0,none⟩:=eL
  exact (h.own.l.l.blk gL (by show gL∈iI P3.aL;rw [h1];simp [iI])).1
 ·
  rw [e];exact hgp
 ·
  exact (oi.blk y e).1
 exact (oi.Fm y e).1
theorem CB (h:p:=by
  rintro e X4 ⟨⟨v4,rfl⟩,kP4,l2,aL2,nL2⟩
  clear h4 h5 hrf
  have HN2:Hid (AdL w X4 base gS gp P i x dst P3 (k+1) (fun j=>if j=k then l2 else L j)) :=
   HL.next hb hlt (by rw [←HE3.out];rfl) (by rw [←HE3.out];rfl) (by rw [←HE3.out];exact HgL.out) hbw HPk.2.1 HPk.2.2 HKL.2.2 kP4 aL2 nL2
  clear kP4 aL2 nL2 HL HKL Hal HO3 HLe
  go_wp2_with fail
  go_roundw
  case rel=>exact ⟨k+1,_,by omega,by go_num,HN2⟩
  case measure=>simp [intOf];omega):p:=h
theorem BL:(Tryz.prog.info? 31).map (·.size)=some 1:=by kernel_rfl
theorem wH {n:Nat} {K K':Nat→Pkt} (h:∀ j,j<n→K j=K' j):oe n K=oe n K':=by
 induction n with
 | zero=>rfl
 | succ n ih=>rw [ko,ko,ih (fun j hj=>h j (by omega)),h n (by omega)]
theorem iG.FG {c:Nat} {K:Nat→Pkt} {xs:List Value} (h:iG w base P) (hk:OG 51 8 W base (some ⟨g,0,none⟩) (P.nK+1) c xs) (ht:Touch (iI P.aK) w W) (hx:oe (P.nK+1) K=xs):iG W base { P with aK:=some ⟨g,0,none⟩,nK:=P.nK+1,cK:=c,K:=K }:=by
 have far:∀ {y:Nat} {cs:Array Value} {t:TypeId},w.heap[y]?=some (.cells cs t (0,0))→t≠51→y∉iI P.aK:=fun k1 hne hy=>by
  obtain ⟨c2,k2⟩:=h.k.type _ hy
  exact iT k1 k2 hne rfl
 refine ⟨h.e.iu ht (fun y hy=>?_),⟨h.n.u.iu ht (fun y hy=>?_),h.n.p.iu ht (fun y hy=>?_)⟩,by rw [←hx] at hk;exact hk,⟨h.l.l.iu ht (fun y hy=>?_),fun j hj=>(h.l.ls j hj).kk ht (fun y hy=>?_) (fun y hy=>?_) (fun y hy=>?_),h.l.nd,h.l.td⟩,h.un⟩
 ·
  obtain ⟨cs,k⟩:=h.e.type y hy
  exact far k (by decide)
 ·
  obtain ⟨cs,k⟩:=h.n.u.type y hy
  exact far k (by decide)
 ·
  obtain ⟨cs,k⟩:=h.n.p.type y hy
  exact far k (by decide)
 ·
  obtain ⟨cs,k⟩:=h.l.l.type y hy
  exact far k (by decide)
 ·
  obtain ⟨cs,k⟩:=(h.l.ls j hj).type2 y hy
  exact far k (by decide)
 ·
  obtain ⟨cs,k⟩:=(h.l.ls j hj).u.type y hy
  exact far k (by decide)
 obtain ⟨_,cs,k⟩:=(h.l.ls j hj).r.own.s.vP y hy
 exact far k (by decide)
theorem Fi (h:p:=by
  have HN:Hid (AdC w X9 base gS gf (P.jm i x aE cE) x i ok g8 M):=by
   refine ⟨HX.Ff HG.1 rfl hP9.to HG.2,hP9.blk,fun y hy j hj hz=>?_,HM9.1.Ff HG.1 hP9.to,HM9.2.2⟩
   have h1:=HM9.2.1 y hy
   have h2:=HLo j hj y hz
   omega
  have hT9:=And.intro HN.s.box HN.s.fr
  refine ah (hK _ _ hT9) ?_
  intro hHeld
  clear hK K
  refine tQ 19 9 ?_
  refine dnq ?_
  clear hP9 hT9 hHeld HX HG HM9
  go_wp2_with fail
  go_meet
  case rel=>exact ⟨g8,M,rfl,rfl,HN⟩):p:=h
theorem tx (P P':Swg) (x:Pkt) (i gS base:Nat) (code:Int) (aF aD aL:Addr) (w:World) (kb:w.heap[gS]?=some (.cells P.cells 34 (0,0))) (ho:iG w base P) (hbS:base≤gS) (hbw:base≤w.heap.size) (hok:P.Ok) (hs:P.Small) (hi:i<P.nL) (hfr:x.nR) (hv:tD w base aF aD aL) (hm:qS P P' i x code) :
  Calls Tryz.prog 87 #[.pointer (some ⟨gS,0,none⟩),.int .i64 (i:Int),.agg x.frc] w fun e w'=>∃ v,e=.returned v∧AF w w' base gS aF aD aL x.p code (sW P P' i x code) v:=by
 have HO:Hid (iG w base P∧w.heap[gS]?=some (.cells P.cells 34 (0,0))):=⟨ho,kb⟩
 have HOk:=aa hok
 have HSm:=aa hs
 have HFr:=aa hfr
 have HV0:=aa hv
 have HM:=aa hm
 obtain ⟨W0,eW⟩:∃ W0,w.alloc (.cells x.frc 36)=W0:=⟨_,rfl⟩
 have HX:Hid (AdS w W0 base gS w.heap.size P x):=fy
 have hnow:=hok.nums.now
 clear ho kb hok hs hfr hv hm
 obtain ⟨gf,eg⟩:∃ gf,w.heap.size=gf:=⟨_,rfl⟩
 go_enter Tryz.func87,Tryz.ntmps87
 go_wp2_with fail
 rw [eg] at HX
 have Heg:=aa eg
 clear eW eg
 go_cut [26] (fun s26 wc=>∃ aE cE,Hid (AdS w wc base gS gf (P.jm i x aE cE) x))
 case first =>
  refine ng (fun w'=>w'.heap[gS]?=some (.cells P.cells 34 (0,0))∧w'.heap[gf]?=some (.cells x.frc 36 (0,0))) 18 (by kernel_rfl) ?_
  replace HX:Hid (AdS w W0.drew base gS gf P x):=HX.up ((Below.refl _ _).drew)
  generalize W0.drew=V at *
  have Hcs:Hid (∀ wx:World,wx.heap[gS]?=some (.cells P.cells 34 (0,0))∧wx.heap[gf]?=some (.cells x.frc 36 (0,0))→wx.cell? ⟨gS,9,none⟩=some (.slice P.aE P.nE P.cE)∧wx.cell? ⟨gf,2,none⟩=some (.int .i64 x.s)∧wx.cell? ⟨gS,7,none⟩=some (.int .i64 P.now)):=fun wx h=>⟨ie h.1 9,ie h.2 2,ie h.1 7⟩
  have hT0:=And.intro HX.box HX.fr
  refine tG 0 13 hT0 ?_
  refine tG 1 14 hT0 ?_
  refine tG 2 15 hT0 ?_
  refine tG 3 16 hT0 ?_
  refine tGX 4 17 hT0 ?_
  refine tG 5 18 hT0 ?_
  refine tGX 6 19 hT0 ?_
  refine tG 7 20 hT0 ?_
  refine tG 8 21 hT0 ?_
  refine tG 9 22 hT0 ?_
  refine tG 10 23 hT0 ?_
  refine tGX 11 24 hT0 ?_
  refine iF (rs:=[12]) (by kernel_rfl) (by simp) ?_
  refine iz.cons rfl (fun K hK=>?_) iz.nil
  go_simp
  refine (wZ P.aE P.nE P.cE P.e x.s (i:Int) P.now (P.lrL i x) true _ (by have:=HSm.e;unfold maxLen;omega) HX.own.g.e.g.DB (by have:=qi HFr.out;omega) (by have:=qi HFr.out;omega) ⟨fun _ _=>⟨rfl,rfl⟩,fun h=>absurd ⟨HOk.seen.1,HOk.lrn hi HFr⟩ h⟩).mono ?_
  rintro e X1 ⟨v,rfl,oA,hb1⟩
  obtain ⟨aE,cE,rfl,og⟩:=oA.ogW
  have hle1:base≤V.heap.size:=Nat.le_trans hbw HX.bel.size
  have HL:=aa ((HX.own.up hb1).jm (og.mono hle1))
  replace HX:=aa (HX.up hb1)
  have hT1:=And.intro HX.box HX.fr
  clear oA og hb1 hT0 hle1
  go_wp2_with fail
  refine hK _ _ hT1 ?_
  clear hK K
  try simp only [Act.put,PZ]
  refine tG 13 12 hT1 ?_
  refine tG 14 26 hT1 ?_
  refine iF (rs:=[15,16]) (by kernel_rfl) (by simp) ?_
  refine iz.cons rfl (fun K hK=>?_) (iz.cons rfl (fun K hK=>?_) iz.nil)
  ·
   go_simp
   refine hK _ _ hT1 ?_
   clear hK K
   try simp only [Act.put,PZ]
   refine iF (rs:=[16]) (by kernel_rfl) (by simp) ?_
   refine iz.cons rfl (fun K hK=>?_) iz.nil
   go_simp
   refine hK _ _ hT1 ?_
   clear hK K
   try simp only [Act.put,PZ]
   refine tG 17 29 hT1 ?_
   exact fx
  go_simp
  refine hK _ _ hT1 ?_
  clear hK K
  try simp only [Act.put,PZ]
  refine tG 17 29 hT1 ?_
  refine iF (rs:=[15,18]) (by kernel_rfl) (by simp) ?_
  refine iz.cons rfl (fun K hK=>?_) (iz.last rfl (fun K hK=>?_))
  ·
   go_simp
   refine hK _ _ hT1 ?_
   clear hK K
   try simp only [Act.put,PZ]
   exact fx
  refine jn (by kernel_rfl) none rfl 26 (.tmp 29) (.tmp 26) rfl gS 9 rfl (.slice aE (P.lrL i x).length cE) rfl 1 rfl 34 _ hT1.1 uh (Nat.le_of_ble_eq_true rfl) (by simp [Value.cells,Value.oneCell']) ?_
  intro X2 hP
  refine ah (hK _ _) ?_
  clear hK K
  refine iF (rs:=[15]) (by kernel_rfl) (by simp) ?_
  refine iz.late rfl (by kernel_rfl) (fun K hK=>?_)
  go_simp
  exact fI
 clear HX HO
 obtain ⟨aE,cE,HX⟩:=hcut
 go_wp2_with fail
 refine wp_region_held_drew (S:=fun w'=>w'.heap[gS]?=some (.cells (P.jm i x aE cE).cells 34 (0,0))∧w'.heap[gf]?=some (.cells x.frc 36 (0,0))) (by kernel_rfl) (by have h9:=HX.up ((Below.refl _ _).drew);exact ⟨h9.box,h9.fr⟩) (fun hHeld=>?_)
 replace HX:Hid (AdS w wc.drew base gS gf (P.jm i x aE cE) x):=HX.up ((Below.refl _ _).drew)
 generalize wc.drew=V at *
 have Hcs:Hid (∀ wx:World,wx.heap[gS]?=some (.cells (P.jm i x aE cE).cells 34 (0,0))∧wx.heap[gf]?=some (.cells x.frc 36 (0,0))→wx.cell? ⟨gS,9,none⟩=some (.slice aE (P.lrL i x).length cE)∧wx.cell? ⟨gf,1,none⟩=some (.int .i64 x.d)∧wx.cell? ⟨gS,7,none⟩=some (.int .i64 P.now)):=fun wx h=>⟨ie h.1 9,ie h.2 1,ie h.1 7⟩
 refine tQ 0 30 ?_
 refine tQ 1 31 ?_
 refine tQ 2 32 ?_
 refine tXq 3 33 ?_
 refine tQ 4 34 ?_
 refine tXq 5 35 ?_
 refine tQ 6 36 ?_
 refine tQ 7 37 ?_
 refine tQ 8 38 ?_
 refine tXq 9 39 ?_
 refine rq1 10 (fun K hK=>?_)
 go_simp
 refine (pE aE (P.lrL i x).length cE (fun j=>(P.lrL i x).getD j default) x.d P.now (P.toP i x) _ (by have:=(HOk.Dl hi HFr).1;unfold maxLen;omega) HX.own.g.e.g.DB (by have:=qi HFr.out;omega) (by have:=qi HFr.out;omega) (HOk.toR hi HFr)).mono ?_
 rintro e X2 ⟨rfl,hb2⟩
 replace HX:=aa (HX.up hb2)
 have hT2:=And.intro HX.box HX.fr
 clear hb2
 go_wp2_with fail
 refine ah (hK _ _ hT2) ?_
 intro hHeld
 clear hK K
 refine tQ 11 7 ?_
 refine dnq ?_
 clear hT2 hHeld Hcs
 obtain ⟨dst,ed⟩:∃ dst,P.toP i x=dst:=⟨_,rfl⟩
 have HD:=aa ed
 rw [ed]
 clear ed
 have c2:X2.cell? ⟨2,0,none⟩=some (.iface 243 (.pointer (some aL))):=(HV0.up HX.bel).l
 have c3:X2.cell? ⟨gf,3,none⟩=some (.int .i64 x.p):=ie HX.fr 3
 by_cases hto:dst=(i:Int)
 ·
  have hto':(dst == (i:Int))=true:=by simp [hto]
  have HC:Hid (code=4∧P'=P.jm i x none 0):=by
   rcases HM.out with ⟨h1,h2,h3⟩ | ⟨h1,_⟩ | ⟨h1,_⟩
   ·
    exact ⟨h3,h2⟩
   ·
    exact absurd (HD.trans hto) h1
   exact absurd (HD.trans hto) h1
  clear hto
  go_wp2_with fail
  go_ret
  have hB:=(Below.refl X2.heap.size X2).alloc (Nat.le_refl _) (.cells #[.int .i64 x.p,.iface 243 (.pointer (some aL))] 136)
  have H9:=HX.up hB
  refine ⟨_,rfl,.inr ⟨X2.heap.size,aL,rfl,im _ _,.inr (.inr ⟨HC.1,rfl⟩)⟩,P.jm i x aE cE,?_,H9.own,H9.box,H9.bel⟩
  unfold sW
  rw [if_neg (by rw [HC.1];decide),HC.2]
  exact (iw.refl P).jm _ _ _ _ _ _
 have hto':(dst == (i:Int))=false:=by simp [hto]
 have HT:=aa hto
 clear hto
 go_wp2_with fail
 clear c2 c3 hto'
 obtain ⟨ok,hok⟩:=oo (Cnt.Ok P.C (lq P.N i x.p x.cl))
 have HOA:Hid (ok=true↔yn P.C P.N i x.p x.cl∧Cnt.Ok P.C (lq P.N i x.p x.cl)):=by
  have hf:yn P.C P.N i x.p x.cl:=⟨HOk.n,⟨by omega,by have:=HOk.nl;omega⟩,HFr.pr,HFr.cl⟩
  rw [Hid,hok]
  exact ⟨fun h=>⟨hf,h⟩,fun h=>h.2⟩
 have HOB:=aa hok
 clear hok
 go_cut [8,9] (fun s8 s9 wc=>∃ g8 M,s8=.pointer (some ⟨g8,0,none⟩)∧s9=.bool ok∧Hid (AdC w wc base gS gf (P.jm i x aE cE) x i ok g8 M))
 case first =>
  refine wp_region_held_drew (S:=fun w'=>w'.heap[gS]?=some (.cells (P.jm i x aE cE).cells 34 (0,0))∧w'.heap[gf]?=some (.cells x.frc 36 (0,0))) (by kernel_rfl) (by have h9:=HX.up ((Below.refl _ _).drew);exact ⟨h9.box,h9.fr⟩) (fun hHeld=>?_)
  replace HX:Hid (AdS w X2.drew base gS gf (P.jm i x aE cE) x):=HX.up ((Below.refl _ _).drew)
  generalize X2.drew=V5 at *
  have HLo:Hid (∀ j,j<P.nL→∀ y∈(P.L j).jN,y<V5.heap.size):=fun j hj y hy=>((HX.own.l.ls j hj).blk y hy).2
  have hle5:base≤V5.heap.size:=Nat.le_trans hbw HX.bel.size
  have Hcs:Hid (∀ wx:World,wx.heap[gS]?=some (.cells (P.jm i x aE cE).cells 34 (0,0))∧wx.heap[gf]?=some (.cells x.frc 36 (0,0))→wx.cell? ⟨gf,3,none⟩=some (.int .i64 x.p)):=fun wx h=>ie h.2 3
  refine tQ 0 51 ?_
  refine tQ 1 52 ?_
  refine tQ 2 53 ?_
  refine tC 3 54 (v:=.agg P.C.cells) (fun wx hSw=>jg 25 7 _ Tryz.underlying25 rfl BS (.tmp 53) rfl gS 0 rfl P.C.cells rfl (En (P:=P.jm i x aE cE) hSw.1)) ?_
  try simp only [Act.put,PZ]
  refine tQ 4 55 ?_
  refine tQ 5 56 ?_
  refine tQ 6 57 ?_
  refine tC 7 58 (v:=.agg P.N.cells) (fun wx hSw=>jg 30 3 _ Tryz.underlying30 rfl oC (.tmp 57) rfl gS 10 rfl P.N.cells rfl (Em (P:=P.jm i x aE cE) hSw.1)) ?_
  try simp only [Act.put,PZ]
  refine tQ 8 59 ?_
  refine tQ 9 60 ?_
  refine tXq 10 61 ?_
  refine tC 11 62 (v:=.agg x.frc) (fun wx hSw=>jg 36 5 _ Tryz.underlying36 rfl jC (.tmp 5) rfl gf 0 rfl x.frc rfl (mu hSw.2)) ?_
  try simp only [Act.put,PZ]
  refine rq2 12 17 (fun K hK=>?_) (fun K hK=>?_)
  ·
   go_simp
   unfold Pkt.frc
   refine (kJ x.k x.d x.s x.p x.b _ (by have:=HFr.le;unfold maxLen;omega)).mono ?_
   rintro e XC ⟨rfl,hbC⟩
   rw [Fc HFr.out]
   replace HX:=aa (HX.up hbC)
   have hzC:=hbC.size
   have hTC:=And.intro HX.box HX.fr
   clear hbC
   go_wp2_with fail
   refine ah (hK _ _ hTC) ?_
   intro hHeld
   clear hK K
   refine rq2 13 17 (fun K hK=>?_) (fun K hK=>?_)
   ·
    go_simp
    refine (qg P.C P.N (i:Int) x.p x.cl _ HSm.n.fit HX.own.n.rd ok HOA).mono ?_
    rintro e XM ⟨M,rfl,oM,hbM,aM⟩
    replace HX:=aa (HX.up hbM)
    have hTM:=And.intro HX.box HX.fr
    have HM9:Hid (iN XM base M∧(∀ y∈ku M.aU M.nU,V5.heap.size≤y)∧iR (mF (lq P.N i x.p x.cl) ok) M):=⟨oM.mono (by omega),fun y hy=>by have:=(oM.u.blk y hy).1;omega,aM⟩
    clear oM aM hTC
    go_wp2_with fail
    refine ah (hK _ _ hTM) ?_
    intro hHeld
    clear hK K
    refine tQ 14 50 ?_
    refine tQ 15 65 ?_
    refine tQ 16 66 ?_
    refine rq1 17 (fun K hK=>?_)
    go_simp
    have hbA:=(Below.refl XM.heap.size XM).alloc (Nat.le_refl _) (.cells ag 30)
    have hzM:=hbM.size
    have HG:Hid ((XM.alloc (.cells ag 30)).heap[XM.heap.size]?=some (.cells ag 30 (0,0))∧base≤XM.heap.size):=⟨im _ _,by omega⟩
    replace HX:=aa (HX.up hbA)
    replace HM9:Hid (iN (XM.alloc (.cells ag 30)) base M∧(∀ y∈ku M.aU M.nU,V5.heap.size≤y)∧iR (mF (lq P.N i x.p x.cl) ok) M):=⟨HM9.1.up hbA,HM9.2⟩
    have hTA:=And.intro HX.box HX.fr
    clear hbA hTM hbM hzM
    refine ah (hK _ _ hTA) ?_
    intro hHeld
    clear hK K
    generalize XM.heap.size=g8 at *
    generalize XM.alloc (.cells ag 30)=XA at *
    exact fH
   go_simp
   have hbA:=(Below.refl XC.heap.size XC).alloc (Nat.le_refl _) (.cells ag 30)
   have HG:Hid ((XC.alloc (.cells ag 30)).heap[XC.heap.size]?=some (.cells ag 30 (0,0))∧base≤XC.heap.size):=⟨im _ _,by omega⟩
   replace HX:=aa (HX.up hbA)
   have hzA:=hbA.size
   have hTA:=And.intro HX.box HX.fr
   clear hbA
   refine ah (hK _ _ hTA) ?_
   intro hHeld
   clear hK K
   generalize XC.heap.size=g8 at *
   generalize XC.alloc (.cells ag 30)=XA at *
   exact fv
  go_simp
  have hbA:=(Below.refl V5.heap.size V5).alloc (Nat.le_refl _) (.cells ag 30)
  obtain ⟨XA,eXA⟩:∃ XA,V5.alloc (.cells ag 30)=XA:=⟨_,rfl⟩
  obtain ⟨g8,eg8⟩:∃ g8,V5.heap.size=g8:=⟨_,rfl⟩
  have HG:Hid (XA.heap[g8]?=some (.cells ag 30 (0,0))∧base≤g8):=by rw [←eXA,←eg8];exact ⟨im _ _,hle5⟩
  rw [eXA] at hbA ⊢
  replace HX:=aa (HX.up hbA)
  have hzA:=hbA.size
  have hTA:=And.intro HX.box HX.fr
  have hge:g8≤XA.heap.size:=by omega
  clear hbA eXA
  rw [eg8]
  refine ah (hK _ _ hTA) ?_
  intro hHeld
  clear hK K
  refine rq1 12 (fun K hK=>?_)
  go_simp
  unfold Pkt.frc
  refine (kJ x.k x.d x.s x.p x.b _ (by have:=HFr.le;unfold maxLen;omega)).mono ?_
  rintro e XC ⟨rfl,hbC⟩
  rw [Fc HFr.out]
  replace HX:=aa (HX.up hbC)
  have hzC:=hbC.size
  have hTC:=And.intro HX.box HX.fr
  replace HG:Hid (XC.heap[g8]?=some (.cells ag 30 (0,0))∧base≤g8):=⟨(hbC.block _ (ig HG.1)).trans HG.1,HG.2⟩
  clear hbC
  go_wp2_with fail
  refine ah (hK _ _ hTC) ?_
  intro hHeld
  clear hK K
  exact fv
 clear HX
 obtain ⟨g8,M,rfl,rfl,HC⟩:=hcut
 have c8:wc.cell? ⟨gS,8,none⟩=some (.int .i64 P.nx):=ie HC.s.box 8
 have c1:wc.cell? ⟨1,0,none⟩=some (.iface 243 (.pointer (some aD))):=(HV0.up HC.s.bel).d
 have c3:wc.cell? ⟨gf,3,none⟩=some (.int .i64 x.p):=ie HC.s.fr 3
 by_cases hdrop:ok=true∧P.nx≠1000000000
 rotate_left
 ·
  have HC3:Hid (code=3):=by
   rcases HM.out with ⟨h1,_⟩ | ⟨_,_,_,h4⟩ | ⟨_,h2,h3,_⟩
   ·
    exact absurd (HD.symm.trans h1) HT
   ·
    exact h4
   exact absurd ⟨HOB.2 h2,h3⟩ hdrop
  cases ok
  ·
   go_wp2_with fail
   go_ret
   exact Er
  have hnx:P.nx=1000000000:=by
   by_cases h:P.nx=1000000000
   ·
    exact h
   exact absurd ⟨rfl,h⟩ hdrop
  have hnx':(P.nx == 1000000000)=true:=by simp [hnx]
  clear hnx hdrop
  go_wp2_with fail
  go_ret
  exact Er
 obtain ⟨rfl,hnx⟩:=hdrop
 have HN:Hid (code=0∧P'=(P.jm i x none 0).waits i x dst):=by
  rcases HM.out with ⟨h1,_⟩ | ⟨_,h2,_⟩ | ⟨_,_,_,h4,h5⟩
  ·
   exact absurd (HD.symm.trans h1) HT
  ·
   exact absurd ⟨HOB.1 rfl,hnx⟩ h2
  exact ⟨h5,by rw [h4,HD.out]⟩
 have hnx':(P.nx == 1000000000)=false:=by simp [hnx]
 have hnx1:=HOk.nums.nx
 have hw8:IntKind.i64.wrap (P.nx+1)=P.nx+1:=jS _ (by omega) (by omega)
 have HLd:Hid (∀ j,j<3→wc.cell? ⟨g8,0+j,none⟩=M.cells[j]?):=fun j _=>by rw [Nat.zero_add];exact ie HC.k j
 have HBx:=aa HC.s.box
 clear c1 c3
 go_wp2_with (first | refine ir rfl 30 3 _ Tryz.underlying30 rfl oC (.tmp 8) rfl g8 0 rfl M.cells rfl HLd.out ?_ | refine iq rfl 30 (.tmp 85) (.tmp 83) rfl gS 10 rfl (.agg M.cells) rfl 3 rfl 34 _ HBx oC (Nat.le_of_ble_eq_true rfl) (by simp [Value.cells,Value.oneCell',Cnt.cells]) ?_)
 intro X0 hP
 clear c8 HLd HBx hnx'
 obtain ⟨P2,eP2⟩:∃ P2,({ P.jm i x aE cE with N:=M }:Swg)=P2:=⟨_,rfl⟩
 replace hP:Put wc X0 gS P2.cells 34:=hP.cast (by rw [←eP2];rfl)
 have HX2:Hid (AdS w X0 base gS gf P2 x):=by
  refine HC.s.put hP ?_
  rw [←eP2]
  exact ⟨HC.s.own.e,HC.cn,HC.s.own.k,HC.s.own.l,fun y hy hz=>by
   simp only [List.mem_flatMap,List.mem_range] at hz
   obtain ⟨j,hj,hz⟩:=hz
   exact HC.own y hy j hj hz⟩
 have HAM:=aa HC.al
 have HE2:=aa eP2
 have HC8:Hid (P2.cells[8]?=some (.int .i64 P.nx)):=by rw [←eP2];rfl
 clear hP HC eP2
 go_wp2_with fail
 refine wp_region_held_drew (S:=fun w'=>w'.heap[gS]?=some (.cells P2.cells 34 (0,0))∧w'.heap[gf]?=some (.cells x.frc 36 (0,0))) (by kernel_rfl) (by have h9:=HX2.up ((Below.refl _ _).drew);exact ⟨h9.box,h9.fr⟩) (fun hHeld=>?_)
 replace HX2:Hid (AdS w X0.drew base gS gf P2 x):=HX2.up ((Below.refl _ _).drew)
 generalize X0.drew=V9 at *
 have Hcs:Hid (∀ wx:World,wx.heap[gS]?=some (.cells P2.cells 34 (0,0))∧wx.heap[gf]?=some (.cells x.frc 36 (0,0))→wx.cell? ⟨gS,8,none⟩=some (.int .i64 P.nx)):=fun wx h=>(ie h.1 8).trans HC8.out
 refine tQ 0 86 ?_
 refine tQ 1 87 ?_
 refine tQ 2 88 ?_
 refine tXq 3 89 ?_
 refine tQ 4 90 ?_
 refine tC 5 91 (v:=.agg x.frc) (fun wx hSw=>jg 36 5 _ Tryz.underlying36 rfl jC (.tmp 5) rfl gf 0 rfl x.frc rfl (mu hSw.2)) ?_
 try simp only [Act.put,PZ]
 unfold Pkt.frc
 refine tQ 6 92 ?_
 refine rq1 7 (fun K hK=>?_)
 go_simp
 have hbA:=(Below.refl V9.heap.size V9).alloc (Nat.le_refl _) (.cells #[.int .i64 P.nx,.int .i64 (i:Int),.int .i64 0,.int .i64 x.k,.int .i64 x.d,.int .i64 x.s,.int .i64 x.p,.string x.b] 51)
 obtain ⟨X1,eX1⟩:∃ X1,V9.alloc (.cells #[.int .i64 P.nx,.int .i64 (i:Int),.int .i64 0,.int .i64 x.k,.int .i64 x.d,.int .i64 x.s,.int .i64 x.p,.string x.b] 51)=X1:=⟨_,rfl⟩
 obtain ⟨gp,egp⟩:∃ gp,V9.heap.size=gp:=⟨_,rfl⟩
 have HPk:Hid (X1.heap[gp]?=some (.cells (P.pkt i x 0).cells 51 (0,0))∧base≤gp∧gp∉iI P.aK):=by
  refine ⟨by rw [←eX1,←egp];exact im _ _,by rw [←egp];exact Nat.le_trans hbw HX2.bel.size,fun hz=>?_⟩
  have h1:=(HX2.own.k.blk gp (by rw [←HE2.out];exact hz)).2
  omega
 rw [eX1] at hbA ⊢
 rw [egp]
 replace HX2:=aa (HX2.up hbA)
 have hTA:=And.intro HX2.box HX2.fr
 clear hbA eX1 egp
 refine ah (hK _ _ hTA) ?_
 intro hHeld
 clear hK K
 refine tQ 8 10 ?_
 refine dnq ?_
 clear hTA hHeld Hcs
 have c8:X1.cell? ⟨gS,8,none⟩=some (.int .i64 P.nx):=(ie HX2.box 8).trans HC8.out
 have HBx:=aa HX2.box
 go_wp2_with (refine iq rfl 2 (.tmp 100) (.tmp 98) rfl gS 8 rfl (.int .i64 (P.nx+1)) rfl 1 rfl 34 _ HBx po (Nat.le_of_ble_eq_true rfl) (by simp [Value.cells,Value.oneCell']) ?_)
 intro X3 hP
 obtain ⟨P3,eP3⟩:∃ P3,({ P.jm i x aE cE with N:=M,nx:=P.nx+1 }:Swg)=P3:=⟨_,rfl⟩
 replace hP:Put X1 X3 gS P3.cells 34:=hP.cast (by rw [←eP3,←HE2.out];rfl)
 have hgpS:gp≠gS:=iT HPk.1 HBx (by decide)
 have HL0:Hid (AdL w X3 base gS gp P i x dst P3 0 P.L):=by
  have h9:iG X1 base P3:=by
   have h8:=HX2.own
   rw [←HE2.out] at h8
   rw [←eP3]
   exact ⟨h8.e,h8.n,h8.k,h8.l,h8.un⟩
  have h7:=HX2.put hP h9
  refine ⟨h7.box,?_,(hP.to.block gp (ig HPk.1) (by simpa using hgpS)).trans HPk.1,fun j hj=>?_,h7.bel⟩
  ·
   have h6:=h7.own
   rw [←eP3] at h6 ⊢
   exact h6
  unfold Swg.jx
  rw [if_neg (fun h=>absurd h.1 (Nat.not_lt_zero _))]
  exact iO.refl _
 have HE3:=aa eP3
 have HC14:Hid (P3.cells[14]?=some (.slice P.aL P.nL P.cL)∧P3.cells[13]?=some (.slice P.aK P.nK P.cK)):=by rw [←eP3];exact ⟨rfl,rfl⟩
 have hnL:0<P.nL:=by omega
 have hnL2:=HSm.l
 obtain ⟨gL,hgL⟩:∃ gL,P.aL=some ⟨gL,0,none⟩:=by
  have h9:=HL0.own
  rw [←HE3.out] at h9
  obtain ⟨gL,_,e,_⟩:=h9.l.at hnL
  exact ⟨gL,e⟩
 have HgL:=aa hgL
 clear hP c8 HBx HX2 HC8 HE2 eP3 hgpS hnx1 hw8
 have c14:X3.cell? ⟨gS,14,none⟩=some (.slice (some ⟨gL,0,none⟩) P.nL P.cL):=by rw [←hgL];exact (ie HL0.box 14).trans HC14.1
 clear hgL
 go_wp2_with fail
 clear c14
 go_loopw [106] (fun s wr=>∃ (k:Nat) (L:Nat→Lng),k≤P.nL∧s=.int .i64 k∧Hid (AdL w wr base gS gp P i x dst P3 k L)) (fun s _=>P.nL-(intOf s).toNat)
 case atStart=>exact ⟨0,P.L,Nat.zero_le _,rfl,HL0⟩
 clear HL0
 obtain ⟨k,L,hk,rfl,HL⟩:=hrel
 by_cases hlt:k<P.nL
 ·
  have hlt':(k:Int)<P.nL:=by omega
  go_wp2_with fail
  refine (BB (k:Int) dst (i:Int) _).mono ?_
  rintro e w' ⟨rfl,rfl⟩
  cases hb:jj (k:Int) dst (i:Int)
  ·
   have HN2:=aa (HL.skip hb)
   go_wp2_with fail
   go_roundw
   case rel=>exact ⟨k+1,L,by omega,by go_num,HN2⟩
   case measure=>simp [intOf];omega
  have c14:wr.cell? ⟨gS,14,none⟩=some (.slice (some ⟨gL,0,none⟩) P.nL P.cL):=by rw [←HgL.out];exact (ie HL.box 14).trans HC14.1
  have HO3:Hid (kF wr base (some ⟨gL,0,none⟩) P.nL P.cL L):=by
   have h9:=HL.own
   rw [←HE3.out] at h9
   have h8:kF wr base P.aL P.nL P.cL L:=h9.l
   rw [HgL.out] at h8
   exact h8
  obtain ⟨gL',cur,eg,hgb,kL,zL,lL,_⟩:=HO3.at hnL
  cases eg
  have HKL:Hid (wr.heap[gL]?=some (.cells (lay cur (k*8) (L k).cells) 47 (0,0))∧k*8+8≤cur.size∧wr.heap[gL]?=some (.cells cur 47 (0,0))):=⟨by rw [lL k hlt];exact kL,by omega,kL⟩
  have Hal:Hid (L k=L k∧iO (P.L k) (L k)):=⟨rfl,by
   have h9:=HL.al k hlt
   unfold Swg.jx at h9
   rw [if_neg (fun h=>absurd h.1 (Nat.lt_irrefl _))] at h9
   exact h9⟩
  have HLe:=aa (Nat.le_trans hbw HL.bel.size)
  clear kL zL lL hgb
  go_wp2_with fail
  clear c14
  have hrf:=yo dst (i:Int) k
  have h4:=HOk.n.c.num.p
  have h5:=HOk.nl
  by_cases hp2:x.p=2
  ·
   have HP2:=aa hp2
   clear hp2
   refine (ux (L k) (P.pkt i x (kY dst i k)) gL (k*8) gp base cur _ HKL.2.1 HKL.1 HL.pk HP2 ⟨by show (0:Int)≤((kY dst i k:Nat):Int);omega,by show ((kY dst i k:Nat):Int)≤1000;omega⟩ (HO3.ls k hlt) HLe (by rw [Hal.2.nT];have:=(HOk.l k hlt).t.le HOk.k;have:=HOk.k.le;omega)).mono ?_
   exact CB
  have hpr:=HFr.pr
  obtain ⟨c,hc⟩:∃ c:Nat,x.p=(c:Int):=⟨x.p.toNat,by omega⟩
  obtain ⟨hc2,hwp,hul⟩:=HOk.room hlt HFr hc hp2
  have hA:=Hal.2
  have HCc:Hid (x.p=(c:Int)∧x.p≠2):=⟨hc,hp2⟩
  clear hc hp2
  refine (vU (L k) (P.pkt i x (kY dst i k)) gL (k*8) gp base c cur _ HKL.2.1 HKL.1 HL.pk HCc.1 HCc.2 (by rw [hA.nU,(HOk.l k hlt).u];exact hc2) (by rw [hA.nU,(HOk.l k hlt).u];omega) ⟨by show (0:Int)≤((kY dst i k:Nat):Int);omega,by show ((kY dst i k:Nat):Int)≤1000;omega⟩ HFr (HO3.ls k hlt) HLe (by rw [hA.l];omega) (hA.small (HSm.ls k hlt)).r ⟨hA.r.ok1 hwp.1,by rw [hA.r.nQ];exact hwp.2.1,hwp.2.2.1,by rw [hA.r.l];exact hwp.2.2.2⟩).mono ?_
  exact CB
 obtain rfl:k=P.nL:=by omega
 have hlt':¬ (P.nL:Int)<P.nL:=by omega
 go_wp2_with fail
 refine jc (fun w'=>w'.heap[gS]?=some (.cells P3.cells 34 (0,0))∧w'.heap[gp]?=some (.cells (P.pkt i x (kY dst i P.nL)).cells 51 (0,0))) 12 (by kernel_rfl) ?_
 replace HL:Hid (AdL w wr.drew base gS gp P i x dst P3 P.nL L):=HL.up ((Below.refl _ _).drew) hbw
 generalize wr.drew=V at *
 obtain ⟨y,ey⟩:∃ y,P.pkt i x (kY dst i P.nL)=y:=⟨_,rfl⟩
 rw [ey]
 have HPY:Hid (V.heap[gp]?=some (.cells y.cells 51 (0,0))):=by rw [←ey];exact HL.pk
 have HY:=aa ey
 have Hcs:Hid (∀ wx:World,wx.heap[gS]?=some (.cells P3.cells 34 (0,0))∧wx.heap[gp]?=some (.cells y.cells 51 (0,0))→wx.cell? ⟨gS,13,none⟩=some (.slice P.aK P.nK P.cK)):=fun wx h=>(ie h.1 13).trans HC14.2
 have hT0:=And.intro HL.box HPY.out
 clear ey
 refine tE 0 122 hT0 ?_
 refine tE 1 123 hT0 ?_
 refine tE 2 124 hT0 ?_
 refine tE 3 125 hT0 ?_
 refine tEX 4 126 hT0 ?_
 refine tE 5 127 hT0 ?_
 refine tE 6 128 hT0 ?_
 refine kE (i:=7) (some 129) (v:=.agg y.cells) (fun wx hSw=>jg 51 8 _ Tryz.underlying51 rfl sM (.tmp 128) rfl gp 0 rfl y.cells rfl (fun j hj=>by rw [Nat.zero_add];exact ie hSw.2 j)) hT0 ?_
 try simp only [Act.put,PZ]
 have HOK:Hid (OG 51 8 V base P.aK P.nK P.cK (oe P.nK P.K)):=by
  have h9:=HL.own
  rw [←HE3.out] at h9
  exact h9.k
 obtain ⟨g1,c1,Y2,hr,hu,ht,hg⟩:=lH 31 51 _ 8 72 vp Tryz.underlying31 rfl (by decide) (by decide) HOK (HSm.k) (Nat.le_trans hbw HL.bel.size) y.cells rfl (Pkt.lF y)
 have LN:y.cells=#[.int .i64 y.id,.int .i64 y.inn,.int .i64 y.refs,.int .i64 y.k,.int .i64 y.d,.int .i64 y.s,.int .i64 y.p,.string y.b]:=rfl
 rw [LN] at hr
 have hT1:(V.alloc (.cells #[.int .i64 y.id,.int .i64 y.inn,.int .i64 y.refs,.int .i64 y.k,.int .i64 y.d,.int .i64 y.s,.int .i64 y.p,.string y.b] 51)).heap[gS]?=some (.cells P3.cells 34 (0,0))∧(V.alloc (.cells #[.int .i64 y.id,.int .i64 y.inn,.int .i64 y.refs,.int .i64 y.k,.int .i64 y.d,.int .i64 y.s,.int .i64 y.p,.string y.b] 51)).heap[gp]?=some (.cells y.cells 51 (0,0)):=⟨(iH _ (ig hT0.1)).trans hT0.1,(iH _ (ig hT0.2)).trans hT0.2⟩
 have hT2:Y2.heap[gS]?=some (.cells P3.cells 34 (0,0))∧Y2.heap[gp]?=some (.cells y.cells 51 (0,0)):=⟨(ht.block gS (ig hT0.1) (HOK.lM (by decide) hT0.1)).trans hT0.1,(ht.block gp (ig hT0.2) HPk.2.2).trans hT0.2⟩
 have HA:Hid (OG 51 8 Y2 base (some ⟨g1,0,none⟩) (P.nK+1) c1 (oe P.nK P.K++y.cells.toList)∧Touch (iI P.aK) V Y2):=⟨hu,ht⟩
 have HR1:=aa hr
 clear hu ht hg hr
 rw [LN]
 clear LN
 refine il (rs:=[8]) (by kernel_rfl) (by simp) ?_
 refine ij.cons rfl (fun K hK=>?_) ij.nil
 go_simp
 refine hK _ _ hT1 ?_
 clear hK K
 try simp only [Act.put,PZ]
 clear hT1
 refine il (rs:=[9]) (by kernel_rfl) (by simp) ?_
 refine ij.cons rfl (fun K hK=>?_) ij.nil
 refine kg (by kernel_rfl) (some 131) rfl (.tmp 126) (.tmp 130) 31 _ _ _ rfl rfl rfl rfl HR1.out ?_
 refine hK _ _ hT2 ?_
 clear hK K
 try simp only [Act.put,PZ]
 clear HR1 hT0
 refine il (rs:=[10]) (by kernel_rfl) (by simp) ?_
 refine ij.cons rfl (fun K hK=>?_) ij.nil
 go_simp
 refine hK _ _ hT2 ?_
 clear hK K
 try simp only [Act.put,PZ]
 refine tE 11 133 hT2 ?_
 refine il (rs:=[12]) (by kernel_rfl) (by simp) ?_
 refine ij.last rfl (fun K hK=>?_)
 refine jn (by kernel_rfl) none rfl 31 (.tmp 133) (.tmp 131) rfl gS 13 rfl (.slice (some ⟨g1,0,none⟩) (P.nK+1) c1) rfl 1 rfl 34 _ hT2.1 BL (Nat.le_of_ble_eq_true rfl) (by simp [Value.cells,Value.oneCell']) ?_
 intro Y3 hP
 refine ah (hK _ _) ?_
 clear hK K
 refine iQ (by kernel_rfl) ?_ _
 obtain ⟨P4,eP4⟩:∃ P4,({ P3 with L:=L,aK:=some ⟨g1,0,none⟩,nK:=P.nK+1,cK:=c1,K:=fun j=>if j=P.nK then y else P.K j }:Swg)=P4:=⟨_,rfl⟩
 replace hP:Put Y2 Y3 gS P4.cells 34:=hP.cast (by rw [←eP4,←HE3.out];rfl)
 have HF:Hid (iG Y3 base P4∧Y3.heap[gS]?=some (.cells P4.cells 34 (0,0))∧Below base w Y3∧iw P' P4):=by
  have h9:=HL.own
  rw [←HE3.out] at h9
  have hpk:oe (P.nK+1) (fun j=>if j=P.nK then y else P.K j)=oe P.nK P.K++y.cells.toList:=by
   rw [ko,wH (K:=fun j=>if j=P.nK then y else P.K j) (K':=P.K) (fun j hj=>if_neg (by omega)),if_pos rfl]
  have h8:iG Y2 base P4:=by
   rw [←eP4,←HE3.out]
   exact h9.FG HA.1 HA.2 hpk
  refine ⟨h8.off hT2.1 hP.to,hP.blk,HL.bel.trans ((HA.2.below (Nat.le_trans hbw HL.bel.size) (fun z hz=>(HOK.blk z hz).1)).trans (hP.to.below (Nat.le_trans (Nat.le_trans hbw HL.bel.size) HA.2.size) (fun z hz=>by simp at hz;rw [hz];exact hbS))),?_⟩
  rw [HN.2,←eP4,←HE3.out]
  exact ⟨rfl,rfl,rfl,rfl,rfl,HAM,rfl,by rw [←HY.out];rfl,rfl,fun j hj=>HL.al j hj,rfl,rfl⟩
 clear hP eP4 hT2 HA HL HOK HPY Hcs
 go_wp2_with fail
 go_ret
 refine ⟨_,rfl,.inl ⟨HN.1,rfl⟩,P4,?_,HF.1,HF.2.1,HF.2.2.1⟩
 unfold sW
 rw [if_neg (by rw [HN.1];decide)]
 exact HF.2.2.2
theorem Ah (k d s p:Int) (b:ByteArray) (w:World) (hlim:b.size≤1048576) :
  Calls Tryz.prog 88 #[.agg #[.int .i64 k,.int .i64 d,.int .i64 s,.int .i64 p,.string b]] w fun e w'=>e=.returned (.agg #[.int .i64 k,.int .i64 d,.int .i64 s,.int .i64 p,.string b])∧Below w.heap.size w w':=by
 obtain ⟨V,eV⟩:∃ V,(w.alloc (.cells #[.int .i64 k,.int .i64 d,.int .i64 s,.int .i64 p,.string b] 144)).alloc (.cells #[.int .i64 0,.int .i64 0,.int .i64 0,.int .i64 0,.string ⟨#[]⟩] 36)=V:=⟨_,rfl⟩
 have hV:V.heap[w.heap.size+1]?=some (.cells #[.int .i64 0,.int .i64 0,.int .i64 0,.int .i64 0,.string ⟨#[]⟩] 36 (0,0))∧V.heap[w.heap.size]?=some (.cells #[.int .i64 k,.int .i64 d,.int .i64 s,.int .i64 p,.string b] 144 (0,0))∧Below w.heap.size w V∧V.heap.size=w.heap.size+2:=by
  rw [←eV]
  have e:(w.alloc (.cells #[.int .i64 k,.int .i64 d,.int .i64 s,.int .i64 p,.string b] 144)).heap.size=w.heap.size+1:=by simp
  exact ⟨by rw [←e];exact im _ _,by rw [iH _ (by omega)];exact im _ _,((Below.refl _ _).alloc (Nat.le_refl _) _).alloc (by omega) _,by simp⟩
 have HV:=aa hV
 clear hV
 have HL:Hid (∀ j,j<5→V.cell? ⟨w.heap.size,0+j,none⟩=(#[.int .i64 k,.int .i64 d,.int .i64 s,.int .i64 p,.string b]:Array Value)[j]?):=fun j _=>by rw [Nat.zero_add];exact ie HV.2.1 j
 go_enter Tryz.func88,Tryz.ntmps88
 go_wp2_with (refine ir rfl 36 5 _ Tryz.underlying36 rfl jC (.tmp 3) rfl w.heap.size 0 rfl #[.int .i64 k,.int .i64 d,.int .i64 s,.int .i64 p,.string b] rfl HL.out ?_)
 refine (qn k d s p b _ hlim).mono ?_
 rintro e w1 ⟨rfl,hb⟩
 have HC:Hid (w1.heap[w.heap.size+1]?=some (.cells #[.int .i64 0,.int .i64 0,.int .i64 0,.int .i64 0,.string ⟨#[]⟩] 36 (0,0))∧Below w.heap.size w w1):=⟨(hb.block _ (by have:=HV.2.2.2;omega)).trans HV.1,HV.2.2.1.trans (hb.mono (by have:=HV.2.2.2;omega))⟩
 clear hb
 go_wp2_with (refine iq rfl 36 (.tmp 2) (.tmp 5) rfl (w.heap.size+1) 0 rfl (.agg #[.int .i64 k,.int .i64 d,.int .i64 s,.int .i64 p,.string b]) rfl 5 rfl 36 _ HC.1 jC (Nat.le_of_ble_eq_true rfl) (by simp [Value.cells,Value.oneCell']) ?_)
 intro W hP
 replace hP:Put w1 W (w.heap.size+1) #[.int .i64 k,.int .i64 d,.int .i64 s,.int .i64 p,.string b] 36:=hP.cast rfl
 have HK:=aa hP.blk
 have HB:Hid (Below w.heap.size w W):=HC.2.trans (hP.to.below HC.2.size (fun x hx=>by simp at hx;omega))
 clear hP
 go_wp2_with fail
 exact bodyPost_ret (ll Tryz.results88 5 _ Tryz.underlying36 rfl jC _ _ (w.heap.size+1) #[.int .i64 k,.int .i64 d,.int .i64 s,.int .i64 p,.string b] rfl 36 HK.out rfl) rfl ⟨rfl,HB⟩
theorem nu (x:Pkt) (w:World) (v:Value) (hv:(x.k=2∧v=.iface 141 (.agg #[]))∨(x.k=3∧v=.iface 142 (.agg #[]))∨(x.k=1∧v=.iface 144 (.agg x.frc))) :
  Calls Tryz.prog 86 #[.agg x.frc] w fun e w'=>e=.returned v∧Below w.heap.size w w':=by
 obtain ⟨W,eW⟩:∃ W,w.alloc (.cells x.frc 36)=W:=⟨_,rfl⟩
 have HB:Hid (Below w.heap.size w W):=by rw [←eW];exact (Below.refl _ _).alloc (Nat.le_refl _) _
 have HK:Hid (W.heap[w.heap.size]?=some (.cells x.frc 36 (0,0))):=by rw [←eW];exact im _ _
 have c0:W.cell? ⟨w.heap.size,0,none⟩=some (.int .i64 x.k):=ie HK 0
 have HL:=aa (mu HK.out)
 rcases hv with ⟨hk,rfl⟩ | ⟨hk,rfl⟩ | ⟨hk,rfl⟩
 ·
  have h2:(x.k == 2)=true:=by simp [hk]
  exact fF
 ·
  have h2:(x.k == 2)=false:=by simp [hk]
  have h3:(x.k == 3)=true:=by simp [hk]
  exact fF
 have h2:(x.k == 2)=false:=by simp [hk]
 have h3:(x.k == 3)=false:=by simp [hk]
 clear hk
 go_enter Tryz.func86,Tryz.ntmps86
 go_wp2_with (refine ir rfl 36 5 _ Tryz.underlying36 rfl jC (.tmp 1) rfl w.heap.size 0 rfl #[.int .i64 x.k,.int .i64 x.d,.int .i64 x.s,.int .i64 x.p,.string x.b] rfl HL.out ?_)
 go_ret
 exact ⟨rfl,HB⟩
theorem kF.row {aL:Option Addr} {nL cL:Nat} (h:kF w base aL nL cL L) (hi:i<nL) (eL:aL=some ⟨gL,0,none⟩) (kL:w.heap[gL]?=some (.cells cur 47 (0,0))) (hb:w'.heap[gL]?=some (.cells (lay cur (i*8) l2.cells) 47 (0,0))):OG 47 8 w' base aL nL cL (vM nL fun k=>if k=i then l2 else L k):=by
 subst eL
 have hl:w.ownsRow base 47 8 (.slice (some ⟨gL,0,none⟩) nL cL) nL (vM nL L):=h.l
 show w'.ownsRow base 47 8 (.slice (some ⟨gL,0,none⟩) nL cL) nL _
 refine ⟨ny _ _,?_⟩
 rcases hl.2 with ⟨_,e⟩ | ⟨g,cap,cur',e,hg,hbk,h1,hm,hs,ht⟩
 ·
  omega
 cases e
 rw [kL] at hbk
 cases hbk
 have hsz:nL*8≤cur.size:=by rw [hs];exact Nat.mul_le_mul_right _ h1
 have hf:i*8+l2.cells.size≤cur.size:=by rw [Lng.iY];omega
 refine .inr ⟨gL,cL,_,rfl,hg,hb,h1,hm,by rw [kp hf];exact hs,?_⟩
 refine List.ext_getElem? fun j=>?_
 by_cases hj:j<nL*8
 ·
  rw [List.getElem?_take_of_lt hj,sw nL _ j hj,Array.getElem?_toList]
  have hfl:=nF (fun k=>if k=i then l2 else L k) (j / 8) (j % 8) (by omega)
  rw [show j / 8*8+j % 8=j by omega] at hfl
  rw [hfl]
  by_cases e:j / 8=i
  ·
   rw [if_pos e]
   have q:=lv hf (j % 8) (by rw [Lng.iY];omega)
   rw [show i*8+j % 8=j by omega] at q
   exact q
  rw [if_neg e]
  have hc:=rJ nL L (j / 8) (j % 8) (by omega) (by omega)
  rw [show j / 8*8+j % 8=j by omega,←ht,List.getElem?_take_of_lt hj,Array.getElem?_toList] at hc
  rw [←hc]
  rcases Nat.lt_or_ge j (i*8) with c | c
  ·
   exact ox hf j c
  exact lp hf j (by rw [Lng.iY];omega)
 rw [List.getElem?_eq_none (by rw [List.length_take];omega),List.getElem?_eq_none (by rw [ny];omega)]
theorem layB (l:Lng) (b:Bool):lay l.cells 0 #[.bool b]=({ l with st:=b }:Lng).cells:=by simp [lay,Lng.cells]
theorem iG.stop {b:Bool} (h:iG w base P) (hi:i<P.nL) (eL:P.aL=some ⟨gL,0,none⟩) (kL:w.heap[gL]?=some (.cells cur 47 (0,0))) (hP:Put w w' gL (lay cur (i*8) ({ P.L i with st:=b }:Lng).cells) 47):iG w' base (P.stop i b):=by
 have far:∀ {y:Nat} {cs:Array Value} {t:TypeId},w.heap[y]?=some (.cells cs t (0,0))→t≠47→y∉[gL]:=fun k hne hy=>iT k kL hne (by simpa using hy)
 have eb:∀ k,(if k=i then ({ P.L i with st:=b }:Lng) else P.L k).jN=(P.L k).jN:=fun k=>by
  by_cases e:k=i
  ·
   rw [if_pos e,e];rfl
  rw [if_neg e]
 have et:∀ k,(if k=i then ({ P.L i with st:=b }:Lng) else P.L k).oK=(P.L k).oK:=fun k=>by
  by_cases e:k=i
  ·
   rw [if_pos e,e];rfl
  rw [if_neg e]
 have nb:((List.range P.nL).flatMap fun k=>(if k=i then ({ P.L i with st:=b }:Lng) else P.L k).jN)=(List.range P.nL).flatMap fun k=>(P.L k).jN:=js (fun k _=>eb k)
 have nt:((List.range P.nL).flatMap fun k=>(if k=i then ({ P.L i with st:=b }:Lng) else P.L k).oK)=(List.range P.nL).flatMap fun k=>(P.L k).oK:=js (fun k _=>et k)
 refine ⟨h.e.iu hP.to (fun y hy=>?_),⟨h.n.u.iu hP.to (fun y hy=>?_),h.n.p.iu hP.to (fun y hy=>?_)⟩,h.k.iu hP.to (fun y hy=>?_),⟨h.l.row hi eL kL hP.blk,fun k hk=>?_,?_,?_⟩,fun y hy hz=>?_⟩
 ·
  obtain ⟨cs,k⟩:=h.e.type y hy
  exact far k (by decide)
 ·
  obtain ⟨cs,k⟩:=h.n.u.type y hy
  exact far k (by decide)
 ·
  obtain ⟨cs,k⟩:=h.n.p.type y hy
  exact far k (by decide)
 ·
  obtain ⟨cs,k⟩:=h.k.type y hy
  exact far k (by decide)
 ·
  show iK w' base (if k=i then ({ P.L i with st:=b }:Lng) else P.L k)
  by_cases e:k=i
  ·
   rw [if_pos e]
   have q:=(h.l.ls i hi).box kL (by decide) (by decide) hP.to
   exact ⟨q.t,q.u,q.z,q.r,q.nd,q.su⟩
  rw [if_neg e]
  exact (h.l.ls k hk).box kL (by decide) (by decide) hP.to
 ·
  show ((List.range P.nL).flatMap fun k=>(if k=i then ({ P.L i with st:=b }:Lng) else P.L k).jN).Nodup
  rw [nb]
  exact h.l.nd
 ·
  show ((List.range P.nL).flatMap fun k=>(if k=i then ({ P.L i with st:=b }:Lng) else P.L k).oK).Nodup
  rw [nt]
  exact h.l.td
 have hz':y∈(List.range P.nL).flatMap fun k=>(if k=i then ({ P.L i with st:=b }:Lng) else P.L k).jN:=hz
 rw [nb] at hz'
 exact h.un y hy hz'
theorem yj:(Tryz.prog.info? 4).map (·.size)=some 1:=by kernel_rfl
theorem BP:(Tryz.prog.info? 144).map (·.size)=some 5:=by kernel_rfl
theorem GM (w:World):(Instr.typeAssert (.iface 141 (.agg #[])) 138 141 true).run Tryz.prog w=.ok (.tuple #[.agg #[],.bool true]) w:=by kernel_rfl
theorem GL (w:World):(Instr.typeAssert (.iface 142 (.agg #[])) 138 141 true).run Tryz.prog w=.ok (.tuple #[.agg #[],.bool false]) w:=by kernel_rfl
theorem GK (w:World):(Instr.typeAssert (.iface 142 (.agg #[])) 138 142 true).run Tryz.prog w=.ok (.tuple #[.agg #[],.bool true]) w:=by kernel_rfl
theorem taD2 (v:Value) (w:World):(Instr.typeAssert (.iface 144 v) 138 141 true).run Tryz.prog w=.ok (.tuple #[.agg #[],.bool false]) w:=by kernel_rfl
theorem taD3 (v:Value) (w:World):(Instr.typeAssert (.iface 144 v) 138 142 true).run Tryz.prog w=.ok (.tuple #[.agg #[],.bool false]) w:=by kernel_rfl
theorem taDD (v:Value) (w:World):(Instr.typeAssert (.iface 144 v) 138 144 true).run Tryz.prog w=.ok (.tuple #[v,.bool true]) w:=by kernel_rfl
theorem AdS.la {x:Pkt} (h:AdS w W base gS gf P x) (hg:W.heap[g]?=some (.cells cs t (0,0))) (ht:t=144) (hto:Touch [g] W W') (hb:base≤g):AdS w W' base gS gf P x:=by
 subst ht
 have far:∀ {y:Nat} {c:Array Value} {t':TypeId},W.heap[y]?=some (.cells c t' (0,0))→t'≠144→y∉[g]:=fun k hne hy=>iT k hg hne (by simpa using hy)
 exact fw
theorem Ep (h:p:=by
  have hB:=(Below.refl X.heap.size X).alloc (Nat.le_refl _) (.cells #[.int .i64 x.p,.iface 243 (.pointer (some aF))] 136)
  have H9:=HX.up hB
  refine ⟨_,rfl,.inr ⟨X.heap.size,aF,rfl,im _ _,.inl ⟨HC.1,rfl⟩⟩,P,?_,H9.own,H9.box,H9.bel⟩
  unfold sW
  rw [if_neg (by rw [HC.1];decide),HC.2]
  exact iw.refl P):p:=h
theorem uG {l:Lng} {o:Nat} (h:lay cur o l.cells=cur) (hf:o+8≤cur.size) (b:Bool):lay cur o #[.bool b]=lay cur o ({ l with st:=b }:Lng).cells:=by
 have q:=pY (cur:=cur) (a:=l.cells) (b:=#[.bool b]) (o:=o) (k:=0) hf (by show 0+1≤8;omega)
 rw [h,Nat.add_zero,layB] at q
 exact q
theorem Aw (P P':Swg) (x:Pkt) (port:Int) (gS base:Nat) (code:Int) (aF aD aL:Addr) (w:World) (kb:w.heap[gS]?=some (.cells P.cells 34 (0,0))) (ho:iG w base P) (hbS:base≤gS) (hbw:base≤w.heap.size) (hok:P.Ok) (hs:P.Small) (hxb:x.b.size≤1048576) (hv:tD w base aF aD aL) (hm:xG P P' port x code) :
  Calls Tryz.prog 50 #[.pointer (some ⟨gS,0,none⟩),.int .i64 port,.agg x.frc] w fun e w'=>∃ v,e=.returned v∧AF w w' base gS aF aD aL x.p code (sW P P' port.toNat x code) v:=by
 have HOk:=aa hok
 have HSm:=aa hs
 have HV0:=aa hv
 have HM:=aa hm
 obtain ⟨W0,eW⟩:∃ W0,w.alloc (.cells x.frc 36)=W0:=⟨_,rfl⟩
 have HX:Hid (AdS w W0 base gS w.heap.size P x):=fy
 have hp4:=hok.n.c.num.p
 have HL1:Hid (∀ j,j<17→W0.cell? ⟨gS,0+j,none⟩=P.cells[j]?):=fun j _=>by rw [Nat.zero_add];exact ie HX.box j
 clear ho kb hok hs hv hm
 go_enter Tryz.func50,Tryz.ntmps50
 go_wp2_with (refine ir rfl 34 17 _ Tryz.underlying34 rfl iA (.tmp 11) rfl gS 0 rfl P.cells rfl HL1.out ?_)
 clear eW HL1
 obtain ⟨gf,eg⟩:∃ gf,w.heap.size=gf:=⟨_,rfl⟩
 rw [eg] at HX ⊢
 have Heg:=aa eg
 clear eg
 refine (pF P port _ (by omega) (by omega)).mono ?_
 rintro e X ⟨rfl,hbl⟩
 replace HX:=aa (HX.up hbl)
 clear hbl
 by_cases hport:0≤port∧port≤P.C.p-1
 rotate_left
 ·
  have hdec:decide (0≤port∧port≤P.C.p-1)=false:=by simp only [decide_eq_false_iff_not];exact hport
  have HC:Hid (code=2∧P'=P):=by
   rcases HM.out with ⟨h,_⟩ | ⟨_,_,h1,h2⟩ | ⟨_,_,i,rfl,hi,_⟩
   ·
    exact absurd HOk h
   ·
    exact ⟨h2,h1⟩
   have:=HOk.nl
   exact absurd (by omega) hport
  have c0:X.cell? ⟨0,0,none⟩=some (.iface 243 (.pointer (some aF))):=(HV0.up HX.bel).f
  have c3:X.cell? ⟨gf,3,none⟩=some (.int .i64 x.p):=ie HX.fr 3
  rw [hdec]
  clear hport hdec
  go_wp2_with fail
  go_ret
  exact Ep
 have hdec:decide (0≤port∧port≤P.C.p-1)=true:=by simp only [decide_eq_true_eq];exact hport
 have HPt:=aa hport
 have HL2:=aa (mu HX.fr)
 rw [hdec]
 clear hport hdec
 go_wp2_with (refine jA (by rfl) 36 5 _ Tryz.underlying36 rfl jC (.tmp 5) rfl gf 0 rfl #[.int .i64 x.k,.int .i64 x.d,.int .i64 x.s,.int .i64 x.p,.string x.b] rfl HL2.out ?_)
 clear HL2
 refine (mH x.k x.d x.s x.p x.b _ (by unfold maxLen;omega)).mono ?_
 rintro e X1 ⟨rfl,hbl⟩
 replace HX:=aa (HX.up hbl)
 clear hbl
 cases hfr:mc x.k x.d x.s x.p x.b.size
 ·
  have HC:Hid (code=2∧P'=P):=by
   rcases HM.out with ⟨h,_⟩ | ⟨_,_,h1,h2⟩ | ⟨_,h,_⟩
   ·
    exact absurd HOk h
   ·
    exact ⟨h2,h1⟩
   rw [hfr] at h;cases h
  have c0:X1.cell? ⟨0,0,none⟩=some (.iface 243 (.pointer (some aF))):=(HV0.up HX.bel).f
  have c3:X1.cell? ⟨gf,3,none⟩=some (.int .i64 x.p):=ie HX.fr 3
  clear hfr
  generalize X1=X at *
  go_wp2_with fail
  go_ret
  exact Ep
 have HFrB:=aa hfr
 obtain ⟨i,hpi,hi,hmm⟩:∃ i:Nat,port=(i:Int)∧i<P.nL∧((x.k≠1∧P'=P.stop i (decide (x.k=2))∧code=0)∨(x.k=1∧qS P P' i x code)):=by
  rcases HM.out with ⟨h,_⟩ | ⟨_,h,_⟩ | ⟨_,_,h⟩
  ·
   exact absurd HOk h
  ·
   exact absurd ⟨HPt,hfr⟩ h
  exact h
 subst hpi
 have HMM:=aa hmm
 have hk3:x.k=1∨x.k=2∨x.k=3:=by
  unfold mc at hfr
  simp only [decide_eq_true_eq] at hfr
  omega
 have hi':(i:Int)<(P.nL:Int):=by omega
 have HL2:=aa (mu HX.fr)
 clear hfr hmm HM HPt
 go_wp2_with (refine ir rfl 36 5 _ Tryz.underlying36 rfl jC (.tmp 5) rfl gf 0 rfl x.frc rfl HL2.out ?_)
 clear HL2
 rcases hk3 with hk | hk | hk
 ·
  refine (nu x _ _ (.inr (.inr ⟨hk,rfl⟩))).mono ?_
  rintro e X2 ⟨rfl,hbl⟩
  replace HX:=aa (HX.up hbl)
  have HD:Hid (qS P P' i x code):=by
   rcases HMM.out with ⟨h1,_⟩ | ⟨_,h1⟩
   ·
    exact absurd hk h1
   exact h1
  have HFr:Hid x.nR:=⟨hk,HFrB.out⟩
  clear hbl hk HMM
  have hz2:base≤X2.heap.size:=Nat.le_trans hbw HX.bel.size
  have q1:=taD2
  have q2:=taD3
  have q3:=taDD
  obtain ⟨X3,eX3⟩:∃ X3,X2.alloc (.cells #[.int .i64 0,.int .i64 0,.int .i64 0,.int .i64 0,.string ⟨#[]⟩] 144)=X3:=⟨_,rfl⟩
  replace HX:Hid (AdS w X3 base gS gf P x):=HX.up (by rw [←eX3];exact (Below.refl _ _).alloc (Nat.le_refl _) _)
  have HK3:Hid (X3.heap[X2.heap.size]?=some (.cells #[.int .i64 0,.int .i64 0,.int .i64 0,.int .i64 0,.string ⟨#[]⟩] 144 (0,0))∧base≤X2.heap.size):=⟨by rw [←eX3];exact im _ _,hz2⟩
  go_wp2_with (refine iq rfl 144 (.tmp 9) (.tmp 51) rfl X2.heap.size 0 rfl (.agg x.frc) rfl 5 rfl 144 _ HK3.1 BP (Nat.le_of_ble_eq_true rfl) (by simp [Value.cells,Value.oneCell',Pkt.frc]) ?_)
  intro X4 hP
  replace hP:Put X3 X4 X2.heap.size x.frc 144:=hP.cast rfl
  replace HX:Hid (AdS w X4 base gS gf P x):=HX.la HK3.1 rfl hP.to HK3.2
  have HLd:Hid (∀ j,j<5→X4.cell? ⟨X2.heap.size,0+j,none⟩=(#[.int .i64 x.k,.int .i64 x.d,.int .i64 x.s,.int .i64 x.p,.string x.b]:Array Value)[j]?):=fun j _=>by rw [Nat.zero_add];exact ie hP.blk j
  clear hP HK3 eX3 hz2 q1 q2 q3
  go_wp2_with (refine ir rfl 144 5 _ Tryz.underlying144 rfl BP (.tmp 9) rfl X2.heap.size 0 rfl #[.int .i64 x.k,.int .i64 x.d,.int .i64 x.s,.int .i64 x.p,.string x.b] rfl HLd.out ?_)
  clear HLd
  refine (Ah x.k x.d x.s x.p x.b _ hxb).mono ?_
  rintro e X5 ⟨rfl,hbl⟩
  replace HX:=aa (HX.up hbl)
  clear hbl
  go_wp2_with fail
  refine (tx P P' x i gS base code aF aD aL X5 HX.box HX.own hbS (Nat.le_trans hbw HX.bel.size) HOk HSm hi HFr (HV0.up HX.bel) HD).mono ?_
  rintro e X6 ⟨v,rfl,hA⟩
  have HA:Hid (AF w X6 base gS aF aD aL x.p code (sW P P' i x code) v):=by
   obtain ⟨h1,S2,h2,h3,h4,h5⟩:=hA
   exact ⟨h1,S2,h2,h3,h4,HX.bel.trans h5⟩
  clear hA
  go_wp2_with fail
  go_ret
  refine ⟨v,rfl,?_⟩
  rw [Int.toNat_natCast]
  exact HA
 ·
  refine (nu x _ _ (.inl ⟨hk,rfl⟩)).mono ?_
  rintro e X2 ⟨rfl,hbl⟩
  replace HX:=aa (HX.up hbl)
  have HC:Hid (P'=P.stop i true∧code=0):=fE
  clear hbl hk HMM
  have q1:=GM
  have q2:=GL
  have q3:=GK
  obtain ⟨X3,eX3⟩:∃ X3,X2.alloc (.cells #[] 141)=X3:=⟨_,rfl⟩
  replace HX:Hid (AdS w X3 base gS gf P x):=HX.up (by rw [←eX3];exact (Below.refl _ _).alloc (Nat.le_refl _) _)
  obtain ⟨gL,cur,eL,hgb,kL,zL,lL,_⟩:=HX.own.l.at (show 0<P.nL by omega)
  have HKL:Hid (X3.heap[gL]?=some (.cells cur 47 (0,0))∧i*8+8≤cur.size∧lay cur (i*8) (P.L i).cells=cur∧P.aL=some ⟨gL,0,none⟩∧base≤gL):=⟨kL,by omega,lL i hi,eL,hgb⟩
  have c14:X3.cell? ⟨gS,14,none⟩=some (.slice (some ⟨gL,0,none⟩) P.nL P.cL):=by rw [←eL];exact ie HX.box 14
  have hz1:i*8+1≤cur.size:=by omega
  clear kL zL lL eL hgb
  go_wp2_with (refine iq rfl 4 (.tmp 38) (.const (.bool true)) rfl gL (i*8) rfl (.bool true) rfl 1 rfl 47 _ HKL.1 yj hz1 (by simp [Value.cells,Value.oneCell']) ?_)
  intro X4 hP
  replace hP:Put X3 X4 gL (lay cur (i*8) ({ P.L i with st:=true }:Lng).cells) 47:=hP.cast (uG HKL.2.2.1 HKL.2.1 true)
  have HF:Hid (iG X4 base (P.stop i true)∧X4.heap[gS]?=some (.cells P.cells 34 (0,0))∧Below base w X4) :=
   ⟨HX.own.stop hi HKL.2.2.2.1 HKL.1 hP,(hP.to.block _ (ig HX.box) (by simpa using iT HX.box HKL.1 (by decide))).trans HX.box,HX.bel.trans (hP.to.below (Nat.le_trans hbw HX.bel.size) (fun y hy=>by simp at hy;rw [hy];exact HKL.2.2.2.2))⟩
  clear hP c14 eX3
  go_wp2_with fail
  go_ret
  refine ⟨_,rfl,.inl ⟨HC.2,rfl⟩,P.stop i true,?_,HF.1,HF.2.1,HF.2.2⟩
  exact fG
 refine (nu x _ _ (.inr (.inl ⟨hk,rfl⟩))).mono ?_
 rintro e X2 ⟨rfl,hbl⟩
 replace HX:=aa (HX.up hbl)
 have HC:Hid (P'=P.stop i false∧code=0):=fE
 clear hbl hk HMM
 have q1:=GM
 have q2:=GL
 have q3:=GK
 obtain ⟨X3,eX3⟩:∃ X3,X2.alloc (.cells #[] 142)=X3:=⟨_,rfl⟩
 replace HX:Hid (AdS w X3 base gS gf P x):=HX.up (by rw [←eX3];exact (Below.refl _ _).alloc (Nat.le_refl _) _)
 obtain ⟨gL,cur,eL,hgb,kL,zL,lL,_⟩:=HX.own.l.at (show 0<P.nL by omega)
 have HKL:Hid (X3.heap[gL]?=some (.cells cur 47 (0,0))∧i*8+8≤cur.size∧lay cur (i*8) (P.L i).cells=cur∧P.aL=some ⟨gL,0,none⟩∧base≤gL):=⟨kL,by omega,lL i hi,eL,hgb⟩
 have c14:X3.cell? ⟨gS,14,none⟩=some (.slice (some ⟨gL,0,none⟩) P.nL P.cL):=by rw [←eL];exact ie HX.box 14
 have hz1:i*8+1≤cur.size:=by omega
 clear kL zL lL eL hgb
 go_wp2_with (refine iq rfl 4 (.tmp 48) (.const (.bool false)) rfl gL (i*8) rfl (.bool false) rfl 1 rfl 47 _ HKL.1 yj hz1 (by simp [Value.cells,Value.oneCell']) ?_)
 intro X4 hP
 replace hP:Put X3 X4 gL (lay cur (i*8) ({ P.L i with st:=false }:Lng).cells) 47:=hP.cast (uG HKL.2.2.1 HKL.2.1 false)
 have HF:Hid (iG X4 base (P.stop i false)∧X4.heap[gS]?=some (.cells P.cells 34 (0,0))∧Below base w X4) :=
  ⟨HX.own.stop hi HKL.2.2.2.1 HKL.1 hP,(hP.to.block _ (ig HX.box) (by simpa using iT HX.box HKL.1 (by decide))).trans HX.box,HX.bel.trans (hP.to.below (Nat.le_trans hbw HX.bel.size) (fun y hy=>by simp at hy;rw [hy];exact HKL.2.2.2.2))⟩
 clear hP c14 eX3
 go_wp2_with fail
 go_ret
 refine ⟨_,rfl,.inl ⟨HC.2,rfl⟩,P.stop i false,?_,HF.1,HF.2.1,HF.2.2⟩
 exact fG
theorem vF (S:Swg) (gS:Nat) (w:World) (base:Nat) (aF aD aL:Addr) (p:Int) (v:Value) (kb:w.heap[gS]?=some (.cells S.cells 34 (0,0))) (hv:tD w base aF aD aL) (he:yE w aF aD aL p 3 v) (hbw:base≤w.heap.size) (hl:0≤S.lst∧S.lst≤1000000000) (hd:0≤S.dr∧S.dr≤1000000000) :
  Calls Tryz.prog 51 #[.pointer (some ⟨gS,0,none⟩),v] w fun e w'=>(∃ u,e=.returned u)∧w'.heap[gS]?=some (.cells (S.lG p).cells 34 (0,0))∧Touch [gS] w w':=by
 obtain ⟨W,eW⟩:∃ W,w.alloc (.cells #[.pointer none] 134)=W:=⟨_,rfl⟩
 have hB:Below w.heap.size w W:=by rw [←eW];exact (Below.refl _ _).alloc (Nat.le_refl _) _
 have kt:W.heap[w.heap.size]?=some (.cells #[.pointer none] 134 (0,0)):=by rw [←eW];exact im _ _
 replace hv:tD W base aF aD aL:=hv.up (hB.mono hbw)
 replace he:yE W aF aD aL p 3 v:=he.jQ (fun g cs h=>hB.block g (ig h))
 replace kb:W.heap[gS]?=some (.cells S.cells 34 (0,0)):=(hB.block gS (ig kb)).trans kb
 have gd:=hv.d
 have HT:=aa hv.t
 have HB:=aa hB
 obtain ⟨g,a,rfl,hg,ha⟩:∃ g a,v=.iface 134 (.pointer (some ⟨g,0,none⟩))∧W.heap[g]?=some (.cells #[.int .i64 p,.iface 243 (.pointer (some a))] 136 (0,0))∧a=aD:=by
  rcases he with ⟨e,_⟩ | ⟨g,a,h1,h2,h3⟩
  ·
   cases e
  refine ⟨g,a,h1,h2,?_⟩
  rcases h3 with ⟨e,_⟩ | ⟨_,e⟩ | ⟨e,_⟩
  ·
   cases e
  ·
   exact e
  cases e
 subst ha
 have hgt:g≠w.heap.size:=iT hg kt (by decide)
 have hSt:gS≠w.heap.size:=iT kb kt (by decide)
 have H1:Hid (W.cell? ⟨g,1,none⟩=some (.iface 243 (.pointer (some a)))):=ie hg 1
 have HK:Hid (W.heap[g]?=some (.cells #[.int .i64 p,.iface 243 (.pointer (some a))] 136 (0,0))∧W.heap[gS]?=some (.cells S.cells 34 (0,0))∧W.heap[w.heap.size]?=some (.cells #[.pointer none] 134 (0,0))):=⟨hg,kb,kt⟩
 have HNe:Hid (g≠w.heap.size∧gS≠w.heap.size):=⟨hgt,hSt⟩
 clear hv he hB kt kb hg hgt hSt
 go_enter Tryz.func51,Tryz.ntmps51
 go_wp2_with fail
 refine (Bw g a _ H1).mono ?_
 rintro e w' ⟨rfl,rfl⟩
 go_wp2_with fail
 refine (F7 g w.heap.size _ HT HK.2.2).mono ?_
 rintro e X ⟨rfl,kX,tX⟩
 have cA:X.cell? ⟨w.heap.size,0,none⟩=some (.pointer (some ⟨g,0,none⟩)):=ie kX 0
 have cP:X.cell? ⟨g,0,none⟩=some (.int .i64 p):=ie ((tX.block g (ig HK.1) (by simpa using HNe.1)).trans HK.1) 0
 have HS:Hid (X.heap[gS]?=some (.cells S.cells 34 (0,0))∧Touch [gS] w X) :=
  ⟨(tX.block gS (ig HK.2.1) (by simpa using HNe.2)).trans HK.2.1,⟨tX.os.trans HB.os,tX.tape.trans HB.tape,tX.output.trans HB.out.output,Nat.le_trans HB.size tX.size,fun k hk hn=>(tX.block k (Nat.lt_of_lt_of_le hk HB.size) (by simp;omega)).trans (HB.block k hk)⟩⟩
 have c16:X.cell? ⟨gS,16,none⟩=some (.int .i64 S.lst):=ie HS.1 16
 have c15:X.cell? ⟨gS,15,none⟩=some (.int .i64 S.dr):=ie HS.1 15
 have w1:IntKind.i64.wrap (S.lst+1)=S.lst+1:=jS _ (by omega) (by omega)
 have w2:IntKind.i64.wrap (S.dr+1)=S.dr+1:=jS _ (by omega) (by omega)
 clear kX tX
 by_cases hp:p=2
 ·
  have hp':(p == 2)=true:=by simp [hp]
  go_wp2_with (refine iq rfl 2 (.tmp 28) (.tmp 26) rfl gS 16 rfl (.int .i64 (min (S.lst+1) 1000000000)) rfl 1 rfl 34 _ HS.1 po (Nat.le_of_ble_eq_true rfl) (by simp [Value.cells,Value.oneCell']) ?_)
  intro X2 hP
  have eL:S.lG p={ S with lst:=min (S.lst+1) 1000000000 }:=by unfold Swg.lG;rw [if_pos hp]
  exact fA
 have hp':(p == 2)=false:=by simp [hp]
 go_wp2_with (refine iq rfl 2 (.tmp 37) (.tmp 35) rfl gS 15 rfl (.int .i64 (min (S.dr+1) 1000000000)) rfl 1 rfl 34 _ HS.1 po (Nat.le_of_ble_eq_true rfl) (by simp [Value.cells,Value.oneCell']) ?_)
 intro X2 hP
 have eL:S.lG p={ S with dr:=min (S.dr+1) 1000000000 }:=by unfold Swg.lG;rw [if_neg hp]
 exact fA
theorem iG.lG (h:iG w base S) (p:Int):iG w base (S.lG p):=by
 unfold Swg.lG
 split
 ·
  exact ⟨h.e,h.n,h.k,h.l,h.un⟩
 exact ⟨h.e,h.n,h.k,h.l,h.un⟩
theorem xG.three {S':Swg} {port:Int} {x:Pkt} (h:xG S S' port x code) (hc:code=3):S'=(S.jm port.toNat x none 0).lG x.p:=by
 subst hc
 rcases h with ⟨_,_,h⟩ | ⟨_,_,_,h⟩ | ⟨_,_,i,rfl,_,⟨_,_,h⟩ | ⟨_,h⟩⟩
 ·
  cases h
 ·
  cases h
 ·
  cases h
 rw [Int.toNat_natCast]
 rcases h with ⟨_,_,h⟩ | ⟨_,_,h,_⟩ | ⟨_,_,_,_,h⟩
 ·
  cases h
 ·
  exact h
 cases h
theorem yE.kk {aF aD aL:Addr} {p:Int} {v:Value} (h:yE w aF aD aL p code v) (hg:w.heap[g]?=some (.cells cs 34 (0,0))) (ht:Touch [g] w w'):yE w' aF aD aL p code v :=
 h.jQ (fun y c hy=>ht.block y (ig hy) (by simpa using iT hy hg (by decide)))
theorem qQ (P P':Swg) (x:Pkt) (port:Int) (gS base:Nat) (code:Int) (aF aD aL:Addr) (w:World) (kb:w.heap[gS]?=some (.cells P.cells 34 (0,0))) (ho:iG w base P) (hbS:base≤gS) (hbw:base≤w.heap.size) (hok:P.Ok) (hs:P.Small) (hxb:x.b.size≤1048576) (hv:tD w base aF aD aL) (hm:xG P P' port x code) :
  Calls Tryz.prog 19 #[.pointer (some ⟨gS,0,none⟩),.int .i64 port,.agg x.frc] w fun e w'=>∃ v,e=.returned v∧AF w w' base gS aF aD aL x.p code P' v:=by
 have HOk:=aa hok
 have HSm:=aa hs
 have HV0:=aa hv
 have HM:=aa hm
 obtain ⟨W0,eW⟩:∃ W0,w.alloc (.cells x.frc 36)=W0:=⟨_,rfl⟩
 have HX:Hid (AdS w W0 base gS w.heap.size P x):=fy
 have HL:=aa (mu HX.fr)
 clear ho kb hok hs hv hm
 go_enter Tryz.func19,Tryz.ntmps19
 go_wp2_with (refine ir rfl 36 5 _ Tryz.underlying36 rfl jC (.tmp 5) rfl w.heap.size 0 rfl x.frc rfl HL.out ?_)
 clear HL eW
 refine (Aw P P' x port gS base code aF aD aL W0 HX.box HX.own hbS (Nat.le_trans hbw HX.bel.size) HOk HSm hxb (HV0.up HX.bel) HM).mono ?_
 rintro e X ⟨v,rfl,hE,S2,hA,hO,hK,hB⟩
 have HR:Hid (yE X aF aD aL x.p code v∧iw (sW P P' port.toNat x code) S2∧iG X base S2∧X.heap[gS]?=some (.cells S2.cells 34 (0,0))∧Below base w X):=⟨hE,hA,hO,hK,HX.bel.trans hB⟩
 clear hE hA hO hK hB HX
 go_wp2_with fail
 by_cases hc:code=3
 ·
  have HC:Hid (code=3∧P'=(P.jm port.toNat x none 0).lG x.p∧iw (P.jm port.toNat x none 0) S2):=by
   have h1:=HR.2.1
   unfold sW at h1
   rw [if_pos hc] at h1
   exact ⟨hc,HM.three hc,h1⟩
  refine (vF S2 gS X base aF aD aL x.p v HR.2.2.2.1 (HV0.up HR.2.2.2.2) (by rw [←hc];exact HR.1) (Nat.le_trans hbw HR.2.2.2.2.size) (by rw [HC.2.2.lst];exact HOk.nums.lst) (by rw [HC.2.2.dr];exact HOk.nums.dr)).mono ?_
  rintro e X2 ⟨⟨u,rfl⟩,k2,t2⟩
  have HF:Hid (AF w X2 base gS aF aD aL x.p code P' v) :=
   ⟨HR.1.kk HR.2.2.2.1 t2,S2.lG x.p,by rw [HC.2.1];exact HC.2.2.lG _,(HR.2.2.1.off HR.2.2.2.1 t2).lG _,k2,HR.2.2.2.2.trans (t2.below (Nat.le_trans hbw HR.2.2.2.2.size) (fun y hy=>by simp at hy;rw [hy];exact hbS))⟩
  clear k2 t2 hc
  go_wp2_with fail
  go_ret
  exact ⟨v,rfl,HF⟩
 refine (xq S2 gS X base aF aD aL x.p code v (HV0.up HR.2.2.2.2) HR.1 hc (Nat.le_trans hbw HR.2.2.2.2.size)).mono ?_
 rintro e X2 ⟨⟨u,rfl⟩,b2⟩
 have HF:Hid (AF w X2 base gS aF aD aL x.p code P' v):=by
  have h1:=HR.2.1
  unfold sW at h1
  rw [if_neg hc] at h1
  exact ⟨HR.1.jQ (fun y c hy=>b2.block y (ig hy)),S2,h1,HR.2.2.1.up b2,(b2.block _ (ig HR.2.2.2.1)).trans HR.2.2.2.1,HR.2.2.2.2.trans (b2.mono (Nat.le_trans hbw HR.2.2.2.2.size))⟩
 clear b2 hc
 go_wp2_with fail
 go_ret
 exact ⟨v,rfl,HF⟩
structure Thr (w W:World) (S:Swg) (x:Pkt):Prop where
 a:W.heap[w.heap.size]?=some (.cells S.cells 34 (0,0))
 f:W.heap[w.heap.size+1]?=some (.cells x.frc 36 (0,0))
 z:W.heap[w.heap.size+2]?=some (.cells zSw 34 (0,0))
 bel:Below w.heap.size w W
theorem Thr.up {x:Pkt} (h:Thr w W S x) (hb:Below W.heap.size W W'):Thr w W' S x :=
 ⟨(hb.block _ (ig h.a)).trans h.a,(hb.block _ (ig h.f)).trans h.f,(hb.block _ (ig h.z)).trans h.z,h.bel.trans (hb.mono h.bel.size)⟩
theorem Thr.GC {x:Pkt} {B:Nat} (h:Thr w W S x) (hb:Below B W W') (hB:w.heap.size+2<B):Thr w W' S x :=
 ⟨(hb.block _ (by omega)).trans h.a,(hb.block _ (by omega)).trans h.f,(hb.block _ hB).trans h.z,h.bel.trans (hb.mono (by omega))⟩
theorem Thr.start (w:World) (S:Swg) (x:Pkt):Thr w (((w.alloc (.cells S.cells 34)).alloc (.cells x.frc 36)).alloc (.cells zSw 34)) S x:=by
 have e1:(w.alloc (.cells S.cells 34)).heap.size=w.heap.size+1:=by simp
 have e2:((w.alloc (.cells S.cells 34)).alloc (.cells x.frc 36)).heap.size=w.heap.size+2:=by simp
 refine ⟨?_,?_,?_,(((Below.refl _ _).alloc (Nat.le_refl _) _).alloc (by omega) _).alloc (by omega) _⟩
 ·
  rw [iH _ (by omega),iH _ (by omega)];exact im _ _
 ·
  rw [iH _ (by omega),←e1];exact im _ _
 rw [←e2];exact im _ _
theorem xd (S S':Swg) (port:Int) (x:Pkt) (code:Int) (aF aD aL:Addr) (w:World) (hs:S.Small) (hr:lr w S) (hxb:x.b.size≤1048576) (hv:tD w w.heap.size aF aD aL) (hm:xG S S' port x code) :
  Calls Tryz.prog 6 #[.agg S.cells,.int .i64 port,.agg x.frc] w fun e w'=>∃ S2,e=.returned (.tuple #[.agg S2.cells,.int .i64 code])∧iw S' S2∧iG w' w.heap.size S2∧Below w.heap.size w w':=by
 obtain ⟨ok,hok⟩:=ju S.Ok
 have HO:=aa hok
 have HM:=aa hm
 have HR:=aa hr
 have HS:=aa hs
 have HV:=aa hv
 obtain ⟨W,eW⟩:∃ W,((w.alloc (.cells S.cells 34)).alloc (.cells x.frc 36)).alloc (.cells ab 34)=W:=⟨_,rfl⟩
 have HX:Hid (Thr w W S x):=by rw [←eW];exact Thr.start _ _ _
 have HL:Hid (∀ j,j<17→W.cell? ⟨w.heap.size,0+j,none⟩=S.cells[j]?):=fun j _=>by rw [Nat.zero_add];exact ie HX.a j
 clear hs hr hok hm hv
 go_enter Tryz.func6,Tryz.ntmps6
 go_wp2_with (refine ir rfl 34 17 _ Tryz.underlying34 rfl iA (.tmp 3) rfl (w.heap.size) 0 rfl S.cells rfl HL.out ?_)
 clear eW HL
 refine (nB S _ HS (HR.up HX.bel) ok HO).mono ?_
 rintro e w1 ⟨rfl,hbl⟩
 replace HX:=aa (HX.up hbl)
 clear hbl
 have HD:=aa HX.z
 cases ok
 ·
  have HF:Hid (S'=lY∧code=1):=by
   rcases HM.out with ⟨_,h1,h2⟩ | ⟨h,_⟩ | ⟨h,_⟩
   ·
    exact ⟨h1,h2⟩
   ·
    exact absurd (HO.2 h) (by simp)
   exact absurd (HO.2 h) (by simp)
  go_wp2_with (refine iq rfl 34 (.tmp 6) (.tmp 13) rfl (w.heap.size+1+1) 0 rfl (.agg ab) rfl 17 rfl 34 _ HD iA (Nat.le_of_ble_eq_true rfl) (by simp [Value.cells,Value.oneCell']) ?_)
  intro X hP
  replace hP:Put w1 X (w.heap.size+1+1) lY.cells 34:=hP.cast rfl
  have HK:=aa hP.blk
  have HB2:Hid (Below w.heap.size w X):=HX.bel.trans (hP.to.below HX.bel.size (fun y hy=>by simp at hy;omega))
  clear hP
  go_wp2_with fail
  rw [HF.1,HF.2]
  exact bodyPost_ret (jO Tryz.results6 17 _ Tryz.underlying34 rfl iA _ _ (w.heap.size+1+1) lY.cells rfl 34 HK.out rfl (.int .i64 1) rfl) rfl ⟨lY,rfl,iw.refl _,rG _ _,HB2⟩
 have HOk:Hid S.Ok:=HO.1 rfl
 have HL:Hid (∀ j,j<17→w1.cell? ⟨w.heap.size,0+j,none⟩=S.cells[j]?):=fun j _=>by rw [Nat.zero_add];exact ie HX.a j
 obtain ⟨_,_,_,ht4,ht5⟩:=yK HOk.out
 go_wp2_with (refine ir rfl 34 17 _ Tryz.underlying34 rfl iA (.tmp 3) rfl (w.heap.size) 0 rfl S.cells rfl HL.out ?_)
 clear HL HD
 have hW1:w.heap.size+2<w1.heap.size:=ig HX.z
 refine (tv S _ HS ht4 ht5 (HR.up HX.bel)).mono ?_
 rintro e w2 ⟨Q,rfl,aQ,oQ,hbl⟩
 replace HX:=aa (HX.up hbl)
 have hz2:=hbl.size
 have HQ:Hid (iw S Q∧iG w2 w1.heap.size Q):=⟨aQ,oQ⟩
 clear aQ oQ hbl
 have HG:Hid ((w2.alloc (.cells ab 34)).heap[w2.heap.size]?=some (.cells ab 34 (0,0))):=im _ _
 go_wp2_with (refine iq rfl 34 (.tmp 8) (.tmp 15) rfl (w2.heap.size) 0 rfl (.agg Q.cells) rfl 17 rfl 34 _ HG iA (Nat.le_of_ble_eq_true rfl) (Swg.lF _) ?_)
 intro X0 hP
 replace hP:Put _ X0 w2.heap.size Q.cells 34:=hP.cast rfl
 have hbl:Below w2.heap.size w2 X0:=((Below.refl _ _).alloc (Nat.le_refl _) _).trans (hP.to.below (by simp) (fun y hy=>by simp at hy;omega))
 have kN:=hP.blk
 replace HX:=aa (HX.up hbl)
 replace HQ:Hid (iw S Q∧iG X0 w1.heap.size Q):=⟨HQ.1,HQ.2.up hbl⟩
 clear hP HG hbl
 obtain ⟨gN,eN⟩:∃ g,w2.heap.size=g:=⟨_,rfl⟩
 rw [eN] at kN hz2 ⊢
 clear eN
 obtain ⟨bQ,eQ⟩:∃ g,w1.heap.size=g:=⟨_,rfl⟩
 rw [eQ] at hW1 hz2 HQ
 clear eQ
 have HgN:Hid (w.heap.size+2<bQ∧bQ≤gN∧gN<X0.heap.size):=⟨hW1,hz2,ig kN⟩
 have HkN:=aa kN
 obtain ⟨Q',hmq,haq⟩:=HM.vN HQ.1
 have HMQ:Hid (xG Q Q' port x code∧iw S' Q'):=⟨hmq,haq⟩
 have HLf:=aa (mu HX.f)
 clear kN hW1 hz2 hmq haq
 go_wp2_with (refine ir rfl 36 5 _ Tryz.underlying36 rfl jC (.tmp 5) rfl (w.heap.size+1) 0 rfl x.frc rfl HLf.out ?_)
 clear HLf
 refine (qQ Q Q' x port gN bQ code aF aD aL X0 HkN HQ.2 HgN.2.1 (by have:=HgN.out;omega) (HQ.1.ok1 HOk) (HQ.1.small HS) hxb ((HV.up HX.bel).mono (by have:=HgN.1;omega)) HMQ.1).mono ?_
 rintro e X1 ⟨v,rfl,hE,S2,hA,hO,hK,hB⟩
 have HE:Hid (yE X1 aF aD aL x.p code v∧tD X1 bQ aF aD aL):=⟨hE,((HV.up HX.bel).mono (by have:=HgN.1;omega)).up hB⟩
 replace HX:=aa (HX.GC hB HgN.1)
 have HN:Hid (iw S' S2∧iG X1 w.heap.size S2∧X1.heap[gN]?=some (.cells S2.cells 34 (0,0))):=⟨HMQ.2.trans hA,hO.mono (by have:=HgN.1;omega),hK⟩
 clear hE hA hO hK hB HQ HkN HMQ
 go_wp2_with fail
 have hd:Below X1.heap.size X1 X1.drew:=(Below.refl _ _).drew
 refine wp_region_held_drew (S:=fun w'=>w'.heap[gN]?=some (.cells S2.cells 34 (0,0))) (by kernel_rfl) ((hd.block _ (ig HN.2.2)).trans HN.2.2) (fun hHeld=>?_)
 replace HE:Hid (yE X1.drew aF aD aL x.p code v∧tD X1.drew bQ aF aD aL):=⟨HE.1.jQ (fun y c hy=>hd.block y (ig hy)),HE.2.up (hd.mono (by have:=HgN.out;have h8:=ig HN.2.2;omega))⟩
 replace HX:=aa (HX.up hd)
 replace HN:Hid (iw S' S2∧iG X1.drew w.heap.size S2∧X1.drew.heap[gN]?=some (.cells S2.cells 34 (0,0))):=⟨HN.1,HN.2.1.up hd,(hd.block _ (ig HN.2.2)).trans HN.2.2⟩
 clear hd
 generalize X1.drew=V at *
 refine tC 0 19 (v:=.agg S2.cells) (fun wx hSw=>jg 34 17 _ Tryz.underlying34 rfl iA (.tmp 8) rfl gN 0 rfl S2.cells rfl (fun j hj=>by rw [Nat.zero_add];exact ie hSw j)) ?_
 try simp only [Act.put,PZ]
 refine tQ 1 20 ?_
 refine rq1 2 (fun K hK=>?_)
 go_simp
 refine (As _ bQ aF aD aL x.p code v HE.2 HE.1).mono ?_
 rintro e w' ⟨rfl,rfl⟩
 have hT:=HN.2.2
 go_wp2_with fail
 refine ah (hK _ _ hT) ?_
 intro hHeld
 clear hK K
 refine rq1 3 (fun K hK=>?_)
 refine jn (by kernel_rfl) none rfl 34 (.tmp 6) (.tmp 19) rfl (w.heap.size+1+1) 0 rfl (.agg S2.cells) rfl 17 rfl 34 _ HX.z iA (Nat.le_of_ble_eq_true rfl) (Swg.lF _) ?_
 intro X2 hP
 replace hP:Put V X2 (w.heap.size+1+1) S2.cells 34:=hP.cast rfl
 have hT2:X2.heap[gN]?=some (.cells S2.cells 34 (0,0)):=(hP.to.block _ (ig hT) (by have:=HgN.out;simp;omega)).trans hT
 refine ah (hK _ _ hT2) ?_
 intro hHeld
 clear hK K
 refine tQ 4 7 ?_
 refine dnq ?_
 have HK:=aa hP.blk
 have HFF:Hid (iG X2 w.heap.size S2∧Below w.heap.size w X2):=⟨HN.2.1.off HX.z hP.to,HX.bel.trans (hP.to.below HX.bel.size (fun y hy=>by simp at hy;omega))⟩
 clear hP hT hT2 hHeld
 go_wp2_with fail
 exact bodyPost_ret (jO Tryz.results6 17 _ Tryz.underlying34 rfl iA _ _ (w.heap.size+1+1) S2.cells rfl 34 HK.out rfl (.int .i64 code) rfl) rfl ⟨S2,rfl,HN.1,HFF.1,HFF.2⟩
