import Derived.Test.YtjaobmbcmjgjgaaGreatDoorA27
import Derived.Room.AppendFits
namespace Go.Proofs.YtjaobmbcmjgjgaaGreatDoor
set_option maxRecDepth 100000
set_option maxHeartbeats 4000000
open Go.RowKit
set_option linter.unusedVariables false
set_option linter.unusedSimpArgs false
theorem dS {p:Prop} (h:p:=by
 have HC:Hid (C5 w l (.pointer (some ⟨gB,0,none⟩)) X):=⟨gB,p,rfl,hgB,by rw [←ep],by rw [←ep],by rw [←ep],by
  rw [←ep] at hP ⊢
  exact Cb oT oR hTR kB hP,⟨(hP.to.block _ (fG HX.out.a) (by simp;omega)).trans HX.out.a,(hP.to.block _ (fG HX.out.b) (by simp;omega)).trans HX.out.b,HX.out.bel.trans (hP.to.below HX.out.bel.size (fun x hx=>by simp at hx;omega))⟩⟩
 clear hP oT oR kB hTR HX hT0 ep
 go_wp2_with fail
 go_meet
 case rel=>exact HC.out):p:=h
theorem dT {p:Prop} (h:p:=by
 go_simp
 try with_reducible rfl):p:=h
theorem dV {p:Prop} (h:p:=by
 go_wp2_with fail
 go_roundw
 case rel=>exact ⟨k+1,_,by omega,by go_num,HN⟩
 case measure=>simp [intOf];omega):p:=h
theorem dW {p:Prop} (h:p:=by
 intro wx hSw
 obtain ⟨hS1,hS2,hS3⟩:=hSw
 exact dT):p:=h
structure SaL (w W:World) (gS gp g8:Nat) (S Q1:Swg) (M:Cnt) (x:Pkt) (i:Nat) (dst:Int) (k:Nat) (L:Nat→Lng):Prop where
 box:W.heap[gS]?=some (.cells Q1.cells 43 (0,0))
 own:gy W w.heap.size { Q1 with N:=M,L:=L }
 pk:W.heap[gp]?=some (.cells (S.pkt i x (kE dst i k)).cells 94 (0,0))
 al:∀ j,j<S.nL→gk (S.iO i dst x k j) (L j)
 bel:Below w.heap.size w W
 fr:W.heap[w.heap.size+1]?=some (.cells x.frc 47 (0,0))
 a:W.heap[w.heap.size]?=some (.cells S.cells 43 (0,0))
 z:W.heap[w.heap.size+1+1]?=some (.cells zSw 43 (0,0))
 m:W.heap[g8]?=some (.cells M.cells 39 (0,0))
theorem SaL.skip {w W:World} {gS gp g8:Nat} {S Q1:Swg} {M:Cnt} {x:Pkt} {i:Nat} {dst:Int} {k:Nat} {L:Nat→Lng} (h:SaL w W gS gp g8 S Q1 M x i dst k L) (hb:iR (k:Int) dst i=false):SaL w W gS gp g8 S Q1 M x i dst (k+1) L:=by
 refine ⟨h.box,h.own,?_,fun j hj=>by rw [pc hb];exact h.al j hj,h.bel,h.fr,h.a,h.z,h.m⟩
 have e:kE dst i (k+1)=kE dst i k:=by show kE dst i k+_=_;rw [if_neg (by rw [hb];decide),Nat.add_zero]
 rw [e]
 exact h.pk
theorem xr {k dst i:Int} (h:k=i) (h2:dst≠i):iR k dst i=false:=by
 unfold iR
 split
 ·
  simp [h]
 simp;omega
theorem xt {k dst i:Int} (h0:0≤dst) (h:dst≠k):iR k dst i=false:=by
 unfold iR
 rw [if_neg (by omega)]
 simp;omega
theorem yR {k dst i:Int} (h0:dst=-1) (h:k≠i):iR k dst i=true:=by
 unfold iR
 rw [if_pos h0]
 simp [h]
theorem yP {k dst i:Int} (h0:0≤dst) (h:dst=k):iR k dst i=true:=by
 unfold iR
 rw [if_neg (by omega)]
 simp;omega
theorem SaL.next {w W W':World} {gS gp g8 gL:Nat} {S Q1:Swg} {M:Cnt} {x:Pkt} {i:Nat} {dst:Int} {k:Nat} {L:Nat→Lng} {l2:Lng} {cur:Array Value} (h:SaL w W gS gp g8 S Q1 M x i dst k L) (hb:iR (k:Int) dst i=true) (hk:k<S.nL) (e3:Q1.nL=S.nL) (eL:Q1.aL=some ⟨gL,0,none⟩) (hgp:w.heap.size≤gp) (hgk:gp∉gi Q1.aK) (kL:W.heap[gL]?=some (.cells cur 99 (0,0)))
  (kP:W'.heap[gp]?=some (.cells (S.pkt i x (kE dst i k)).more.cells 94 (0,0))) (hA:gk ((L k).wait x.p S.nx x.cl) l2) (hn:Bv W W' w.heap.size gL gp (k*8) cur (L k) l2):SaL w W' gS gp g8 S Q1 M x i dst (k+1) (fun j=>if j=k then l2 else L j):=by
 have hk3:k<({ Q1 with N:=M,L:=L }:Swg).nL:=by show k<Q1.nL;omega
 have ho:=h.own.lane (gp:=gp) hk3 eL kL h.pk hgk hn
 obtain ⟨T,hto,hT⟩:=hn.hit
 have oi:=h.own.l.ls k hk3
 have far:∀ {y:Nat} {cs:Array Value} {t:TypeId},W.heap[y]?=some (.cells cs t (0,0))→t≠99→t≠94→t≠2→t≠25→W'.heap[y]?=some (.cells cs t (0,0)):=by
  intro y cs t ky h1 h2 h3 h4
  refine (hto.block y (fG ky) (fun hx=>?_)).trans ky
  rcases hT y hx with e | e | e | e
  ·
   exact gj ky kL h1 e
  ·
   exact gj ky h.pk h2 e
  ·
   obtain ⟨c2,k2⟩:=oi.type2 y e
   exact gj ky k2 h3 rfl
  obtain ⟨c2,k2⟩:=oi.ux y e
  exact gj ky k2 h4 rfl
 refine ⟨far h.box (by decide) (by decide) (by decide) (by decide),ho,?_,fun j hj=>?_,h.bel.trans (hto.below h.bel.size (fun y hy=>?_)),far h.fr (by decide) (by decide) (by decide) (by decide),far h.a (by decide) (by decide) (by decide) (by decide),far h.z (by decide) (by decide) (by decide) (by decide),far h.m (by decide) (by decide) (by decide) (by decide)⟩
 ·
  have e:kE dst i (k+1)=kE dst i k+1:=by show kE dst i k+_=_;rw [if_pos hb]
  rw [e]
  exact kP
 ·
  have h9:=h.al j hj
  show gk (S.iO i dst x (k+1) j) (if j=k then l2 else L j)
  by_cases e:j=k
  ·
   subst e
   rw [if_pos rfl]
   unfold Swg.iO at h9 ⊢
   rw [if_neg (fun h=>absurd h.1 (Nat.lt_irrefl _))] at h9
   rw [if_pos ⟨by omega,hb⟩]
   exact (Lng.ns h9 _ _ _).trans hA
  rw [if_neg e]
  unfold Swg.iO at h9 ⊢
  by_cases h1:j<k∧iR (j:Int) dst i=true
  ·
   rw [if_pos h1] at h9
   rw [if_pos ⟨by omega,h1.2⟩]
   exact h9
  rw [if_neg h1] at h9
  rw [if_neg (fun h2=>h1 ⟨by omega,h2.2⟩)]
  exact h9
 rcases hT y hy with e | e | e | e
 ·
  rw [e]
  have h1:Q1.aL=some ⟨gL,0,none⟩:=eL
  exact (h.own.l.l.blk gL (by show gL∈gi Q1.aL;rw [h1];simp [gi])).1
 ·
  rw [e];exact hgp
 ·
  exact (oi.blk y e).1
 exact (oi.Cl y e).1
theorem xK {R:Rnd} {aq ad av:Option Addr} {cq cd cv:Nat} {A:Nat→Option Addr} {C:Nat→Nat}:Alike R (R.cp2 aq cq ad cd av cv A C):=⟨rfl,rfl,rfl,rfl,rfl,rfl,rfl,rfl,rfl⟩
theorem zJ {V:World} {a:Option Addr} {n c:Nat} {f:Nat→Int} (hn:n≤1048576) (hr:fW V a n fun i=>.int .i64 (f i)) :
  ∃ a' c' W',(Builtin.append_ #[25,25] 25 #[.slice (some ⟨V.heap.size,0,none⟩) 0 0,.slice a n c]).run Tryz.prog (V.alloc (.cells #[] 2))=.ok (.slice a' n c') W'∧OI W' V.heap.size a' n c' f∧Below V.heap.size V W':=by
 have hA:Below V.heap.size V (V.alloc (.cells #[] 2)):=(Below.refl _ _).alloc (Nat.le_refl _) _
 have hm:(V.alloc (.cells #[] 2)).ownsRow V.heap.size 2 1 (.slice (some ⟨V.heap.size,0,none⟩) 0 0) 0 []:=World.ownsRow_made V #[] 0 (Nat.le_refl _) (Nat.zero_le _) rfl
 obtain ⟨a',c',W',h1,h2,h3,_⟩:=l9 (c:=c) hm (by simp) hn (hr.up hA)
 exact ⟨a',c',W',h1,h2,hA.grown h3 (by simp) (fun k e=>by simp [Value.ownBlock] at e;omega)⟩
theorem Cb {V X:World} {base gB:Nat} {l:Lng} {aT aq ad av:Option Addr} {cT cq cd cv:Nat} {A:Nat→Option Addr} {C:Nat→Nat} {cur:Array Value} (oT:OI V base aT l.nT cT l.t) (oR:iv V base (l.R.cp2 aq cq ad cd av cv A C)) (hTR:∀ x∈gi aT,x∉(l.R.cp2 aq cq ad cd av cv A C).iJ)
  (kB:V.heap[gB]?=some (.cells cur 99 (0,0))) (hP:Put V X gB (Lng.cells ⟨l.st,aT,l.nT,cT,l.t,none,0,0,fun _=>none,l.uL,fun _=>0,l.uz,l.R.cp2 aq cq ad cd av cv A C⟩) 99):CpL base gB l ⟨l.st,aT,l.nT,cT,l.t,none,0,0,fun _=>none,l.uL,fun _=>0,l.uz,l.R.cp2 aq cq ad cd av cv A C⟩ X:=by
 have h1:gg V base ⟨l.st,aT,l.nT,cT,l.t,none,0,0,fun _=>none,l.uL,fun _=>0,l.uz,l.R.cp2 aq cq ad cd av cv A C⟩:=by
  refine ⟨oT,OG.nil _ _ _ _,fun i hi=>absurd hi (Nat.not_lt_zero _),oR,?_,fun x hx hy=>by simp [gi] at hy⟩
  show ((gi aT++_)++[]).Nodup
  rw [List.append_nil]
  exact List.nodup_append.2 ⟨jD _,oR.nd,fun x hx y hy e=>hTR x hx (e▸hy)⟩
 exact ⟨h1.box kB (by decide) (by decide) hP.to,hP.blk,rfl,rfl,rfl,rfl,rfl,xK⟩
theorem pF (l:Lng) (w:World) (hs:l.Small) (h:mh w l) :
  Calls Tryz.prog 96 #[.agg l.cells] w fun e w'=>∃ l2,e=.returned (.agg l2.cells)∧gk l l2∧gg w' w.heap.size l2∧Below w.heap.size w w':=by
 have HR:Hid (mh w l):=h
 have HS:Hid l.Small:=hs
 obtain ⟨W,eW⟩:∃ W,(w.alloc (.cells l.cells 99)).alloc (.cells #[.bool false,.slice none 0 0,.slice none 0 0,.slice none 0 0,.slice none 0 0,.int .i64 0,.bool false,.slice none 0 0] 99)=W:=⟨_,rfl⟩
 have HX:Hid (Two w l.cells iL 99 W):=by rw [←eW];exact Two.start _ _ _ _
 clear h hs
 go_enter Tryz.func96,Tryz.ntmps96
 go_wp2_with fail
 clear eW
 go_cut [3] (fun v wc=>C5 w l v wc)
 case first =>
  replace HX:Hid (Two w l.cells iL 99 W.drew):=HX.out.up ((Below.refl _ _).drew)
  have hz0:w.heap.size+1<W.drew.heap.size:=fG HX.out.b
  refine ia (fun w'=>w'.heap[w.heap.size]?=some (.cells l.cells 99 (0,0))) 11 (by kernel_rfl) ?_
  generalize W.drew=V at *
  have hT0:=HX.out.a
  refine tE 0 5 hT0 ?_
  refine j3 (i:=1) (some 6) (v:=?_) ?_ hT0 ?_
  rotate_left
  ·
   intro wx hSw
   have c0:wx.cell? ⟨w.heap.size,0,none⟩=some (.bool l.st):=fF hSw 0
   exact dT
  try simp only [Act.put,PZ]
  refine tE 3 8 hT0 ?_
  refine j3 (i:=4) (some 9) (v:=?_) ?_ hT0 ?_
  rotate_left
  ·
   intro wx hSw
   have c1:wx.cell? ⟨w.heap.size,1,none⟩=some (.slice l.aT l.nT l.cT):=fF hSw 1
   exact dT
  try simp only [Act.put,PZ]
  refine tE 6 11 hT0 ?_
  refine j3 (i:=7) (some 12) (v:=.agg l.R.cells) ?_ hT0 ?_
  ·
   intro wx hSw
   exact gO 97 5 _ Tryz.underlying97 rfl yV (.tmp 11) rfl w.heap.size 3 rfl l.R.cells rfl (fun j hj=>rdR hSw j hj)
  try simp only [Act.put,PZ]
  refine fI (rs:=[2,10]) (by kernel_rfl) (by simp) ?_
  refine fH.cons rfl (fun K hK=>?_) (fH.cons rfl (fun K hK=>?_) fH.nil)
  ·
   obtain ⟨X1,eV⟩:∃ X,V.alloc (.cells #[] 2)=X:=⟨_,rfl⟩
   have hb:Below V.heap.size V X1:=by rw [←eV];exact (Below.refl _ _).alloc (Nat.le_refl _) _
   have oE:OG 2 1 X1 w.heap.size (some ⟨V.heap.size,0,none⟩) 0 0 []:=by rw [←eV];exact World.ownsRow_made V #[] 0 HX.out.bel.size (Nat.zero_le _) rfl
   go_simp
   clear eV
   replace HX:Hid (Two w l.cells iL 99 X1):=HX.out.up hb
   replace hT0:=HX.out.a
   clear hb
   obtain ⟨gE,eE⟩:∃ g,V.heap.size=g:=⟨_,rfl⟩
   rw [eE] at oE ⊢
   refine hK.out _ _ hT0 ?_
   clear hK K
   try simp only [Act.put,PZ]
   refine fI (rs:=[5,10]) (by kernel_rfl) (by simp) ?_
   refine fH.cons rfl (fun K hK=>?_) (fH.cons rfl (fun K hK=>?_) fH.nil)
   ·
    obtain ⟨aT,cT,X2,hr,oT,hgr,_⟩:=l9 (c:=l.cT) oE HX.out.bel.size HS.out.t (HR.out.t.up HX.out.bel)
    have hgt:Touch [gE] X1 X2:=Touch.qQ (v:=.slice (some ⟨gE,0,none⟩) 0 0) hgr
    have lE:=(OG.blk oE gE (by simp [gi])).1
    have hne:=OG.k8 oE (by decide) HX.out.a
    have hne2:=OG.k8 oE (by decide) HX.out.b
    refine jz (by kernel_rfl) (some 10) rfl (.tmp 7) (.tmp 9) 25 _ _ _ rfl rfl rfl rfl hr ?_
    replace HX:Hid (Two w l.cells iL 99 X2):=⟨(hgt.block _ (fG HX.out.a) (by simpa [gi] using hne)).trans HX.out.a,(hgt.block _ (fG HX.out.b) (by simpa [gi] using hne2)).trans HX.out.b,HX.out.bel.trans (hgt.below HX.out.bel.size (fun x hx=>by simp at hx;omega))⟩
    replace hT0:=HX.out.a
    clear hr hgr hgt hne hne2 lE oE
    refine hK.out _ _ hT0 ?_
    clear hK K
    try simp only [Act.put,PZ]
    refine fI (rs:=[8,10]) (by kernel_rfl) (by simp) ?_
    refine fH.cons rfl (fun K hK=>?_) (fH.cons rfl (fun K hK=>?_) fH.nil)
    ·
     go_simp
     refine (lh l.R _ HS.out.r (HR.out.r.up HX.out.bel)).mono ?_
     rintro e X3 ⟨aq,cq,ad,cd,av,cv,A,C,rfl,oR,hb⟩
     have hTR:∀ x∈gi aT,x∉(l.R.cp2 aq cq ad cd av cv A C).iJ:=fun x hx hy=>by have:=(OI.blk oT x hx).2;have:=(oR.blk x hy).1;omega
     replace oR:=oR.qR (base':=w.heap.size) HX.out.bel.size
     replace HX:Hid (Two w l.cells iL 99 X3):=HX.out.up hb
     replace hT0:=HX.out.a
     replace oT:=oT.up hb
     clear hb
     dsimp only [Rnd.cells,Rnd.cp2]
     go_wp2_with fail
     refine hK.out _ _ hT0 ?_
     clear hK K
     try simp only [Act.put,PZ]
     refine tE 9 14 hT0 ?_
     refine fI (rs:=[10]) (by kernel_rfl) (by simp) ?_
     refine fH.cons rfl (fun K hK=>?_) fH.nil
     obtain ⟨X4,eV⟩:∃ X,X3.alloc (.cells #[.bool false,.slice none 0 0,.slice none 0 0,.slice none 0 0,.slice none 0 0,.int .i64 0,.bool false,.slice none 0 0] 99)=X:=⟨_,rfl⟩
     have hb:Below X3.heap.size X3 X4:=by rw [←eV];exact (Below.refl _ _).alloc (Nat.le_refl _) _
     have kB:X4.heap[X3.heap.size]?=some (.cells #[.bool false,.slice none 0 0,.slice none 0 0,.slice none 0 0,.slice none 0 0,.int .i64 0,.bool false,.slice none 0 0] 99 (0,0)):=by rw [←eV];exact fK _ _
     have hgB:w.heap.size+1<X3.heap.size:=fG HX.out.b
     go_simp
     clear eV
     replace HX:Hid (Two w l.cells iL 99 X4):=HX.out.up hb
     replace hT0:=HX.out.a
     replace oT:=oT.up hb
     replace oR:=oR.upZ hb
     clear hb
     obtain ⟨gB,eB⟩:∃ g,X3.heap.size=g:=⟨_,rfl⟩
     rw [eB] at kB hgB ⊢
     refine hK.out _ _ hT0 ?_
     clear hK K
     try simp only [Act.put,PZ]
     refine fI (rs:=[11]) (by kernel_rfl) (by simp) ?_
     refine fH.last rfl (fun K hK=>?_)
     refine iz (by kernel_rfl) none rfl 99 (.tmp 3) (.tmp 14) rfl gB 0 rfl (.agg #[.bool l.st,.slice aT l.nT cT,.slice none 0 0,.slice aq l.R.nQ cq,.slice ad l.R.nD cd,.int .i64 l.R.turn,.bool l.R.fresh,.slice av l.R.nS cv]) rfl 8 rfl 99 _ kB ir (Nat.le_of_ble_eq_true rfl) (by simp [Value.cells,Value.oneCell']) ?_
     intro X hP
     refine hK.out _ _ ?_
     clear hK K
     try simp only [Act.put,PZ]
     refine gx (by kernel_rfl) ?_ _
     obtain ⟨p,ep⟩:∃ p,(⟨l.st,aT,l.nT,cT,l.t,none,0,0,fun _=>none,l.uL,fun _=>0,l.uz,l.R.cp2 aq cq ad cd av cv A C⟩:Lng)=p:=⟨_,rfl⟩
     replace hP:Put X4 X gB p.cells 99:=hP.cast (by rw [←ep];rfl)
     exact dS
    obtain ⟨X5,eV⟩:∃ X,X2.alloc (.cells #[.bool false,.slice none 0 0,.slice none 0 0,.slice none 0 0,.slice none 0 0,.int .i64 0,.bool false,.slice none 0 0] 99)=X:=⟨_,rfl⟩
    have hb:Below X2.heap.size X2 X5:=by rw [←eV];exact (Below.refl _ _).alloc (Nat.le_refl _) _
    have kB:X5.heap[X2.heap.size]?=some (.cells #[.bool false,.slice none 0 0,.slice none 0 0,.slice none 0 0,.slice none 0 0,.int .i64 0,.bool false,.slice none 0 0] 99 (0,0)):=by rw [←eV];exact fK _ _
    have hgB:w.heap.size+1<X2.heap.size:=fG HX.out.b
    go_simp
    clear eV
    replace HX:Hid (Two w l.cells iL 99 X5):=HX.out.up hb
    replace hT0:=HX.out.a
    replace oT:=oT.up hb
    clear hb
    obtain ⟨gB,eB⟩:∃ g,X2.heap.size=g:=⟨_,rfl⟩
    rw [eB] at kB hgB ⊢
    refine hK.out _ _ hT0 ?_
    clear hK K
    try simp only [Act.put,PZ]
    refine fI (rs:=[8]) (by kernel_rfl) (by simp) ?_
    refine fH.cons rfl (fun K hK=>?_) fH.nil
    go_simp
    refine (lh l.R _ HS.out.r (HR.out.r.up HX.out.bel)).mono ?_
    rintro e X6 ⟨aq,cq,ad,cd,av,cv,A,C,rfl,oR,hb⟩
    have hTR:∀ x∈gi aT,x∉(l.R.cp2 aq cq ad cd av cv A C).iJ:=fun x hx hy=>by have:=(OI.blk oT x hx).2;have:=(oR.blk x hy).1;omega
    replace oR:=oR.qR (base':=w.heap.size) HX.out.bel.size
    replace HX:Hid (Two w l.cells iL 99 X6):=HX.out.up hb
    replace hT0:=HX.out.a
    replace oT:=oT.up hb
    replace kB:=(hb.block _ (fG kB)).trans kB
    clear hb
    dsimp only [Rnd.cells,Rnd.cp2]
    go_wp2_with fail
    refine hK.out _ _ hT0 ?_
    clear hK K
    try simp only [Act.put,PZ]
    refine tE 9 14 hT0 ?_
    refine fI (rs:=[11]) (by kernel_rfl) (by simp) ?_
    refine fH.last rfl (fun K hK=>?_)
    refine iz (by kernel_rfl) none rfl 99 (.tmp 3) (.tmp 14) rfl gB 0 rfl (.agg #[.bool l.st,.slice aT l.nT cT,.slice none 0 0,.slice aq l.R.nQ cq,.slice ad l.R.nD cd,.int .i64 l.R.turn,.bool l.R.fresh,.slice av l.R.nS cv]) rfl 8 rfl 99 _ kB ir (Nat.le_of_ble_eq_true rfl) (by simp [Value.cells,Value.oneCell']) ?_
    intro X hP
    refine hK.out _ _ ?_
    clear hK K
    try simp only [Act.put,PZ]
    refine gx (by kernel_rfl) ?_ _
    obtain ⟨p,ep⟩:∃ p,(⟨l.st,aT,l.nT,cT,l.t,none,0,0,fun _=>none,l.uL,fun _=>0,l.uz,l.R.cp2 aq cq ad cd av cv A C⟩:Lng)=p:=⟨_,rfl⟩
    replace hP:Put X6 X gB p.cells 99:=hP.cast (by rw [←ep];rfl)
    exact dS
   obtain ⟨X7,eV⟩:∃ X,X1.alloc (.cells #[.bool false,.slice none 0 0,.slice none 0 0,.slice none 0 0,.slice none 0 0,.int .i64 0,.bool false,.slice none 0 0] 99)=X:=⟨_,rfl⟩
   have hb:Below X1.heap.size X1 X7:=by rw [←eV];exact (Below.refl _ _).alloc (Nat.le_refl _) _
   have kB:X7.heap[X1.heap.size]?=some (.cells #[.bool false,.slice none 0 0,.slice none 0 0,.slice none 0 0,.slice none 0 0,.int .i64 0,.bool false,.slice none 0 0] 99 (0,0)):=by rw [←eV];exact fK _ _
   have hgB:w.heap.size+1<X1.heap.size:=fG HX.out.b
   go_simp
   clear eV
   replace HX:Hid (Two w l.cells iL 99 X7):=HX.out.up hb
   replace hT0:=HX.out.a
   replace oE:=OG.up oE hb
   clear hb
   obtain ⟨gB,eB⟩:∃ g,X1.heap.size=g:=⟨_,rfl⟩
   rw [eB] at kB hgB ⊢
   refine hK.out _ _ hT0 ?_
   clear hK K
   try simp only [Act.put,PZ]
   refine fI (rs:=[5]) (by kernel_rfl) (by simp) ?_
   refine fH.cons rfl (fun K hK=>?_) fH.nil
   obtain ⟨aT,cT,X8,hr,oT,hgr,_⟩:=l9 (c:=l.cT) oE HX.out.bel.size HS.out.t (HR.out.t.up HX.out.bel)
   have hgt:Touch [gE] X7 X8:=Touch.qQ (v:=.slice (some ⟨gE,0,none⟩) 0 0) hgr
   have lE:=(OG.blk oE gE (by simp [gi])).1
   have hne:=OG.k8 oE (by decide) HX.out.a
   have hne2:=OG.k8 oE (by decide) HX.out.b
   have hne3:=OG.k8 oE (by decide) kB
   replace kB:=(hgt.block _ (fG kB) (by simpa [gi] using hne3)).trans kB
   clear hne3
   refine jz (by kernel_rfl) (some 10) rfl (.tmp 7) (.tmp 9) 25 _ _ _ rfl rfl rfl rfl hr ?_
   replace HX:Hid (Two w l.cells iL 99 X8):=⟨(hgt.block _ (fG HX.out.a) (by simpa [gi] using hne)).trans HX.out.a,(hgt.block _ (fG HX.out.b) (by simpa [gi] using hne2)).trans HX.out.b,HX.out.bel.trans (hgt.below HX.out.bel.size (fun x hx=>by simp at hx;omega))⟩
   replace hT0:=HX.out.a
   clear hr hgr hgt hne hne2 lE oE
   refine hK.out _ _ hT0 ?_
   clear hK K
   try simp only [Act.put,PZ]
   refine fI (rs:=[8]) (by kernel_rfl) (by simp) ?_
   refine fH.cons rfl (fun K hK=>?_) fH.nil
   go_simp
   refine (lh l.R _ HS.out.r (HR.out.r.up HX.out.bel)).mono ?_
   rintro e X9 ⟨aq,cq,ad,cd,av,cv,A,C,rfl,oR,hb⟩
   have hTR:∀ x∈gi aT,x∉(l.R.cp2 aq cq ad cd av cv A C).iJ:=fun x hx hy=>by have:=(OI.blk oT x hx).2;have:=(oR.blk x hy).1;omega
   replace oR:=oR.qR (base':=w.heap.size) HX.out.bel.size
   replace HX:Hid (Two w l.cells iL 99 X9):=HX.out.up hb
   replace hT0:=HX.out.a
   replace oT:=oT.up hb
   replace kB:=(hb.block _ (fG kB)).trans kB
   clear hb
   dsimp only [Rnd.cells,Rnd.cp2]
   go_wp2_with fail
   refine hK.out _ _ hT0 ?_
   clear hK K
   try simp only [Act.put,PZ]
   refine tE 9 14 hT0 ?_
   refine fI (rs:=[11]) (by kernel_rfl) (by simp) ?_
   refine fH.last rfl (fun K hK=>?_)
   refine iz (by kernel_rfl) none rfl 99 (.tmp 3) (.tmp 14) rfl gB 0 rfl (.agg #[.bool l.st,.slice aT l.nT cT,.slice none 0 0,.slice aq l.R.nQ cq,.slice ad l.R.nD cd,.int .i64 l.R.turn,.bool l.R.fresh,.slice av l.R.nS cv]) rfl 8 rfl 99 _ kB ir (Nat.le_of_ble_eq_true rfl) (by simp [Value.cells,Value.oneCell']) ?_
   intro X hP
   refine hK.out _ _ ?_
   clear hK K
   try simp only [Act.put,PZ]
   refine gx (by kernel_rfl) ?_ _
   obtain ⟨p,ep⟩:∃ p,(⟨l.st,aT,l.nT,cT,l.t,none,0,0,fun _=>none,l.uL,fun _=>0,l.uz,l.R.cp2 aq cq ad cd av cv A C⟩:Lng)=p:=⟨_,rfl⟩
   replace hP:Put X9 X gB p.cells 99:=hP.cast (by rw [←ep];rfl)
   exact dS
  obtain ⟨X10,eV⟩:∃ X,V.alloc (.cells #[.bool false,.slice none 0 0,.slice none 0 0,.slice none 0 0,.slice none 0 0,.int .i64 0,.bool false,.slice none 0 0] 99)=X:=⟨_,rfl⟩
  have hb:Below V.heap.size V X10:=by rw [←eV];exact (Below.refl _ _).alloc (Nat.le_refl _) _
  have kB:X10.heap[V.heap.size]?=some (.cells #[.bool false,.slice none 0 0,.slice none 0 0,.slice none 0 0,.slice none 0 0,.int .i64 0,.bool false,.slice none 0 0] 99 (0,0)):=by rw [←eV];exact fK _ _
  have hgB:w.heap.size+1<V.heap.size:=fG HX.out.b
  go_simp
  clear eV
  replace HX:Hid (Two w l.cells iL 99 X10):=HX.out.up hb
  replace hT0:=HX.out.a
  clear hb
  obtain ⟨gB,eB⟩:∃ g,V.heap.size=g:=⟨_,rfl⟩
  rw [eB] at kB hgB ⊢
  refine hK.out _ _ hT0 ?_
  clear hK K
  try simp only [Act.put,PZ]
  refine fI (rs:=[2]) (by kernel_rfl) (by simp) ?_
  refine fH.cons rfl (fun K hK=>?_) fH.nil
  obtain ⟨X11,eV⟩:∃ X,X10.alloc (.cells #[] 2)=X:=⟨_,rfl⟩
  have hb:Below X10.heap.size X10 X11:=by rw [←eV];exact (Below.refl _ _).alloc (Nat.le_refl _) _
  have oE:OG 2 1 X11 w.heap.size (some ⟨X10.heap.size,0,none⟩) 0 0 []:=by rw [←eV];exact World.ownsRow_made X10 #[] 0 HX.out.bel.size (Nat.zero_le _) rfl
  go_simp
  clear eV
  replace HX:Hid (Two w l.cells iL 99 X11):=HX.out.up hb
  replace hT0:=HX.out.a
  replace kB:=(hb.block _ (fG kB)).trans kB
  clear hb
  obtain ⟨gE,eE⟩:∃ g,X10.heap.size=g:=⟨_,rfl⟩
  rw [eE] at oE ⊢
  refine hK.out _ _ hT0 ?_
  clear hK K
  try simp only [Act.put,PZ]
  refine fI (rs:=[5]) (by kernel_rfl) (by simp) ?_
  refine fH.cons rfl (fun K hK=>?_) fH.nil
  obtain ⟨aT,cT,X12,hr,oT,hgr,_⟩:=l9 (c:=l.cT) oE HX.out.bel.size HS.out.t (HR.out.t.up HX.out.bel)
  have hgt:Touch [gE] X11 X12:=Touch.qQ (v:=.slice (some ⟨gE,0,none⟩) 0 0) hgr
  have lE:=(OG.blk oE gE (by simp [gi])).1
  have hne:=OG.k8 oE (by decide) HX.out.a
  have hne2:=OG.k8 oE (by decide) HX.out.b
  have hne3:=OG.k8 oE (by decide) kB
  replace kB:=(hgt.block _ (fG kB) (by simpa [gi] using hne3)).trans kB
  clear hne3
  refine jz (by kernel_rfl) (some 10) rfl (.tmp 7) (.tmp 9) 25 _ _ _ rfl rfl rfl rfl hr ?_
  replace HX:Hid (Two w l.cells iL 99 X12):=⟨(hgt.block _ (fG HX.out.a) (by simpa [gi] using hne)).trans HX.out.a,(hgt.block _ (fG HX.out.b) (by simpa [gi] using hne2)).trans HX.out.b,HX.out.bel.trans (hgt.below HX.out.bel.size (fun x hx=>by simp at hx;omega))⟩
  replace hT0:=HX.out.a
  clear hr hgr hgt hne hne2 lE oE
  refine hK.out _ _ hT0 ?_
  clear hK K
  try simp only [Act.put,PZ]
  refine fI (rs:=[8]) (by kernel_rfl) (by simp) ?_
  refine fH.cons rfl (fun K hK=>?_) fH.nil
  go_simp
  refine (lh l.R _ HS.out.r (HR.out.r.up HX.out.bel)).mono ?_
  rintro e X13 ⟨aq,cq,ad,cd,av,cv,A,C,rfl,oR,hb⟩
  have hTR:∀ x∈gi aT,x∉(l.R.cp2 aq cq ad cd av cv A C).iJ:=fun x hx hy=>by have:=(OI.blk oT x hx).2;have:=(oR.blk x hy).1;omega
  replace oR:=oR.qR (base':=w.heap.size) HX.out.bel.size
  replace HX:Hid (Two w l.cells iL 99 X13):=HX.out.up hb
  replace hT0:=HX.out.a
  replace oT:=oT.up hb
  replace kB:=(hb.block _ (fG kB)).trans kB
  clear hb
  dsimp only [Rnd.cells,Rnd.cp2]
  go_wp2_with fail
  refine hK.out _ _ hT0 ?_
  clear hK K
  try simp only [Act.put,PZ]
  refine tE 9 14 hT0 ?_
  refine fI (rs:=[11]) (by kernel_rfl) (by simp) ?_
  refine fH.last rfl (fun K hK=>?_)
  refine iz (by kernel_rfl) none rfl 99 (.tmp 3) (.tmp 14) rfl gB 0 rfl (.agg #[.bool l.st,.slice aT l.nT cT,.slice none 0 0,.slice aq l.R.nQ cq,.slice ad l.R.nD cd,.int .i64 l.R.turn,.bool l.R.fresh,.slice av l.R.nS cv]) rfl 8 rfl 99 _ kB ir (Nat.le_of_ble_eq_true rfl) (by simp [Value.cells,Value.oneCell']) ?_
  intro X hP
  refine hK.out _ _ ?_
  clear hK K
  try simp only [Act.put,PZ]
  refine gx (by kernel_rfl) ?_ _
  obtain ⟨p,ep⟩:∃ p,(⟨l.st,aT,l.nT,cT,l.t,none,0,0,fun _=>none,l.uL,fun _=>0,l.uz,l.R.cp2 aq cq ad cd av cv A C⟩:Lng)=p:=⟨_,rfl⟩
  replace hP:Put X13 X gB p.cells 99:=hP.cast (by rw [←ep];rfl)
  exact dS
 obtain ⟨gB,p,rfl,hgB,hnU,haU,hcU,hC,hX⟩:=hcut
 have HC:Hid (CpL w.heap.size gB l p wc):=hC
 replace HX:Hid (Two w l.cells iL 99 wc):=hX
 have HP0:Hid (p.nU=0):=hnU
 have HgB:Hid (w.heap.size+1<gB):=hgB
 clear hC hX hnU haU hcU hgB
 have HU:Hid (fW w l.aU l.nU fun i=>.slice (l.uA i) (l.uL i) (l.uC i)):=HR.out.u
 obtain ⟨aU,eU⟩:∃ a,l.aU=a:=⟨_,rfl⟩
 have HAU:Hid (l.aU=aU):=eU
 rw [eU] at HU
 clear eU
 have hnu:=HS.out.u
 go_wp2_with fail
 go_loopw [4] (fun i wr=>∃ (k:Nat) (q:Lng),k≤l.nU∧i=.int .i64 k∧Hid (q.nU=k∧CpL w.heap.size gB l q wr∧Two w l.cells iL 99 wr)) (fun i _=>l.nU-(intOf i).toNat)
 case atStart=>exact ⟨0,p,Nat.zero_le _,rfl,⟨HP0.out,HC.out,HX.out⟩⟩
 clear HC HX
 obtain ⟨k,q,hk,rfl,HQ⟩:=hrel
 have c2:wr.cell? ⟨w.heap.size,2,none⟩=some (.slice aU l.nU l.cU):=by rw [←HAU.out];exact fF HQ.out.2.2.a 2
 by_cases hlt:k<l.nU
 ·
  have hlt':(k:Int)<l.nU:=by omega
  obtain ⟨g0,o0,ea,hc0⟩:=(HU.out.up HQ.out.2.2.bel) k hlt
  subst ea
  dsimp only at hc0
  go_wp2_with fail
  refine ia (fun w'=>w'.heap[gB]?=some (.cells q.cells 99 (0,0))∧w'.cell? ⟨w.heap.size,2,none⟩=some (.slice (some ⟨g0,o0,none⟩) l.nU l.cU)∧w'.cell? ⟨g0,o0+k,none⟩=some (.slice (l.uA k) (l.uL k) (l.uC k))) 12 (by kernel_rfl) ?_
  have hd:Below wr.heap.size wr wr.drew:=(Below.refl _ _).drew
  replace HQ:Hid (q.nU=k∧CpL w.heap.size gB l q wr.drew∧Two w l.cells iL 99 wr.drew):=⟨HQ.out.1,HQ.out.2.1.up hd,HQ.out.2.2.up hd⟩
  replace c2:wr.drew.cell? ⟨w.heap.size,2,none⟩=some (.slice (some ⟨g0,o0,none⟩) l.nU l.cU):=c2
  replace hc0:wr.drew.cell? ⟨g0,o0+k,none⟩=some (.slice (l.uA k) (l.uL k) (l.uC k)):=hc0
  clear hd
  generalize wr.drew=V at *
  have hg0:g0<w.heap.size:=by obtain ⟨g9,o9,e9,h9⟩:=HU.out k hlt;cases e9;exact iI h9
  have HTT:Hid (∀ X:World,X.heap[gB]?=some (.cells q.cells 99 (0,0))→Below w.heap.size w X→X.heap[w.heap.size]?=some (.cells l.cells 99 (0,0))→(fun w'=>w'.heap[gB]?=some (.cells q.cells 99 (0,0))∧w'.cell? ⟨w.heap.size,2,none⟩=some (.slice (some ⟨g0,o0,none⟩) l.nU l.cU)∧w'.cell? ⟨g0,o0+k,none⟩=some (.slice (l.uA k) (l.uL k) (l.uC k))) X):=fun X e1 e2 e3=>⟨e1,(fF e3 2).trans ((fF HQ.out.2.2.a 2).symm.trans c2),by
   obtain ⟨g9,o9,e9,h9⟩:=(HU.out.up e2) k hlt
   cases e9
   exact h9⟩
  have hT0:=HTT.out V HQ.out.2.1.box HQ.out.2.2.bel HQ.out.2.2.a
  clear c2 hc0
  refine tE 0 22 hT0 ?_
  refine j3 (i:=1) (some 23) (v:=?_) ?_ hT0 ?_
  rotate_left
  ·
   intro wx hSw
   obtain ⟨hS1,hS2,hS3⟩:=hSw
   have c2:wx.cell? ⟨gB,2,none⟩=some (.slice q.aU k q.cU):=by rw [fF hS1 2,←HQ.out.1];rfl
   exact dT
  try simp only [Act.put,PZ]
  refine tE 3 25 hT0 ?_
  refine j3 (i:=4) (some 26) (v:=?_) ?_ hT0 ?_
  rotate_left
  · exact dW
  try simp only [Act.put,PZ]
  refine tE 5 27 hT0 ?_
  refine j3 (i:=6) (some 28) (v:=?_) ?_ hT0 ?_
  rotate_left
  · exact dW
  try simp only [Act.put,PZ]
  refine j3 (i:=7) (some 29) (v:=?_) ?_ hT0 ?_
  rotate_left
  · exact dW
  try simp only [Act.put,PZ]
  obtain ⟨a1,c1,X1,hr1,oA,hb⟩:=zJ (c:=l.uC k) (HS.out.z k hlt) ((HR.out.z k hlt).up HQ.out.2.2.bel)
  have HA1:Hid (OI X1 V.heap.size a1 (l.uL k) c1 (l.uz k)∧Below V.heap.size V X1):=⟨oA,hb⟩
  have HR1:Hid ((Builtin.append_ #[25,25] 25 #[.slice (some ⟨V.heap.size,0,none⟩) 0 0,.slice (l.uA k) (l.uL k) (l.uC k)]).run Tryz.prog (V.alloc (.cells #[] 2))=.ok (.slice a1 (l.uL k) c1) X1):=hr1
  have hA:Below V.heap.size V (V.alloc (.cells #[] 2)):=(Below.refl _ _).alloc (Nat.le_refl _) _
  have hTa:=HTT.out _ (HQ.out.2.1.up hA).box (HQ.out.2.2.up hA).bel (HQ.out.2.2.up hA).a
  have Q1:=HQ.out.2.1.up hb
  have hu0:OG 25 1 X1 w.heap.size q.aU k q.cU (ox k q.uA q.uL q.uC):=by have:=Q1.own.u;rw [HQ.out.1] at this;exact this
  obtain ⟨g1,c3,X3,hr,hu,ht,hg⟩:=lH 83 25 (.slice none 0 0) 1 24 tm Tryz.underlying83 rfl (by decide) (by decide) hu0 (by omega) (Nat.le_trans HQ.out.2.2.bel.size hb.size) #[.slice a1 (l.uL k) c1] rfl (by simp [Value.oneCell'])
  have hX1:=HQ.out.2.2.up hb
  have hT1:=HTT.out X1 Q1.box hX1.bel hX1.a
  have hB2:Below X1.heap.size X1 (X1.alloc (.cells #[.slice a1 (l.uL k) c1] 25)):=(Below.refl _ _).alloc (Nat.le_refl _) _
  have hT2:=HTT.out _ (Q1.up hB2).box (hX1.up hB2).bel (hX1.up hB2).a
  have hX3:=hX1.far ht (fun hg=>hu0.k8 (by decide) hg) (fun x hx=>(hu0.blk x hx).1)
  have hb3:X3.heap[gB]?=some (.cells q.cells 99 (0,0)):=(ht.block gB (fG Q1.box) (hu0.k8 (by decide) Q1.box)).trans Q1.box
  have hT3:=HTT.out X3 hb3 hX3.bel hX3.a
  have HX3:Hid (Two w l.cells iL 99 X3):=hX3
  have HN3:Hid (OG 25 1 X3 w.heap.size (some ⟨g1,0,none⟩) (k+1) c3 (ox k q.uA q.uL q.uC++[.slice a1 (l.uL k) c1])∧Touch (gi q.aU) X1 X3∧(g1∈gi q.aU∨X1.heap.size≤g1)):=⟨hu,ht,hg⟩
  have HR3:Hid ((Builtin.append_ #[83,83] 83 #[.slice q.aU k q.cU,.slice (some ⟨X1.heap.size,0,none⟩) 1 1]).run Tryz.prog (X1.alloc (.cells #[.slice a1 (l.uL k) c1] 25))=.ok (.slice (some ⟨g1,0,none⟩) (k+1) c3) X3):=hr
  clear oA hb Q1 hu0 hr hr1 hu ht hg hT0 hA hX1 hB2 hX3
  refine fI (rs:=[2]) (by kernel_rfl) (by simp) ?_
  refine fH.cons rfl (fun K hK=>?_) fH.nil
  go_simp
  refine hK.out _ _ hTa ?_
  clear hK K
  try simp only [Act.put,PZ]
  refine fI (rs:=[8]) (by kernel_rfl) (by simp) ?_
  refine fH.cons rfl (fun K hK=>?_) fH.nil
  refine jz (by kernel_rfl) (some 30) rfl (.tmp 24) (.tmp 29) 25 _ _ _ rfl rfl rfl rfl HR1.out ?_
  refine hK.out _ _ hT1 ?_
  clear hK K
  try simp only [Act.put,PZ]
  refine fI (rs:=[9]) (by kernel_rfl) (by simp) ?_
  refine fH.cons rfl (fun K hK=>?_) fH.nil
  go_simp
  refine hK.out _ _ hT2 ?_
  clear hK K
  try simp only [Act.put,PZ]
  refine fI (rs:=[10]) (by kernel_rfl) (by simp) ?_
  refine fH.cons rfl (fun K hK=>?_) fH.nil
  refine jz (by kernel_rfl) (some 32) rfl (.tmp 23) (.tmp 31) 83 _ _ _ rfl rfl rfl rfl HR3.out ?_
  refine hK.out _ _ hT3 ?_
  clear hK K hT2 HR3 hTa HR1 hT1
  try simp only [Act.put,PZ]
  have hT0:=hT3
  refine tE 11 33 hT0 ?_
  refine fI (rs:=[12]) (by kernel_rfl) (by simp) ?_
  refine fH.last rfl (fun K hK=>?_)
  refine iz (by kernel_rfl) none rfl 83 (.tmp 33) (.tmp 32) rfl gB 2 rfl (.slice (some ⟨g1,0,none⟩) (k+1) c3) rfl 1 rfl 99 _ hb3 vd (Nat.le_of_ble_eq_true rfl) (by simp [Value.cells,Value.oneCell']) ?_
  intro X4 hP
  refine hK.out _ _ ?_
  clear hK K
  try simp only [Act.put,PZ]
  refine gx (by kernel_rfl) ?_ _
  have HN:Hid ((q.more k (some ⟨g1,0,none⟩) c3 a1 c1).nU=k+1∧CpL w.heap.size gB l (q.more k (some ⟨g1,0,none⟩) c3 a1 c1) X4∧Two w l.cells iL 99 X4):=⟨rfl,HQ.out.2.1.more HQ.out.1 HA1.out.2 HQ.out.2.2.bel.size HA1.out.1 HN3.out.1 HN3.out.2.1 HN3.out.2.2 hP,HX3.out.put hP HgB.out⟩
  clear hP hT0 hT3 hb3 HN3 HA1 HQ HX3 HTT hg0
  exact dV
 obtain rfl:k=l.nU:=by omega
 obtain ⟨hq1,hq2,hq3⟩:=HQ.out
 have HL:Hid (∀ j,j<8→wr.cell? ⟨gB,0+j,none⟩=q.cells[j]?):=fun j _=>by rw [Nat.zero_add];exact fF hq2.box j
 have HD:Hid (wr.heap[w.heap.size+1]?=some (.cells iL 99 (0,0))):=hq3.b
 clear hq1 hq2 hq3
 go_wp2_with (first | refine fM rfl 99 8 _ Tryz.underlying99 rfl ir (.tmp 3) rfl gB 0 rfl q.cells rfl HL.out ?_ | refine fJ rfl 99 (.tmp 2) (.tmp 34) rfl (w.heap.size+1) 0 rfl (.agg q.cells) rfl 8 rfl 99 _ HD.out ir (Nat.le_of_ble_eq_true rfl) (Lng.mi _) ?_)
 intro X hP
 replace hP:Put wr X (w.heap.size+1) q.cells 99:=hP.cast rfl
 have HK:Hid (X.heap[w.heap.size+1]?=some (.cells q.cells 99 (0,0))):=hP.blk
 have HF:Hid (gk l q∧gg X w.heap.size q∧Below w.heap.size w X):=⟨⟨HQ.out.2.1.st,HQ.out.2.1.nT,HQ.out.2.1.t,HQ.out.1,HQ.out.2.1.ul,HQ.out.2.1.uz,HQ.out.2.1.r⟩,HQ.out.2.1.own.box HD.out (by decide) (by decide) hP.to,HQ.out.2.2.bel.trans (hP.to.below HQ.out.2.2.bel.size (fun x hx=>by simp at hx;omega))⟩
 clear hP HL HD HQ
 go_wp2_with fail
 exact bodyPost_ret (js Tryz.results96 8 _ Tryz.underlying99 rfl ir _ _ (w.heap.size+1) q.cells rfl 99 HK.out rfl) rfl ⟨q,rfl,HF.out.1,HF.out.2.1,HF.out.2.2⟩
theorem xp (S:Swg) (w:World) (hs:S.Small) (hU:0<S.N.nU) (hPp:0<S.N.nP) (h:jL w S) :
  Calls Tryz.prog 52 #[.agg S.cells] w fun e w'=>∃ S2,e=.returned (.agg S2.cells)∧fP S S2∧gy w' w.heap.size S2∧Below w.heap.size w w':=by
 have HR:Hid (jL w S):=h
 have HS:Hid S.Small:=hs
 have HU0:Hid (0<S.N.nU∧0<S.N.nP):=⟨hU,hPp⟩
 clear h hs hU hPp
 obtain ⟨W0,eW⟩:∃ W,(((w.alloc (.cells S.cells 43)).alloc (.cells #[.int .i64 0,.int .i64 0,.int .i64 0,.int .i64 0,.int .i64 0,.int .i64 0,.int .i64 0,.int .i64 0,.int .i64 0,.slice none 0 0,.slice none 0 0,.int .i64 0,.slice none 0 0,.slice none 0 0,.slice none 0 0,.int .i64 0,.int .i64 0] 43)).alloc (.cells #[.int .i64 0,.int .i64 0,.int .i64 0,.int .i64 0,.int .i64 0,.int .i64 0,.int .i64 0,.int .i64 0,.int .i64 0,.slice none 0 0,.slice none 0 0,.int .i64 0,.slice none 0 0,.slice none 0 0,.slice none 0 0,.int .i64 0,.int .i64 0] 43))=W:=⟨_,rfl⟩
 have HX:Hid (gI w S.cells #[.int .i64 0,.int .i64 0,.int .i64 0,.int .i64 0,.int .i64 0,.int .i64 0,.int .i64 0,.int .i64 0,.int .i64 0,.slice none 0 0,.slice none 0 0,.int .i64 0,.slice none 0 0,.slice none 0 0,.slice none 0 0,.int .i64 0,.int .i64 0] #[.int .i64 0,.int .i64 0,.int .i64 0,.int .i64 0,.int .i64 0,.int .i64 0,.int .i64 0,.int .i64 0,.int .i64 0,.slice none 0 0,.slice none 0 0,.int .i64 0,.slice none 0 0,.slice none 0 0,.slice none 0 0,.int .i64 0,.int .i64 0] 43 43 W0):=by rw [←eW];exact gI.start _ _ _ _ _ _
 have HL0:Hid (∀ j,j<17→((w.alloc (.cells S.cells 43)).alloc (.cells #[.int .i64 0,.int .i64 0,.int .i64 0,.int .i64 0,.int .i64 0,.int .i64 0,.int .i64 0,.int .i64 0,.int .i64 0,.slice none 0 0,.slice none 0 0,.int .i64 0,.slice none 0 0,.slice none 0 0,.slice none 0 0,.int .i64 0,.int .i64 0] 43)).cell? ⟨w.heap.size,0+j,none⟩=S.cells[j]?):=fun j _=>by rw [Nat.zero_add];exact fF (Two.start w S.cells #[.int .i64 0,.int .i64 0,.int .i64 0,.int .i64 0,.int .i64 0,.int .i64 0,.int .i64 0,.int .i64 0,.int .i64 0,.slice none 0 0,.slice none 0 0,.int .i64 0,.slice none 0 0,.slice none 0 0,.slice none 0 0,.int .i64 0,.int .i64 0] 43).a j
 have HC:Hid (W0.heap[w.heap.size+1+1]?=some (.cells #[.int .i64 0,.int .i64 0,.int .i64 0,.int .i64 0,.int .i64 0,.int .i64 0,.int .i64 0,.int .i64 0,.int .i64 0,.slice none 0 0,.slice none 0 0,.int .i64 0,.slice none 0 0,.slice none 0 0,.slice none 0 0,.int .i64 0,.int .i64 0] 43 (0,0))):=HX.out.c
 go_enter Tryz.func52,Tryz.ntmps52
 go_wp2_with (first | refine fM rfl 43 17 _ Tryz.underlying43 rfl fV (.tmp 1) rfl w.heap.size 0 rfl S.cells rfl HL0.out ?_ | refine fJ rfl 43 (.tmp 3) (.tmp 5) rfl (w.heap.size+1+1) 0 rfl (.agg S.cells) rfl 17 rfl 43 _ HC.out fV (Nat.le_of_ble_eq_true rfl) (Swg.mi _) ?_)
 clear HL0
 intro W1 hP
 clear eW
 replace hP:=hP.cast (cs':=#[.int .i64 S.C.p,.int .i64 S.C.c,.int .i64 S.C.xo,.int .i64 S.C.xn,.int .i64 S.C.hd,.int .i64 S.C.lo,.int .i64 S.C.dl,.int .i64 S.now,.int .i64 S.nx,.slice S.aE S.nE S.cE,.slice S.N.aU S.N.nU S.N.cU,.int .i64 S.N.lo,.slice S.N.aP S.N.nP S.N.cP,.slice S.aK S.nK S.cK,.slice S.aL S.nL S.cL,.int .i64 S.dr,.int .i64 S.lst]) rfl
 replace HX:Hid (gI w S.cells #[.int .i64 0,.int .i64 0,.int .i64 0,.int .i64 0,.int .i64 0,.int .i64 0,.int .i64 0,.int .i64 0,.int .i64 0,.slice none 0 0,.slice none 0 0,.int .i64 0,.slice none 0 0,.slice none 0 0,.slice none 0 0,.int .i64 0,.int .i64 0] #[.int .i64 S.C.p,.int .i64 S.C.c,.int .i64 S.C.xo,.int .i64 S.C.xn,.int .i64 S.C.hd,.int .i64 S.C.lo,.int .i64 S.C.dl,.int .i64 S.now,.int .i64 S.nx,.slice S.aE S.nE S.cE,.slice S.N.aU S.N.nU S.N.cU,.int .i64 S.N.lo,.slice S.N.aP S.N.nP S.N.cP,.slice S.aK S.nK S.cK,.slice S.aL S.nL S.cL,.int .i64 S.dr,.int .i64 S.lst] 43 43 W1):=HX.out.put hP
 have T1:Touch [w.heap.size+1,w.heap.size+1+1] W0 W1:=hP.to.mono (fun x hx=>by simp at hx;simp [hx])
 clear hP HC 
 obtain ⟨aE,cE,we,hr,rE,hb⟩:=oe (V:=W1) (c:=S.cE) 38 92 _ 3 24 y9 Tryz.underlying38 rfl (by decide) (by decide) HS.out.e (by rw [lj,iH]) ((HR.out.e.up HX.out.bel).cs) (tx _)
 have srE:=HX.out.sz
 have c9:(W1.alloc (.cells #[] 92)).cell? ⟨w.heap.size,9,none⟩=some (.slice S.aE S.nE S.cE):=(fF ((fY _ (fG HX.out.a)).trans HX.out.a) 9)
 replace HX:Hid (gI w S.cells #[.int .i64 0,.int .i64 0,.int .i64 0,.int .i64 0,.int .i64 0,.int .i64 0,.int .i64 0,.int .i64 0,.int .i64 0,.slice none 0 0,.slice none 0 0,.int .i64 0,.slice none 0 0,.slice none 0 0,.slice none 0 0,.int .i64 0,.int .i64 0] #[.int .i64 S.C.p,.int .i64 S.C.c,.int .i64 S.C.xo,.int .i64 S.C.xn,.int .i64 S.C.hd,.int .i64 S.C.lo,.int .i64 S.C.dl,.int .i64 S.now,.int .i64 S.nx,.slice S.aE S.nE S.cE,.slice S.N.aU S.N.nU S.N.cU,.int .i64 S.N.lo,.slice S.N.aP S.N.nP S.N.cP,.slice S.aK S.nK S.cK,.slice S.aL S.nL S.cL,.int .i64 S.dr,.int .i64 S.lst] 43 43 we):=HX.out.up hb
 have T2:Touch [w.heap.size+1,w.heap.size+1+1] W1 we:=Touch.gY hb
 clear hb
 have HC:=HX.out.c
 replace HC:Hid (we.heap[w.heap.size+1+1]?=some (.cells #[.int .i64 S.C.p,.int .i64 S.C.c,.int .i64 S.C.xo,.int .i64 S.C.xn,.int .i64 S.C.hd,.int .i64 S.C.lo,.int .i64 S.C.dl,.int .i64 S.now,.int .i64 S.nx,.slice S.aE S.nE S.cE,.slice S.N.aU S.N.nU S.N.cU,.int .i64 S.N.lo,.slice S.N.aP S.N.nP S.N.cP,.slice S.aK S.nK S.cK,.slice S.aL S.nL S.cL,.int .i64 S.dr,.int .i64 S.lst] 43 (0,0))):=HC
 have HRn:Hid ((Builtin.append_ #[38,38] 38 #[.slice (some ⟨W1.heap.size,0,none⟩) 0 0,.slice S.aE S.nE S.cE]).run Tryz.prog (W1.alloc (.cells #[] 92))=.ok (.slice aE S.nE cE) we):=hr
 clear hr
 go_wp2_with (first | (at_builtin;refine Lib.wpList_append_run _ rfl _ _ _ _ rfl _ _ rfl rfl _ _ HRn.out ?_) | refine fJ rfl 38 (.tmp 10) (.tmp 9) rfl (w.heap.size+1+1) 9 rfl (.slice aE S.nE cE) rfl 1 rfl 43 _ HC.out qi (Nat.le_of_ble_eq_true rfl) (by simp [Value.cells,Value.oneCell',Rnd.cells,Cfg.cells,Cnt.cells]) ?_)
 clear HRn c9
 intro W3 hP
 replace hP:=hP.cast (cs':=#[.int .i64 S.C.p,.int .i64 S.C.c,.int .i64 S.C.xo,.int .i64 S.C.xn,.int .i64 S.C.hd,.int .i64 S.C.lo,.int .i64 S.C.dl,.int .i64 S.now,.int .i64 S.nx,.slice aE S.nE cE,.slice S.N.aU S.N.nU S.N.cU,.int .i64 S.N.lo,.slice S.N.aP S.N.nP S.N.cP,.slice S.aK S.nK S.cK,.slice S.aL S.nL S.cL,.int .i64 S.dr,.int .i64 S.lst]) rfl
 replace HX:Hid (gI w S.cells #[.int .i64 0,.int .i64 0,.int .i64 0,.int .i64 0,.int .i64 0,.int .i64 0,.int .i64 0,.int .i64 0,.int .i64 0,.slice none 0 0,.slice none 0 0,.int .i64 0,.slice none 0 0,.slice none 0 0,.slice none 0 0,.int .i64 0,.int .i64 0] #[.int .i64 S.C.p,.int .i64 S.C.c,.int .i64 S.C.xo,.int .i64 S.C.xn,.int .i64 S.C.hd,.int .i64 S.C.lo,.int .i64 S.C.dl,.int .i64 S.now,.int .i64 S.nx,.slice aE S.nE cE,.slice S.N.aU S.N.nU S.N.cU,.int .i64 S.N.lo,.slice S.N.aP S.N.nP S.N.cP,.slice S.aK S.nK S.cK,.slice S.aL S.nL S.cL,.int .i64 S.dr,.int .i64 S.lst] 43 43 W3):=HX.out.put hP
 have T3:Touch [w.heap.size+1,w.heap.size+1+1] we W3:=hP.to.mono (fun x hx=>by simp at hx;simp [hx])
 clear hP HC 
 have c10:W3.cell? ⟨w.heap.size,10,none⟩=some (.slice S.N.aU S.N.nU S.N.cU):=fF HX.out.a 10
 have c11:W3.cell? ⟨w.heap.size,11,none⟩=some (.int .i64 S.N.lo):=fF HX.out.a 11
 have c12:W3.cell? ⟨w.heap.size,12,none⟩=some (.slice S.N.aP S.N.nP S.N.cP):=fF HX.out.a 12
 go_wp2_with fail
 refine (ny S.N _ HU0.out.1 HU0.out.2 HS.out.n (HR.out.n.up HX.out.bel)).mono ?_
 rintro e wn ⟨M,rfl,rN,hb,aN⟩
 clear c10 c11 c12
 have sN:=HX.out.sz
 replace HX:Hid (gI w S.cells #[.int .i64 0,.int .i64 0,.int .i64 0,.int .i64 0,.int .i64 0,.int .i64 0,.int .i64 0,.int .i64 0,.int .i64 0,.slice none 0 0,.slice none 0 0,.int .i64 0,.slice none 0 0,.slice none 0 0,.slice none 0 0,.int .i64 0,.int .i64 0] #[.int .i64 S.C.p,.int .i64 S.C.c,.int .i64 S.C.xo,.int .i64 S.C.xn,.int .i64 S.C.hd,.int .i64 S.C.lo,.int .i64 S.C.dl,.int .i64 S.now,.int .i64 S.nx,.slice aE S.nE cE,.slice S.N.aU S.N.nU S.N.cU,.int .i64 S.N.lo,.slice S.N.aP S.N.nP S.N.cP,.slice S.aK S.nK S.cK,.slice S.aL S.nL S.cL,.int .i64 S.dr,.int .i64 S.lst] 43 43 wn):=HX.out.up hb
 have T4:Touch [w.heap.size+1,w.heap.size+1+1] W3 wn:=Touch.gY hb
 clear hb
 have HC:=HX.out.c
 replace HC:Hid (wn.heap[w.heap.size+1+1]?=some (.cells #[.int .i64 S.C.p,.int .i64 S.C.c,.int .i64 S.C.xo,.int .i64 S.C.xn,.int .i64 S.C.hd,.int .i64 S.C.lo,.int .i64 S.C.dl,.int .i64 S.now,.int .i64 S.nx,.slice aE S.nE cE,.slice S.N.aU S.N.nU S.N.cU,.int .i64 S.N.lo,.slice S.N.aP S.N.nP S.N.cP,.slice S.aK S.nK S.cK,.slice S.aL S.nL S.cL,.int .i64 S.dr,.int .i64 S.lst] 43 (0,0))):=HC
 go_wp2_with (refine fJ rfl 39 (.tmp 14) (.tmp 13) rfl (w.heap.size+1+1) 10 rfl (.agg M.cells) rfl 3 rfl 43 _ HC.out zb (Nat.le_of_ble_eq_true rfl) (by simp [Value.cells,Value.oneCell',Rnd.cells,Cfg.cells,Cnt.cells]) ?_)
 intro W5 hP
 replace hP:=hP.cast (cs':=#[.int .i64 S.C.p,.int .i64 S.C.c,.int .i64 S.C.xo,.int .i64 S.C.xn,.int .i64 S.C.hd,.int .i64 S.C.lo,.int .i64 S.C.dl,.int .i64 S.now,.int .i64 S.nx,.slice aE S.nE cE,.slice M.aU M.nU M.cU,.int .i64 M.lo,.slice M.aP M.nP M.cP,.slice S.aK S.nK S.cK,.slice S.aL S.nL S.cL,.int .i64 S.dr,.int .i64 S.lst]) rfl
 replace HX:Hid (gI w S.cells #[.int .i64 0,.int .i64 0,.int .i64 0,.int .i64 0,.int .i64 0,.int .i64 0,.int .i64 0,.int .i64 0,.int .i64 0,.slice none 0 0,.slice none 0 0,.int .i64 0,.slice none 0 0,.slice none 0 0,.slice none 0 0,.int .i64 0,.int .i64 0] #[.int .i64 S.C.p,.int .i64 S.C.c,.int .i64 S.C.xo,.int .i64 S.C.xn,.int .i64 S.C.hd,.int .i64 S.C.lo,.int .i64 S.C.dl,.int .i64 S.now,.int .i64 S.nx,.slice aE S.nE cE,.slice M.aU M.nU M.cU,.int .i64 M.lo,.slice M.aP M.nP M.cP,.slice S.aK S.nK S.cK,.slice S.aL S.nL S.cL,.int .i64 S.dr,.int .i64 S.lst] 43 43 W5):=HX.out.put hP
 have T5:Touch [w.heap.size+1,w.heap.size+1+1] wn W5:=hP.to.mono (fun x hx=>by simp at hx;simp [hx])
 clear hP HC 
 obtain ⟨aK,cK,wk,hr,rK,hb⟩:=oe (V:=W5) (c:=S.cK) 40 94 _ 8 72 po Tryz.underlying40 rfl (by decide) (by decide) HS.out.k (me _ _) ((HR.out.k.up HX.out.bel).cs) (vU _ _)
 have srK:=HX.out.sz
 have c13:(W5.alloc (.cells #[] 94)).cell? ⟨w.heap.size,13,none⟩=some (.slice S.aK S.nK S.cK):=(fF ((fY _ (fG HX.out.a)).trans HX.out.a) 13)
 replace HX:Hid (gI w S.cells #[.int .i64 0,.int .i64 0,.int .i64 0,.int .i64 0,.int .i64 0,.int .i64 0,.int .i64 0,.int .i64 0,.int .i64 0,.slice none 0 0,.slice none 0 0,.int .i64 0,.slice none 0 0,.slice none 0 0,.slice none 0 0,.int .i64 0,.int .i64 0] #[.int .i64 S.C.p,.int .i64 S.C.c,.int .i64 S.C.xo,.int .i64 S.C.xn,.int .i64 S.C.hd,.int .i64 S.C.lo,.int .i64 S.C.dl,.int .i64 S.now,.int .i64 S.nx,.slice aE S.nE cE,.slice M.aU M.nU M.cU,.int .i64 M.lo,.slice M.aP M.nP M.cP,.slice S.aK S.nK S.cK,.slice S.aL S.nL S.cL,.int .i64 S.dr,.int .i64 S.lst] 43 43 wk):=HX.out.up hb
 have T6:Touch [w.heap.size+1,w.heap.size+1+1] W5 wk:=Touch.gY hb
 clear hb
 have HC:=HX.out.c
 replace HC:Hid (wk.heap[w.heap.size+1+1]?=some (.cells #[.int .i64 S.C.p,.int .i64 S.C.c,.int .i64 S.C.xo,.int .i64 S.C.xn,.int .i64 S.C.hd,.int .i64 S.C.lo,.int .i64 S.C.dl,.int .i64 S.now,.int .i64 S.nx,.slice aE S.nE cE,.slice M.aU M.nU M.cU,.int .i64 M.lo,.slice M.aP M.nP M.cP,.slice S.aK S.nK S.cK,.slice S.aL S.nL S.cL,.int .i64 S.dr,.int .i64 S.lst] 43 (0,0))):=HC
 have HRn:Hid ((Builtin.append_ #[40,40] 40 #[.slice (some ⟨W5.heap.size,0,none⟩) 0 0,.slice S.aK S.nK S.cK]).run Tryz.prog (W5.alloc (.cells #[] 94))=.ok (.slice aK S.nK cK) wk):=hr
 clear hr
 go_wp2_with (first | (at_builtin;refine Lib.wpList_append_run _ rfl _ _ _ _ rfl _ _ rfl rfl _ _ HRn.out ?_) | refine fJ rfl 40 (.tmp 19) (.tmp 18) rfl (w.heap.size+1+1) 13 rfl (.slice aK S.nK cK) rfl 1 rfl 43 _ HC.out yZ (Nat.le_of_ble_eq_true rfl) (by simp [Value.cells,Value.oneCell',Rnd.cells,Cfg.cells,Cnt.cells]) ?_)
 clear HRn c13
 intro W7 hP
 replace hP:=hP.cast (cs':=#[.int .i64 S.C.p,.int .i64 S.C.c,.int .i64 S.C.xo,.int .i64 S.C.xn,.int .i64 S.C.hd,.int .i64 S.C.lo,.int .i64 S.C.dl,.int .i64 S.now,.int .i64 S.nx,.slice aE S.nE cE,.slice M.aU M.nU M.cU,.int .i64 M.lo,.slice M.aP M.nP M.cP,.slice aK S.nK cK,.slice S.aL S.nL S.cL,.int .i64 S.dr,.int .i64 S.lst]) rfl
 replace HX:Hid (gI w S.cells #[.int .i64 0,.int .i64 0,.int .i64 0,.int .i64 0,.int .i64 0,.int .i64 0,.int .i64 0,.int .i64 0,.int .i64 0,.slice none 0 0,.slice none 0 0,.int .i64 0,.slice none 0 0,.slice none 0 0,.slice none 0 0,.int .i64 0,.int .i64 0] #[.int .i64 S.C.p,.int .i64 S.C.c,.int .i64 S.C.xo,.int .i64 S.C.xn,.int .i64 S.C.hd,.int .i64 S.C.lo,.int .i64 S.C.dl,.int .i64 S.now,.int .i64 S.nx,.slice aE S.nE cE,.slice M.aU M.nU M.cU,.int .i64 M.lo,.slice M.aP M.nP M.cP,.slice aK S.nK cK,.slice S.aL S.nL S.cL,.int .i64 S.dr,.int .i64 S.lst] 43 43 W7):=HX.out.put hP
 have T7:Touch [w.heap.size+1,w.heap.size+1+1] wk W7:=hP.to.mono (fun x hx=>by simp at hx;simp [hx])
 clear hP HC 
 obtain ⟨P,eP⟩:∃ P,(⟨S.C,S.now,S.nx,aE,S.nE,cE,S.e,M,aK,S.nK,cK,S.K,S.aL,S.nL,S.cL,S.L,S.dr,S.lst⟩:Swg)=P:=⟨_,rfl⟩
 have e3:#[.int .i64 S.C.p,.int .i64 S.C.c,.int .i64 S.C.xo,.int .i64 S.C.xn,.int .i64 S.C.hd,.int .i64 S.C.lo,.int .i64 S.C.dl,.int .i64 S.now,.int .i64 S.nx,.slice aE S.nE cE,.slice M.aU M.nU M.cU,.int .i64 M.lo,.slice M.aP M.nP M.cP,.slice aK S.nK cK,.slice S.aL S.nL S.cL,.int .i64 S.dr,.int .i64 S.lst]=P.cells:=by rw [←eP];rfl
 rw [e3] at HX
 clear e3
 have hlow:∀ x∈[w.heap.size+1,w.heap.size+1+1],x<w.heap.size+1+1+1:=by intro x hx;simp at hx;omega
 have HA:Hid (CpA S P):=by rw [←eP];exact ⟨rfl,rfl,rfl,rfl,rfl,aN,rfl,rfl,rfl,rfl⟩
 have HP:Hid (CpS w S P W7):=by
  rw [←eP] at HX ⊢
  exact ⟨HX.out,OG.mono (rE.low ((((T3.trans T4).trans T5).trans T6).trans T7) (fun x hx=>by have:=hlow x hx;omega)) (by omega),gV.mono (rN.kO ((T5.trans T6).trans T7) (fun x hx=>by have:=hlow x hx;omega)) (by omega),OG.mono (rK.low T7 (fun x hx=>by have:=hlow x hx;omega)) (by omega)⟩
 clear HX eP rE rN rK aN srE sN srK hlow T1 T2 T3 T4 T5 T6 T7
 have HC:Hid (W7.heap[w.heap.size+1+1]?=some (.cells P.cells 43 (0,0))):=HP.out.x.c
 go_wp2_with (refine fJ rfl 41 (.tmp 20) (.const (.slice none 0 0)) rfl (w.heap.size+1+1) 14 rfl (.slice none 0 0) rfl 1 rfl 43 _ HC.out tj (Nat.le_of_ble_eq_true rfl) (by simp [Value.cells,Value.oneCell']) ?_)
 intro Y0 hP
 obtain ⟨P1,eP1⟩:∃ P1,({ P with aL:=none,nL:=0,cL:=0 }:Swg)=P1:=⟨_,rfl⟩
 replace hP:Put W7 Y0 (w.heap.size+1+1) P1.cells 43:=hP.cast (by rw [←eP1];rfl)
 have HP1:Hid (r7 w S P1 0 Y0):=by
  have q:=HP.out
  rw [←eP1] at hP ⊢
  exact ⟨⟨q.x.put hP,q.e.fL hP.to (fun x hx hy=>q.e.k8 (by decide) q.x.c ((List.mem_singleton.1 hy)▸hx)),q.n.C3 q.x.c (by decide) (by decide) hP.to,q.k.fL hP.to (fun x hx hy=>q.k.k8 (by decide) q.x.c ((List.mem_singleton.1 hy)▸hx))⟩,⟨HA.out.c,HA.out.now,HA.out.nx,HA.out.nE,HA.out.e,HA.out.n,HA.out.nK,HA.out.k,HA.out.dr,HA.out.lst⟩,iV.nil _ _ _,fun x hx hy=>by simp at hy,rfl,fun i hi=>absurd hi (Nat.not_lt_zero _)⟩
 clear hP HC HP eP1 HA
 have HU:Hid (pP w S.aL S.nL S.L):=HR.out.l
 obtain ⟨aL0,eU⟩:∃ a,S.aL=a:=⟨_,rfl⟩
 have HAL:Hid (S.aL=aL0):=eU
 rw [eU] at HU
 clear eU
 have hnl:=HS.out.l
 go_wp2_with fail
 go_loopw [4] (fun i wr=>∃ (k:Nat) (P:Swg),k≤S.nL∧i=.int .i64 k∧Hid (r7 w S P k wr)) (fun i _=>S.nL-(intOf i).toNat)
 case atStart=>exact ⟨0,P1,Nat.zero_le _,rfl,HP1⟩
 clear HP1
 obtain ⟨k,P,hk,rfl,HP⟩:=hrel
 have c14:wr.cell? ⟨w.heap.size,14,none⟩=some (.slice aL0 S.nL S.cL):=by rw [←HAL.out];exact fF HP.out.s.x.a 14
 by_cases hlt:k<S.nL
 ·
  have hlt':(k:Int)<S.nL:=by omega
  obtain ⟨g0,o0,ea,hc⟩:=(HU.out.up HP.out.s.x.bel) k hlt
  subst ea
  go_wp2_with fail
  refine ia (fun w'=>w'.heap[w.heap.size+1+1]?=some (.cells P.cells 43 (0,0))∧w'.cell? ⟨w.heap.size,14,none⟩=some (.slice (some ⟨g0,o0,none⟩) S.nL S.cL)∧∀ j,j<8→w'.cell? ⟨g0,o0+k*8+j,none⟩=(S.L k).cells[j]?) 11 (by kernel_rfl) ?_
  have hd:Below wr.heap.size wr wr.drew:=(Below.refl _ _).drew
  replace HP:Hid (r7 w S P k wr.drew):=HP.out.up hd
  replace c14:wr.drew.cell? ⟨w.heap.size,14,none⟩=some (.slice (some ⟨g0,o0,none⟩) S.nL S.cL):=c14
  clear hd hc
  generalize wr.drew=V at *
  have HTT:Hid (∀ X:World,X.heap[w.heap.size+1+1]?=some (.cells P.cells 43 (0,0))→Below w.heap.size w X→X.heap[w.heap.size]?=some (.cells S.cells 43 (0,0))→(fun w'=>w'.heap[w.heap.size+1+1]?=some (.cells P.cells 43 (0,0))∧w'.cell? ⟨w.heap.size,14,none⟩=some (.slice (some ⟨g0,o0,none⟩) S.nL S.cL)∧∀ j,j<8→w'.cell? ⟨g0,o0+k*8+j,none⟩=(S.L k).cells[j]?) X):=fun X e1 e2 e3=>⟨e1,(fF e3 14).trans ((fF HP.out.s.x.a 14).symm.trans c14),by
   obtain ⟨g9,o9,e9,h9⟩:=(HU.out.up e2) k hlt
   cases e9
   exact h9⟩
  have hT0:=HTT.out V HP.out.s.x.c HP.out.s.x.bel HP.out.s.x.a
  clear c14
  refine tE 0 28 hT0 ?_
  refine j3 (i:=1) (some 29) (v:=?_) ?_ hT0 ?_
  rotate_left
  ·
   intro wx hSw
   obtain ⟨hS1,hS2,hS3⟩:=hSw
   have c14:wx.cell? ⟨w.heap.size+1+1,14,none⟩=some (.slice P.aL k P.cL):=by rw [fF hS1 14,←HP.out.nL];rfl
   exact dT
  try simp only [Act.put,PZ]
  refine tE 2 30 hT0 ?_
  refine j3 (i:=3) (some 31) (v:=?_) ?_ hT0 ?_
  rotate_left
  ·
   intro wx hSw
   obtain ⟨hS1,hS2,hS3⟩:=hSw
   clear hS3
   exact dT
  try simp only [Act.put,PZ]
  refine tE 4 32 hT0 ?_
  refine tE 5 33 hT0 ?_
  refine j3 (i:=6) (some 34) (v:=.agg (S.L k).cells) ?_ hT0 ?_
  ·
   intro wx hSw
   exact gO 99 8 _ Tryz.underlying99 rfl ir (.tmp 33) rfl g0 (o0+k*8) rfl _ rfl hSw.2.2
  try simp only [Act.put,PZ]
  refine fI (rs:=[7]) (by kernel_rfl) (by simp) ?_
  refine fH.cons rfl (fun K hK=>?_) fH.nil
  go_simp
  refine (pF (S.L k) _ (HS.out.ls k hlt) ((HR.out.ls k hlt).up HP.out.s.x.bel)).mono ?_
  rintro e X1 ⟨l2,rfl,al2,ol2,hb⟩
  have HA1:Hid (gk (S.L k) l2∧gg X1 V.heap.size l2∧Below V.heap.size V X1):=⟨al2,ol2,hb⟩
  have Q1:=HP.out.up hb
  have hu0:OG 99 8 X1 w.heap.size P.aL k P.cL (sb k P.L):=by have:=Q1.l.l;rw [HP.out.nL] at this;exact this
  obtain ⟨g1,c3,X3,hr,hu,ht,hg⟩:=lH 41 99 _ 8 144 vc Tryz.underlying41 rfl (by decide) (by decide) hu0 (by omega) (Nat.le_trans HP.out.s.x.bel.size hb.size) l2.cells rfl (Lng.mi _)
  have LN:l2.cells=#[.bool l2.st,.slice l2.aT l2.nT l2.cT,.slice l2.aU l2.nU l2.cU,.slice l2.R.aQ l2.R.nQ l2.R.cQ,.slice l2.R.aD l2.R.nD l2.R.cD,.int .i64 l2.R.turn,.bool l2.R.fresh,.slice l2.R.aS l2.R.nS l2.R.cS]:=rfl
  rw [LN] at hr ⊢
  have hT1:=HTT.out X1 Q1.s.x.c Q1.s.x.bel Q1.s.x.a
  have hB2:Below X1.heap.size X1 (X1.alloc (.cells #[.bool l2.st,.slice l2.aT l2.nT l2.cT,.slice l2.aU l2.nU l2.cU,.slice l2.R.aQ l2.R.nQ l2.R.cQ,.slice l2.R.aD l2.R.nD l2.R.cD,.int .i64 l2.R.turn,.bool l2.R.fresh,.slice l2.R.aS l2.R.nS l2.R.cS] 99)):=(Below.refl _ _).alloc (Nat.le_refl _) _
  have hT2:=HTT.out _ (Q1.up hB2).s.x.c (Q1.up hB2).s.x.bel (Q1.up hB2).s.x.a
  have hc3:X3.heap[w.heap.size+1+1]?=some (.cells P.cells 43 (0,0)):=(ht.block _ (fG Q1.s.x.c) (hu0.k8 (by decide) Q1.s.x.c)).trans Q1.s.x.c
  have hT3:=HTT.out X3 hc3 (Q1.s.x.bel.trans (ht.below Q1.s.x.bel.size (fun x hx=>(hu0.blk x hx).1))) ((ht.block _ (fG Q1.s.x.a) (hu0.k8 (by decide) Q1.s.x.a)).trans Q1.s.x.a)
  have HN3:Hid (OG 99 8 X3 w.heap.size (some ⟨g1,0,none⟩) (k+1) c3 (sb k P.L++l2.cells.toList)∧Touch (gi P.aL) X1 X3):=⟨hu,ht⟩
  have HR3:Hid ((Builtin.append_ #[41,41] 41 #[.slice P.aL k P.cL,.slice (some ⟨X1.heap.size,0,none⟩) 1 1]).run Tryz.prog (X1.alloc (.cells #[.bool l2.st,.slice l2.aT l2.nT l2.cT,.slice l2.aU l2.nU l2.cU,.slice l2.R.aQ l2.R.nQ l2.R.cQ,.slice l2.R.aD l2.R.nD l2.R.cD,.int .i64 l2.R.turn,.bool l2.R.fresh,.slice l2.R.aS l2.R.nS l2.R.cS] 99))=.ok (.slice (some ⟨g1,0,none⟩) (k+1) c3) X3):=hr
  clear al2 ol2 hb Q1 hu0 hr hu ht hg hT0 LN hB2
  go_wp2_with fail
  refine hK.out _ _ hT1 ?_
  clear hK K
  try simp only [Act.put,PZ]
  refine fI (rs:=[8]) (by kernel_rfl) (by simp) ?_
  refine fH.cons rfl (fun K hK=>?_) fH.nil
  go_simp
  refine hK.out _ _ hT2 ?_
  clear hK K
  try simp only [Act.put,PZ]
  refine fI (rs:=[9]) (by kernel_rfl) (by simp) ?_
  refine fH.cons rfl (fun K hK=>?_) fH.nil
  refine jz (by kernel_rfl) (some 37) rfl (.tmp 29) (.tmp 36) 41 _ _ _ rfl rfl rfl rfl HR3.out ?_
  refine hK.out _ _ hT3 ?_
  clear hK K hT2 HR3 hT1
  try simp only [Act.put,PZ]
  have hT0:=hT3
  refine tE 10 38 hT0 ?_
  refine fI (rs:=[11]) (by kernel_rfl) (by simp) ?_
  refine fH.last rfl (fun K hK=>?_)
  refine iz (by kernel_rfl) none rfl 41 (.tmp 38) (.tmp 37) rfl (w.heap.size+1+1) 14 rfl (.slice (some ⟨g1,0,none⟩) (k+1) c3) rfl 1 rfl 43 _ hc3 tj (Nat.le_of_ble_eq_true rfl) (by simp [Value.cells,Value.oneCell']) ?_
  intro X4 hP
  refine hK.out _ _ ?_
  clear hK K
  try simp only [Act.put,PZ]
  refine gx (by kernel_rfl) ?_ _
  have HN:Hid (r7 w S (P.more k (some ⟨g1,0,none⟩) c3 l2) (k+1) X4):=HP.out.more HA1.out.2.2 HA1.out.2.1 HA1.out.1 HN3.out.1 HN3.out.2 hP
  clear hP hT0 hT3 hc3 HN3 HA1 HP HTT
  exact dV
 obtain rfl:k=S.nL:=by omega
 have HL:Hid (∀ j,j<17→wr.cell? ⟨w.heap.size+1+1,0+j,none⟩=P.cells[j]?):=fun j _=>by rw [Nat.zero_add];exact fF HP.out.s.x.c j
 have HD:Hid (wr.heap[w.heap.size+1]?=some (.cells zSw 43 (0,0))):=HP.out.s.x.b
 go_wp2_with (first | refine fM rfl 43 17 _ Tryz.underlying43 rfl fV (.tmp 3) rfl (w.heap.size+1+1) 0 rfl P.cells rfl HL.out ?_ | refine fJ rfl 43 (.tmp 2) (.tmp 39) rfl (w.heap.size+1) 0 rfl (.agg P.cells) rfl 17 rfl 43 _ HD.out fV (Nat.le_of_ble_eq_true rfl) (Swg.mi _) ?_)
 intro X hP
 replace hP:Put wr X (w.heap.size+1) P.cells 43:=hP.cast rfl
 have HK:Hid (X.heap[w.heap.size+1]?=some (.cells P.cells 43 (0,0))):=hP.blk
 have HF:Hid (fP S P∧gy X w.heap.size P∧Below w.heap.size w X):=⟨HP.out.alike rfl,HP.out.own.off HD.out hP.to,(HP.out.s.x.out hP).bel⟩
 clear hP HL HD HP
 go_wp2_with fail
 exact bodyPost_ret (js Tryz.results52 17 _ Tryz.underlying43 rfl fV _ _ (w.heap.size+1) P.cells rfl 43 HK.out rfl) rfl ⟨P,rfl,HF.out.1,HF.out.2.1,HF.out.2.2⟩
theorem ks.empty (w:World) (base:Nat) (hb:base≤w.heap.size):ks (w.alloc (.cells #[] 92)) base (.slice (some ⟨w.heap.size,0,none⟩) 0 0) [] :=
 ⟨rfl,.inr ⟨w.heap.size,0,#[],rfl,hb,fK w _,Nat.le_refl _,Nat.zero_le _,rfl,rfl⟩⟩
theorem vL {o:Oper} {a:Act} {K:Act→World→Prop} {Q:Exit→Act→World→Prop} {W W':World} {c:Prop} [Decidable c] {E:Prop} (hc:c) (d:Option Tmp) (s x:Operand) (t:TypeId) (vs vx v:Value) (hd:o.dst=d)
  (ho:o.op=.call { callee:=.builtin .append,args:=#[s,x],argTypes:=#[t,t] }) (hty:o.type=t) (hs:a.eval s=vs) (hx:a.eval x=vx)
  (hr:(Builtin.append_ #[t,t] t #[vs,vx]).run Tryz.prog W=.ok v W') (h:K (a.put d v) W'):if c then o.wp Tryz.prog a W K Q else E:=by
 subst hd
 exact qo hc s x t vs vx v ho hty hs hx hr h
def St1 (f:Nat→Ent) (x:Ent) (k:Nat) (d:Bool) (L:List Ent):Prop :=
 (d=false∧(∀ y∈gb k f,y.m<x.m)∧L=gb k f)∨(d=true∧(∃ i,i<k∧x.m≤(f i).m)∧L=iX x (notM x.m (gb k f)))
theorem k9 (k:Int) (L:List Ent) (y:Ent):notM k (L++[y])=if y.m=k then notM k L else notM k L++[y]:=by
 by_cases h:y.m=k <;> simp [notM,h]
theorem BC {f:Nat→Ent} {x:Ent} {k:Nat} {d:Bool} {L:List Ent} (h:St1 f x k d L):L.length≤k+1:=by
 rcases h with ⟨_,_,rfl⟩ | ⟨_,_,rfl⟩
 ·
  rw [iH];omega
 rw [jR]
 have:=(jb x.m (gb k f)).length_le
 rw [iH] at this
 omega
theorem qX {f:Nat→Ent} {x:Ent} {k:Nat} (h:∀ y∈gb k f,y.m<x.m):gb k f++[x]=iX x (notM x.m (gb k f)):=by
 rw [km (fun y hy=>by have:=h y hy;omega),ph h]
theorem Ai {f:Nat→Ent} {x:Ent} {k:Nat} {L:List Ent} (h:St1 f x k false L) (hk:(f k).m<x.m):St1 f x (k+1) false (L++[f k]):=by
 rcases h with ⟨_,h1,rfl⟩ | ⟨h,_⟩
 ·
  refine .inl ⟨rfl,fun y hy=>?_,(iK k f).symm⟩
  rw [iK] at hy
  rcases List.mem_append.1 hy with hy | hy
  ·
   exact h1 y hy
  simp at hy;rw [hy];exact hk
 cases h
theorem Ag {f:Nat→Ent} {x:Ent} {k:Nat} {L:List Ent} (h:St1 f x k false L) (hk:(f k).m=x.m):St1 f x (k+1) true (L++[x]):=by
 rcases h with ⟨_,h1,rfl⟩ | ⟨h,_⟩
 ·
  refine .inr ⟨rfl,⟨k,by omega,by omega⟩,?_⟩
  rw [iK,k9,if_pos hk,qX h1]
 cases h
theorem Ah {f:Nat→Ent} {x:Ent} {k:Nat} {L:List Ent} (h:St1 f x k false L) (hk:x.m<(f k).m):St1 f x (k+1) true (L++[x]++[f k]):=by
 rcases h with ⟨_,h1,rfl⟩ | ⟨h,_⟩
 ·
  refine .inr ⟨rfl,⟨k,by omega,by omega⟩,?_⟩
  rw [iK,k9,if_neg (by omega),pg hk,qX h1]
 cases h
theorem Aj {n:Nat} {f:Nat→Ent} {x:Ent} {k:Nat} {L:List Ent} (ho:iE n f) (hn:k<n) (h:St1 f x k true L):x.m<(f k).m∧St1 f x (k+1) true (L++[f k]):=by
 rcases h with ⟨h,_⟩ | ⟨_,⟨i,hi,h1⟩,rfl⟩
 ·
  cases h
 have hlt:=ho.lt k i hi hn
 have hk:x.m<(f k).m:=by omega
 refine ⟨hk,.inr ⟨rfl,⟨i,by omega,h1⟩,?_⟩⟩
 rw [iK,k9,if_neg (by omega),pg hk]
theorem BD {f:Nat→Ent} {x:Ent} {k:Nat} {d:Bool} {L:List Ent} (h:St1 f x k d L):(if d then L else L++[x])=iX x (notM x.m (gb k f)):=by
 rcases h with ⟨rfl,h1,rfl⟩ | ⟨rfl,_,rfl⟩
 ·
  exact qX h1
 rfl
def St2 (f:Nat→Ent) (mac:Int) (k:Nat) (old:Int):Prop :=
 (old=-1∧notM mac (gb k f)=[])∨∃ o:Nat,o<k∧old=o∧(f o).m≠mac∧l8 (notM mac (gb k f))=some (f o)
theorem Ae {f:Nat→Ent} {mac:Int} {k:Nat} {old:Int} (h:St2 f mac k old) (hk:(f k).m=mac):St2 f mac (k+1) old:=by
 have e:notM mac (gb (k+1) f)=notM mac (gb k f):=by rw [iK,k9,if_pos hk]
 rcases h with ⟨h1,h2⟩ | ⟨o,h1,h2,h3,h4⟩
 ·
  exact .inl ⟨h1,by rw [e];exact h2⟩
 exact .inr ⟨o,by omega,h2,h3,by rw [e];exact h4⟩
theorem yd {f:Nat→Ent} {mac:Int} {k:Nat} {old:Int} (h:St2 f mac k old) (hk:(f k).m≠mac) (h0:old<0):St2 f mac (k+1) k:=by
 have e:notM mac (gb (k+1) f)=notM mac (gb k f)++[f k]:=by rw [iK,k9,if_neg hk]
 rcases h with ⟨h1,h2⟩ | ⟨o,h1,h2,h3,h4⟩
 ·
  exact .inr ⟨k,by omega,rfl,hk,by rw [e,mf,h2];rfl⟩
 omega
theorem Af {f:Nat→Ent} {mac:Int} {k o:Nat} (h:St2 f mac k o) (hk:(f k).m≠mac):o<k∧((f k).t<(f o).t→St2 f mac (k+1) k)∧(¬ (f k).t<(f o).t→St2 f mac (k+1) o):=by
 have e:notM mac (gb (k+1) f)=notM mac (gb k f)++[f k]:=by rw [iK,k9,if_neg hk]
 rcases h with ⟨h1,h2⟩ | ⟨o',h1,h2,h3,h4⟩
 ·
  omega
 obtain rfl:o=o':=by omega
 refine ⟨h1,fun ht=>.inr ⟨k,by omega,rfl,hk,?_⟩,fun ht=>.inr ⟨o,by omega,rfl,h3,?_⟩⟩
 ·
  rw [e,mf,h4];simp [pC,ht]
 rw [e,mf,h4];simp [pC,ht]
structure Out (w wr:World) (v:Value) (L:List Ent) (x:Ent):Prop where
 own:ks wr w.heap.size v L
 below:Below w.heap.size w wr
 box:wr.heap[w.heap.size+1]?=some (.cells #[.int .i64 x.m,.int .i64 x.p,.int .i64 x.t] 92 (0,0))
 apart:v.ownBlock≠some (w.heap.size+1)
theorem Out.app {w wr w':World} {v v':Value} {L:List Ent} {x y:Ent} {o:Obj} (h:Out w wr v L x) (hown':w'.ownsRow w.heap.size 92 3 v' (L.length+1) (hF L++iZ y)) (hg:(wr.alloc o).grownBy w' v.ownBlock) (hat:v'.ownBlock=v.ownBlock∨v'.ownBlock=some (wr.alloc o).heap.size):Out w w' v' (L++[y]) x:=by
 have hg':wr.grownBy w' v.ownBlock:=(World.grownBy_alloc wr o _).trans hg
 have hbl:=fG h.box
 refine ⟨?_,h.below.grown hg' h.below.size (fun j hj=>(World.ownsRow.lt h.own j hj).1),(hg'.block _ hbl (fun e=>h.apart e.symm)).trans h.box,?_⟩
 ·
  unfold ks
  rw [xE,List.length_append]
  exact hown'
 intro e
 rcases hat with e2 | e2
 ·
  rw [e2] at e;exact h.apart e
 rw [e2] at e
 simp at e
 omega
theorem zI {W:World} {base:Nat} {v:Value} {L M:List Ent} {g q c:Nat} (h:ks W base v L) (hb:base≤W.heap.size) (hL:L.length≤1000) (hM:M.length≤1000) (hc:∀ j u,(hF M)[j]?=some u→W.cell? ⟨g,q+j,none⟩=some u) :
  ∃ v' W',(Builtin.append_ #[38,38] 38 #[v,.slice (some ⟨g,q,none⟩) M.length c]).run Tryz.prog W=.ok v' W'∧ks W' base v' (L++M)∧W.grownBy W' v.ownBlock:=by
 obtain ⟨i0,hi,hz0,hz1,hz2⟩:=info_parts BT
 obtain ⟨v',w',hr,h2,h3,h4,h5⟩:=run_append_own_at (P:=Tryz.prog) W base 38 38 92 i0 (.agg #[.int .i64 0,.int .i64 0,.int .i64 0]) 3 24 Tryz.underlying38 hi hz0 hz1 hz2 rfl (by decide) v L.length (hF L) h ⟨g,q,none⟩ M.length c (hF M) (lj M) (fun j u hj=>by
  have:=hc j u hj
  have e:(⟨g,q,none⟩:Addr).add j=⟨g,q+j,none⟩:=by unfold Addr.add;split <;> simp_all
  rw [e];exact this) (fun u hu=>by
  obtain ⟨y,_,hy⟩:=List.mem_flatMap.1 hu
  exact zW y u hy) (by unfold maxLen;omega) (by omega) hb
 refine ⟨v',w',hr,?_,h3⟩
 unfold ks
 rw [show hF (L++M)=hF L++hF M by simp [hF],List.length_append]
 exact h2
theorem lx {w:World} {base sz n:Nat} {e:TypeId} {v:Value} {xs:List Value} (h:w.ownsRow base e sz v (n+1) xs):∃ g cap,v=.slice (some ⟨g,0,none⟩) (n+1) cap:=by
 rcases h.2 with ⟨_,h0⟩ | ⟨g,cap,cur,hv,_⟩
 ·
  omega
 exact ⟨g,cap,hv⟩
theorem tz (A B:List Ent):hF (A++B)=hF A++hF B:=by simp [hF]
theorem xD {M:List Ent} {o j:Nat} {u:Value} (h:(hF (M.take o))[j]?=some u):(hF M)[j]?=some u:=by
 have e:hF M=hF (M.take o)++hF (M.drop o):=by rw [←tz,List.take_append_drop]
 rw [e,List.getElem?_append_left (List.getElem?_eq_some_iff.1 h).1]
 exact h
theorem xG {M:List Ent} {o j:Nat} {u:Value} (ho:o≤M.length) (h:(hF (M.drop o))[j]?=some u):(hF M)[o*3+j]?=some u:=by
 have e:hF M=hF (M.take o)++hF (M.drop o):=by rw [←tz,List.take_append_drop]
 have e2:(hF (M.take o)).length=o*3:=by rw [lj,List.length_take,Nat.min_eq_left ho]
 rw [e,List.getElem?_append_right (by omega),e2]
 simpa using h
theorem ks.at {W:World} {base g N cap:Nat} {M:List Ent} (h:ks W base (.slice (some ⟨g,0,none⟩) N cap) M) {j:Nat} {u:Value} (hj:(hF M)[j]?=some u):W.cell? ⟨g,j,none⟩=some u:=by
 have:=World.ownsRow.cells h (g:=g) rfl j u hj
 have e:(⟨g,0,none⟩:Addr).add j=⟨g,j,none⟩:=by unfold Addr.add;split <;> simp_all
 rw [e] at this;exact this
theorem Bk {W:World} {base g N cap:Nat} {M:List Ent} {o:Nat} (q:Nat) (h:ks W base (.slice (some ⟨g,0,none⟩) N cap) M) (hN:M.length=N) (hN9:N≤1000) (ho:o<N) (hb:base≤W.heap.size) (hq:q=(o+1)*3∨N=o+1) (c1 c2:Nat) :
  ∃ v1 W2 v2 W3,(Builtin.append_ #[38,38] 38 #[.slice (some ⟨W.heap.size,0,none⟩) 0 0,.slice (some ⟨g,0,none⟩) o c1]).run Tryz.prog (W.alloc (.cells #[] 92))=.ok v1 W2 ∧
   (Builtin.append_ #[38,38] 38 #[v1,.slice (some ⟨g,q,none⟩) (N-(o+1)) c2]).run Tryz.prog W2=.ok v2 W3∧ks W3 base v2 (M.take o++M.drop (o+1))∧Below base W W3:=by
 have hgl:=(World.ownsRow.lt h g rfl).2
 have l1:(M.take o).length=o:=by rw [List.length_take];omega
 have l2:(M.drop (o+1)).length=N-(o+1):=by rw [List.length_drop];omega
 have hE:=ks.empty W base hb
 have b1:Below W.heap.size W (W.alloc (.cells #[] 92)):=(Below.refl _ _).alloc (Nat.le_refl _) _
 have h1:=h.up b1
 obtain ⟨v1,W2,r1,o1,g1⟩:=zI (M:=M.take o) (g:=g) (q:=0) (c:=c1) hE (by have:=b1.size;omega) (by simp) (by omega) (fun j u hj=>by rw [Nat.zero_add];exact h1.at (xD hj))
 rw [l1] at r1
 have hb2:W2.heap[g]?=(W.alloc (.cells #[] 92)).heap[g]?:=g1.block g (by have:=b1.size;omega) (by simp [Value.ownBlock];omega)
 have h2:ks W2 base (.slice (some ⟨g,0,none⟩) N cap) M:=by
  obtain ⟨x1,x2⟩:=h1
  refine ⟨x1,x2.imp id ?_⟩
  rintro ⟨g',cap',cur,e,hg',hbk,hr⟩
  cases e
  exact ⟨_,_,cur,rfl,hg',hb2.trans hbk,hr⟩
 have B2:Below base W W2:=((b1.mono hb).grown g1 (by have:=b1.size;omega) (fun k e=>by cases e;exact hb))
 obtain ⟨v2,W3,r2,o2,g2⟩:=zI (M:=M.drop (o+1)) (g:=g) (q:=q) (c:=c2) o1 (Nat.le_trans hb B2.size) (by simp;omega) (by omega) (fun j u hj=>by
  rcases hq with rfl | hq
  ·
   exact h2.at (xG (by omega) hj)
  ·
   rw [List.drop_eq_nil_of_le (by omega)] at hj
   simp [hF] at hj)
 rw [l2] at r2
 refine ⟨v1,W2,v2,W3,r1,r2,by simpa using o2,B2.grown g2 (Nat.le_trans hb B2.size) (fun k e=>(World.ownsRow.lt o1 k e).1)⟩
end Go.Proofs.YtjaobmbcmjgjgaaGreatDoor
