import Derived.Test.YtfcfpkibceepgaaGreatS10
import Derived.Test.YtfcfpkibceepgaaGreatS26
import Derived.Deep.Cut
import Derived.Deep.DeepCutAuto
import Derived.Maps.AppendAt
import Derived.Maps.OwnSet
import Derived.Room.AppendFits
namespace Go.Proofs.YtfcfpkibceepgaaGreat
set_option maxRecDepth 100000
set_option maxHeartbeats 4000000
open Go.RowKit
set_option linter.unusedVariables false
set_option linter.unusedSimpArgs false
theorem dR {p:Prop} (h:p:=by
 have HC:Hid (Dc w l (.pointer (some ⟨gB,0,none⟩)) X):=⟨gB,p,rfl,hgB,by rw [←ep],by rw [←ep],by rw [←ep],by
  rw [←ep] at hP ⊢
  exact CX oT oR hTR kB hP,⟨(hP.to.block _ (fH HX.out.a) (by simp;omega)).trans HX.out.a,(hP.to.block _ (fH HX.out.b) (by simp;omega)).trans HX.out.b,HX.out.bel.trans (hP.to.below HX.out.bel.size (fun x hx=>by simp at hx;omega))⟩⟩
 clear hP oT oR kB hTR HX hT0 ep
 go_wp2_with fail
 go_meet
 case rel=>exact HC.out):p:=h
theorem dS {p:Prop} (h:p:=by
 subst hbf
 exact ⟨rfl,l2,hA,hO,(hto.block g (fH kb) ((ho.g.ls i hi).Ck kb kL (by decide) (by decide) (by decide))).trans kb,(ho.g.ls i hi).Bc kL hbL hto⟩):p:=h
theorem Aa {R:Rnd} {aq ad:Option Addr} {cq cd gS:Nat} {A:Nat→Option Addr} {C:Nat→Nat}:Alike R (R.cp aq cq ad cd gS A C):=⟨rfl,rfl,rfl,rfl,rfl,rfl,rfl,rfl,rfl⟩
def iO:Array Value:=#[.bool false,.slice none 0 0,.slice none 0 0,.slice none 0 0,.slice none 0 0,.int .i64 0,.bool false,.slice none 0 0]
structure CpL (base gB:Nat) (l p:Lng) (W:World):Prop where
 own:iq W base p
 box:W.heap[gB]?=some (.cells p.cells 102 (0,0))
 st:p.st=l.st
 nT:p.nT=l.nT
 t:p.t=l.t
 ul:p.uL=l.uL
 uz:p.uz=l.uz
 r:Alike l.R p.R
def Dc (w:World) (l:Lng) (v:Value) (wc:World):Prop:=∃ gB p,v=.pointer (some ⟨gB,0,none⟩)∧w.heap.size+1<gB∧p.nU=0∧p.aU=none∧p.cU=0∧CpL w.heap.size gB l p wc∧Two w l.cells iO 102 wc
theorem CpL.up {base gB:Nat} {l p:Lng} {W W':World} (h:CpL base gB l p W) (hb:Below W.heap.size W W'):CpL base gB l p W' :=
 ⟨h.own.up hb,(hb.block _ (fH h.box)).trans h.box,h.st,h.nT,h.t,h.ul,h.uz,h.r⟩
theorem CpL.more {base gB k g c2 c:Nat} {l p:Lng} {a:Option Addr} {V V1 W W2:World} (h:CpL base gB l p V) (hk:p.nU=k) (hb:Below V.heap.size V V1) (hbase:base≤V.heap.size) (ho:OI V1 V.heap.size a (l.uL k) c (l.uz k))
  (hu:OG 25 1 W base (some ⟨g,0,none⟩) (k+1) c2 (sl k p.uA p.uL p.uC++[.slice a (l.uL k) c])) (ht:Touch (ij p.aU) V1 W) (hg:g∈ij p.aU∨V1.heap.size≤g) (hP:Put W W2 gB (lay p.cells 2 #[.slice (some ⟨g,0,none⟩) (k+1) c2]) 102):CpL base gB l (p.more k (some ⟨g,0,none⟩) c2 a c) W2:=by
 rw [←h.ul,←h.uz] at ho
 rw [←h.ul] at hu
 have h1:=h.own.more hk hb hbase ho hu ht hg
 have hbx:W.heap[gB]?=some (.cells p.cells 102 (0,0)):=by
  have e1:=(h.up hb).box
  refine (ht.block gB (fH e1) ?_).trans e1
  exact (h.up hb).own.u.j7 (by decide) e1
 exact ⟨h1.box hbx (by decide) (by decide) hP.to,hP.blk,h.st,h.nT,h.t,h.ul,h.uz,h.r⟩
theorem rdR {w:World} {g:Nat} {l:Lng} {t:TypeId} (h:w.heap[g]?=some (.cells l.cells t (0,0))):∀ j,j<5→w.cell? ⟨g,3+j,none⟩=l.R.cells[j]?:=by
 intro j hj
 rw [fG h]
 match j,hj with
 | 0,_=>rfl
 | 1,_=>rfl
 | 2,_=>rfl
 | 3,_=>rfl
 | 4,_=>rfl
theorem Two.far {w W W':World} {A B:Array Value} {t:TypeId} {S:List Nat} (h:Two w A B t W) (ht:Touch S W W') (hn:∀ {g:Nat} {cs:Array Value},W.heap[g]?=some (.cells cs t (0,0))→g∉S) (hl:∀ x∈S,w.heap.size≤x):Two w A B t W' :=
 ⟨(ht.block _ (fH h.a) (hn h.a)).trans h.a,(ht.block _ (fH h.b) (hn h.b)).trans h.b,h.bel.trans (ht.below h.bel.size hl)⟩
theorem Two.put {w W W':World} {A B C:Array Value} {t t':TypeId} {g:Nat} (h:Two w A B t W) (hp:Put W W' g C t') (hg:w.heap.size+1<g):Two w A B t W' :=
 ⟨(hp.to.block _ (fH h.a) (by simp;omega)).trans h.a,(hp.to.block _ (fH h.b) (by simp;omega)).trans h.b,h.bel.trans (hp.to.below h.bel.size (fun x hx=>by simp at hx;omega))⟩
theorem CX {V X:World} {base gB:Nat} {l:Lng} {aT aq ad:Option Addr} {cT cq cd gS:Nat} {A:Nat→Option Addr} {C:Nat→Nat} {cur:Array Value} (oT:OI V base aT l.nT cT l.t) (oR:jc V base (l.R.cp aq cq ad cd gS A C)) (hTR:∀ x∈ij aT,x∉(l.R.cp aq cq ad cd gS A C).lh)
  (kB:V.heap[gB]?=some (.cells cur 102 (0,0))) (hP:Put V X gB (Lng.cells ⟨l.st,aT,l.nT,cT,l.t,none,0,0,fun _=>none,l.uL,fun _=>0,l.uz,l.R.cp aq cq ad cd gS A C⟩) 102):CpL base gB l ⟨l.st,aT,l.nT,cT,l.t,none,0,0,fun _=>none,l.uL,fun _=>0,l.uz,l.R.cp aq cq ad cd gS A C⟩ X:=by
 have h1:iq V base ⟨l.st,aT,l.nT,cT,l.t,none,0,0,fun _=>none,l.uL,fun _=>0,l.uz,l.R.cp aq cq ad cd gS A C⟩:=by
  refine ⟨oT,OG.nil _ _ _ _,fun i hi=>absurd hi (Nat.not_lt_zero _),oR,?_,fun x hx hy=>by simp [ij] at hy⟩
  show ((ij aT++_)++[]).Nodup
  rw [List.append_nil]
  exact List.nodup_append.2 ⟨lf _,oR.nd,fun x hx y hy e=>hTR x hx (e▸hy)⟩
 exact ⟨h1.box kB (by decide) (by decide) hP.to,hP.blk,rfl,rfl,rfl,rfl,rfl,Aa⟩
theorem ux (l:Lng) (w:World) (hs:l.Small) (h:ml w l) :
  Calls Tryz.prog 77 #[.agg l.cells] w fun e w'=>∃ l2,e=.returned (.agg l2.cells)∧gy l l2∧iq w' w.heap.size l2∧Below w.heap.size w w':=by
 have HR:Hid (ml w l):=h
 have HS:Hid l.Small:=hs
 obtain ⟨W,eW⟩:∃ W,(w.alloc (.cells l.cells 102)).alloc (.cells #[.bool false,.slice none 0 0,.slice none 0 0,.slice none 0 0,.slice none 0 0,.int .i64 0,.bool false,.slice none 0 0] 102)=W:=⟨_,rfl⟩
 have HX:Hid (Two w l.cells iO 102 W):=by rw [←eW];exact Two.start _ _ _ _
 clear h hs
 go_enter Tryz.func77,Tryz.ntmps77
 go_wp2_with fail
 clear eW
 go_cut [3] (fun v wc=>Dc w l v wc)
 case first =>
  replace HX:Hid (Two w l.cells iO 102 W.drew):=HX.out.up ((Below.refl _ _).drew)
  have hz0:w.heap.size+1<W.drew.heap.size:=fH HX.out.b
  refine iE (fun w'=>w'.heap[w.heap.size]?=some (.cells l.cells 102 (0,0))) 10 (by kernel_rfl) ?_
  generalize W.drew=V at *
  have hT0:=HX.out.a
  refine tE 0 6 hT0 ?_
  refine ji (i:=1) (some 7) (v:=?_) ?_ hT0 ?_
  rotate_left
  ·
   intro wx hSw
   have c0:wx.cell? ⟨w.heap.size,0,none⟩=some (.bool l.st):=fG hSw 0
   go_simp
   try with_reducible rfl
  try simp only [Act.put,PZ]
  refine tE 2 8 hT0 ?_
  refine ji (i:=3) (some 9) (v:=?_) ?_ hT0 ?_
  rotate_left
  ·
   intro wx hSw
   have c1:wx.cell? ⟨w.heap.size,1,none⟩=some (.slice l.aT l.nT l.cT):=fG hSw 1
   go_simp
   try with_reducible rfl
  try simp only [Act.put,PZ]
  refine tE 5 11 hT0 ?_
  refine ji (i:=6) (some 12) (v:=.agg l.R.cells) ?_ hT0 ?_
  ·
   intro wx hSw
   exact iV 100 5 _ Tryz.underlying100 rfl tO (.tmp 11) rfl w.heap.size 3 rfl l.R.cells rfl (fun j hj=>rdR hSw j hj)
  try simp only [Act.put,PZ]
  refine fM (rs:=[4,9]) (by kernel_rfl) (by simp) ?_
  refine fI.cons rfl (fun K hK=>?_) (fI.cons rfl (fun K hK=>?_) fI.nil)
  ·
   go_simp
   refine (jD l.aT l.nT l.cT l.t _ HS.out.t (HR.out.t.up HX.out.bel)).mono ?_
   rintro e X1 ⟨aT,cT,rfl,oT,hb⟩
   replace oT:=oT.mono (base':=w.heap.size) HX.out.bel.size
   have lT:=OI.blk oT
   replace HX:Hid (Two w l.cells iO 102 X1):=HX.out.up hb
   replace hT0:=HX.out.a
   have hz:=(hb).size
   clear hb hz
   go_wp2_with fail
   refine hK.out _ _ hT0 ?_
   clear hK K
   try simp only [Act.put,PZ]
   refine fM (rs:=[7,9]) (by kernel_rfl) (by simp) ?_
   refine fI.cons rfl (fun K hK=>?_) (fI.cons rfl (fun K hK=>?_) fI.nil)
   ·
    go_simp
    refine (lB l.R _ HS.out.r (HR.out.r.up HX.out.bel)).mono ?_
    rintro e X2 ⟨aq,cq,ad,cd,gS,A,C,rfl,oR,hb⟩
    have hTR:∀ x∈ij aT,x∉(l.R.cp aq cq ad cd gS A C).lh:=fun x hx hy=>by have:=(OI.blk oT x hx).2;have:=(oR.blk x hy).1;omega
    replace oR:=oR.tj (base':=w.heap.size) HX.out.bel.size
    replace HX:Hid (Two w l.cells iO 102 X2):=HX.out.up hb
    replace hT0:=HX.out.a
    have hz:=(hb).size
    replace oT:=oT.up hb
    clear hb hz
    dsimp only [Rnd.cells,Rnd.cp]
    go_wp2_with fail
    refine hK.out _ _ hT0 ?_
    clear hK K
    try simp only [Act.put,PZ]
    refine tE 8 14 hT0 ?_
    refine fM (rs:=[9]) (by kernel_rfl) (by simp) ?_
    refine fI.cons rfl (fun K hK=>?_) fI.nil
    obtain ⟨X3,eV⟩:∃ X,X2.alloc (.cells #[.bool false,.slice none 0 0,.slice none 0 0,.slice none 0 0,.slice none 0 0,.int .i64 0,.bool false,.slice none 0 0] 102)=X:=⟨_,rfl⟩
    have hb:Below X2.heap.size X2 X3:=by rw [←eV];exact (Below.refl _ _).alloc (Nat.le_refl _) _
    have kB:X3.heap[X2.heap.size]?=some (.cells #[.bool false,.slice none 0 0,.slice none 0 0,.slice none 0 0,.slice none 0 0,.int .i64 0,.bool false,.slice none 0 0] 102 (0,0)):=by rw [←eV];exact fL _ _
    have hgB:w.heap.size+1<X2.heap.size:=fH HX.out.b
    go_simp
    clear eV
    replace HX:Hid (Two w l.cells iO 102 X3):=HX.out.up hb
    replace hT0:=HX.out.a
    have hz:=(hb).size
    replace oT:=oT.up hb
    replace oR:=oR.upZ hb
    clear hb hz
    obtain ⟨gB,eB⟩:∃ g,X2.heap.size=g:=⟨_,rfl⟩
    rw [eB] at kB hgB ⊢
    refine hK.out _ _ hT0 ?_
    clear hK K
    try simp only [Act.put,PZ]
    refine fM (rs:=[10]) (by kernel_rfl) (by simp) ?_
    refine fI.last rfl (fun K hK=>?_)
    refine jz (by kernel_rfl) none rfl 102 (.tmp 3) (.tmp 14) rfl gB 0 rfl (.agg #[.bool l.st,.slice aT l.nT cT,.slice none 0 0,.slice aq l.R.nQ cq,.slice ad l.R.nD cd,.int .i64 l.R.turn,.bool l.R.fresh,.slice (some ⟨gS,0,none⟩) l.R.nS l.R.nS]) rfl 8 rfl 102 _ kB ix (Nat.le_of_ble_eq_true rfl) (by simp [Value.cells,Value.oneCell']) ?_
    intro X hP
    refine hK.out _ _ ?_
    clear hK K
    try simp only [Act.put,PZ]
    refine ie (by kernel_rfl) ?_ _
    obtain ⟨p,ep⟩:∃ p,(⟨l.st,aT,l.nT,cT,l.t,none,0,0,fun _=>none,l.uL,fun _=>0,l.uz,l.R.cp aq cq ad cd gS A C⟩:Lng)=p:=⟨_,rfl⟩
    replace hP:Put X3 X gB p.cells 102:=hP.cast (by rw [←ep];rfl)
    exact dR
   obtain ⟨X4,eV⟩:∃ X,X1.alloc (.cells #[.bool false,.slice none 0 0,.slice none 0 0,.slice none 0 0,.slice none 0 0,.int .i64 0,.bool false,.slice none 0 0] 102)=X:=⟨_,rfl⟩
   have hb:Below X1.heap.size X1 X4:=by rw [←eV];exact (Below.refl _ _).alloc (Nat.le_refl _) _
   have kB:X4.heap[X1.heap.size]?=some (.cells #[.bool false,.slice none 0 0,.slice none 0 0,.slice none 0 0,.slice none 0 0,.int .i64 0,.bool false,.slice none 0 0] 102 (0,0)):=by rw [←eV];exact fL _ _
   have hgB:w.heap.size+1<X1.heap.size:=fH HX.out.b
   go_simp
   clear eV
   replace HX:Hid (Two w l.cells iO 102 X4):=HX.out.up hb
   replace hT0:=HX.out.a
   have hz:=(hb).size
   replace oT:=oT.up hb
   clear hb hz
   obtain ⟨gB,eB⟩:∃ g,X1.heap.size=g:=⟨_,rfl⟩
   rw [eB] at kB hgB ⊢
   refine hK.out _ _ hT0 ?_
   clear hK K
   try simp only [Act.put,PZ]
   refine fM (rs:=[7]) (by kernel_rfl) (by simp) ?_
   refine fI.cons rfl (fun K hK=>?_) fI.nil
   go_simp
   refine (lB l.R _ HS.out.r (HR.out.r.up HX.out.bel)).mono ?_
   rintro e X5 ⟨aq,cq,ad,cd,gS,A,C,rfl,oR,hb⟩
   have hTR:∀ x∈ij aT,x∉(l.R.cp aq cq ad cd gS A C).lh:=fun x hx hy=>by have:=(OI.blk oT x hx).2;have:=(oR.blk x hy).1;omega
   replace oR:=oR.tj (base':=w.heap.size) HX.out.bel.size
   replace HX:Hid (Two w l.cells iO 102 X5):=HX.out.up hb
   replace hT0:=HX.out.a
   have hz:=(hb).size
   replace oT:=oT.up hb
   replace kB:=(hb.block _ (fH kB)).trans kB
   clear hb hz
   dsimp only [Rnd.cells,Rnd.cp]
   go_wp2_with fail
   refine hK.out _ _ hT0 ?_
   clear hK K
   try simp only [Act.put,PZ]
   refine tE 8 14 hT0 ?_
   refine fM (rs:=[10]) (by kernel_rfl) (by simp) ?_
   refine fI.last rfl (fun K hK=>?_)
   refine jz (by kernel_rfl) none rfl 102 (.tmp 3) (.tmp 14) rfl gB 0 rfl (.agg #[.bool l.st,.slice aT l.nT cT,.slice none 0 0,.slice aq l.R.nQ cq,.slice ad l.R.nD cd,.int .i64 l.R.turn,.bool l.R.fresh,.slice (some ⟨gS,0,none⟩) l.R.nS l.R.nS]) rfl 8 rfl 102 _ kB ix (Nat.le_of_ble_eq_true rfl) (by simp [Value.cells,Value.oneCell']) ?_
   intro X hP
   refine hK.out _ _ ?_
   clear hK K
   try simp only [Act.put,PZ]
   refine ie (by kernel_rfl) ?_ _
   obtain ⟨p,ep⟩:∃ p,(⟨l.st,aT,l.nT,cT,l.t,none,0,0,fun _=>none,l.uL,fun _=>0,l.uz,l.R.cp aq cq ad cd gS A C⟩:Lng)=p:=⟨_,rfl⟩
   replace hP:Put X5 X gB p.cells 102:=hP.cast (by rw [←ep];rfl)
   exact dR
  obtain ⟨X6,eV⟩:∃ X,V.alloc (.cells #[.bool false,.slice none 0 0,.slice none 0 0,.slice none 0 0,.slice none 0 0,.int .i64 0,.bool false,.slice none 0 0] 102)=X:=⟨_,rfl⟩
  have hb:Below V.heap.size V X6:=by rw [←eV];exact (Below.refl _ _).alloc (Nat.le_refl _) _
  have kB:X6.heap[V.heap.size]?=some (.cells #[.bool false,.slice none 0 0,.slice none 0 0,.slice none 0 0,.slice none 0 0,.int .i64 0,.bool false,.slice none 0 0] 102 (0,0)):=by rw [←eV];exact fL _ _
  have hgB:w.heap.size+1<V.heap.size:=fH HX.out.b
  go_simp
  clear eV
  replace HX:Hid (Two w l.cells iO 102 X6):=HX.out.up hb
  replace hT0:=HX.out.a
  have hz:=(hb).size
  clear hb hz
  obtain ⟨gB,eB⟩:∃ g,V.heap.size=g:=⟨_,rfl⟩
  rw [eB] at kB hgB ⊢
  refine hK.out _ _ hT0 ?_
  clear hK K
  try simp only [Act.put,PZ]
  refine fM (rs:=[4]) (by kernel_rfl) (by simp) ?_
  refine fI.cons rfl (fun K hK=>?_) fI.nil
  go_simp
  refine (jD l.aT l.nT l.cT l.t _ HS.out.t (HR.out.t.up HX.out.bel)).mono ?_
  rintro e X7 ⟨aT,cT,rfl,oT,hb⟩
  replace oT:=oT.mono (base':=w.heap.size) HX.out.bel.size
  have lT:=OI.blk oT
  replace HX:Hid (Two w l.cells iO 102 X7):=HX.out.up hb
  replace hT0:=HX.out.a
  have hz:=(hb).size
  replace kB:=(hb.block _ (fH kB)).trans kB
  clear hb hz
  go_wp2_with fail
  refine hK.out _ _ hT0 ?_
  clear hK K
  try simp only [Act.put,PZ]
  refine fM (rs:=[7]) (by kernel_rfl) (by simp) ?_
  refine fI.cons rfl (fun K hK=>?_) fI.nil
  go_simp
  refine (lB l.R _ HS.out.r (HR.out.r.up HX.out.bel)).mono ?_
  rintro e X8 ⟨aq,cq,ad,cd,gS,A,C,rfl,oR,hb⟩
  have hTR:∀ x∈ij aT,x∉(l.R.cp aq cq ad cd gS A C).lh:=fun x hx hy=>by have:=(OI.blk oT x hx).2;have:=(oR.blk x hy).1;omega
  replace oR:=oR.tj (base':=w.heap.size) HX.out.bel.size
  replace HX:Hid (Two w l.cells iO 102 X8):=HX.out.up hb
  replace hT0:=HX.out.a
  have hz:=(hb).size
  replace oT:=oT.up hb
  replace kB:=(hb.block _ (fH kB)).trans kB
  clear hb hz
  dsimp only [Rnd.cells,Rnd.cp]
  go_wp2_with fail
  refine hK.out _ _ hT0 ?_
  clear hK K
  try simp only [Act.put,PZ]
  refine tE 8 14 hT0 ?_
  refine fM (rs:=[10]) (by kernel_rfl) (by simp) ?_
  refine fI.last rfl (fun K hK=>?_)
  refine jz (by kernel_rfl) none rfl 102 (.tmp 3) (.tmp 14) rfl gB 0 rfl (.agg #[.bool l.st,.slice aT l.nT cT,.slice none 0 0,.slice aq l.R.nQ cq,.slice ad l.R.nD cd,.int .i64 l.R.turn,.bool l.R.fresh,.slice (some ⟨gS,0,none⟩) l.R.nS l.R.nS]) rfl 8 rfl 102 _ kB ix (Nat.le_of_ble_eq_true rfl) (by simp [Value.cells,Value.oneCell']) ?_
  intro X hP
  refine hK.out _ _ ?_
  clear hK K
  try simp only [Act.put,PZ]
  refine ie (by kernel_rfl) ?_ _
  obtain ⟨p,ep⟩:∃ p,(⟨l.st,aT,l.nT,cT,l.t,none,0,0,fun _=>none,l.uL,fun _=>0,l.uz,l.R.cp aq cq ad cd gS A C⟩:Lng)=p:=⟨_,rfl⟩
  replace hP:Put X8 X gB p.cells 102:=hP.cast (by rw [←ep];rfl)
  exact dR
 obtain ⟨gB,p,rfl,hgB,hnU,haU,hcU,hC,hX⟩:=hcut
 have HC:Hid (CpL w.heap.size gB l p wc):=hC
 replace HX:Hid (Two w l.cells iO 102 wc):=hX
 have HP0:Hid (p.nU=0):=hnU
 have HgB:Hid (w.heap.size+1<gB):=hgB
 clear hC hX hnU haU hcU hgB
 have HU:Hid (fY w l.aU l.nU fun i=>.slice (l.uA i) (l.uL i) (l.uC i)):=HR.out.u
 obtain ⟨aU,eU⟩:∃ a,l.aU=a:=⟨_,rfl⟩
 have c2:wc.cell? ⟨w.heap.size,2,none⟩=some (.slice aU l.nU l.cU):=by rw [←eU];exact fG HX.out.a 2
 rw [eU] at HU
 clear eU
 have hnu:=HS.out.u
 go_wp2_with fail
 clear c2
 go_loopw [18] (fun i wr=>∃ (k:Nat) (q:Lng),k≤l.nU∧i=.int .i64 k∧Hid (q.nU=k∧CpL w.heap.size gB l q wr∧Two w l.cells iO 102 wr)) (fun i _=>l.nU-(intOf i).toNat)
 case atStart=>exact ⟨0,p,Nat.zero_le _,rfl,⟨HP0.out,HC.out,HX.out⟩⟩
 clear HC HX
 obtain ⟨k,q,hk,rfl,HQ⟩:=hrel
 by_cases hlt:k<l.nU
 ·
  have hlt':(k:Int)<l.nU:=by omega
  obtain ⟨g0,o0,ea,hc0⟩:=(HU.out.up HQ.out.2.2.bel) k hlt
  subst ea
  dsimp only at hc0
  go_wp2_with fail
  refine iE (fun w'=>w'.heap[gB]?=some (.cells q.cells 102 (0,0))) 7 (by kernel_rfl) ?_
  have hd:Below wr.heap.size wr wr.drew:=(Below.refl _ _).drew
  replace HQ:Hid (q.nU=k∧CpL w.heap.size gB l q wr.drew∧Two w l.cells iO 102 wr.drew):=⟨HQ.out.1,HQ.out.2.1.up hd,HQ.out.2.2.up hd⟩
  clear hd hc0
  generalize wr.drew=V at *
  have hT0:=HQ.out.2.1.box
  refine tE 0 22 hT0 ?_
  refine ji (i:=1) (some 23) (v:=?_) ?_ hT0 ?_
  rotate_left
  ·
   intro wx hSw
   have c2:wx.cell? ⟨gB,2,none⟩=some (.slice q.aU k q.cU):=by rw [fG hSw 2,←HQ.out.1];rfl
   go_simp
   try with_reducible rfl
  try simp only [Act.put,PZ]
  refine tE 2 24 hT0 ?_
  refine fM (rs:=[3]) (by kernel_rfl) (by simp) ?_
  refine fI.cons rfl (fun K hK=>?_) fI.nil
  go_simp
  refine (jD (l.uA k) (l.uL k) (l.uC k) (l.uz k) _ (HS.out.z k hlt) ((HR.out.z k hlt).up HQ.out.2.2.bel)).mono ?_
  rintro e X1 ⟨a1,c1,rfl,oA,hb⟩
  have HA1:Hid (OI X1 V.heap.size a1 (l.uL k) c1 (l.uz k)∧Below V.heap.size V X1):=⟨oA,hb⟩
  have Q1:=HQ.out.2.1.up hb
  have hu0:OG 25 1 X1 w.heap.size q.aU k q.cU (sl k q.uA q.uL q.uC):=by have:=Q1.own.u;rw [HQ.out.1] at this;exact this
  obtain ⟨g1,c3,X3,hr,hu,ht,hg⟩:=ku 87 25 (.slice none 0 0) 1 24 ub Tryz.underlying87 rfl (by decide) (by decide) hu0 (by omega) (Nat.le_trans HQ.out.2.2.bel.size hb.size) #[.slice a1 (l.uL k) c1] rfl (by simp [Value.oneCell'])
  have hT1:=Q1.box
  have hT2:(X1.alloc (.cells #[.slice a1 (l.uL k) c1] 25)).heap[gB]?=some (.cells q.cells 102 (0,0)):=(gg _ (fH hT1)).trans hT1
  have hT3:X3.heap[gB]?=some (.cells q.cells 102 (0,0)):=(ht.block gB (fH hT1) (hu0.j7 (by decide) hT1)).trans hT1
  have HN3:Hid (OG 25 1 X3 w.heap.size (some ⟨g1,0,none⟩) (k+1) c3 (sl k q.uA q.uL q.uC++[.slice a1 (l.uL k) c1])∧Touch (ij q.aU) X1 X3∧(g1∈ij q.aU∨X1.heap.size≤g1)):=⟨hu,ht,hg⟩
  have HR3:Hid ((Builtin.append_ #[87,87] 87 #[.slice q.aU k q.cU,.slice (some ⟨X1.heap.size,0,none⟩) 1 1]).run Tryz.prog (X1.alloc (.cells #[.slice a1 (l.uL k) c1] 25))=.ok (.slice (some ⟨g1,0,none⟩) (k+1) c3) X3):=hr
  clear oA hb Q1 hu0 hr hu ht hg hT0
  go_wp2_with fail
  refine hK.out _ _ hT1 ?_
  clear hK K
  try simp only [Act.put,PZ]
  refine fM (rs:=[4]) (by kernel_rfl) (by simp) ?_
  refine fI.cons rfl (fun K hK=>?_) fI.nil
  go_simp
  refine hK.out _ _ hT2 ?_
  clear hK K
  try simp only [Act.put,PZ]
  refine fM (rs:=[5]) (by kernel_rfl) (by simp) ?_
  refine fI.cons rfl (fun K hK=>?_) fI.nil
  refine jX (by kernel_rfl) (some 27) rfl (.tmp 23) (.tmp 26) 87 _ _ _ rfl rfl rfl rfl HR3.out ?_
  refine hK.out _ _ hT3 ?_
  clear hK K hT2 HR3
  try simp only [Act.put,PZ]
  have hT0:=hT3
  refine tE 6 28 hT0 ?_
  refine fM (rs:=[7]) (by kernel_rfl) (by simp) ?_
  refine fI.last rfl (fun K hK=>?_)
  refine jz (by kernel_rfl) none rfl 87 (.tmp 28) (.tmp 27) rfl gB 2 rfl (.slice (some ⟨g1,0,none⟩) (k+1) c3) rfl 1 rfl 102 _ hT3 vM (Nat.le_of_ble_eq_true rfl) (by simp [Value.cells,Value.oneCell']) ?_
  intro X4 hP
  refine hK.out _ _ ?_
  clear hK K
  try simp only [Act.put,PZ]
  refine ie (by kernel_rfl) ?_ _
  have hlo:w.heap.size+1<X1.heap.size:=fH (HQ.out.2.2.up HA1.out.2).b
  have HN:Hid ((q.more k (some ⟨g1,0,none⟩) c3 a1 c1).nU=k+1∧CpL w.heap.size gB l (q.more k (some ⟨g1,0,none⟩) c3 a1 c1) X4∧Two w l.cells iO 102 X4):=⟨rfl,HQ.out.2.1.more HQ.out.1 HA1.out.2 HQ.out.2.2.bel.size HA1.out.1 HN3.out.1 HN3.out.2.1 HN3.out.2.2 hP,((HQ.out.2.2.up HA1.out.2).far HN3.out.2.1 (fun hg=>(HQ.out.2.1.up HA1.out.2).own.u.j7 (by decide) hg) (fun x hx=>((HQ.out.2.1.up HA1.out.2).own.u.blk x hx).1)).put hP HgB.out⟩
  clear hP hT0 hT1 hT3 HN3 HA1 HQ hlo
  go_wp2_with fail
  go_roundw
  case rel=>exact ⟨k+1,_,by omega,by go_num,HN⟩
  case measure=>simp [intOf];omega
 obtain rfl:k=l.nU:=by omega
 obtain ⟨hq1,hq2,hq3⟩:=HQ.out
 have HL:Hid (∀ j,j<8→wr.cell? ⟨gB,0+j,none⟩=q.cells[j]?):=fun j _=>by rw [Nat.zero_add];exact fG hq2.box j
 have HD:Hid (wr.heap[w.heap.size+1]?=some (.cells iO 102 (0,0))):=hq3.b
 clear hq1 hq2 hq3
 go_wp2_with (first | refine fP rfl 102 8 _ Tryz.underlying102 rfl ix (.tmp 3) rfl gB 0 rfl q.cells rfl HL.out ?_ | refine fJ rfl 102 (.tmp 2) (.tmp 30) rfl (w.heap.size+1) 0 rfl (.agg q.cells) rfl 8 rfl 102 _ HD.out ix (Nat.le_of_ble_eq_true rfl) (Lng.lL _) ?_)
 intro X hP
 replace hP:Put wr X (w.heap.size+1) q.cells 102:=hP.cast rfl
 have HK:Hid (X.heap[w.heap.size+1]?=some (.cells q.cells 102 (0,0))):=hP.blk
 have HF:Hid (gy l q∧iq X w.heap.size q∧Below w.heap.size w X):=⟨⟨HQ.out.2.1.st,HQ.out.2.1.nT,HQ.out.2.1.t,HQ.out.1,HQ.out.2.1.ul,HQ.out.2.1.uz,HQ.out.2.1.r⟩,HQ.out.2.1.own.box HD.out (by decide) (by decide) hP.to,HQ.out.2.2.bel.trans (hP.to.below HQ.out.2.2.bel.size (fun x hx=>by simp at hx;omega))⟩
 clear hP HL HD HQ
 go_wp2_with fail
 exact bodyPost_ret (iW Tryz.results77 8 _ Tryz.underlying102 rfl ix _ _ (w.heap.size+1) q.cells rfl 102 HK.out rfl) rfl ⟨q,rfl,HF.out.1,HF.out.2.1,HF.out.2.2⟩
def entD (x:Ent):DataW Unit:=.agg [.lit (.int .i64 x.m),.lit (.int .i64 x.p),.lit (.int .i64 x.t)]
def kv (x:Ent):Lit × DataW Unit:=(.int .i64 x.m,entD x)
def mD (L:List Ent):DataW Unit:=.map (L.map kv)
def m6 (n:Nat) (f:Nat→Ent):List Ent:=(List.range n).map f
theorem mh (n:Nat) (f:Nat→Ent):(m6 n f).length=n:=by simp [m6]
theorem jK.lt {n:Nat} {f:Nat→Ent} (h:jK n f):∀ j i,i<j→j<n→(f i).m<(f j).m
 | 0,i,hi,_=>by omega
 | j+1,i,hi,hj=>by
  have h1:=(h (j+1) hj).2 (by omega)
  simp only [Nat.add_sub_cancel] at h1
  by_cases e:i=j
  ·
   subst e;exact h1
  have:=jK.lt h j i (by omega) (by omega)
  omega
theorem jK.below {n k:Nat} {f:Nat→Ent} (h:jK n f) (hk:k<n):∀ y∈m6 k f,y.m<(f k).m:=by
 intro y hy
 obtain ⟨i,hi,rfl⟩:=List.mem_map.1 hy
 exact h.lt k i (List.mem_range.1 hi) hk
theorem Cz {k:Int} (h0:-9223372036854775808≤k) (h1:k≤9223372036854775807):keyOf Tryz.prog 2 (.int .i64 k)=some (.int .i64 k) :=
 Maps.keyOf_int_mk Tryz.underlying2 (by simp [Lit.wf,IntKind.min,IntKind.max,IntKind.signed,IntKind.bits];omega)
def qH (x:Ent):List Value:=[.int .i64 x.m,.int .i64 x.p,.int .i64 x.t]
def ly (L:List Ent):List Value:=L.flatMap qH
theorem np:∀ L:List Ent,(ly L).length=L.length*3
 | []=>rfl
 | x :: r=>by
  have:=np r
  unfold ly at this ⊢
  simp [qH,this];omega
theorem k8:∀ (L:List Ent) (i:Nat),i<L.length→(ly L)[i*3]?=some (.int .i64 (L.getD i default).m)∧(ly L)[i*3+1]?=some (.int .i64 (L.getD i default).p)∧(ly L)[i*3+2]?=some (.int .i64 (L.getD i default).t)
 | [],i,h=>by simp at h
 | x :: r,0,_=>by simp [ly,qH]
 | x :: r,i+1,h=>by
  have hr:=k8 r i (by simpa using h)
  have e:ly (x :: r)=.int .i64 x.m :: .int .i64 x.p :: .int .i64 x.t :: ly r:=by simp [ly,qH]
  rw [e,show (i+1)*3=i*3+1+1+1 by omega]
  simpa using hr
def uI (w:World) (base:Nat) (v:Value) (L:List Ent):Prop:=w.ownsRow base 95 3 v L.length (ly L)
theorem uI.nil (w:World) (base:Nat):uI w base (.slice none 0 0) []:=World.ownsRow_nil _ _ _ _
theorem oneE (x:Ent):∀ u∈qH x,u.oneCell'=true:=by
 intro u hu
 simp [qH] at hu
 rcases hu with rfl | rfl | rfl <;> rfl
theorem uI.row {w:World} {base:Nat} {v:Value} {L:List Ent} (h:uI w base v L):(v=.slice none 0 0∧L=[])∨∃ g cap,v=.slice (some ⟨g,0,none⟩) L.length cap∧base≤g∧fV g 95 (L.length*3) (flat fun i=>L.getD i default) (L.length*3) w:=by
 rcases h.2 with ⟨h1,h2⟩ | ⟨g,cap,cur,hv,hg,hblk,hn,hc,hs,ht⟩
 ·
  exact .inl ⟨h1,List.eq_nil_of_length_eq_zero h2⟩
 refine .inr ⟨g,cap,hv,hg,cur,hblk,by rw [hs];omega,fun j hj=>?_⟩
 have hg0:cur[j]?=(ly L)[j]?:=by
  rw [←ht,List.getElem?_take_of_lt hj,Array.getElem?_toList]
 rw [hg0]
 obtain ⟨i,hi | hi | hi⟩:∃ i,j=i*3∨j=i*3+1∨j=i*3+2:=⟨j / 3,by omega⟩
 ·
  subst hi;rw [zY,(k8 L i (by omega)).1]
 ·
  subst hi;rw [zX,(k8 L i (by omega)).2.1]
 subst hi;rw [zU,(k8 L i (by omega)).2.2]
theorem uI.read {w:World} {base:Nat} {v:Value} {L:List Ent} (h:uI w base v L):∃ a cap,v=.slice a L.length cap∧iZ w a L.length fun i=>L.getD i default:=by
 rcases h.row with ⟨rfl,rfl⟩ | ⟨g,cap,rfl,_,hr⟩
 ·
  exact ⟨_,_,rfl,iZ.nil _ _ _⟩
 exact ⟨_,_,rfl,hr.C8⟩
theorem uI.up {w w':World} {base:Nat} {v:Value} {L:List Ent} (h:uI w base v L) (hb:Below w.heap.size w w'):uI w' base v L:=kT h hb (Nat.le_refl _)
theorem uI.mono {w:World} {base base':Nat} {v:Value} {L:List Ent} (h:uI w base v L) (hb:base'≤base):uI w base' v L:=by
 obtain ⟨h1,h2⟩:=h
 refine ⟨h1,h2.imp id ?_⟩
 rintro ⟨g,cap,cur,hv,hg,hr⟩
 exact ⟨g,cap,cur,hv,by omega,hr⟩
theorem wo {W:World} {v:Value} {c base:Nat} (t e:TypeId) (z:Value) (sz bytes:Nat) (hinfo:(Tryz.prog.info? e).map (fun i=>(i.zero,i.size,i.bytes))=some (some z,sz,bytes)) (hu:Tryz.prog.underlying t=some (.slice e)) (h:W.ownsRow base e sz v 0 []) :
  (Builtin.append_ #[t,t] t #[v,.slice none 0 c]).run Tryz.prog W=.ok v W:=by
 obtain ⟨i0,hi,hz0,hz1,hz2⟩:=info_parts hinfo
 rcases h.2 with ⟨rfl,_⟩ | ⟨g,cap,cur,rfl,_⟩
 ·
  simp [Builtin.append_,run_underlying hu,sizeOf,typeInfo,hi,Builtin.lenOf,Builtin.firstCells,loadCells,loadCellsFrom]
 simp [Builtin.append_,run_underlying hu,sizeOf,typeInfo,hi,Builtin.lenOf,Builtin.firstCells,loadCells,loadCellsFrom,storeCells]
def yl (w:World) (a:Option Addr) (xs:List Value):Prop:=∀ j u,xs[j]?=some u→∃ g o,a=some ⟨g,o,none⟩∧w.cell? ⟨g,o+j,none⟩=some u
theorem yl.up {w w2:World} {a:Option Addr} {xs:List Value} (h:yl w a xs) (hb:Below w.heap.size w w2):yl w2 a xs:=fun j u hj=>by
 obtain ⟨g,o,ha,hc⟩:=h j u hj
 exact ⟨g,o,ha,(hb.cell (p:=⟨g,o+j,none⟩) (iu hc)).trans hc⟩
theorem uG {W:World} {base:Nat} {v:Value} {a:Option Addr} {n c:Nat} {xs:List Value} (t e:TypeId) (z:Value) (sz bytes:Nat) (hinfo:(Tryz.prog.info? e).map (fun i=>(i.zero,i.size,i.bytes))=some (some z,sz,bytes)) (hu:Tryz.prog.underlying t=some (.slice e)) (hz:z.cells.size=sz) (hsz:0<sz) (hby:bytes≤1000)
  (h:W.ownsRow base e sz v 0 []) (hb:base≤W.heap.size) (hn:n≤1048576) (hl:xs.length=n*sz) (hr:yl W a xs) (h1:∀ u∈xs,u.oneCell'=true) :
  ∃ a' c' W',(Builtin.append_ #[t,t] t #[v,.slice a n c]).run Tryz.prog W=.ok (.slice a' n c') W'∧OG e sz W' base a' n c' xs∧W.grownBy W' v.ownBlock:=by
 have fin:∀ (v':Value) (W':World),W'.ownsRow base e sz v' n xs→∃ a' c',v'=.slice a' n c'∧OG e sz W' base a' n c' xs:=by
  intro v' W' h2
  rcases h2.2 with ⟨e1,e2⟩ | ⟨g,cap,cur,e1,_⟩
  ·
   subst e1
   subst e2
   exact ⟨none,0,rfl,h2⟩
  refine ⟨some ⟨g,0,none⟩,cap,e1,?_⟩
  rw [e1] at h2
  exact h2
 have hbb:(0+n)*bytes≤140737488355328:=by
  have:=Nat.mul_le_mul (show 0+n≤1048577 by omega) hby
  omega
 obtain ⟨i0,hi,hz0,hz1,hz2⟩:=info_parts hinfo
 cases a with
 | none =>
  have hx:xs=[]:=by
   cases xs with
   | nil=>rfl
   | cons x r =>
    obtain ⟨g,o,ha,_⟩:=hr 0 x rfl
    cases ha
  subst hx
  have hl':n*sz=0:=hl.symm
  have h0:n=0:=(Nat.mul_eq_zero.1 hl').resolve_right (by omega)
  subst h0
  obtain ⟨a',c',rfl,hv⟩:=fin v W h
  exact ⟨a',c',W,wo t e z sz bytes hinfo hu h,hv,⟨rfl,rfl,rfl,Nat.le_refl _,fun _ _ _=>rfl⟩⟩
 | some ad =>
  obtain ⟨v',W',hr',h2,h3,h4,h5⟩:=run_append_own_at (P:=Tryz.prog) W base t t e i0 z sz bytes hu hi hz0 hz1 hz2 hz hsz v 0 [] h ad n c xs hl (fun j u hj=>by
   obtain ⟨g,o,ha,hc⟩:=hr j u hj
   cases ha
   have e0:(⟨g,o,none⟩:Addr).add j=⟨g,o+j,none⟩:=by unfold Addr.add;split <;> simp_all
   rw [e0]
   exact hc) h1 (by unfold maxLen;omega) hbb hb
  rw [Nat.zero_add,List.nil_append] at h2
  obtain ⟨a',c',rfl,hv⟩:=fin v' W' h2
  exact ⟨a',c',W',hr',hv,h3⟩
theorem oG {W:World} {a:Option Addr} {n c:Nat} {xs:List Value} (t e:TypeId) (z:Value) (sz bytes:Nat) (hinfo:(Tryz.prog.info? e).map (fun i=>(i.zero,i.size,i.bytes))=some (some z,sz,bytes)) (hu:Tryz.prog.underlying t=some (.slice e)) (hz:z.cells.size=sz) (hsz:0<sz) (hby:bytes≤1000)
  (hn:n≤1048576) (hl:xs.length=n*sz) (hr:yl W a xs) (h1:∀ u∈xs,u.oneCell'=true) :
  ∃ a' c' W',(Builtin.append_ #[t,t] t #[.slice none 0 0,.slice a n c]).run Tryz.prog W=.ok (.slice a' n c') W'∧OG e sz W' W.heap.size a' n c' xs∧Below W.heap.size W W':=by
 obtain ⟨a',c',W',h2,h3,h4⟩:=uG (c:=c) t e z sz bytes hinfo hu hz hsz hby (World.ownsRow_nil W W.heap.size e sz) (Nat.le_refl _) hn hl hr h1
 exact ⟨a',c',W',h2,h3,(Below.refl _ _).grown h4 (Nat.le_refl _) (fun k e=>by simp [Value.ownBlock] at e)⟩
theorem kt {V:World} {a:Option Addr} {n c:Nat} {xs:List Value} (t e:TypeId) (z:Value) (sz bytes:Nat) (hinfo:(Tryz.prog.info? e).map (fun i=>(i.zero,i.size,i.bytes))=some (some z,sz,bytes)) (hu:Tryz.prog.underlying t=some (.slice e)) (hz:z.cells.size=sz) (hsz:0<sz) (hby:bytes≤1000)
  (hn:n≤1048576) (hl:xs.length=n*sz) (hr:yl V a xs) (h1:∀ u∈xs,u.oneCell'=true) :
  ∃ a' c' W',(Builtin.append_ #[t,t] t #[.slice (some ⟨V.heap.size,0,none⟩) 0 0,.slice a n c]).run Tryz.prog (V.alloc (.cells #[] e))=.ok (.slice a' n c') W'∧OG e sz W' V.heap.size a' n c' xs∧Below V.heap.size V W':=by
 have hA:Below V.heap.size V (V.alloc (.cells #[] e)):=(Below.refl _ _).alloc (Nat.le_refl _) _
 have hm:(V.alloc (.cells #[] e)).ownsRow V.heap.size e sz (.slice (some ⟨V.heap.size,0,none⟩) 0 0) 0 []:=World.ownsRow_made V #[] 0 (Nat.le_refl _) (Nat.zero_le _) (by simp)
 obtain ⟨a',c',W',h2,h3,h4⟩:=uG (c:=c) t e z sz bytes hinfo hu hz hsz hby hm (by simp) hn hl (hr.up hA) h1
 exact ⟨a',c',W',h2,h3,hA.grown h4 (by simp) (fun k e=>by simp [Value.ownBlock] at e;omega)⟩
def nN (n:Nat) (K:Nat→Pkt):List Value:=(List.range n).flatMap fun i=>(K i).cells.toList
theorem kQ (n:Nat) (K:Nat→Pkt):nN (n+1) K=nN n K++(K n).cells.toList:=by simp [nN,List.range_succ]
theorem ke (n:Nat) (K:Nat→Pkt):(nN n K).length=n*8:=by
 induction n with
 | zero=>rfl
 | succ n ih=>rw [kQ,List.length_append,ih,Array.length_toList,Pkt.ig];omega
theorem rf (n:Nat) (K:Nat→Pkt) (i j:Nat) (hi:i<n) (hj:j<8):(nN n K)[i*8+j]?=(K i).cells[j]?:=by
 induction n with
 | zero=>omega
 | succ n ih =>
  rw [kQ]
  by_cases e:i=n
  ·
   subst e
   rw [List.getElem?_append_right (by rw [ke];omega),ke,show i*8+j-i*8=j by omega,Array.getElem?_toList]
  rw [List.getElem?_append_left (by rw [ke];omega)]
  exact ih (by omega)
theorem s9 (n:Nat) (K:Nat→Pkt) (j:Nat) (hj:j<n*8):(nN n K)[j]?=some (my K j):=by
 have h:=rf n K (j / 8) (j % 8) (by omega) (by omega)
 rw [show j / 8*8+j % 8=j by omega] at h
 rw [h,←jQ K (j / 8) (j % 8) (by omega),show j / 8*8+j % 8=j by omega]
theorem oQ (n:Nat) (K:Nat→Pkt):∀ u∈nN n K,u.oneCell'=true:=by
 intro u hu
 unfold nN at hu
 simp only [List.mem_flatMap,List.mem_range] at hu
 obtain ⟨i,_,hu⟩:=hu
 exact (Array.all_eq_true_iff_forall_mem.1 (Pkt.lL (K i))) u (by simpa using hu)
theorem jN.cs {w:World} {a:Option Addr} {n:Nat} {K:Nat→Pkt} (h:jN w a n K):yl w a (nN n K):=by
 intro j u hj
 have hlt:j<n*8:=by
  have:=(List.getElem?_eq_some_iff.1 hj).1
  rwa [ke] at this
 obtain ⟨g,o,ha,hc⟩:=h (j / 8) (by omega)
 refine ⟨g,o,ha,?_⟩
 have h2:=hc (j % 8) (by omega)
 rw [show o+j / 8*8+j % 8=o+j by omega] at h2
 rw [h2,←rf n K (j / 8) (j % 8) (by omega) (by omega),show j / 8*8+j % 8=j by omega]
 exact hj
def vG (n:Nat) (L:Nat→Lng):List Value:=(List.range n).flatMap fun i=>(L i).cells.toList
theorem l8 (n:Nat) (L:Nat→Lng):vG (n+1) L=vG n L++(L n).cells.toList:=by simp [vG,List.range_succ]
theorem ry (n:Nat) (L:Nat→Lng):(vG n L).length=n*8:=by
 induction n with
 | zero=>rfl
 | succ n ih=>rw [l8,List.length_append,ih,Array.length_toList,Lng.ig];omega
theorem A5 {n:Nat} {L L':Nat→Lng} (h:∀ i,i<n→L i=L' i):vG n L=vG n L':=by
 induction n with
 | zero=>rfl
 | succ n ih=>rw [l8,l8,ih (fun i hi=>h i (by omega)),h n (by omega)]
theorem A4 (n:Nat) (L:Nat→Lng) (i j:Nat) (hi:i<n) (hj:j<8):(vG n L)[i*8+j]?=(L i).cells[j]?:=by
 induction n with
 | zero=>omega
 | succ n ih =>
  rw [l8]
  by_cases e:i=n
  ·
   subst e
   rw [List.getElem?_append_right (by rw [ry];omega),ry,show i*8+j-i*8=j by omega,Array.getElem?_toList]
  rw [List.getElem?_append_left (by rw [ry];omega)]
  exact ih (by omega)
theorem zd (n:Nat) (L:Nat→Lng) (j:Nat) (hj:j<n*8):(vG n L)[j]?=some (k6 L j):=by
 have h:=A4 n L (j / 8) (j % 8) (by omega) (by omega)
 rw [show j / 8*8+j % 8=j by omega] at h
 rw [h,←jw L (j / 8) (j % 8) (by omega),show j / 8*8+j % 8=j by omega]
theorem iZ.cs {w:World} {a:Option Addr} {n:Nat} {f:Nat→Ent} (h:iZ w a n f):yl w a (ly (m6 n f)):=by
 intro j u hj
 have hlt:j<n*3:=by
  have:=(List.getElem?_eq_some_iff.1 hj).1
  rwa [np,mh] at this
 have hg:∀ i,i<n→(m6 n f).getD i default=f i:=fun i hi=>by simp [m6,hi]
 obtain ⟨i,hm⟩:∃ i,j=i*3∨j=i*3+1∨j=i*3+2:=⟨j / 3,by omega⟩
 obtain ⟨g,o,ha,h1,h2,h3⟩:=h i (by omega)
 obtain ⟨q1,q2,q3⟩:=k8 (m6 n f) i (by rw [mh];omega)
 rw [hg _ (by omega)] at q1 q2 q3
 refine ⟨g,o,ha,?_⟩
 rcases hm with e | e | e
 ·
  subst e
  rw [q1] at hj
  cases hj
  exact h1
 ·
  subst e
  rw [q2] at hj
  cases hj
  rw [←Nat.add_assoc]
  exact h2
 subst e
 rw [q3] at hj
 cases hj
 rw [←Nat.add_assoc]
 exact h3
theorem um (L:List Ent):∀ u∈ly L,u.oneCell'=true:=by
 intro u hu
 unfold ly at hu
 simp only [List.mem_flatMap] at hu
 obtain ⟨x,_,hu⟩:=hu
 exact oneE x u hu
theorem xZ (n:Nat) (f:Nat→Ent) (j:Nat) (hj:j<n*3):(ly (m6 n f))[j]?=some (flat f j):=by
 have hg:∀ i,i<n→(m6 n f).getD i default=f i:=fun i hi=>by simp [m6,hi]
 obtain ⟨i,hm⟩:∃ i,j=i*3∨j=i*3+1∨j=i*3+2:=⟨j / 3,by omega⟩
 obtain ⟨q1,q2,q3⟩:=k8 (m6 n f) i (by rw [mh];omega)
 rw [hg _ (by omega)] at q1 q2 q3
 rcases hm with e | e | e
 ·
  subst e
  rw [q1,zY]
 ·
  subst e
  rw [q2,zX]
 subst e
 rw [q3,zU]
def Lng.uJ (l:Lng):List Nat:=ij l.aU++iS l.R.aS l.R.nS
theorem iq.tnd {w:World} {base:Nat} {l:Lng} (h:iq w base l):l.uJ.Nodup :=
 List.nodup_append.2 ⟨lf _,n8 _ _,fun x hx y hy e=>h.su y hy (e▸hx)⟩
theorem iq.DH {w:World} {base:Nat} {l:Lng} (h:iq w base l):∀ x∈l.uJ,base≤x∧x<w.heap.size:=by
 intro x hx
 rcases List.mem_append.1 hx with hx | hx
 ·
  exact h.u.blk x hx
 exact (h.r.own.s.mi x hx).1
structure j5 (w:World) (base:Nat) (aL:Option Addr) (nL cL:Nat) (L:Nat→Lng):Prop where
 l:OG 102 8 w base aL nL cL (vG nL L)
 ls:∀ i,i<nL→iq w base (L i)
 nd:((List.range nL).flatMap fun i=>(L i).lh).Nodup
 td:((List.range nL).flatMap fun i=>(L i).uJ).Nodup
theorem j5.up {w w':World} {base:Nat} {aL:Option Addr} {nL cL:Nat} {L:Nat→Lng} (h:j5 w base aL nL cL L) (hb:Below w.heap.size w w'):j5 w' base aL nL cL L:=⟨h.l.up hb,fun i hi=>(h.ls i hi).up hb,h.nd,h.td⟩
theorem j5.mono {w:World} {base base':Nat} {aL:Option Addr} {nL cL:Nat} {L:Nat→Lng} (h:j5 w base aL nL cL L) (hb:base'≤base):j5 w base' aL nL cL L:=⟨h.l.mono hb,fun i hi=>(h.ls i hi).mono hb,h.nd,h.td⟩
theorem j5.low {w w':World} {base:Nat} {aL:Option Addr} {nL cL:Nat} {L:Nat→Lng} {S:List Nat} (h:j5 w base aL nL cL L) (ht:Touch S w w') (hS:∀ x∈S,x<base):j5 w' base aL nL cL L:=⟨h.l.low ht hS,fun i hi=>(h.ls i hi).low ht hS,h.nd,h.td⟩
theorem j5.box {w w':World} {base g:Nat} {aL:Option Addr} {nL cL:Nat} {L:Nat→Lng} {cs:Array Value} {t:TypeId} (h:j5 w base aL nL cL L) (hg:w.heap[g]?=some (.cells cs t (0,0))) (ht2:t≠2) (hts:t≠25) (htl:102≠t) (ht:Touch [g] w w'):j5 w' base aL nL cL L :=
 ⟨h.l.fK ht (fun x hx hy=>h.l.j7 htl hg ((List.mem_singleton.1 hy)▸hx)),fun i hi=>(h.ls i hi).box hg ht2 hts ht,h.nd,h.td⟩
theorem j5.nil (w:World) (base:Nat) (L:Nat→Lng):j5 w base none 0 0 L:=⟨OG.nil _ _ _ _,fun i hi=>absurd hi (Nat.not_lt_zero _),by simp,by simp⟩
theorem j5.more {V V1 W:World} {base g c2 k cL:Nat} {aL:Option Addr} {L:Nat→Lng} {l2:Lng} (h:j5 V base aL k cL L) (hb:Below V.heap.size V V1) (hbase:base≤V.heap.size) (ho:iq V1 V.heap.size l2)
  (hu:OG 102 8 W base (some ⟨g,0,none⟩) (k+1) c2 (vG k L++l2.cells.toList)) (ht:Touch (ij aL) V1 W):j5 W base (some ⟨g,0,none⟩) (k+1) c2 (fun i=>if i=k then l2 else L i):=by
 have h1:=h.up hb
 have far:∀ {b:Nat} {l:Lng},iq V1 b l→iq W b l:=fun hl=>hl.iU ht (fun x hx hy=>by
   obtain ⟨cs,e1⟩:=hl.type2 x hx
   exact h1.l.j7 (by decide) e1 hy) (fun x hx hy=>by
   obtain ⟨cs,e1⟩:=hl.u.type x hx
   exact h1.l.j7 (by decide) e1 hy) (fun x hx hy=>by
   obtain ⟨_,cs,e1⟩:=hl.r.own.s.mi x hx
   exact h1.l.j7 (by decide) e1 hy)
 refine ⟨?_,fun i hi=>?_,?_,?_⟩
 ·
  rw [l8,A5 (L':=L) (fun i hi=>if_neg (by omega)),if_pos rfl]
  exact hu
 ·
  by_cases e:i=k
  ·
   rw [if_pos e]
   exact (far ho).mono hbase
  rw [if_neg e]
  exact far (h1.ls i (by omega))
 ·
  rw [List.range_succ,List.flatMap_append]
  simp only [List.flatMap_cons,List.flatMap_nil,List.append_nil,if_true]
  rw [jg (f:=fun i=>(if i=k then l2 else L i).lh) (g:=fun i=>(L i).lh) (fun i hi=>by rw [if_neg (by omega)])]
  refine jj h.nd ho.nd V.heap.size (fun x hx=>?_) (fun x hx=>(ho.blk x hx).1)
  simp only [List.mem_flatMap,List.mem_range] at hx
  obtain ⟨i,hi,hx⟩:=hx
  exact ((h.ls i hi).blk x hx).2
 rw [List.range_succ,List.flatMap_append]
 simp only [List.flatMap_cons,List.flatMap_nil,List.append_nil,if_true]
 rw [jg (f:=fun i=>(if i=k then l2 else L i).uJ) (g:=fun i=>(L i).uJ) (fun i hi=>by rw [if_neg (by omega)])]
 refine jj h.td ho.tnd V.heap.size (fun x hx=>?_) (fun x hx=>(ho.DH x hx).1)
 simp only [List.mem_flatMap,List.mem_range] at hx
 obtain ⟨i,hi,hx⟩:=hx
 exact ((h.ls i hi).DH x hx).2
structure ic (w:World) (base:Nat) (S:Swg):Prop where
 e:OG 95 3 w base S.aE S.nE S.cE (ly (m6 S.nE S.e))
 n:gR w base S.N
 k:OG 97 8 w base S.aK S.nK S.cK (nN S.nK S.K)
 l:j5 w base S.aL S.nL S.cL S.L
 un:∀ x∈gF S.N.aU S.N.nU,x∉(List.range S.nL).flatMap fun i=>(S.L i).lh
theorem zc (l:Lng):∀ x∈l.jh,x∈l.lh:=by
 intro x hx
 have hv:∀ {a:Option Addr} {n:Nat},x∈gF a n→x∈ij a:=fun h=>(kr _ _).subset h
 unfold Lng.jh at hx
 unfold Lng.lh Rnd.lh
 simp only [List.mem_append,ib,lz] at hx ⊢
 rcases hx with hx | ⟨i,hi,hx⟩ | hx | hx | ⟨i,hi,hx⟩
 ·
  exact .inl (.inl (hv hx))
 ·
  exact .inr ⟨i,hi,hv hx⟩
 ·
  exact .inl (.inr (.inl hx))
 ·
  exact .inl (.inr (.inr (.inl hx)))
 exact .inl (.inr (.inr (.inr ⟨i,hi,hv hx⟩)))
theorem Cn {f g:Nat→List Nat}:∀ n,((List.range n).flatMap g).Nodup→(∀ i,i<n→(f i).Nodup)→(∀ i,i<n→∀ x∈f i,x∈g i)→((List.range n).flatMap f).Nodup:=by
 intro n hg hf hs
 refine qA n hf (fun i j hi hj hne x hx hy=>?_)
 have:∀ n,((List.range n).flatMap g).Nodup→∀ i j,i<j→j<n→∀ x,x∈g i→x∉g j:=by
  intro n
  induction n with
  | zero=>intro _ i j _ hj;omega
  | succ n ih =>
   intro hn i j hij hj x h1 h2
   rw [List.range_succ,List.flatMap_append] at hn
   simp only [List.flatMap_cons,List.flatMap_nil,List.append_nil] at hn
   obtain ⟨n1,n2,n3⟩:=List.nodup_append.1 hn
   by_cases e:j=n
   ·
    subst e
    exact n3 x (by simp only [List.mem_flatMap,List.mem_range];exact ⟨i,hij,h1⟩) x h2 rfl
   exact ih n1 i j hij (by omega) x h1 h2
 rcases Nat.lt_or_gt_of_ne hne with h | h
 ·
  exact this n hg i j h hj x (hs i hi x hx) (hs j hj x hy)
 exact this n hg j i h hi x (hs j hj x hy) (hs i hi x hx)
theorem ic.g {w:World} {base:Nat} {S:Swg} (h:ic w base S):gI w base S:=by
 refine ⟨h.e.vt (fun i hi=>xZ _ _ i hi),h.n.u,h.n.p,h.k.vt (fun i hi=>s9 _ _ i hi),h.l.l.vt (fun i hi=>zd _ _ i hi),fun i hi=>(h.l.ls i hi).g,?_⟩
 refine List.nodup_append.2 ⟨jE _ _,Cn _ h.l.nd (fun i hi=>(h.l.ls i hi).g.nd) (fun i hi=>zc _),fun x hx y hy e=>h.un x hx ?_⟩
 subst e
 simp only [List.mem_flatMap,List.mem_range] at hy ⊢
 obtain ⟨i,hi,hy⟩:=hy
 exact ⟨i,hi,zc _ x hy⟩
theorem kY {f:Nat→List Nat}:∀ n,((List.range n).flatMap f).Nodup→∀ i k,i<n→k<n→i≠k→∀ x∈f i,x∉f k
 | 0,_,i,_,hi,_,_=>by omega
 | n+1,h,i,k,hi,hk,hne=>by
  rw [List.range_succ,List.flatMap_append] at h
  simp only [List.flatMap_cons,List.flatMap_nil,List.append_nil] at h
  obtain ⟨h1,h2,h3⟩:=List.nodup_append.1 h
  intro x hx hy
  by_cases ei:i=n
  ·
   subst ei
   exact h3 x (by simp only [List.mem_flatMap,List.mem_range];exact ⟨k,by omega,hy⟩) x hx rfl
  by_cases ek:k=n
  ·
   subst ek
   exact h3 x (by simp only [List.mem_flatMap,List.mem_range];exact ⟨i,by omega,hx⟩) x hy rfl
  exact kY n h1 i k (by omega) (by omega) hne x hx hy
theorem wW {f g:Nat→List Nat}:∀ n,(∀ k,k<n→List.Sublist (f k) (g k))→List.Sublist ((List.range n).flatMap f) ((List.range n).flatMap g)
 | 0,_=>List.Sublist.refl _
 | n+1,h=>by
  rw [List.range_succ,List.flatMap_append,List.flatMap_append]
  refine (wW n (fun k hk=>h k (by omega))).append ?_
  simp only [List.flatMap_cons,List.flatMap_nil,List.append_nil]
  exact h n (by omega)
theorem tw {cur cs:Array Value} {o:Nat} (h:o+cs.size≤cur.size) (hc:∀ j,j<cs.size→cur[o+j]?=cs[j]?):lay cur o cs=cur:=by
 refine Array.ext_getElem? fun j=>?_
 by_cases h1:j<o
 ·
  exact jI h j h1
 by_cases h2:j<o+cs.size
 ·
  have e:=iX h (j-o) (by omega)
  have e2:=hc (j-o) (by omega)
  rw [show o+(j-o)=j by omega] at e e2
  rw [e,e2]
 exact ju h j (by omega)
def Swg.lane (S:Swg) (i:Nat) (l:Lng):Swg:={ S with L:=fun k=>if k=i then l else S.L k }
theorem ic.DG {w w':World} {base gL i:Nat} {S:Swg} {l':Lng} {cur:Array Value} (ho:ic w base S) (hi:i<S.nL) (eL:S.aL=some ⟨gL,0,none⟩) (kL:w.heap[gL]?=some (.cells cur 102 (0,0))) (hsz:S.nL*8≤cur.size) (hc:∀ k,k<S.nL→∀ q,q<8→cur[k*8+q]?=(S.L k).cells[q]?) (hbL:base≤gL) (ht:DN w w' base gL (i*8) cur (S.L i) l') :
  ∃ l2,gy l' l2∧gI w' base (S.lane i l2)∧Touch (gL :: (S.L i).hit) w w':=by
 have hg:=ho.g
 obtain ⟨⟨l2,hA,hb2,hO2,sub2,eU2,eS2⟩,hto⟩:=ht
 have hLi:=(hg.ls i hi)
 have hz:=ho.l.ls i hi
 have hf:i*8+l2.cells.size≤cur.size:=by rw [Lng.ig];omega
 have hitD:∀ x∈(S.L i).hit,(∃ cs,w.heap[x]?=some (.cells cs 25 (0,0)))∧x∈(S.L i).uJ∨(∃ cs,w.heap[x]?=some (.cells cs 2 (0,0)))∧x∈(S.L i).lh:=by
  intro x hx
  unfold Lng.hit at hx
  simp only [List.mem_append] at hx
  rcases hx with hx | hx | hx
  ·
   exact .inl ⟨hLi.u.type x hx,by unfold Lng.uJ;exact List.mem_append.2 (.inl ((kr _ _).subset hx))⟩
  ·
   exact .inr ⟨hLi.d.type x hx,by unfold Lng.lh Rnd.lh;simp only [List.mem_append];exact .inl (.inr (.inr (.inl hx)))⟩
  exact .inl ⟨hLi.s.type x hx,by unfold Lng.uJ;exact List.mem_append.2 (.inr hx)⟩
 have far:∀ x t,(∃ cs,w.heap[x]?=some (.cells cs t (0,0)))→t≠102→t≠25→t≠2→x∉gL :: (S.L i).hit:=by
  rintro x t ⟨cs,hx⟩ h1 h2 h3 hy
  rcases List.mem_cons.1 hy with e | hy
  ·
   exact iz hx kL h1 e
  rcases hitD x hy with ⟨⟨c2,k2⟩,_⟩ | ⟨⟨c2,k2⟩,_⟩
  ·
   exact iz hx k2 h2 rfl
  exact iz hx k2 h3 rfl
 have C7:∀ x,(∃ cs,w.heap[x]?=some (.cells cs 2 (0,0)))→x∉(S.L i).lh→x∉gL :: (S.L i).hit:=by
  rintro x ⟨cs,hx⟩ hn hy
  rcases List.mem_cons.1 hy with e | hy
  ·
   exact iz hx kL (by decide) e
  rcases hitD x hy with ⟨⟨c2,k2⟩,_⟩ | ⟨_,h2⟩
  ·
   exact iz hx k2 (by decide) rfl
  exact hn h2
 have farS:∀ x,(∃ cs,w.heap[x]?=some (.cells cs 25 (0,0)))→x∉(S.L i).uJ→x∉gL :: (S.L i).hit:=by
  rintro x ⟨cs,hx⟩ hn hy
  rcases List.mem_cons.1 hy with e | hy
  ·
   exact iz hx kL (by decide) e
  rcases hitD x hy with ⟨_,h2⟩ | ⟨⟨c2,k2⟩,_⟩
  ·
   exact hn h2
  exact iz hx k2 (by decide) rfl
 refine ⟨l2,hA,⟨hg.e.fK hto (fun x hx=>far x _ (hg.e.type x hx) (by decide) (by decide) (by decide)),hg.u.fK hto (fun x hx=>C7 x (hg.u.type x hx) (fun h=>ho.un x hx (by simp only [List.mem_flatMap,List.mem_range];exact ⟨i,hi,h⟩))),hg.p.fK hto (fun x hx=>far x _ (hg.p.type x hx) (by decide) (by decide) (by decide)),hg.k.fK hto (fun x hx=>far x _ (hg.k.type x hx) (by decide) (by decide) (by decide)),?_,fun k hk=>?_,?_⟩,hto⟩
 ·
  show VT 102 w' base S.aL (S.nL*8) _
  rw [eL]
  refine .inr ⟨gL,rfl,hbL,_,hb2,by rw [jb hf];omega,fun j hj=>?_⟩
  have hfl:=jw (S.lane i l2).L (j / 8) (j % 8) (by omega)
  rw [show j / 8*8+j % 8=j by omega] at hfl
  rw [hfl]
  show _=(if j / 8=i then l2 else S.L (j / 8)).cells[j % 8]?
  by_cases e:j / 8=i
  ·
   rw [if_pos e]
   have q:=iX hf (j % 8) (by rw [Lng.ig];omega)
   rw [show i*8+j % 8=j by omega] at q
   exact q
  rw [if_neg e,←hc (j / 8) (by omega) (j % 8) (by omega),show j / 8*8+j % 8=j by omega]
  rcases Nat.lt_or_ge j (i*8) with c | c
  ·
   exact jI hf j c
  exact ju hf j (by rw [Lng.ig];omega)
 ·
  show gO w' base (if k=i then l2 else S.L k)
  by_cases e:k=i
  ·
   rw [if_pos e]
   exact hO2
  rw [if_neg e]
  have hk':k<S.nL:=hk
  have ok:=hg.ls k hk'
  refine ok.zn hto (fun x hx=>C7 x (ok.ty2 x hx) (kY _ ho.l.nd k i hk' hi e x (zc _ x hx))) (fun x hx=>farS x (ok.u.type x hx) (kY _ ho.l.td k i hk' hi e x ?_)) (fun x hx=>farS x (ok.s.type x hx) (kY _ ho.l.td k i hk' hi e x ?_))
  ·
   unfold Lng.uJ;exact List.mem_append.2 (.inl ((kr _ _).subset hx))
  unfold Lng.uJ;exact List.mem_append.2 (.inr hx)
 refine List.Sublist.nodup ((List.Sublist.refl _).append (wW _ (fun k hk=>?_))) hg.nd
 show List.Sublist (if k=i then l2 else S.L k).jh (S.L k).jh
 by_cases e:k=i
 ·
  subst e
  rw [if_pos rfl]
  exact sub2
 rw [if_neg e]
 exact List.Sublist.refl _
theorem ic.Cb {w:World} {base i:Nat} {S:Swg} (ho:ic w base S) (hi:i<S.nL):∃ gL cur,S.aL=some ⟨gL,0,none⟩∧base≤gL∧w.heap[gL]?=some (.cells cur 102 (0,0))∧S.nL*8≤cur.size∧∀ k,k<S.nL→∀ q,q<8→cur[k*8+q]?=(S.L k).cells[q]?:=by
 rcases ho.g.l with e | ⟨gL,e,hb,arr,k1,k2,k3⟩
 ·
  omega
 exact ⟨gL,arr,e,hb,k1,k2,fun k hk q hq=>(k3 (k*8+q) (by omega)).trans (jw S.L k q hq)⟩
theorem gO.Bv {w:World} {base:Nat} {l:Lng} (h:gO w base l):∀ x∈l.hit,(∃ cs,w.heap[x]?=some (.cells cs 25 (0,0)))∨∃ cs,w.heap[x]?=some (.cells cs 2 (0,0)):=by
 intro x hx
 unfold Lng.hit at hx
 simp only [List.mem_append] at hx
 rcases hx with hx | hx | hx
 ·
  exact .inl (h.u.type x hx)
 ·
  exact .inr (h.d.type x hx)
 exact .inl (h.s.type x hx)
theorem gO.Ck {w:World} {base:Nat} {l:Lng} (h:gO w base l) {g gL:Nat} {cs cur:Array Value} {t:TypeId} (kg:w.heap[g]?=some (.cells cs t (0,0))) (kL:w.heap[gL]?=some (.cells cur 102 (0,0))) (h1:t≠102) (h2:t≠25) (h3:t≠2):g∉gL :: l.hit:=by
 intro hy
 rcases List.mem_cons.1 hy with e | hy
 ·
  exact iz kg kL h1 e
 rcases h.Bv g hy with ⟨c2,k2⟩ | ⟨c2,k2⟩
 ·
  exact iz kg k2 h2 rfl
 exact iz kg k2 h3 rfl
theorem gO.CT {w:World} {base:Nat} {l:Lng} (h:gO w base l):∀ x∈l.hit,base≤x:=by
 intro x hx
 unfold Lng.hit at hx
 simp only [List.mem_append] at hx
 rcases hx with hx | hx | hx
 ·
  exact (h.u.blk x hx).1
 ·
  exact (h.d.blk x hx).1
 exact (h.s.blk x hx).1
structure mA (base:Nat) (w w':World):Prop where
 bel:Below base w w'
 msg:∀ (x:Nat) (cs:Array Value),w.heap[x]?=some (.cells cs 125 (0,0))→w'.heap[x]?=some (.cells cs 125 (0,0))
theorem mA.trans {base:Nat} {a b c:World} (h:mA base a b) (k:mA base b c):mA base a c:=⟨h.bel.trans k.bel,fun x cs hx=>k.msg x cs (h.msg x cs hx)⟩
theorem mA.up {base:Nat} {a b:World} (h:Below a.heap.size a b) (hb:base≤a.heap.size):mA base a b:=⟨h.mono hb,fun x cs hx=>(h.block x (fH hx)).trans hx⟩
theorem mA.to {base:Nat} {a b:World} {T:List Nat} (h:Touch T a b) (hb:base≤a.heap.size) (hT:∀ x∈T,base≤x∧∃ cs t,a.heap[x]?=some (.cells cs t (0,0))∧t≠125):mA base a b :=
 ⟨h.below hb (fun x hx=>(hT x hx).1),fun x cs hx=>(h.block x (fH hx) (fun hy=>by
  obtain ⟨_,c2,t,k2,hne⟩:=hT x hy
  exact iz k2 hx hne rfl)).trans hx⟩
theorem gO.Bc {w w':World} {base gL:Nat} {l:Lng} {cur:Array Value} (h:gO w base l) (kL:w.heap[gL]?=some (.cells cur 102 (0,0))) (hbL:base≤gL) (ht:Touch (gL :: l.hit) w w'):mA base w w' :=
 .to ht (by have:=fH kL;omega) (fun x hx=>by
  rcases List.mem_cons.1 hx with e | hx
  ·
   subst e;exact ⟨hbL,_,_,kL,by decide⟩
  ·
   refine ⟨h.CT x hx,?_⟩
   rcases h.Bv x hx with ⟨c2,k2⟩ | ⟨c2,k2⟩
   ·
    exact ⟨c2,_,k2,by decide⟩
   ·
    exact ⟨c2,_,k2,by decide⟩)
theorem lY.pos {nx p:Int} {m:Nat} {K:Nat→Pkt} {l:Lng} (h:lY m K l) (hk:iT nx p m K) {id:Int} (hid:(∃ i,i<l.nT∧id=l.t i)∨∃ c i,c<2∧i<l.uL c∧id=l.uz c i):∃ j,j<m∧(K j).id=id∧1≤id:=by
 rcases hid with ⟨i,hi,rfl⟩ | ⟨c,i,hc,hi,rfl⟩
 ·
  obtain ⟨⟨j,hj,e,_⟩,_⟩:=h.t i hi
  exact ⟨j,hj,e,by have:=(hk.one j hj).1.1;omega⟩
 obtain ⟨⟨j,hj,e,_⟩,_⟩:=(h.z c hc).1 i hi
 exact ⟨j,hj,e,by have:=(hk.one j hj).1.1;omega⟩
theorem qV (S:Swg) (l':Lng) (i g base:Nat) (w:World) (kb:w.heap[g]?=some (.cells S.cells 40 (0,0))) (ho:ic w base S) (hi:i<S.nL) (hl:lY S.nK S.K (S.L i)) (hk:iT S.nx S.C.p S.nK S.K) (hm:mz (S.L i) l' 0) :
  Calls Tryz.prog 79 #[.pointer (some ⟨g,0,none⟩),.int .i64 (i:Int)] w fun e w'=>e=.returned (.slice none 0 0)∧∃ l2,gy l' l2∧gI w' base (S.lane i l2)∧w'.heap[g]?=some (.cells (S.lane i l2).cells 40 (0,0))∧mA base w w':=by
 obtain ⟨gL,cur,eL,hbL,kL,hsz,hc⟩:=ho.Cb hi
 have hf:i*8+8≤cur.size:=by omega
 have kL2:w.heap[gL]?=some (.cells (lay cur (i*8) (S.L i).cells) 102 (0,0)):=by
  rw [tw (cs:=(S.L i).cells) hf (fun j hj=>hc i hi j hj)]
  exact kL
 have c14:w.cell? ⟨g,14,none⟩=some (.slice (some ⟨gL,0,none⟩) S.nL S.cL):=by rw [←eL];exact fG kb 14
 have hi1:(i:Int)<(S.nL:Int):=by omega
 have hi0:(0:Int)≤(i:Int):=by omega
 have HT:Hid (Calls Tryz.prog 118 #[.pointer (some ⟨gL,i*8,none⟩)] w fun e w'=>e=.returned (.tuple #[.int .i64 0,.bool false])∧∃ l2,gy l' l2∧gI w' base (S.lane i l2)∧w'.heap[g]?=some (.cells (S.lane i l2).cells 40 (0,0))∧mA base w w'):=by
  refine (oc (S.L i) l' 0 S.nK S.K gL (i*8) base cur w hf kL2 (ho.l.ls i hi) hl hm).mono ?_
  rintro e w' ⟨⟨b,rfl,hb1,hb2⟩,ht⟩
  obtain ⟨l2,hA,hO,hto⟩:=ho.DG hi eL kL hsz hc hbL ht
  have hbf:b=false:=by
   cases b with
   | false=>rfl
   | true =>
    obtain ⟨j,_,_,h1⟩:=hl.pos hk (hb2 rfl)
    omega
  exact dS
 clear kb ho hl hk hm kL kL2 hc hsz hf eL hbL
 go_enter Tryz.func79,Tryz.ntmps79
 go_wp2_with (go_at_call 118;refine HT.out.mono ?_;rintro e w2 ⟨rfl,hF⟩)
 go_ret
 exact ⟨rfl,hF⟩
theorem wR (x:Pkt) (gp:Nat) (id:Int) (w:World) (hp:w.cell? ⟨gp,0,none⟩=some (.int .i64 id)) :
  Calls Tryz.prog 144 #[.agg x.cells,.pointer (some ⟨gp,0,none⟩)] w fun e w'=>e=.returned (.bool (x.id == id))∧Below w.heap.size w w':=by
 have hB:Below (w.heap.size+1) (w.alloc (.cells x.cells 97)) (w.alloc (.cells x.cells 97)):=Below.refl _ _
 have c0:(w.alloc (.cells x.cells 97)).cell? ⟨w.heap.size,0,none⟩=some (.int .i64 x.id):=boxed hB 0
 have hl:gp<w.heap.size:=by
  rcases Nat.lt_or_ge gp w.heap.size with h | h
  ·
   exact h
  have:w.heap[gp]?=none:=Array.getElem?_eq_none h
  simp [World.cell?,this] at hp
 have c1:(w.alloc (.cells x.cells 97)).cell? ⟨gp,0,none⟩=some (.int .i64 id):=(World.cell?_of_block (w:=w) (a:=⟨gp,0,none⟩) (gg _ hl)).trans hp
 go_enter Tryz.func144,Tryz.ntmps144
 exact bj
theorem zF (a:Option Addr) (n c:Nat) (K:Nat→Pkt) (gp:Nat) (id:Int) (w:World) (hn:n≤1048576) (h:jN w a n K) (hgp:gp<w.heap.size) (hp:w.cell? ⟨gp,0,none⟩=some (.int .i64 id)) (j:Nat) (hj:j<n) (hid:(K j).id=id) (hne:∀ i,i<n→i≠j→(K i).id≠id) :
  Calls Tryz.prog 155 #[.slice a n c,.func (.func 144) #[] #[.pointer (some ⟨gp,0,none⟩)]] w fun e w'=>e=.returned (.int .i64 (j:Int))∧Below w.heap.size w w':=by
 have HR:Hid (jN w a n K):=h
 have HN:Hid (∀ i,i<n→i≠j→(K i).id≠id):=hne
 have HP:Hid (w.cell? ⟨gp,0,none⟩=some (.int .i64 id)):=hp
 have HG:Hid (gp<w.heap.size):=hgp
 clear h hne hp hgp
 go_enter Tryz.func155,Tryz.ntmps155
 go_wp2_with fail
 go_loopw [8] (fun i wr=>∃ k:Nat,k≤j∧i=.int .i64 k∧Below w.heap.size w wr) (fun i _=>j-(intOf i).toNat)
 case atStart=>exact ⟨0,Nat.zero_le _,rfl,Below.refl _ _⟩
 obtain ⟨k,hk,rfl,hB⟩:=hrel
 have hkn:k<n:=by omega
 have hkn':(k:Int)<(n:Int):=by omega
 have hq:wr.cell? ⟨gp,0,none⟩=some (.int .i64 id):=(World.cell?_of_block (w:=w) (a:=⟨gp,0,none⟩) (hB.block _ HG.out)).trans HP.out
 obtain ⟨g,o,rfl,hc⟩:=(HR.out.up hB) _ hkn
 go_wp2_with (refine iF rfl (.tmp 14) rfl g (o+k*8) rfl (K k) hc ?_)
 refine (wR (K k) gp id _ hq).mono ?_
 rintro e w2 ⟨rfl,hb⟩
 have hB2:=hB.trans (hb.mono hB.size)
 clear hb hc hB hq
 by_cases e:k=j
 ·
  subst e
  have hv:((K k).id == id)=true:=by simp [hid]
  rw [hv]
  go_wp2_with fail
  go_ret
  exact ⟨rfl,hB2⟩
 have hv:((K k).id == id)=false:=by simpa using HN.out k hkn e
 rw [hv]
 go_wp2_with fail
 go_roundw
 case rel=>exact ⟨k+1,by omega,by go_num,hB2⟩
 case measure=>simp [intOf];omega
def iJ (w:World) (g o n:Nat) (F:Nat→Pkt):Prop:=∃ arr:Array Value,w.heap[g]?=some (.cells arr 97 (0,0))∧o+n*8≤arr.size∧∀ i,i<n→∀ q,q<8→arr[o+i*8+q]?=(F i).cells[q]?
theorem iJ.lt {w:World} {g o n:Nat} {F:Nat→Pkt} (h:iJ w g o n F):g<w.heap.size:=by
 obtain ⟨arr,h1,_⟩:=h
 exact fH h1
theorem iJ.ir {w w':World} {g o n:Nat} {F:Nat→Pkt} (h:iJ w g o n F) (hb:w'.heap[g]?=w.heap[g]?):iJ w' g o n F:=by
 obtain ⟨arr,h1,h2⟩:=h
 exact ⟨arr,hb.trans h1,h2⟩
theorem iJ.rd {w:World} {g o n:Nat} {F:Nat→Pkt} (h:iJ w g o n F):jN w (some ⟨g,o,none⟩) n F:=fun i hi=>by
 obtain ⟨arr,h1,h2,h3⟩:=h
 exact ⟨g,o,rfl,fun j hj=>(fG h1 _).trans (h3 i hi j hj)⟩
theorem iJ.ext {w:World} {g o n:Nat} {F F':Nat→Pkt} (h:iJ w g o n F) (e:∀ i,i<n→F i=F' i):iJ w g o n F':=by
 obtain ⟨arr,h1,h2,h3⟩:=h
 exact ⟨arr,h1,h2,fun i hi q hq=>by rw [←e i hi];exact h3 i hi q hq⟩
theorem iJ.less {w:World} {g o n m:Nat} {F:Nat→Pkt} (h:iJ w g o n F) (hm:m≤n):iJ w g o m F:=by
 obtain ⟨arr,h1,h2,h3⟩:=h
 exact ⟨arr,h1,by omega,fun i hi q hq=>h3 i (by omega) q hq⟩
theorem Bt {arr:Array Value} {o n k:Nat} {F:Nat→Pkt} (h2:o+n*8≤arr.size) (h3:∀ i,i<n→∀ q,q<8→arr[o+i*8+q]?=(F i).cells[q]?) (hk:k<n) (X:Pkt) :
  o+n*8≤(lay arr (o+k*8) X.cells).size∧∀ i,i<n→∀ q,q<8→(lay arr (o+k*8) X.cells)[o+i*8+q]?=(if i=k then X else F i).cells[q]?:=by
 have hf:o+k*8+X.cells.size≤arr.size:=by rw [Pkt.ig];omega
 have hpast:∀ j,o+k*8+X.cells.size≤j→(lay arr (o+k*8) X.cells)[j]?=arr[j]?:=fun j hj=>by
  unfold lay
  simp only [List.getElem?_toArray]
  rw [List.append_assoc,List.getElem?_append_right (by simp;omega),List.getElem?_append_right (by simp;omega),List.getElem?_drop]
  simp only [List.length_take,Array.length_toList,Array.getElem?_toList]
  congr 1
  omega
 have hs:X.cells.size=8:=Pkt.ig X
 refine ⟨by rw [jb hf];exact h2,fun i hi q hq=>?_⟩
 by_cases e:i=k
 ·
  subst e
  rw [if_pos rfl]
  exact iX hf q (by omega)
 rw [if_neg e,←h3 i hi q hq]
 rcases Nat.lt_or_ge i k with c | c
 ·
  exact jI hf _ (by omega)
 exact hpast _ (by omega)
def zPk:Pkt:=⟨0,0,0,0,0,0,0,⟨#[]⟩⟩
theorem CD (w:World):(zeroValue 97).run Tryz.prog w=.ok (.agg zPk.cells) w:=by
 kernel_rfl
theorem vb (w:World) (g off c:Nat) (ty:TypeId) (cur:Array Value) (hg:w.heap[g]?=some (.cells cur 97 (0,0))) (hf:off+8≤cur.size) :
  (Builtin.clear_ #[37] ty #[.slice (some ⟨g,off,none⟩) 1 c]).run Tryz.prog w=.ok (.tuple #[]) (w.setRow g (lay cur off zPk.cells)):=by
 have:=run_storeCells_at (P:=Tryz.prog) g off 97 zPk.cells.toList 0 cur w hg (by show off+0+8≤cur.size;exact hf) (fun x hx=>(Array.all_eq_true_iff_forall_mem.1 (Pkt.one zPk)) x (by simpa using hx))
 simp only [Nat.add_zero,Array.length_toList] at this
 have hz:(Builtin.zeroCells (Value.agg zPk.cells).cells 1).toList=zPk.cells.toList:=by kernel_rfl
 have hu:Tryz.prog.underlying 37=some (.slice 97):=by kernel_rfl
 have hz2:(Builtin.zeroCells zPk.cells 1).toList=zPk.cells.toList:=hz
 simp [Builtin.clear_,underlying,hu,CD,Value.cells]
 show ((storeCells ⟨g,off,none⟩ (Builtin.zeroCells zPk.cells 1).toList).run Tryz.prog w).andThen (fun a w'=>Result.ok (Value.tuple #[]) w')=_
 rw [hz2,this]
 rfl
theorem yG (gk o n c k:Nat) (w:World) (hk:k<n) (hc:n≤c) :
  (Instr.slice 37 (.slice (some ⟨gk,o,none⟩) n c) (some (.int .i64 (k:Int))) none none).run Tryz.prog w=.ok (.slice (some ⟨gk,o+k*8,none⟩) (n-k) (c-k)) w:=by
 have h1:(k:Int)≤(n:Int):=by omega
 have h2:¬ c-k=0:=by omega
 have h3:(0:Int)≤(k:Int):=by omega
 have h4:(n:Int)≤(c:Int):=by omega
 have h5:¬ c=k:=by omega
 simp [go_sem,h1,h2,h3,h4,h5]
theorem sW (gk o n c k:Nat) (w:World) (hk:k≤n) (hc:n≤c) :
  (Instr.slice 37 (.slice (some ⟨gk,o,none⟩) n c) none (some (.int .i64 (k:Int))) none).run Tryz.prog w=.ok (.slice (some ⟨gk,o,none⟩) k c) w:=by
 have h1:(k:Int)≤(c:Int):=by omega
 have h3:(0:Int)≤(k:Int):=by omega
 simp [go_sem,h1,h3]
theorem oo {K:Nat→Pkt} {j i:Nat} (h:i<j):rmK K j i=K i:=by unfold rmK;rw [if_pos h]
theorem pq {K:Nat→Pkt} {j i:Nat} (h:j≤i):rmK K j i=K (i+1):=by unfold rmK;rw [if_neg (by omega)]
theorem sM {K K':Nat→Pkt} {q:Int}:∀ n,(∀ i,i<n→K i=K' i)→jn K q n=jn K' q n
 | 0,_=>rfl
 | n+1,h=>by
  show jn K q n+_=jn K' q n+_
  rw [sM n (fun i hi=>h i (by omega)),h n (by omega)]
theorem qo {K K':Nat→Pkt}:∀ n,(∀ i,i<n→K i=K' i)→g3 K n=g3 K' n
 | 0,_=>rfl
 | n+1,h=>by
  show g3 K n+_=g3 K' n+_
  rw [qo n (fun i hi=>h i (by omega)),h n (by omega)]
theorem yz {K:Nat→Pkt} {q:Int}:∀ (n j:Nat),j≤n→jn (rmK K j) q n+(if (K j).p=2∧(K j).inn=q then (K j).cl else 0)=jn K q (n+1)
 | 0,j,h=>by
  obtain rfl:j=0:=by omega
  rfl
 | n+1,j,h=>by
  by_cases e:j=n+1
  ·
   subst e
   rw [sM (K':=K) (n+1) (fun i hi=>oo hi)]
   rfl
  have ih:=yz (K:=K) (q:=q) n j (by omega)
  show jn (rmK K j) q n+(if (rmK K j n).p=2∧(rmK K j n).inn=q then (rmK K j n).cl else 0)+_=jn K q (n+1)+(if (K (n+1)).p=2∧(K (n+1)).inn=q then (K (n+1)).cl else 0)
  rw [pq (K:=K) (show j≤n by omega),←ih]
  omega
theorem wJ {K:Nat→Pkt}:∀ (n j:Nat),j≤n→g3 (rmK K j) n+(if (K j).p=2 then 0 else (K j).cl)=g3 K (n+1)
 | 0,j,h=>by
  obtain rfl:j=0:=by omega
  rfl
 | n+1,j,h=>by
  by_cases e:j=n+1
  ·
   subst e
   rw [qo (K':=K) (n+1) (fun i hi=>oo hi)]
   rfl
  have ih:=wJ (K:=K) n j (by omega)
  show g3 (rmK K j) n+(if (rmK K j n).p=2 then 0 else (rmK K j n).cl)+_=g3 K (n+1)+(if (K (n+1)).p=2 then 0 else (K (n+1)).cl)
  rw [pq (K:=K) (show j≤n by omega),←ih]
  omega
theorem iT.rm {nx p:Int} {n:Nat} {K:Nat→Pkt} (h:iT nx p n K) {j:Nat} (hj:j<n):iT nx p (n-1) (rmK K j):=by
 have hlt:=mV h.up
 refine ⟨by have:=h.le;omega,fun i hi=>?_,fun i hi h0=>?_⟩
 ·
  by_cases c:i<j
  ·
   rw [oo c];exact h.one i (by omega)
  rw [pq (by omega)];exact h.one (i+1) (by omega)
 by_cases c:i<j
 ·
  rw [oo c,oo (by omega)];exact hlt i (i-1) (by omega) (by omega)
 rw [pq (show j≤i by omega)]
 by_cases c2:i-1<j
 ·
  rw [oo c2];exact hlt (i+1) (i-1) (by omega) (by omega)
 rw [pq (show j≤i-1 by omega)];exact hlt (i+1) (i-1+1) (by omega) (by omega)
theorem sO {nx p:Int} {K:Nat→Pkt} {m:Nat} (h:iT nx p m K):∀ n,n≤m→0≤g3 K n
 | 0,_=>Int.le_refl _
 | n+1,hn=>by
  have:=sO h n (by omega)
  have hc:=(h.one n (by omega)).2.2.cl
  show 0≤g3 K n+_
  split <;> omega
theorem iT.only {nx p:Int} {n:Nat} {K:Nat→Pkt} (h:iT nx p n K) {j:Nat} (hj:j<n):∀ i,i<n→i≠j→(K i).id≠(K j).id:=fun i hi hne e=>hne (ln h.up hi hj e)
theorem Cm {C:Cfg} {N:Cnt} (i:Nat) (h:Cnt.Ok C N):Cnt.Ok C (lW C N i):=⟨h.c,h.nU,h.nP,h.lo,h.u⟩
theorem Swg.Ok.rel {S:Swg} (h:S.Ok) {j:Nat} (hj:j<S.nK):oK S.C S.N (S.K j).inn (S.K j).p (S.K j).cl∧Cnt.Ok S.C (kF S.N (S.K j).inn (S.K j).p (-(S.K j).cl)):=by
 obtain ⟨_,o2,o3⟩:=h.k.one j hj
 have hcl:=o3.cl
 have hrm:=h.k.rm hj
 refine ⟨⟨h.n,o2,o3.pr,hcl⟩,?_⟩
 by_cases e:(S.K j).p=2
 ·
  obtain ⟨i,ei⟩:∃ i:Nat,(S.K j).inn=(i:Int):=⟨(S.K j).inn.toNat,by omega⟩
  rw [ei,e,nw]
  have hnU:=h.n.nU
  refine ⟨h.n.c,h.n.nU,h.n.nP,h.n.lo,fun k hk=>?_⟩
  have hu:=h.n.u k hk
  show 0≤(if k=i then S.N.u k+-(S.K j).cl else S.N.u k)∧(if k=i then S.N.u k+-(S.K j).cl else S.N.u k)≤_
  by_cases ek:k=i
  ·
   subst ek
   rw [if_pos rfl]
   have hh:=h.held.2 k hk
   have hs:=yz (K:=S.K) (q:=(k:Int)) (S.nK-1) j (by omega)
   rw [if_pos ⟨e,ei⟩,show S.nK-1+1=S.nK by omega] at hs
   have hp:=(u4 (q:=(k:Int)) hrm (S.nK-1) (Nat.le_refl _)).1
   omega
  rw [if_neg ek]
  exact hu
 rw [mu e]
 refine ⟨h.n.c,h.n.nU,h.n.nP,?_,h.n.u⟩
 show 0≤S.N.lo+-(S.K j).cl∧S.N.lo+-(S.K j).cl≤_
 have hlo:=h.n.lo
 have hh:=h.held.1
 have hs:=wJ (K:=S.K) (S.nK-1) j (by omega)
 rw [if_neg e,show S.nK-1+1=S.nK by omega] at hs
 have hp:=sO hrm (S.nK-1) (Nat.le_refl _)
 omega
theorem iJ.dec {w W:World} {g o n j:Nat} {K:Nat→Pkt} {arr:Array Value} (hj:j<n) (h2:o+n*8≤arr.size) (h3:∀ i,i<n→∀ q,q<8→arr[o+i*8+q]?=(K i).cells[q]?) (hP:Put w W g (lay arr (o+j*8+2) #[.int .i64 ((K j).refs-1)]) 97):iJ W g o n (kq K j):=by
 have hf:o+j*8+2+(#[.int .i64 ((K j).refs-1)]:Array Value).size≤arr.size:=by show o+j*8+2+1≤arr.size;omega
 refine ⟨_,hP.blk,by rw [jb hf];exact h2,fun i hi q hq=>?_⟩
 by_cases e:i=j
 ·
  subst e
  have hd:kq K i i={ K i with refs:=(K i).refs-1 }:=by unfold kq;rw [if_pos rfl]
  rw [hd]
  by_cases e2:q=2
  ·
   subst e2
   exact iX hf 0 (by show 0<1;omega)
  have hk:(lay arr (o+i*8+2) #[.int .i64 ((K i).refs-1)])[o+i*8+q]?=arr[o+i*8+q]?:=by
   rcases Nat.lt_or_ge q 2 with c | c
   ·
    exact jI hf _ (by omega)
   exact ju hf _ (by show o+i*8+2+1≤_;omega)
  rw [hk,h3 i hi q hq]
  have:q=0∨q=1∨q=3∨q=4∨q=5∨q=6∨q=7:=by omega
  rcases this with rfl | rfl | rfl | rfl | rfl | rfl | rfl <;> rfl
 have hd:kq K j i=K i:=by unfold kq;rw [if_neg e]
 rw [hd,←h3 i hi q hq]
 rcases Nat.lt_or_ge i j with c | c
 ·
  exact jI hf _ (by omega)
 exact ju hf _ (by show o+j*8+2+1≤_;omega)
theorem Swg.Ok.ti {S:Swg} (h:S.Ok) (x:Int):∀ n,n≤S.nL→nA S.L x n≤3000*n
 | 0,_=>Nat.le_refl _
 | n+1,hn=>by
  have ih:=Swg.Ok.ti h x n (by omega)
  have hl:=h.l n (by omega)
  have hk:=h.k.le
  have ht:=hl.t.le h.k
  have h0:=(hl.z 0 (by omega)).1.le h.k
  have h1:=(hl.z 1 (by omega)).1.le h.k
  have o1:=ow (S.L n).t x (S.L n).nT
  have o2:=ow ((S.L n).uz 0) x ((S.L n).uL 0)
  have o3:=ow ((S.L n).uz 1) x ((S.L n).uL 1)
  have hu:sn (S.L n) x (S.L n).nU=0+occ ((S.L n).uz 0) x ((S.L n).uL 0)+occ ((S.L n).uz 1) x ((S.L n).uL 1):=by rw [hl.u];rfl
  show nA S.L x n+(occ (S.L n).t x (S.L n).nT+sn (S.L n) x (S.L n).nU)≤3000*(n+1)
  rw [hu]
  omega
theorem Swg.Ok.qt {S:Swg} (h:S.Ok) {j:Nat} (hj:j<S.nK):1≤(S.K j).refs∧(S.K j).refs≤3000*S.nL:=by
 obtain ⟨h1,h2⟩:=h.refs j hj
 have:=h.ti (S.K j).id S.nL (Nat.le_refl _)
 exact ⟨h1,by rw [h2];omega⟩
theorem gI.CG {w:World} {base j:Nat} {S:Swg} (h:gI w base S) (hj:j<S.nK):∃ gk,S.aK=some ⟨gk,0,none⟩∧base≤gk∧iJ w gk 0 S.nK S.K:=by
 rcases h.k with e | ⟨gk,e,hb,arr,k1,k2,k3⟩
 ·
  omega
 exact ⟨gk,e,hb,arr,k1,by omega,fun i hi q hq=>by rw [Nat.zero_add];exact (k3 (i*8+q) (by omega)).trans (jQ S.K i q hq)⟩
theorem gI.DJ {w w':World} {base gk n':Nat} {S:Swg} {K':Nat→Pkt} (h:gI w base S) {arr:Array Value} (kk:w.heap[gk]?=some (.cells arr 97 (0,0))) (eK:S.aK=some ⟨gk,0,none⟩) (hb:base≤gk) (ht:Touch [gk] w w') (hr:iJ w' gk 0 n' K'):gI w' base { S with nK:=n',K:=K' }:=by
 have far:∀ x t,(∃ cs,w.heap[x]?=some (.cells cs t (0,0)))→t≠97→x∉[gk]:=by
  rintro x t ⟨cs,hx⟩ hne hy
  exact iz hx kk hne (by simpa using hy)
 refine ⟨h.e.fK ht (fun x hx=>far x _ (h.e.type x hx) (by decide)),h.u.fK ht (fun x hx=>far x _ (h.u.type x hx) (by decide)),h.p.fK ht (fun x hx=>far x _ (h.p.type x hx) (by decide)),?_,h.l.fK ht (fun x hx=>far x _ (h.l.type x hx) (by decide)),fun i hi=>(h.ls i hi).zn ht (fun x hx=>far x _ ((h.ls i hi).ty2 x hx) (by decide)) (fun x hx=>far x _ ((h.ls i hi).u.type x hx) (by decide)) (fun x hx=>far x _ ((h.ls i hi).s.type x hx) (by decide)),h.nd⟩
 show VT 97 w' base S.aK (n'*8) (my K')
 rw [eK]
 obtain ⟨arr',k1,k2,k3⟩:=hr
 refine .inr ⟨gk,rfl,hb,arr',k1,by omega,fun q hq=>?_⟩
 have:=k3 (q / 8) (by omega) (q % 8) (by omega)
 rw [show 0+q / 8*8+q % 8=q by omega,←jQ K' (q / 8) (q % 8) (by omega),show q / 8*8+q % 8=q by omega] at this
 exact this
theorem ic.next {S:Swg} {l':Lng} {id:Int} {i g base:Nat} {w:World} (kb:w.heap[g]?=some (.cells S.cells 40 (0,0))) (ho:ic w base S) (hi:i<S.nL) (hl:lY S.nK S.K (S.L i)) (hm:mz (S.L i) l' id) (h0:id≠0) :
  ∃ gL,S.aL=some ⟨gL,0,none⟩∧base≤gL∧Calls Tryz.prog 118 #[.pointer (some ⟨gL,i*8,none⟩)] w fun e w'=>e=.returned (.tuple #[.int .i64 id,.bool true])∧∃ l2,gy l' l2∧gI w' base (S.lane i l2)∧w'.heap[g]?=some (.cells (S.lane i l2).cells 40 (0,0))∧mA base w w':=by
 obtain ⟨gL,cur,eL,hbL,kL,hsz,hc⟩:=ho.Cb hi
 have hf:i*8+8≤cur.size:=by omega
 have kL2:w.heap[gL]?=some (.cells (lay cur (i*8) (S.L i).cells) 102 (0,0)):=by
  rw [tw (cs:=(S.L i).cells) hf (fun j hj=>hc i hi j hj)]
  exact kL
 refine ⟨gL,eL,hbL,(oc (S.L i) l' id S.nK S.K gL (i*8) base cur w hf kL2 (ho.l.ls i hi) hl hm).mono ?_⟩
 rintro e w' ⟨⟨b,rfl,hb1,hb2⟩,ht⟩
 obtain ⟨l2,hA,hO,hto⟩:=ho.DG hi eL kL hsz hc hbL ht
 have hbf:b=true:=by
  cases b with
  | true=>rfl
  | false=>exact absurd (hb1 rfl) h0
 exact dS
theorem me:(Tryz.prog.info? 74).map (·.size)=some 5:=by kernel_rfl
theorem qX (S:Swg) (l':Lng) (id:Int) (i j g base:Nat) (w:World) (kb:w.heap[g]?=some (.cells S.cells 40 (0,0))) (ho:ic w base S) (hi:i<S.nL) (hl:lY S.nK S.K (S.L i)) (hk:iT S.nx S.C.p S.nK S.K) (hm:mz (S.L i) l' id) (h0:id≠0) (hj:j<S.nK) (hid:(S.K j).id=id) (hr:2≤(S.K j).refs∧(S.K j).refs≤1000000000) :
  Calls Tryz.prog 79 #[.pointer (some ⟨g,0,none⟩),.int .i64 (i:Int)] w fun e w'=>∃ gm,e=.returned (.slice (some ⟨gm,0,none⟩) 1 1)∧w.heap.size≤gm∧w'.heap[gm]?=some (.cells #[.iface 166 (.agg (S.K j).frame)] 125 (0,0))∧∃ l2,gy l' l2∧gI w' base { S.lane i l2 with K:=kq S.K j }∧w'.heap[g]?=some (.cells S.cells 40 (0,0))∧mA base w w':=by
 obtain ⟨gL,eL,hbL,hT⟩:=ho.next kb hi hl hm h0
 have HT:Hid (Calls Tryz.prog 118 #[.pointer (some ⟨gL,i*8,none⟩)] w fun e w'=>e=.returned (.tuple #[.int .i64 id,.bool true])∧∃ l2,gy l' l2∧gI w' base (S.lane i l2)∧w'.heap[g]?=some (.cells (S.lane i l2).cells 40 (0,0))∧mA base w w'):=hT
 have c14:w.cell? ⟨g,14,none⟩=some (.slice (some ⟨gL,0,none⟩) S.nL S.cL):=by rw [←eL];exact fG kb 14
 have hi1:(i:Int)<(S.nL:Int):=by omega
 have hi0:(0:Int)≤(i:Int):=by omega
 have HJ:Hid (j<S.nK∧(S.K j).id=id∧S.nK≤1048576∧∀ i,i<S.nK→0<i→(S.K (i-1)).id<(S.K i).id):=⟨hj,hid,by have:=hk.le;omega,hk.up⟩
 have hw1:IntKind.i64.wrap ((S.K j).refs-1)=(S.K j).refs-1:=mM _ (by omega) (by omega)
 have hne:¬ ((S.K j).refs-1=0):=by omega
 clear kb ho hl hk hm hT hj hid h0 hr eL
 go_enter Tryz.func79,Tryz.ntmps79
 go_wp2_with fail
 refine HT.out.mono ?_
 rintro e w1 ⟨rfl,l2,hA,hO,hg1,hto⟩
 have HF1:Hid (gy l' l2∧gI w1 base (S.lane i l2)∧w1.heap[g]?=some (.cells S.cells 40 (0,0))∧mA base w w1):=⟨hA,hO,hg1,hto⟩
 obtain ⟨gk,eK,hbk,hrow⟩:=hO.CG (j:=j) HJ.out.1
 have eK':S.aK=some ⟨gk,0,none⟩:=eK
 have c13:w1.cell? ⟨g,13,none⟩=some (.slice (some ⟨gk,0,none⟩) S.nK S.cK):=by rw [←eK'];exact fG HF1.out.2.2.1 13
 have HP1:Hid (iJ w1 gk 0 S.nK S.K∧base≤gk∧S.aK=some ⟨gk,0,none⟩):=⟨hrow,hbk,eK'⟩
 clear hA hO hg1 hto eK eK' hbk hrow c14
 go_wp2_with fail
 refine (ki gk 0 S.nK S.cK S.K id _ HJ.out.2.2.1 HP1.out.1.rd HJ.out.2.2.2 j HJ.out.1 HJ.out.2.1).mono ?_
 rintro e w2 ⟨rfl,hb⟩
 obtain ⟨arr,a1,a2,a3⟩:=HP1.out.1
 have b1:w2.heap[gk]?=some (.cells arr 97 (0,0)):=(hb.block gk (fH a1)).trans a1
 have HA:Hid (w2.heap[gk]?=some (.cells arr 97 (0,0))∧0+S.nK*8≤arr.size∧(∀ i,i<S.nK→∀ q,q<8→arr[0+i*8+q]?=(S.K i).cells[q]?)∧Below w1.heap.size w1 w2):=⟨b1,a2,a3,hb⟩
 have hjn:=HJ.out.1
 have c2:w2.cell? ⟨gk,0+j*8+2,none⟩=some (.int .i64 (S.K j).refs):=(fG b1 _).trans (a3 j hjn 2 (by omega))
 clear a1 a2 a3 hb c13 b1
 simp only [Nat.zero_add] at c2 ⊢
 go_wp2_with (refine fJ rfl 2 (.tmp 33) (.tmp 31) rfl gk (j*8+2) rfl (.int .i64 ((S.K j).refs-1)) rfl 1 rfl 97 arr HA.out.1 (by kernel_rfl) (by have:=HA.out.2.1;omega) (by simp [Value.cells,Value.oneCell']) ?_)
 intro W hP
 have hrowW:iJ W gk 0 S.nK (kq S.K j):=iJ.dec hjn HA.out.2.1 HA.out.2.2.1 (by simpa using hP)
 have HW:Hid (iJ W gk 0 S.nK (kq S.K j)∧Touch [gk] w2 W∧W.heap.size=w2.heap.size):=⟨hrowW,hP.to,hP.size⟩
 obtain ⟨ar2,d1,d2,d3⟩:=hrowW
 have hdj:kq S.K j j={ S.K j with refs:=(S.K j).refs-1 }:=by unfold kq;rw [if_pos rfl]
 have HL:Hid (∀ q,q<5→W.cell? ⟨gk,j*8+3+q,none⟩=(S.K j).frame[q]?):=fun q hq=>by
  have:=(fG d1 (j*8+3+q)).trans ((by rw [show j*8+3+q=0+j*8+(3+q) by omega];exact d3 j hjn (3+q) (by omega)):_=(kq S.K j j).cells[3+q]?)
  rw [this,hdj]
  have:q=0∨q=1∨q=2∨q=3∨q=4:=by omega
  rcases this with rfl | rfl | rfl | rfl | rfl <;> rfl
 obtain ⟨V,eV⟩:∃ V,W.alloc (.cells (S.K j).frame 166)=V:=⟨_,rfl⟩
 have HV:Hid (Below W.heap.size W V∧V.heap[W.heap.size]?=some (.cells (S.K j).frame 166 (0,0))∧V.heap.size=W.heap.size+1):=by rw [Hid,←eV];exact ⟨(Below.refl _ _).alloc (Nat.le_refl _) _,fL _ _,by simp⟩
 have c2V:V.cell? ⟨gk,j*8+2,none⟩=some (.int .i64 ((S.K j).refs-1)):=(fG ((HV.out.1.block gk (fH d1)).trans d1) _).trans (by have:=d3 j hjn 2 (by omega);rw [Nat.zero_add,hdj] at this;exact this)
 have HB:Hid (∀ q,q<5→V.cell? ⟨W.heap.size,0+q,none⟩=(S.K j).frame[q]?):=fun q _=>by rw [Nat.zero_add];exact fG HV.out.2.1 q
 clear hP d1 d2 d3 c2 hdj
 go_wp2_with (first | refine fP rfl 74 5 _ Tryz.underlying74 rfl me (.tmp 36) rfl gk (j*8+3) rfl #[.int .i64 (S.K j).k,.int .i64 (S.K j).d,.int .i64 (S.K j).s,.int .i64 (S.K j).p,.string (S.K j).b] rfl HL.out ?_ | refine gZ 166 5 (by kernel_rfl) rfl (.tmp 8) (.tmp 38) rfl (S.K j).frame _ rfl rfl rfl rfl rfl (by simp [Pkt.frame,Value.oneCell']) (eV▸?_) | refine fP rfl 166 5 _ Tryz.underlying166 rfl (by kernel_rfl) (.tmp 8) rfl W.heap.size 0 rfl (S.K j).frame rfl HB.out ?_)
 go_ret
 have hO2:=HF1.out.2.1.up HA.out.2.2.2
 have hO3:gI W base { S.lane i l2 with nK:=S.nK,K:=kq S.K j }:=hO2.DJ HA.out.1 HP1.out.2.2 HP1.out.2.1 HW.out.2.1 HW.out.1
 have kg2:=(HA.out.2.2.2.block g (fH HF1.out.2.2.1)).trans HF1.out.2.2.1
 have hgk:g∉[gk]:=fun h=>iz kg2 HA.out.1 (by decide) (by simpa using h)
 have kgW:=(HW.out.2.1.block g (fH kg2) hgk).trans kg2
 have kgV:=(HV.out.1.block g (fH kgW)).trans kgW
 have hgk2:=HP1.out.2.1
 have hlk:=fH HA.out.1
 have hlg:=fH HF1.out.2.2.1
 have h1:=HF1.out.2.2.2.bel.size
 have s1:mA base w1 w2:=.up HA.out.2.2.2 (by have:=HP1.out.1.lt;omega)
 have s2:mA base w2 W:=.to HW.out.2.1 (by omega) (fun x hx=>by
  obtain rfl:x=gk:=by simpa using hx
  exact ⟨hgk2,_,_,HA.out.1,by decide⟩)
 have s3:mA base W V:=.up HV.out.1 (by have:=HW.out.2.2;omega)
 refine ⟨V.heap.size,rfl,?_,fL _ _,l2,HF1.out.1,(hO3.up HV.out.1).up ((Below.refl _ _).alloc (Nat.le_refl _) _),(gg _ (fH kgV)).trans kgV,((HF1.out.2.2.2.trans s1).trans (s2.trans s3)).trans (.up ((Below.refl _ _).alloc (Nat.le_refl _) _) (by have:=HW.out.2.2;have:=HV.out.2.2;omega))⟩
 have h2:=HA.out.2.2.2.size
 have h3:=HW.out.2.2
 have h4:=HV.out.2.2
 omega
def yi (K:Nat→Pkt) (j k:Nat):Nat→Pkt:=fun i=>if i<k then rmK K j i else K i
theorem xy (K:Nat→Pkt) (j i:Nat):yi K j j i=K i:=by
 unfold yi rmK
 split
 ·
  rfl
 rfl
theorem yT {K:Nat→Pkt} {j k:Nat} (h:j≤k) (i:Nat):(if i=k then K (k+1) else yi K j k i)=yi K j (k+1) i:=by
 unfold yi
 by_cases e:i=k
 ·
  subst e
  rw [if_pos rfl,if_pos (by omega)]
  unfold rmK
  rw [if_neg (by omega)]
 by_cases c:i<k
 ·
  rw [if_neg e,if_pos c,if_pos (by omega)]
 rw [if_neg e,if_neg c,if_neg (by omega)]
theorem uw (gk o n c:Nat) (K:Nat→Pkt) (gp:Nat) (id:Int) (w:World) (hn:n≤1048576) (hnc:n≤c) (h:iJ w gk o n K) (hgp:gp<w.heap.size) (hgk:gp≠gk) (hp:w.cell? ⟨gp,0,none⟩=some (.int .i64 id)) (j:Nat) (hj:j<n) (hid:(K j).id=id) (hne:∀ i,i<n→i≠j→(K i).id≠id) :
  Calls Tryz.prog 143 #[.slice (some ⟨gk,o,none⟩) n c,.func (.func 144) #[] #[.pointer (some ⟨gp,0,none⟩)]] w fun e w'=>e=.returned (.slice (some ⟨gk,o,none⟩) (n-1) c)∧iJ w' gk o (n-1) (rmK K j)∧Touch [gk] w w':=by
 have HR:Hid (iJ w gk o n K):=h
 have HN:Hid (∀ i,i<n→i≠j→(K i).id≠id):=hne
 have HP:Hid (w.cell? ⟨gp,0,none⟩=some (.int .i64 id)):=hp
 have HG:Hid (gp<w.heap.size∧gp≠gk∧gk<w.heap.size):=⟨hgp,hgk,h.lt⟩
 have HI:Hid ((K j).id=id):=hid
 clear h hne hp hgp hgk hid
 go_enter Tryz.func143,Tryz.ntmps143
 have hj1:((j:Int) == -1)=false:=beq_eq_false_iff_ne.2 (by omega)
 go_wp2_with (go_at_call 155;refine (zF _ n c K gp id _ hn HR.out.rd HG.out.1 HP.out j hj HI.out HN.out).mono ?_;rintro e w1 ⟨rfl,hB0⟩)
 have HB0:Hid (Below w.heap.size w w1):=hB0
 clear hB0
 go_loopw [5,6] (fun x y wr=>∃ k:Nat,j≤k∧k<n∧x=.int .i64 k∧y=.int .i64 ((k+1:Nat):Int)∧iJ wr gk o n (yi K j k)∧Touch [gk] w wr) (fun x y _=>n-(intOf x).toNat)
 case atStart=>exact ⟨j,Nat.le_refl _,hj,rfl,by go_num,(HR.out.ext (fun i _=>(xy K j i).symm)).ir (HB0.out.block _ HG.out.2.2),Touch.gY HB0.out⟩
 obtain ⟨k,hk1,hk2,rfl,rfl,hrow,hT⟩:=hrel
 have HT:Hid (Touch [gk] w wr):=hT
 have HW:Hid (iJ wr gk o n (yi K j k)):=hrow
 have hgpw:wr.heap[gp]?=w.heap[gp]?:=hT.block _ HG.out.1 (by simpa using HG.out.2.1)
 have hszw:=hT.size
 clear hT
 by_cases hlt:k+1<n
 ·
  have hlt':((k+1:Nat):Int)<(n:Int):=by omega
  have hk':(k:Int)<(n:Int):=by omega
  obtain ⟨arr,a1,a2,a3⟩:=hrow
  have hm:yi K j k (k+1)=K (k+1):=by unfold yi;rw [if_neg (by omega)]
  have hc:∀ q,q<8→wr.cell? ⟨gk,o+(k+1)*8+q,none⟩=(K (k+1)).cells[q]?:=fun q hq=>by rw [←hm];exact (fG a1 _).trans (a3 (k+1) hlt q hq)
  obtain ⟨V,eV⟩:∃ V,wr.alloc (.cells (K (k+1)).cells 97)=V:=⟨_,rfl⟩
  have HV:Hid (Below wr.heap.size wr V∧V.heap[wr.heap.size]?=some (.cells (K (k+1)).cells 97 (0,0))∧V.heap.size=wr.heap.size+1):=by rw [Hid,←eV];exact ⟨(Below.refl _ _).alloc (Nat.le_refl _) _,fL _ _,by simp⟩
  have hbx:∀ q,q<8→V.cell? ⟨wr.heap.size,0+q,none⟩=(K (k+1)).cells[q]?:=fun q hq=>by rw [Nat.zero_add];exact fG HV.out.2.1 q
  have hq0:V.cell? ⟨gp,0,none⟩=some (.int .i64 id):=(World.cell?_of_block (w:=w) (a:=⟨gp,0,none⟩) ((HV.out.1.block gp (by have:=HG.out.1;omega)).trans hgpw)).trans HP.out
  have HA:Hid (wr.heap[gk]?=some (.cells arr 97 (0,0))∧o+n*8≤arr.size∧∀ i,i<n→∀ q,q<8→arr[o+i*8+q]?=(yi K j k i).cells[q]?):=⟨a1,a2,a3⟩
  clear a1 a2 a3
  go_wp2_with (first | refine iF rfl (.tmp 24) rfl gk (o+(k+1)*8) rfl (K (k+1)) hc ?_ | refine gZ 97 8 mI rfl (.tmp 7) (.tmp 25) rfl (K (k+1)).cells _ rfl rfl rfl rfl rfl (Pkt.one _) (eV▸?_) | refine iF rfl (.tmp 7) rfl wr.heap.size 0 rfl (K (k+1)) hbx ?_)
  refine (wR (K (k+1)) gp id _ hq0).mono ?_
  rintro e w2 ⟨rfl,hb⟩
  have hv:((K (k+1)).id == id)=false:=by simpa using HN.out (k+1) hlt (by omega)
  rw [hv]
  have hbl:Below wr.heap.size wr w2:=HV.out.1.trans (hb.mono (by have:=HV.out.2.2;omega))
  have hbx2:∀ q,q<8→w2.cell? ⟨wr.heap.size,0+q,none⟩=(K (k+1)).cells[q]?:=fun q hq=>by rw [Nat.zero_add];exact fG ((hb.block _ (by have:=HV.out.2.2;omega)).trans HV.out.2.1) q
  have hk2b:w2.heap[gk]?=some (.cells arr 97 (0,0)):=(hbl.block _ (fH HA.out.1)).trans HA.out.1
  have HL:Hid (Below wr.heap.size wr w2):=hbl
  clear hbx hq0 hc hb hbl eV
  go_wp2_with (first | refine iF rfl (.tmp 7) rfl wr.heap.size 0 rfl (K (k+1)) hbx2 ?_ | refine fJ rfl 97 (.tmp 33) (.tmp 32) rfl gk (o+k*8) rfl (.agg (K (k+1)).cells) rfl 8 rfl 97 arr hk2b mI (by have:=HA.out.2.1;omega) (Pkt.one _) ?_)
  intro W hW
  have HP2:Hid (Put w2 W gk (lay arr (o+k*8) (Value.agg (K (k+1)).cells).cells) 97):=hW
  clear hbx2 hk2b hW
  go_wp2_with fail
  go_roundw
  case rel =>
   obtain ⟨l1,l2⟩:=Bt HA.out.2.1 HA.out.2.2 hk2 (K (k+1))
   exact ⟨k+1,by omega,hlt,by go_num,by go_num,⟨_,HP2.out.blk,l1,fun i hi q hq=>by rw [←yT hk1 i];exact l2 i hi q hq⟩,(HT.out.trans (Touch.gY HL.out)).trans HP2.out.to⟩
  case measure=>simp [intOf];omega
 obtain rfl:n=k+1:=by omega
 have hlt':¬ ((k+1:Nat):Int)<((k+1:Nat):Int):=by omega
 obtain ⟨arr,a1,a2,a3⟩:=hrow
 have hcl:=vb wr gk (o+k*8) (c-k) 0 arr a1 (by omega)
 have hs1:∀ wx,_:=fun wx=>yG gk o (k+1) c k wx (by omega) hnc
 have hs2:∀ wx,_:=fun wx=>sW gk o (k+1) c k wx (by omega) hnc
 rw [show k+1-k=1 by omega] at hs1
 have HP3:Hid (Put wr (wr.setRow gk (lay arr (o+k*8) zPk.cells)) gk (lay arr (o+k*8) zPk.cells) 97):=nM a1 _
 obtain ⟨l1,l2⟩:=Bt a2 a3 hk2 zPk
 have HL:Hid (o+(k+1)*8≤(lay arr (o+k*8) zPk.cells).size∧∀ i,i<k+1→∀ q,q<8→(lay arr (o+k*8) zPk.cells)[o+i*8+q]?=(if i=k then zPk else yi K j k i).cells[q]?):=⟨l1,l2⟩
 clear a1 a2 a3 l1 l2
 go_wp2_with fail
 go_ret
 exact ⟨rfl,⟨_,HP3.out.blk,by have:=HL.out.1;omega,fun i hi q hq=>by
  have:=HL.out.2 i (by omega) q hq
  rw [if_neg (by omega)] at this
  rw [this]
  unfold yi
  rw [if_pos (by omega)]⟩,HT.out.trans HP3.out.to⟩
end Go.Proofs.YtfcfpkibceepgaaGreat
