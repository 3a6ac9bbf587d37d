import Derived.Test.YtjippgbmmlcgoaaGreatDoorB28
namespace Go.Proofs.YtjippgbmmlcgoaaGreatDoor
set_option maxRecDepth 100000
set_option maxHeartbeats 9000000
open Go.RowKit
set_option linter.unusedVariables false
set_option linter.unusedSimpArgs false
variable {a:Act} {ops:Array Oper} {Q:Exit→Act→World→Prop} {S:List Nat} {rest:List Oper} {b0 base cd cq cv g i j k n:Nat} {C b:Nat→Nat} {A:Nat→Option Addr} {o:Oper} {ad aq av:Option Addr} {p:Prop} {R:Rnd} {t:TypeId} {v:Value} {V W W' w w':World}
theorem Ht (h:p:=by
 have HC:Hid (Ge w l (.pointer (some ⟨gB,0,none⟩)) X):=⟨gB,p,rfl,hgB,by rw [←ep],by rw [←ep],by rw [←ep],by
  rw [←ep] at hP ⊢
  exact E8 oT oR hTR kB hP,⟨(hP.to.block _ (ig HX.a) (by simp;omega)).trans HX.a,(hP.to.block _ (ig HX.b) (by simp;omega)).trans HX.b,HX.bel.trans (hP.to.below HX.bel.size (fun x hx=>by simp at hx;omega))⟩⟩
 clear hP oT oR kB hTR HX hT0 ep
 go_wp2_with fail
 go_meet
 case rel=>exact HC.out):p:=h
theorem dG (h:p:=by
 induction j with
 | zero =>
      obtain rfl:i=0:=by omega
      exact Nat.le_refl _
 | succ j ih =>
  by_cases e:i=j+1
  ·
   subst e;exact Nat.le_refl _
  exact Nat.le_trans (ih (by omega) (by omega)) (h.bm j (by omega))):p:=h
theorem dH (h:p:=by
 go_simp
 try with_reducible rfl):p:=h
theorem dI (h:p:=by
 go_wp2_with fail
 go_roundw
 case rel=>exact ⟨k+1,_,by omega,by go_num,HN⟩
 case measure=>simp [intOf];omega):p:=h
theorem dJ (h:p:=by
 intro wx hSw
 obtain ⟨hS1,hS2,hS3⟩:=hSw
 exact dH):p:=h
theorem Aq:Alike R (R.cp2 aq cq ad cd av cv A C):=⟨rfl,rfl,rfl,rfl,rfl,rfl,rfl,rfl,rfl⟩
theorem Cx {a:Option Addr} {c:Nat} {f:Nat→Int} (hn:n≤1048576) (hr:iP V a n fun i=>.int .i64 (f i)) :
  ∃ a' c' W',(Builtin.append_ #[27,27] 27 #[.slice (some ⟨V.heap.size,0,none⟩) 0 0,.slice a n c]).run Tryz.prog (V.alloc (.cells #[] 2))=.ok (.slice a' n c') W'∧OI W' V.heap.size a' n c' f∧Below V.heap.size V W':=by
 have hA:Below V.heap.size V (V.alloc (.cells #[] 2)):=(Below.refl _ _).alloc (Nat.le_refl _) _
 have hm:(V.alloc (.cells #[] 2)).ownsRow V.heap.size 2 1 (.slice (some ⟨V.heap.size,0,none⟩) 0 0) 0 []:=World.ownsRow_made V #[] 0 (Nat.le_refl _) (Nat.zero_le _) rfl
 obtain ⟨a',c',W',h1,h2,h3,_⟩:=oJ (c:=c) hm (by simp) hn (hr.up hA)
 exact ⟨a',c',W',h1,h2,hA.grown h3 (by simp) (fun k e=>by simp [Value.ownBlock] at e;omega)⟩
theorem E8 {X:World} {gB:Nat} {l:Lng} {aT:Option Addr} {cT:Nat} {cur:Array Value} (oT:OI V base aT l.nT cT l.t) (oR:jD V base (l.R.cp2 aq cq ad cd av cv A C)) (hTR:∀ x∈iI aT,x∉(l.R.cp2 aq cq ad cd av cv A C).jN)
  (kB:V.heap[gB]?=some (.cells cur 47 (0,0))) (hP:Put V X gB (Lng.cells ⟨l.st,aT,l.nT,cT,l.t,none,0,0,fun _=>none,l.uL,fun _=>0,l.uz,l.R.cp2 aq cq ad cd av cv A C⟩) 47):CpL base gB l ⟨l.st,aT,l.nT,cT,l.t,none,0,0,fun _=>none,l.uL,fun _=>0,l.uz,l.R.cp2 aq cq ad cd av cv A C⟩ X:=by
 have h1:iK V base ⟨l.st,aT,l.nT,cT,l.t,none,0,0,fun _=>none,l.uL,fun _=>0,l.uz,l.R.cp2 aq cq ad cd av cv A C⟩:=by
  refine ⟨oT,OG.nil _ _ _ _,fun i hi=>absurd hi (Nat.not_lt_zero _),oR,?_,fun x hx hy=>by simp [iI] at hy⟩
  show ((iI aT++_)++[]).Nodup
  rw [List.append_nil]
  exact List.nodup_append.2 ⟨lB _,oR.nd,fun x hx y hy e=>hTR x hx (e▸hy)⟩
 exact ⟨h1.box kB (by decide) (by decide) hP.to,hP.blk,rfl,rfl,rfl,rfl,rfl,Aq⟩
theorem tm (l:Lng) (w:World) (hs:l.Small) (h:zo w l) :
  Calls Tryz.prog 97 #[.agg l.cells] w fun e w'=>∃ l2,e=.returned (.agg l2.cells)∧iO l l2∧iK w' w.heap.size l2∧Below w.heap.size w w':=by
 have HR:=aa h
 have HS:=aa hs
 obtain ⟨W,eW⟩:∃ W,(w.alloc (.cells l.cells 47)).alloc (.cells af 47)=W:=⟨_,rfl⟩
 have HX:Hid (Two w l.cells pK 47 W):=by rw [←eW];exact Two.start _ _ _ _
 clear h hs
 go_enter Tryz.func97,Tryz.ntmps97
 go_wp2_with fail
 clear eW
 go_cut [3] (fun v wc=>Ge w l v wc)
 case first =>
  replace HX:Hid (Two w l.cells pK 47 W.drew):=HX.up ((Below.refl _ _).drew)
  have hz0:w.heap.size+1<W.drew.heap.size:=ig HX.b
  refine jc (fun w'=>w'.heap[w.heap.size]?=some (.cells l.cells 47 (0,0))) 11 (by kernel_rfl) ?_
  generalize W.drew=V at *
  have hT0:=HX.a
  refine tE 0 5 hT0 ?_
  refine kE (i:=1) (some 6) (v:=?_) ?_ hT0 ?_
  rotate_left
  ·
   intro wx hSw
   have c0:wx.cell? ⟨w.heap.size,0,none⟩=some (.bool l.st):=ie hSw 0
   exact dH
  try simp only [Act.put,PZ]
  refine tE 3 8 hT0 ?_
  refine kE (i:=4) (some 9) (v:=?_) ?_ hT0 ?_
  rotate_left
  ·
   intro wx hSw
   have c1:wx.cell? ⟨w.heap.size,1,none⟩=some (.slice l.aT l.nT l.cT):=ie hSw 1
   exact dH
  try simp only [Act.put,PZ]
  refine tE 6 11 hT0 ?_
  refine kE (i:=7) (some 12) (v:=.agg l.R.cells) ?_ hT0 ?_
  ·
   intro wx hSw
   exact jg 45 5 _ Tryz.underlying45 rfl BF (.tmp 11) rfl w.heap.size 3 rfl l.R.cells rfl (fun j hj=>rdR hSw j hj)
  try simp only [Act.put,PZ]
  refine il (rs:=[2,10]) (by kernel_rfl) (by simp) ?_
  refine ij.cons rfl (fun K hK=>?_) (ij.cons rfl (fun K hK=>?_) ij.nil)
  ·
   obtain ⟨X1,eV⟩:∃ X,V.alloc (.cells #[] 2)=X:=⟨_,rfl⟩
   have hb:Below V.heap.size V X1:=by rw [←eV];exact (Below.refl _ _).alloc (Nat.le_refl _) _
   have oE:OG 2 1 X1 w.heap.size (some ⟨V.heap.size,0,none⟩) 0 0 []:=by rw [←eV];exact World.ownsRow_made V #[] 0 HX.bel.size (Nat.zero_le _) rfl
   go_simp
   clear eV
   replace HX:=aa (HX.up hb)
   replace hT0:=HX.a
   clear hb
   obtain ⟨gE,eE⟩:∃ g,V.heap.size=g:=⟨_,rfl⟩
   rw [eE] at oE ⊢
   refine hK _ _ hT0 ?_
   clear hK K
   try simp only [Act.put,PZ]
   refine il (rs:=[5,10]) (by kernel_rfl) (by simp) ?_
   refine ij.cons rfl (fun K hK=>?_) (ij.cons rfl (fun K hK=>?_) ij.nil)
   ·
    obtain ⟨aT,cT,X2,hr,oT,hgr,_⟩:=oJ (c:=l.cT) oE HX.bel.size HS.t (HR.t.up HX.bel)
    have hgt:Touch [gE] X1 X2:=Touch.sj (v:=.slice (some ⟨gE,0,none⟩) 0 0) hgr
    have lE:=(OG.blk oE gE (by simp [iI])).1
    have hne:=OG.lM oE (by decide) HX.a
    have hne2:=OG.lM oE (by decide) HX.b
    refine kg (by kernel_rfl) (some 10) rfl (.tmp 7) (.tmp 9) 27 _ _ _ rfl rfl rfl rfl hr ?_
    replace HX:Hid (Two w l.cells pK 47 X2):=⟨(hgt.block _ (ig HX.a) (by simpa [iI] using hne)).trans HX.a,(hgt.block _ (ig HX.b) (by simpa [iI] using hne2)).trans HX.b,HX.bel.trans (hgt.below HX.bel.size (fun x hx=>by simp at hx;omega))⟩
    replace hT0:=HX.a
    clear hr hgr hgt hne hne2 lE oE
    refine hK _ _ hT0 ?_
    clear hK K
    try simp only [Act.put,PZ]
    refine il (rs:=[8,10]) (by kernel_rfl) (by simp) ?_
    refine ij.cons rfl (fun K hK=>?_) (ij.cons rfl (fun K hK=>?_) ij.nil)
    ·
     go_simp
     refine (lz l.R _ HS.r (HR.r.up HX.bel)).mono ?_
     rintro e X3 ⟨aq,cq,ad,cd,av,cv,A,C,rfl,oR,hb⟩
     have hTR:∀ x∈iI aT,x∉(l.R.cp2 aq cq ad cd av cv A C).jN:=fun x hx hy=>by have:=(OI.blk oT x hx).2;have:=(oR.blk x hy).1;omega
     replace oR:=oR.uY (base':=w.heap.size) HX.bel.size
     replace HX:=aa (HX.up hb)
     replace hT0:=HX.a
     replace oT:=oT.up hb
     clear hb
     dsimp only [Rnd.cells,Rnd.cp2]
     go_wp2_with fail
     refine hK _ _ hT0 ?_
     clear hK K
     try simp only [Act.put,PZ]
     refine tE 9 14 hT0 ?_
     refine il (rs:=[10]) (by kernel_rfl) (by simp) ?_
     refine ij.cons rfl (fun K hK=>?_) ij.nil
     obtain ⟨X4,eV⟩:∃ X,X3.alloc (.cells af 47)=X:=⟨_,rfl⟩
     have hb:Below X3.heap.size X3 X4:=by rw [←eV];exact (Below.refl _ _).alloc (Nat.le_refl _) _
     have kB:X4.heap[X3.heap.size]?=some (.cells af 47 (0,0)):=by rw [←eV];exact im _ _
     have hgB:w.heap.size+1<X3.heap.size:=ig HX.b
     go_simp
     clear eV
     replace HX:=aa (HX.up hb)
     replace hT0:=HX.a
     replace oT:=oT.up hb
     replace oR:=oR.upZ hb
     clear hb
     obtain ⟨gB,eB⟩:∃ g,X3.heap.size=g:=⟨_,rfl⟩
     rw [eB] at kB hgB ⊢
     refine hK _ _ hT0 ?_
     clear hK K
     try simp only [Act.put,PZ]
     refine il (rs:=[11]) (by kernel_rfl) (by simp) ?_
     refine ij.last rfl (fun K hK=>?_)
     refine jn (by kernel_rfl) none rfl 47 (.tmp 3) (.tmp 14) rfl gB 0 rfl (.agg #[.bool l.st,.slice aT l.nT cT,.slice none 0 0,.slice aq l.R.nQ cq,.slice ad l.R.nD cd,.int .i64 l.R.turn,.bool l.R.fresh,.slice av l.R.nS cv]) rfl 8 rfl 47 _ kB jT (Nat.le_of_ble_eq_true rfl) (by simp [Value.cells,Value.oneCell']) ?_
     intro X hP
     refine ah (hK _ _) ?_
     clear hK K
     refine iQ (by kernel_rfl) ?_ _
     obtain ⟨p,ep⟩:∃ p,(⟨l.st,aT,l.nT,cT,l.t,none,0,0,fun _=>none,l.uL,fun _=>0,l.uz,l.R.cp2 aq cq ad cd av cv A C⟩:Lng)=p:=⟨_,rfl⟩
     replace hP:Put X4 X gB p.cells 47:=hP.cast (by rw [←ep];rfl)
     exact Ht
    obtain ⟨X5,eV⟩:∃ X,X2.alloc (.cells af 47)=X:=⟨_,rfl⟩
    have hb:Below X2.heap.size X2 X5:=by rw [←eV];exact (Below.refl _ _).alloc (Nat.le_refl _) _
    have kB:X5.heap[X2.heap.size]?=some (.cells af 47 (0,0)):=by rw [←eV];exact im _ _
    have hgB:w.heap.size+1<X2.heap.size:=ig HX.b
    go_simp
    clear eV
    replace HX:=aa (HX.up hb)
    replace hT0:=HX.a
    replace oT:=oT.up hb
    clear hb
    obtain ⟨gB,eB⟩:∃ g,X2.heap.size=g:=⟨_,rfl⟩
    rw [eB] at kB hgB ⊢
    refine hK _ _ hT0 ?_
    clear hK K
    try simp only [Act.put,PZ]
    refine il (rs:=[8]) (by kernel_rfl) (by simp) ?_
    refine ij.cons rfl (fun K hK=>?_) ij.nil
    go_simp
    refine (lz l.R _ HS.r (HR.r.up HX.bel)).mono ?_
    rintro e X6 ⟨aq,cq,ad,cd,av,cv,A,C,rfl,oR,hb⟩
    have hTR:∀ x∈iI aT,x∉(l.R.cp2 aq cq ad cd av cv A C).jN:=fun x hx hy=>by have:=(OI.blk oT x hx).2;have:=(oR.blk x hy).1;omega
    replace oR:=oR.uY (base':=w.heap.size) HX.bel.size
    replace HX:=aa (HX.up hb)
    replace hT0:=HX.a
    replace oT:=oT.up hb
    replace kB:=(hb.block _ (ig kB)).trans kB
    clear hb
    dsimp only [Rnd.cells,Rnd.cp2]
    go_wp2_with fail
    refine hK _ _ hT0 ?_
    clear hK K
    try simp only [Act.put,PZ]
    refine tE 9 14 hT0 ?_
    refine il (rs:=[11]) (by kernel_rfl) (by simp) ?_
    refine ij.last rfl (fun K hK=>?_)
    refine jn (by kernel_rfl) none rfl 47 (.tmp 3) (.tmp 14) rfl gB 0 rfl (.agg #[.bool l.st,.slice aT l.nT cT,.slice none 0 0,.slice aq l.R.nQ cq,.slice ad l.R.nD cd,.int .i64 l.R.turn,.bool l.R.fresh,.slice av l.R.nS cv]) rfl 8 rfl 47 _ kB jT (Nat.le_of_ble_eq_true rfl) (by simp [Value.cells,Value.oneCell']) ?_
    intro X hP
    refine ah (hK _ _) ?_
    clear hK K
    refine iQ (by kernel_rfl) ?_ _
    obtain ⟨p,ep⟩:∃ p,(⟨l.st,aT,l.nT,cT,l.t,none,0,0,fun _=>none,l.uL,fun _=>0,l.uz,l.R.cp2 aq cq ad cd av cv A C⟩:Lng)=p:=⟨_,rfl⟩
    replace hP:Put X6 X gB p.cells 47:=hP.cast (by rw [←ep];rfl)
    exact Ht
   obtain ⟨X7,eV⟩:∃ X,X1.alloc (.cells af 47)=X:=⟨_,rfl⟩
   have hb:Below X1.heap.size X1 X7:=by rw [←eV];exact (Below.refl _ _).alloc (Nat.le_refl _) _
   have kB:X7.heap[X1.heap.size]?=some (.cells af 47 (0,0)):=by rw [←eV];exact im _ _
   have hgB:w.heap.size+1<X1.heap.size:=ig HX.b
   go_simp
   clear eV
   replace HX:=aa (HX.up hb)
   replace hT0:=HX.a
   replace oE:=OG.up oE hb
   clear hb
   obtain ⟨gB,eB⟩:∃ g,X1.heap.size=g:=⟨_,rfl⟩
   rw [eB] at kB hgB ⊢
   refine hK _ _ hT0 ?_
   clear hK K
   try simp only [Act.put,PZ]
   refine il (rs:=[5]) (by kernel_rfl) (by simp) ?_
   refine ij.cons rfl (fun K hK=>?_) ij.nil
   obtain ⟨aT,cT,X8,hr,oT,hgr,_⟩:=oJ (c:=l.cT) oE HX.bel.size HS.t (HR.t.up HX.bel)
   have hgt:Touch [gE] X7 X8:=Touch.sj (v:=.slice (some ⟨gE,0,none⟩) 0 0) hgr
   have lE:=(OG.blk oE gE (by simp [iI])).1
   have hne:=OG.lM oE (by decide) HX.a
   have hne2:=OG.lM oE (by decide) HX.b
   have hne3:=OG.lM oE (by decide) kB
   replace kB:=(hgt.block _ (ig kB) (by simpa [iI] using hne3)).trans kB
   clear hne3
   refine kg (by kernel_rfl) (some 10) rfl (.tmp 7) (.tmp 9) 27 _ _ _ rfl rfl rfl rfl hr ?_
   replace HX:Hid (Two w l.cells pK 47 X8):=⟨(hgt.block _ (ig HX.a) (by simpa [iI] using hne)).trans HX.a,(hgt.block _ (ig HX.b) (by simpa [iI] using hne2)).trans HX.b,HX.bel.trans (hgt.below HX.bel.size (fun x hx=>by simp at hx;omega))⟩
   replace hT0:=HX.a
   clear hr hgr hgt hne hne2 lE oE
   refine hK _ _ hT0 ?_
   clear hK K
   try simp only [Act.put,PZ]
   refine il (rs:=[8]) (by kernel_rfl) (by simp) ?_
   refine ij.cons rfl (fun K hK=>?_) ij.nil
   go_simp
   refine (lz l.R _ HS.r (HR.r.up HX.bel)).mono ?_
   rintro e X9 ⟨aq,cq,ad,cd,av,cv,A,C,rfl,oR,hb⟩
   have hTR:∀ x∈iI aT,x∉(l.R.cp2 aq cq ad cd av cv A C).jN:=fun x hx hy=>by have:=(OI.blk oT x hx).2;have:=(oR.blk x hy).1;omega
   replace oR:=oR.uY (base':=w.heap.size) HX.bel.size
   replace HX:=aa (HX.up hb)
   replace hT0:=HX.a
   replace oT:=oT.up hb
   replace kB:=(hb.block _ (ig kB)).trans kB
   clear hb
   dsimp only [Rnd.cells,Rnd.cp2]
   go_wp2_with fail
   refine hK _ _ hT0 ?_
   clear hK K
   try simp only [Act.put,PZ]
   refine tE 9 14 hT0 ?_
   refine il (rs:=[11]) (by kernel_rfl) (by simp) ?_
   refine ij.last rfl (fun K hK=>?_)
   refine jn (by kernel_rfl) none rfl 47 (.tmp 3) (.tmp 14) rfl gB 0 rfl (.agg #[.bool l.st,.slice aT l.nT cT,.slice none 0 0,.slice aq l.R.nQ cq,.slice ad l.R.nD cd,.int .i64 l.R.turn,.bool l.R.fresh,.slice av l.R.nS cv]) rfl 8 rfl 47 _ kB jT (Nat.le_of_ble_eq_true rfl) (by simp [Value.cells,Value.oneCell']) ?_
   intro X hP
   refine ah (hK _ _) ?_
   clear hK K
   refine iQ (by kernel_rfl) ?_ _
   obtain ⟨p,ep⟩:∃ p,(⟨l.st,aT,l.nT,cT,l.t,none,0,0,fun _=>none,l.uL,fun _=>0,l.uz,l.R.cp2 aq cq ad cd av cv A C⟩:Lng)=p:=⟨_,rfl⟩
   replace hP:Put X9 X gB p.cells 47:=hP.cast (by rw [←ep];rfl)
   exact Ht
  obtain ⟨X10,eV⟩:∃ X,V.alloc (.cells af 47)=X:=⟨_,rfl⟩
  have hb:Below V.heap.size V X10:=by rw [←eV];exact (Below.refl _ _).alloc (Nat.le_refl _) _
  have kB:X10.heap[V.heap.size]?=some (.cells af 47 (0,0)):=by rw [←eV];exact im _ _
  have hgB:w.heap.size+1<V.heap.size:=ig HX.b
  go_simp
  clear eV
  replace HX:=aa (HX.up hb)
  replace hT0:=HX.a
  clear hb
  obtain ⟨gB,eB⟩:∃ g,V.heap.size=g:=⟨_,rfl⟩
  rw [eB] at kB hgB ⊢
  refine hK _ _ hT0 ?_
  clear hK K
  try simp only [Act.put,PZ]
  refine il (rs:=[2]) (by kernel_rfl) (by simp) ?_
  refine ij.cons rfl (fun K hK=>?_) ij.nil
  obtain ⟨X11,eV⟩:∃ X,X10.alloc (.cells #[] 2)=X:=⟨_,rfl⟩
  have hb:Below X10.heap.size X10 X11:=by rw [←eV];exact (Below.refl _ _).alloc (Nat.le_refl _) _
  have oE:OG 2 1 X11 w.heap.size (some ⟨X10.heap.size,0,none⟩) 0 0 []:=by rw [←eV];exact World.ownsRow_made X10 #[] 0 HX.bel.size (Nat.zero_le _) rfl
  go_simp
  clear eV
  replace HX:=aa (HX.up hb)
  replace hT0:=HX.a
  replace kB:=(hb.block _ (ig kB)).trans kB
  clear hb
  obtain ⟨gE,eE⟩:∃ g,X10.heap.size=g:=⟨_,rfl⟩
  rw [eE] at oE ⊢
  refine hK _ _ hT0 ?_
  clear hK K
  try simp only [Act.put,PZ]
  refine il (rs:=[5]) (by kernel_rfl) (by simp) ?_
  refine ij.cons rfl (fun K hK=>?_) ij.nil
  obtain ⟨aT,cT,X12,hr,oT,hgr,_⟩:=oJ (c:=l.cT) oE HX.bel.size HS.t (HR.t.up HX.bel)
  have hgt:Touch [gE] X11 X12:=Touch.sj (v:=.slice (some ⟨gE,0,none⟩) 0 0) hgr
  have lE:=(OG.blk oE gE (by simp [iI])).1
  have hne:=OG.lM oE (by decide) HX.a
  have hne2:=OG.lM oE (by decide) HX.b
  have hne3:=OG.lM oE (by decide) kB
  replace kB:=(hgt.block _ (ig kB) (by simpa [iI] using hne3)).trans kB
  clear hne3
  refine kg (by kernel_rfl) (some 10) rfl (.tmp 7) (.tmp 9) 27 _ _ _ rfl rfl rfl rfl hr ?_
  replace HX:Hid (Two w l.cells pK 47 X12):=⟨(hgt.block _ (ig HX.a) (by simpa [iI] using hne)).trans HX.a,(hgt.block _ (ig HX.b) (by simpa [iI] using hne2)).trans HX.b,HX.bel.trans (hgt.below HX.bel.size (fun x hx=>by simp at hx;omega))⟩
  replace hT0:=HX.a
  clear hr hgr hgt hne hne2 lE oE
  refine hK _ _ hT0 ?_
  clear hK K
  try simp only [Act.put,PZ]
  refine il (rs:=[8]) (by kernel_rfl) (by simp) ?_
  refine ij.cons rfl (fun K hK=>?_) ij.nil
  go_simp
  refine (lz l.R _ HS.r (HR.r.up HX.bel)).mono ?_
  rintro e X13 ⟨aq,cq,ad,cd,av,cv,A,C,rfl,oR,hb⟩
  have hTR:∀ x∈iI aT,x∉(l.R.cp2 aq cq ad cd av cv A C).jN:=fun x hx hy=>by have:=(OI.blk oT x hx).2;have:=(oR.blk x hy).1;omega
  replace oR:=oR.uY (base':=w.heap.size) HX.bel.size
  replace HX:=aa (HX.up hb)
  replace hT0:=HX.a
  replace oT:=oT.up hb
  replace kB:=(hb.block _ (ig kB)).trans kB
  clear hb
  dsimp only [Rnd.cells,Rnd.cp2]
  go_wp2_with fail
  refine hK _ _ hT0 ?_
  clear hK K
  try simp only [Act.put,PZ]
  refine tE 9 14 hT0 ?_
  refine il (rs:=[11]) (by kernel_rfl) (by simp) ?_
  refine ij.last rfl (fun K hK=>?_)
  refine jn (by kernel_rfl) none rfl 47 (.tmp 3) (.tmp 14) rfl gB 0 rfl (.agg #[.bool l.st,.slice aT l.nT cT,.slice none 0 0,.slice aq l.R.nQ cq,.slice ad l.R.nD cd,.int .i64 l.R.turn,.bool l.R.fresh,.slice av l.R.nS cv]) rfl 8 rfl 47 _ kB jT (Nat.le_of_ble_eq_true rfl) (by simp [Value.cells,Value.oneCell']) ?_
  intro X hP
  refine ah (hK _ _) ?_
  clear hK K
  refine iQ (by kernel_rfl) ?_ _
  obtain ⟨p,ep⟩:∃ p,(⟨l.st,aT,l.nT,cT,l.t,none,0,0,fun _=>none,l.uL,fun _=>0,l.uz,l.R.cp2 aq cq ad cd av cv A C⟩:Lng)=p:=⟨_,rfl⟩
  replace hP:Put X13 X gB p.cells 47:=hP.cast (by rw [←ep];rfl)
  exact Ht
 obtain ⟨gB,p,rfl,hgB,hnU,haU,hcU,hC,hX⟩:=hcut
 have HC:=aa hC
 replace HX:=aa hX
 have HP0:=aa hnU
 have HgB:=aa hgB
 clear hC hX hnU haU hcU hgB
 have HU:=aa HR.u
 obtain ⟨aU,eU⟩:∃ a,l.aU=a:=⟨_,rfl⟩
 have HAU:=aa eU
 rw [eU] at HU
 clear eU
 have hnu:=HS.u
 go_wp2_with fail
 go_loopw [4] (fun i wr=>∃ (k:Nat) (q:Lng),k≤l.nU∧i=.int .i64 k∧Hid (q.nU=k∧CpL w.heap.size gB l q wr∧Two w l.cells pK 47 wr)) (fun i _=>l.nU-(intOf i).toNat)
 case atStart=>exact ⟨0,p,Nat.zero_le _,rfl,⟨HP0.out,HC.out,HX.out⟩⟩
 clear HC HX
 obtain ⟨k,q,hk,rfl,HQ⟩:=hrel
 have c2:wr.cell? ⟨w.heap.size,2,none⟩=some (.slice aU l.nU l.cU):=by rw [←HAU.out];exact ie HQ.2.2.a 2
 by_cases hlt:k<l.nU
 ·
  have hlt':(k:Int)<l.nU:=by omega
  obtain ⟨g0,o0,ea,hc0⟩:=(HU.up HQ.2.2.bel) k hlt
  subst ea
  dsimp only at hc0
  go_wp2_with fail
  refine jc (fun w'=>w'.heap[gB]?=some (.cells q.cells 47 (0,0))∧w'.cell? ⟨w.heap.size,2,none⟩=some (.slice (some ⟨g0,o0,none⟩) l.nU l.cU)∧w'.cell? ⟨g0,o0+k,none⟩=some (.slice (l.uA k) (l.uL k) (l.uC k))) 12 (by kernel_rfl) ?_
  have hd:Below wr.heap.size wr wr.drew:=(Below.refl _ _).drew
  replace HQ:Hid (q.nU=k∧CpL w.heap.size gB l q wr.drew∧Two w l.cells pK 47 wr.drew):=⟨HQ.1,HQ.2.1.up hd,HQ.2.2.up hd⟩
  replace c2:wr.drew.cell? ⟨w.heap.size,2,none⟩=some (.slice (some ⟨g0,o0,none⟩) l.nU l.cU):=c2
  replace hc0:wr.drew.cell? ⟨g0,o0+k,none⟩=some (.slice (l.uA k) (l.uL k) (l.uC k)):=hc0
  clear hd
  generalize wr.drew=V at *
  have hg0:g0<w.heap.size:=by obtain ⟨g9,o9,e9,h9⟩:=HU k hlt;cases e9;exact kQ h9
  have HTT:Hid (∀ X:World,X.heap[gB]?=some (.cells q.cells 47 (0,0))→Below w.heap.size w X→X.heap[w.heap.size]?=some (.cells l.cells 47 (0,0))→(fun w'=>w'.heap[gB]?=some (.cells q.cells 47 (0,0))∧w'.cell? ⟨w.heap.size,2,none⟩=some (.slice (some ⟨g0,o0,none⟩) l.nU l.cU)∧w'.cell? ⟨g0,o0+k,none⟩=some (.slice (l.uA k) (l.uL k) (l.uC k))) X):=fun X e1 e2 e3=>⟨e1,(ie e3 2).trans ((ie HQ.2.2.a 2).symm.trans c2),by
   obtain ⟨g9,o9,e9,h9⟩:=(HU.up e2) k hlt
   cases e9
   exact h9⟩
  have hT0:=HTT V HQ.2.1.box HQ.2.2.bel HQ.2.2.a
  clear c2 hc0
  refine tE 0 22 hT0 ?_
  refine kE (i:=1) (some 23) (v:=?_) ?_ hT0 ?_
  rotate_left
  ·
   intro wx hSw
   obtain ⟨hS1,hS2,hS3⟩:=hSw
   have c2:wx.cell? ⟨gB,2,none⟩=some (.slice q.aU k q.cU):=by rw [ie hS1 2,←HQ.1];rfl
   exact dH
  try simp only [Act.put,PZ]
  refine tE 3 25 hT0 ?_
  refine kE (i:=4) (some 26) (v:=?_) ?_ hT0 ?_
  rotate_left
  · exact dJ
  try simp only [Act.put,PZ]
  refine tE 5 27 hT0 ?_
  refine kE (i:=6) (some 28) (v:=?_) ?_ hT0 ?_
  rotate_left
  · exact dJ
  try simp only [Act.put,PZ]
  refine kE (i:=7) (some 29) (v:=?_) ?_ hT0 ?_
  rotate_left
  · exact dJ
  try simp only [Act.put,PZ]
  obtain ⟨a1,c1,X1,hr1,oA,hb⟩:=Cx (c:=l.uC k) (HS.z k hlt) ((HR.z k hlt).up HQ.2.2.bel)
  have HA1:Hid (OI X1 V.heap.size a1 (l.uL k) c1 (l.uz k)∧Below V.heap.size V X1):=⟨oA,hb⟩
  have HR1:=aa hr1
  have hA:Below V.heap.size V (V.alloc (.cells #[] 2)):=(Below.refl _ _).alloc (Nat.le_refl _) _
  have hTa:=HTT _ (HQ.2.1.up hA).box (HQ.2.2.up hA).bel (HQ.2.2.up hA).a
  have Q1:=HQ.2.1.up hb
  have hu0:OG 27 1 X1 w.heap.size q.aU k q.cU (rB k q.uA q.uL q.uC):=by have:=Q1.own.u;rw [HQ.1] at this;exact this
  obtain ⟨g1,c3,X3,hr,hu,ht,hg⟩:=lH 43 27 (.slice none 0 0) 1 24 wW Tryz.underlying43 rfl (by decide) (by decide) hu0 (by omega) (Nat.le_trans HQ.2.2.bel.size hb.size) #[.slice a1 (l.uL k) c1] rfl (by simp [Value.oneCell'])
  have hX1:=HQ.2.2.up hb
  have hT1:=HTT X1 Q1.box hX1.bel hX1.a
  have hB2:Below X1.heap.size X1 (X1.alloc (.cells #[.slice a1 (l.uL k) c1] 27)):=(Below.refl _ _).alloc (Nat.le_refl _) _
  have hT2:=HTT _ (Q1.up hB2).box (hX1.up hB2).bel (hX1.up hB2).a
  have hX3:=hX1.far ht (fun hg=>hu0.lM (by decide) hg) (fun x hx=>(hu0.blk x hx).1)
  have hb3:X3.heap[gB]?=some (.cells q.cells 47 (0,0)):=(ht.block gB (ig Q1.box) (hu0.lM (by decide) Q1.box)).trans Q1.box
  have hT3:=HTT X3 hb3 hX3.bel hX3.a
  have HX3:=aa hX3
  have HN3:Hid (OG 27 1 X3 w.heap.size (some ⟨g1,0,none⟩) (k+1) c3 (rB k q.uA q.uL q.uC++[.slice a1 (l.uL k) c1])∧Touch (iI q.aU) X1 X3∧(g1∈iI q.aU∨X1.heap.size≤g1)):=⟨hu,ht,hg⟩
  have HR3:=aa hr
  clear oA hb Q1 hu0 hr hr1 hu ht hg hT0 hA hX1 hB2 hX3
  refine il (rs:=[2]) (by kernel_rfl) (by simp) ?_
  refine ij.cons rfl (fun K hK=>?_) ij.nil
  go_simp
  refine hK _ _ hTa ?_
  clear hK K
  try simp only [Act.put,PZ]
  refine il (rs:=[8]) (by kernel_rfl) (by simp) ?_
  refine ij.cons rfl (fun K hK=>?_) ij.nil
  refine kg (by kernel_rfl) (some 30) rfl (.tmp 24) (.tmp 29) 27 _ _ _ rfl rfl rfl rfl HR1.out ?_
  refine hK _ _ hT1 ?_
  clear hK K
  try simp only [Act.put,PZ]
  refine il (rs:=[9]) (by kernel_rfl) (by simp) ?_
  refine ij.cons rfl (fun K hK=>?_) ij.nil
  go_simp
  refine hK _ _ hT2 ?_
  clear hK K
  try simp only [Act.put,PZ]
  refine il (rs:=[10]) (by kernel_rfl) (by simp) ?_
  refine ij.cons rfl (fun K hK=>?_) ij.nil
  refine kg (by kernel_rfl) (some 32) rfl (.tmp 23) (.tmp 31) 43 _ _ _ rfl rfl rfl rfl HR3.out ?_
  refine hK _ _ hT3 ?_
  clear hK K hT2 HR3 hTa HR1 hT1
  try simp only [Act.put,PZ]
  have hT0:=hT3
  refine tE 11 33 hT0 ?_
  refine il (rs:=[12]) (by kernel_rfl) (by simp) ?_
  refine ij.last rfl (fun K hK=>?_)
  refine jn (by kernel_rfl) none rfl 43 (.tmp 33) (.tmp 32) rfl gB 2 rfl (.slice (some ⟨g1,0,none⟩) (k+1) c3) rfl 1 rfl 47 _ hb3 BM (Nat.le_of_ble_eq_true rfl) (by simp [Value.cells,Value.oneCell']) ?_
  intro X4 hP
  refine ah (hK _ _) ?_
  clear hK K
  refine iQ (by kernel_rfl) ?_ _
  have HN:Hid ((q.more k (some ⟨g1,0,none⟩) c3 a1 c1).nU=k+1∧CpL w.heap.size gB l (q.more k (some ⟨g1,0,none⟩) c3 a1 c1) X4∧Two w l.cells pK 47 X4):=⟨rfl,HQ.2.1.more HQ.1 HA1.2 HQ.2.2.bel.size HA1.1 HN3.1 HN3.2.1 HN3.2.2 hP,HX3.put hP HgB.out⟩
  clear hP hT0 hT3 hb3 HN3 HA1 HQ HX3 HTT hg0
  exact dI
 obtain rfl:k=l.nU:=by omega
 obtain ⟨hq1,hq2,hq3⟩:=HQ.out
 have HL:Hid (∀ j,j<8→wr.cell? ⟨gB,0+j,none⟩=q.cells[j]?):=fun j _=>by rw [Nat.zero_add];exact ie hq2.box j
 have HD:=aa hq3.b
 clear hq1 hq2 hq3
 go_wp2_with (first | refine ir rfl 47 8 _ Tryz.underlying47 rfl jT (.tmp 3) rfl gB 0 rfl q.cells rfl HL.out ?_ | refine iq rfl 47 (.tmp 2) (.tmp 34) rfl (w.heap.size+1) 0 rfl (.agg q.cells) rfl 8 rfl 47 _ HD jT (Nat.le_of_ble_eq_true rfl) (Lng.lF _) ?_)
 intro X hP
 replace hP:Put wr X (w.heap.size+1) q.cells 47:=hP.cast rfl
 have HK:=aa hP.blk
 have HF:Hid (iO l q∧iK X w.heap.size q∧Below w.heap.size w X):=⟨⟨HQ.2.1.st,HQ.2.1.nT,HQ.2.1.t,HQ.1,HQ.2.1.ul,HQ.2.1.uz,HQ.2.1.r⟩,HQ.2.1.own.box HD (by decide) (by decide) hP.to,HQ.2.2.bel.trans (hP.to.below HQ.2.2.bel.size (fun x hx=>by simp at hx;omega))⟩
 clear hP HL HD HQ
 go_wp2_with fail
 exact bodyPost_ret (ll Tryz.results97 8 _ Tryz.underlying47 rfl jT _ _ (w.heap.size+1) q.cells rfl 47 HK.out rfl) rfl ⟨q,rfl,HF.1,HF.2.1,HF.2.2⟩
theorem qJ (S:Swg) (w:World) (hs:S.Small) (hU:0<S.N.nU) (hPp:0<S.N.nP) (h:lr w S) :
  Calls Tryz.prog 60 #[.agg S.cells] w fun e w'=>∃ S2,e=.returned (.agg S2.cells)∧iw S S2∧iG w' w.heap.size S2∧Below w.heap.size w w':=by
 have HR:=aa h
 have HS:=aa hs
 have HU0:Hid (0<S.N.nU∧0<S.N.nP):=⟨hU,hPp⟩
 clear h hs hU hPp
 obtain ⟨W0,eW⟩:∃ W,(((w.alloc (.cells S.cells 34)).alloc (.cells ab 34)).alloc (.cells ab 34))=W:=⟨_,rfl⟩
 have HX:Hid (nJ w S.cells ab ab 34 34 W0):=by rw [←eW];exact nJ.start _ _ _ _ _ _
 have HL0:Hid (∀ j,j<17→((w.alloc (.cells S.cells 34)).alloc (.cells ab 34)).cell? ⟨w.heap.size,0+j,none⟩=S.cells[j]?):=fun j _=>by rw [Nat.zero_add];exact ie (Two.start w S.cells ab 34).a j
 have HC:=aa HX.c
 go_enter Tryz.func60,Tryz.ntmps60
 go_wp2_with (first | refine ir rfl 34 17 _ Tryz.underlying34 rfl iA (.tmp 1) rfl w.heap.size 0 rfl S.cells rfl HL0.out ?_ | refine iq rfl 34 (.tmp 3) (.tmp 5) rfl (w.heap.size+1+1) 0 rfl (.agg S.cells) rfl 17 rfl 34 _ HC iA (Nat.le_of_ble_eq_true rfl) (Swg.lF _) ?_)
 clear HL0
 intro W1 hP
 clear eW
 replace hP:=hP.cast (cs':=#[.int .i64 S.C.p,.int .i64 S.C.c,.int .i64 S.C.xo,.int .i64 S.C.xn,.int .i64 S.C.hd,.int .i64 S.C.lo,.int .i64 S.C.dl,.int .i64 S.now,.int .i64 S.nx,.slice S.aE S.nE S.cE,.slice S.N.aU S.N.nU S.N.cU,.int .i64 S.N.lo,.slice S.N.aP S.N.nP S.N.cP,.slice S.aK S.nK S.cK,.slice S.aL S.nL S.cL,.int .i64 S.dr,.int .i64 S.lst]) rfl
 replace HX:=aa (HX.put hP)
 have T1:Touch [w.heap.size+1,w.heap.size+1+1] W0 W1:=hP.to.mono (fun x hx=>by simp at hx;simp [hx])
 clear hP HC 
 obtain ⟨aE,cE,we,hr,rE,hb⟩:=mJ (V:=W1) (c:=S.cE) 26 71 _ 3 24 BO Tryz.underlying26 rfl (by decide) (by decide) HS.e (by rw [mZ,jH]) ((HR.e.up HX.bel).cs) (xi _)
 have srE:=HX.sz
 have c9:(W1.alloc (.cells #[] 71)).cell? ⟨w.heap.size,9,none⟩=some (.slice S.aE S.nE S.cE):=(ie ((iH _ (ig HX.a)).trans HX.a) 9)
 replace HX:=aa (HX.up hb)
 have T2:Touch [w.heap.size+1,w.heap.size+1+1] W1 we:=Touch.jq hb
 clear hb
 have HC:=HX.c
 replace HC:=aa HC
 have HRn:=aa hr
 clear hr
 go_wp2_with (first | (at_builtin;refine Lib.wpList_append_run _ rfl _ _ _ _ rfl _ _ rfl rfl _ _ HRn.out ?_) | refine iq rfl 26 (.tmp 10) (.tmp 9) rfl (w.heap.size+1+1) 9 rfl (.slice aE S.nE cE) rfl 1 rfl 34 _ HC uh (Nat.le_of_ble_eq_true rfl) (by simp [Value.cells,Value.oneCell',Rnd.cells,Cfg.cells,Cnt.cells]) ?_)
 clear HRn c9
 intro W3 hP
 replace hP:=hP.cast (cs':=#[.int .i64 S.C.p,.int .i64 S.C.c,.int .i64 S.C.xo,.int .i64 S.C.xn,.int .i64 S.C.hd,.int .i64 S.C.lo,.int .i64 S.C.dl,.int .i64 S.now,.int .i64 S.nx,.slice aE S.nE cE,.slice S.N.aU S.N.nU S.N.cU,.int .i64 S.N.lo,.slice S.N.aP S.N.nP S.N.cP,.slice S.aK S.nK S.cK,.slice S.aL S.nL S.cL,.int .i64 S.dr,.int .i64 S.lst]) rfl
 replace HX:=aa (HX.put hP)
 have T3:Touch [w.heap.size+1,w.heap.size+1+1] we W3:=hP.to.mono (fun x hx=>by simp at hx;simp [hx])
 clear hP HC 
 have c10:W3.cell? ⟨w.heap.size,10,none⟩=some (.slice S.N.aU S.N.nU S.N.cU):=ie HX.a 10
 have c11:W3.cell? ⟨w.heap.size,11,none⟩=some (.int .i64 S.N.lo):=ie HX.a 11
 have c12:W3.cell? ⟨w.heap.size,12,none⟩=some (.slice S.N.aP S.N.nP S.N.cP):=ie HX.a 12
 go_wp2_with fail
 refine (oN S.N _ HU0.1 HU0.2 HS.n (HR.n.up HX.bel)).mono ?_
 rintro e wn ⟨M,rfl,rN,hb,aN⟩
 clear c10 c11 c12
 have sN:=HX.sz
 replace HX:=aa (HX.up hb)
 have T4:Touch [w.heap.size+1,w.heap.size+1+1] W3 wn:=Touch.jq hb
 clear hb
 have HC:=HX.c
 replace HC:=aa HC
 go_wp2_with (refine iq rfl 30 (.tmp 14) (.tmp 13) rfl (w.heap.size+1+1) 10 rfl (.agg M.cells) rfl 3 rfl 34 _ HC Eh (Nat.le_of_ble_eq_true rfl) (by simp [Value.cells,Value.oneCell',Rnd.cells,Cfg.cells,Cnt.cells]) ?_)
 intro W5 hP
 replace hP:=hP.cast (cs':=#[.int .i64 S.C.p,.int .i64 S.C.c,.int .i64 S.C.xo,.int .i64 S.C.xn,.int .i64 S.C.hd,.int .i64 S.C.lo,.int .i64 S.C.dl,.int .i64 S.now,.int .i64 S.nx,.slice aE S.nE cE,.slice M.aU M.nU M.cU,.int .i64 M.lo,.slice M.aP M.nP M.cP,.slice S.aK S.nK S.cK,.slice S.aL S.nL S.cL,.int .i64 S.dr,.int .i64 S.lst]) rfl
 replace HX:=aa (HX.put hP)
 have T5:Touch [w.heap.size+1,w.heap.size+1+1] wn W5:=hP.to.mono (fun x hx=>by simp at hx;simp [hx])
 clear hP HC 
 obtain ⟨aK,cK,wk,hr,rK,hb⟩:=mJ (V:=W5) (c:=S.cK) 31 51 _ 8 72 vp Tryz.underlying31 rfl (by decide) (by decide) HS.k (mC _ _) ((HR.k.up HX.bel).cs) (rH _ _)
 have srK:=HX.sz
 have c13:(W5.alloc (.cells #[] 51)).cell? ⟨w.heap.size,13,none⟩=some (.slice S.aK S.nK S.cK):=(ie ((iH _ (ig HX.a)).trans HX.a) 13)
 replace HX:=aa (HX.up hb)
 have T6:Touch [w.heap.size+1,w.heap.size+1+1] W5 wk:=Touch.jq hb
 clear hb
 have HC:=HX.c
 replace HC:=aa HC
 have HRn:=aa hr
 clear hr
 go_wp2_with (first | (at_builtin;refine Lib.wpList_append_run _ rfl _ _ _ _ rfl _ _ rfl rfl _ _ HRn.out ?_) | refine iq rfl 31 (.tmp 19) (.tmp 18) rfl (w.heap.size+1+1) 13 rfl (.slice aK S.nK cK) rfl 1 rfl 34 _ HC Eg (Nat.le_of_ble_eq_true rfl) (by simp [Value.cells,Value.oneCell',Rnd.cells,Cfg.cells,Cnt.cells]) ?_)
 clear HRn c13
 intro W7 hP
 replace hP:=hP.cast (cs':=#[.int .i64 S.C.p,.int .i64 S.C.c,.int .i64 S.C.xo,.int .i64 S.C.xn,.int .i64 S.C.hd,.int .i64 S.C.lo,.int .i64 S.C.dl,.int .i64 S.now,.int .i64 S.nx,.slice aE S.nE cE,.slice M.aU M.nU M.cU,.int .i64 M.lo,.slice M.aP M.nP M.cP,.slice aK S.nK cK,.slice S.aL S.nL S.cL,.int .i64 S.dr,.int .i64 S.lst]) rfl
 replace HX:=aa (HX.put hP)
 have T7:Touch [w.heap.size+1,w.heap.size+1+1] wk W7:=hP.to.mono (fun x hx=>by simp at hx;simp [hx])
 clear hP HC 
 obtain ⟨P,eP⟩:∃ P,(⟨S.C,S.now,S.nx,aE,S.nE,cE,S.e,M,aK,S.nK,cK,S.K,S.aL,S.nL,S.cL,S.L,S.dr,S.lst⟩:Swg)=P:=⟨_,rfl⟩
 have e3:#[.int .i64 S.C.p,.int .i64 S.C.c,.int .i64 S.C.xo,.int .i64 S.C.xn,.int .i64 S.C.hd,.int .i64 S.C.lo,.int .i64 S.C.dl,.int .i64 S.now,.int .i64 S.nx,.slice aE S.nE cE,.slice M.aU M.nU M.cU,.int .i64 M.lo,.slice M.aP M.nP M.cP,.slice aK S.nK cK,.slice S.aL S.nL S.cL,.int .i64 S.dr,.int .i64 S.lst]=P.cells:=by rw [←eP];rfl
 rw [e3] at HX
 clear e3
 have hlow:∀ x∈[w.heap.size+1,w.heap.size+1+1],x<w.heap.size+1+1+1:=by intro x hx;simp at hx;omega
 have HA:Hid (CpA S P):=by rw [←eP];exact ⟨rfl,rfl,rfl,rfl,rfl,aN,rfl,rfl,rfl,rfl⟩
 have HP:Hid (CpS w S P W7):=by
  rw [←eP] at HX ⊢
  exact ⟨HX,OG.mono (rE.low ((((T3.trans T4).trans T5).trans T6).trans T7) (fun x hx=>by have:=hlow x hx;omega)) (by omega),iN.mono (rN.kk ((T5.trans T6).trans T7) (fun x hx=>by have:=hlow x hx;omega)) (by omega),OG.mono (rK.low T7 (fun x hx=>by have:=hlow x hx;omega)) (by omega)⟩
 clear HX eP rE rN rK aN srE sN srK hlow T1 T2 T3 T4 T5 T6 T7
 have HC:=aa HP.x.c
 go_wp2_with (refine iq rfl 32 (.tmp 20) (.const (.slice none 0 0)) rfl (w.heap.size+1+1) 14 rfl (.slice none 0 0) rfl 1 rfl 34 _ HC yX (Nat.le_of_ble_eq_true rfl) (by simp [Value.cells,Value.oneCell']) ?_)
 intro Y0 hP
 obtain ⟨P1,eP1⟩:∃ P1,({ P with aL:=none,nL:=0,cL:=0 }:Swg)=P1:=⟨_,rfl⟩
 replace hP:Put W7 Y0 (w.heap.size+1+1) P1.cells 34:=hP.cast (by rw [←eP1];rfl)
 have HP1:Hid (zq w S P1 0 Y0):=by
  have q:=HP.out
  rw [←eP1] at hP ⊢
  exact ⟨⟨q.x.put hP,q.e.iu hP.to (fun x hx hy=>q.e.lM (by decide) q.x.c ((List.mem_singleton.1 hy)▸hx)),q.n.Gd q.x.c (by decide) (by decide) hP.to,q.k.iu hP.to (fun x hx hy=>q.k.lM (by decide) q.x.c ((List.mem_singleton.1 hy)▸hx))⟩,⟨HA.c,HA.now,HA.nx,HA.nE,HA.e,HA.n,HA.nK,HA.k,HA.dr,HA.lst⟩,kF.nil _ _ _,fun x hx hy=>by simp at hy,rfl,fun i hi=>absurd hi (Nat.not_lt_zero _)⟩
 clear hP HC HP eP1 HA
 have HU:=aa HR.l
 obtain ⟨aL0,eU⟩:∃ a,S.aL=a:=⟨_,rfl⟩
 have HAL:=aa eU
 rw [eU] at HU
 clear eU
 have hnl:=HS.l
 go_wp2_with fail
 go_loopw [4] (fun i wr=>∃ (k:Nat) (P:Swg),k≤S.nL∧i=.int .i64 k∧Hid (zq w S P k wr)) (fun i _=>S.nL-(intOf i).toNat)
 case atStart=>exact ⟨0,P1,Nat.zero_le _,rfl,HP1⟩
 clear HP1
 obtain ⟨k,P,hk,rfl,HP⟩:=hrel
 have c14:wr.cell? ⟨w.heap.size,14,none⟩=some (.slice aL0 S.nL S.cL):=by rw [←HAL.out];exact ie HP.s.x.a 14
 by_cases hlt:k<S.nL
 ·
  have hlt':(k:Int)<S.nL:=by omega
  obtain ⟨g0,o0,ea,hc⟩:=(HU.up HP.s.x.bel) k hlt
  subst ea
  go_wp2_with fail
  refine jc (fun w'=>w'.heap[w.heap.size+1+1]?=some (.cells P.cells 34 (0,0))∧w'.cell? ⟨w.heap.size,14,none⟩=some (.slice (some ⟨g0,o0,none⟩) S.nL S.cL)∧∀ j,j<8→w'.cell? ⟨g0,o0+k*8+j,none⟩=(S.L k).cells[j]?) 11 (by kernel_rfl) ?_
  have hd:Below wr.heap.size wr wr.drew:=(Below.refl _ _).drew
  replace HP:=aa (HP.up hd)
  replace c14:wr.drew.cell? ⟨w.heap.size,14,none⟩=some (.slice (some ⟨g0,o0,none⟩) S.nL S.cL):=c14
  clear hd hc
  generalize wr.drew=V at *
  have HTT:Hid (∀ X:World,X.heap[w.heap.size+1+1]?=some (.cells P.cells 34 (0,0))→Below w.heap.size w X→X.heap[w.heap.size]?=some (.cells S.cells 34 (0,0))→(fun w'=>w'.heap[w.heap.size+1+1]?=some (.cells P.cells 34 (0,0))∧w'.cell? ⟨w.heap.size,14,none⟩=some (.slice (some ⟨g0,o0,none⟩) S.nL S.cL)∧∀ j,j<8→w'.cell? ⟨g0,o0+k*8+j,none⟩=(S.L k).cells[j]?) X):=fun X e1 e2 e3=>⟨e1,(ie e3 14).trans ((ie HP.s.x.a 14).symm.trans c14),by
   obtain ⟨g9,o9,e9,h9⟩:=(HU.up e2) k hlt
   cases e9
   exact h9⟩
  have hT0:=HTT V HP.s.x.c HP.s.x.bel HP.s.x.a
  clear c14
  refine tE 0 28 hT0 ?_
  refine kE (i:=1) (some 29) (v:=?_) ?_ hT0 ?_
  rotate_left
  ·
   intro wx hSw
   obtain ⟨hS1,hS2,hS3⟩:=hSw
   have c14:wx.cell? ⟨w.heap.size+1+1,14,none⟩=some (.slice P.aL k P.cL):=by rw [ie hS1 14,←HP.nL];rfl
   exact dH
  try simp only [Act.put,PZ]
  refine tE 2 30 hT0 ?_
  refine kE (i:=3) (some 31) (v:=?_) ?_ hT0 ?_
  rotate_left
  ·
   intro wx hSw
   obtain ⟨hS1,hS2,hS3⟩:=hSw
   clear hS3
   exact dH
  try simp only [Act.put,PZ]
  refine tE 4 32 hT0 ?_
  refine tE 5 33 hT0 ?_
  refine kE (i:=6) (some 34) (v:=.agg (S.L k).cells) ?_ hT0 ?_
  ·
   intro wx hSw
   exact jg 47 8 _ Tryz.underlying47 rfl jT (.tmp 33) rfl g0 (o0+k*8) rfl _ rfl hSw.2.2
  try simp only [Act.put,PZ]
  refine il (rs:=[7]) (by kernel_rfl) (by simp) ?_
  refine ij.cons rfl (fun K hK=>?_) ij.nil
  go_simp
  refine (tm (S.L k) _ (HS.ls k hlt) ((HR.ls k hlt).up HP.s.x.bel)).mono ?_
  rintro e X1 ⟨l2,rfl,al2,ol2,hb⟩
  have HA1:Hid (iO (S.L k) l2∧iK X1 V.heap.size l2∧Below V.heap.size V X1):=⟨al2,ol2,hb⟩
  have Q1:=HP.up hb
  have hu0:OG 47 8 X1 w.heap.size P.aL k P.cL (vM k P.L):=by have:=Q1.l.l;rw [HP.nL] at this;exact this
  obtain ⟨g1,c3,X3,hr,hu,ht,hg⟩:=lH 32 47 _ 8 144 BK Tryz.underlying32 rfl (by decide) (by decide) hu0 (by omega) (Nat.le_trans HP.s.x.bel.size hb.size) l2.cells rfl (Lng.lF _)
  have LN:l2.cells=#[.bool l2.st,.slice l2.aT l2.nT l2.cT,.slice l2.aU l2.nU l2.cU,.slice l2.R.aQ l2.R.nQ l2.R.cQ,.slice l2.R.aD l2.R.nD l2.R.cD,.int .i64 l2.R.turn,.bool l2.R.fresh,.slice l2.R.aS l2.R.nS l2.R.cS]:=rfl
  rw [LN] at hr ⊢
  have hT1:=HTT X1 Q1.s.x.c Q1.s.x.bel Q1.s.x.a
  have hB2:Below X1.heap.size X1 (X1.alloc (.cells #[.bool l2.st,.slice l2.aT l2.nT l2.cT,.slice l2.aU l2.nU l2.cU,.slice l2.R.aQ l2.R.nQ l2.R.cQ,.slice l2.R.aD l2.R.nD l2.R.cD,.int .i64 l2.R.turn,.bool l2.R.fresh,.slice l2.R.aS l2.R.nS l2.R.cS] 47)):=(Below.refl _ _).alloc (Nat.le_refl _) _
  have hT2:=HTT _ (Q1.up hB2).s.x.c (Q1.up hB2).s.x.bel (Q1.up hB2).s.x.a
  have hc3:X3.heap[w.heap.size+1+1]?=some (.cells P.cells 34 (0,0)):=(ht.block _ (ig Q1.s.x.c) (hu0.lM (by decide) Q1.s.x.c)).trans Q1.s.x.c
  have hT3:=HTT X3 hc3 (Q1.s.x.bel.trans (ht.below Q1.s.x.bel.size (fun x hx=>(hu0.blk x hx).1))) ((ht.block _ (ig Q1.s.x.a) (hu0.lM (by decide) Q1.s.x.a)).trans Q1.s.x.a)
  have HN3:Hid (OG 47 8 X3 w.heap.size (some ⟨g1,0,none⟩) (k+1) c3 (vM k P.L++l2.cells.toList)∧Touch (iI P.aL) X1 X3):=⟨hu,ht⟩
  have HR3:=aa hr
  clear al2 ol2 hb Q1 hu0 hr hu ht hg hT0 LN hB2
  go_wp2_with fail
  refine hK _ _ hT1 ?_
  clear hK K
  try simp only [Act.put,PZ]
  refine il (rs:=[8]) (by kernel_rfl) (by simp) ?_
  refine ij.cons rfl (fun K hK=>?_) ij.nil
  go_simp
  refine hK _ _ hT2 ?_
  clear hK K
  try simp only [Act.put,PZ]
  refine il (rs:=[9]) (by kernel_rfl) (by simp) ?_
  refine ij.cons rfl (fun K hK=>?_) ij.nil
  refine kg (by kernel_rfl) (some 37) rfl (.tmp 29) (.tmp 36) 32 _ _ _ rfl rfl rfl rfl HR3.out ?_
  refine hK _ _ hT3 ?_
  clear hK K hT2 HR3 hT1
  try simp only [Act.put,PZ]
  have hT0:=hT3
  refine tE 10 38 hT0 ?_
  refine il (rs:=[11]) (by kernel_rfl) (by simp) ?_
  refine ij.last rfl (fun K hK=>?_)
  refine jn (by kernel_rfl) none rfl 32 (.tmp 38) (.tmp 37) rfl (w.heap.size+1+1) 14 rfl (.slice (some ⟨g1,0,none⟩) (k+1) c3) rfl 1 rfl 34 _ hc3 yX (Nat.le_of_ble_eq_true rfl) (by simp [Value.cells,Value.oneCell']) ?_
  intro X4 hP
  refine ah (hK _ _) ?_
  clear hK K
  refine iQ (by kernel_rfl) ?_ _
  have HN:=aa (HP.more HA1.2.2 HA1.2.1 HA1.1 HN3.1 HN3.2 hP)
  clear hP hT0 hT3 hc3 HN3 HA1 HP HTT
  exact dI
 obtain rfl:k=S.nL:=by omega
 have HL:Hid (∀ j,j<17→wr.cell? ⟨w.heap.size+1+1,0+j,none⟩=P.cells[j]?):=fun j _=>by rw [Nat.zero_add];exact ie HP.s.x.c j
 have HD:=aa HP.s.x.b
 go_wp2_with (first | refine ir rfl 34 17 _ Tryz.underlying34 rfl iA (.tmp 3) rfl (w.heap.size+1+1) 0 rfl P.cells rfl HL.out ?_ | refine iq rfl 34 (.tmp 2) (.tmp 39) rfl (w.heap.size+1) 0 rfl (.agg P.cells) rfl 17 rfl 34 _ HD iA (Nat.le_of_ble_eq_true rfl) (Swg.lF _) ?_)
 intro X hP
 replace hP:Put wr X (w.heap.size+1) P.cells 34:=hP.cast rfl
 have HK:=aa hP.blk
 have HF:Hid (iw S P∧iG X w.heap.size P∧Below w.heap.size w X):=⟨HP.alike rfl,HP.own.off HD hP.to,(HP.s.x.out hP).bel⟩
 clear hP HL HD HP
 go_wp2_with fail
 exact bodyPost_ret (ll Tryz.results60 17 _ Tryz.underlying34 rfl iA _ _ (w.heap.size+1) P.cells rfl 34 HK.out rfl) rfl ⟨P,rfl,HF.1,HF.2.1,HF.2.2⟩
theorem mK.empty (w:World) (base:Nat) (hb:base≤w.heap.size):mK (w.alloc (.cells #[] 71)) base (.slice (some ⟨w.heap.size,0,none⟩) 0 0) [] :=
 ⟨rfl,.inr ⟨w.heap.size,0,#[],rfl,hb,im w _,Nat.le_refl _,Nat.zero_le _,rfl,rfl⟩⟩
theorem Aa (a:Option Addr) (n cap:Nat) (f:Nat→Ent) (now:Int) (w:World) (hok:mA n f) (ht:AW now) (h:lD w a n f) :
  Calls Tryz.prog 113 #[.slice a n cap,.int .i64 now] w fun e w'=>∃ v,e=.returned v∧mK w' w.heap.size v (qs (iD n f) now)∧Below w.heap.size w w':=by
 have HR:=aa h
 have HO:=aa hok.2
 have h8:=hok.1
 obtain ⟨t0,t1⟩:=ht
 clear h hok
 obtain ⟨i0,hi,hz0,hz1,hz2⟩:=info_parts Dv
 go_enter Tryz.func113,Tryz.ntmps113
 go_wp2_with fail
 go_loopw [5,6] (fun v i wr=>∃ k:Nat,k≤n∧i=.int .i64 k∧mK wr w.heap.size v (qs (iD k f) now)∧Below w.heap.size w wr) (fun _ i _=>n-(intOf i).toNat)
 case atStart=>exact ⟨0,Nat.zero_le _,rfl,mK.empty w _ (Nat.le_refl _),(Below.refl _ _).alloc (Nat.le_refl _) _⟩
 obtain ⟨k,hk,rfl,hO,hB⟩:=hrel
 by_cases hlt:k<n
 ·
  have hlt':(k:Int)<n:=by omega
  obtain ⟨g,o,rfl,c1,c2,c3⟩:=(HR.up hB) k hlt
  have hx3:=(HO k hlt).1.2.2
  have HE:Hid (qs (iD (k+1) f) now=if now-(f k).t≤20 then qs (iD k f) now++[f k] else qs (iD k f) now):=by
   rw [Hid,jG]
   by_cases hs:now-(f k).t≤20
   ·
    simp [qs,hs]
   simp [qs,hs]
  have hll:(qs (iD k f) now).length≤k:=by
   have:=List.length_filter_le (fun y:Ent=>decide (now-y.t≤20)) (iD k f)
   rw [jH] at this
   exact this
  generalize hq:qs (iD k f) now=A at *
  generalize f k=x at *
  obtain ⟨m,p,t⟩:=x
  dsimp only at c1 c2 c3 hx3 HE
  have hw:IntKind.i64.wrap (now-t)=now-t:=jS _ (by omega) (by omega)
  have hz:=hB.size
  by_cases hs:now-t≤20
  ·
   have HE2:Hid (qs (iD (k+1) f) now=A++[⟨m,p,t⟩]):=by rw [Hid,HE.out,if_pos hs]
   clear HE hx3
   go_wp2_with (at_builtin;refine wpList_append_own _ rfl (.tmp 22) (.tmp 27) 26 rfl w.heap.size 71 i0 (.agg #[.int .i64 0,.int .i64 0,.int .i64 0]) 3 24 Tryz.underlying26 hi hz0 hz1 hz2 rfl (by decide) _ A.length _ rfl (World.ownsRow.alloc hO _) ⟨wr.heap.size,0,none⟩ 1 1 (kc ⟨m,p,t⟩) rfl rfl (ji wr ⟨m,p,t⟩ _) (Bd _) (by unfold maxLen;omega) (by omega) (by simp;omega) ?_;intro v' w' hown' hgrow' hnil')
   have hO2:mK w' w.heap.size v' (A++[⟨m,p,t⟩]):=by
    unfold mK
    rw [uj,List.length_append]
    exact hown'
   have B2:Below w.heap.size w w':=hB.grown ((World.grownBy_alloc wr _ _).trans hgrow') hz (fun j hj=>(World.ownsRow.lt hO j hj).1)
   clear hown' hgrow' hnil' hO hB
   go_roundw
   case rel=>exact ⟨k+1,by omega,by go_num,by rw [HE2.out];exact hO2,B2⟩
   case measure=>simp [intOf];omega
  have HE2:Hid (qs (iD (k+1) f) now=A):=by rw [Hid,HE.out,if_neg hs]
  clear HE hx3
  go_wp2_with fail
  go_roundw
  case rel=>exact ⟨k+1,by omega,by go_num,by rw [HE2.out];exact hO,hB⟩
  case measure=>simp [intOf];omega
 obtain rfl:k=n:=by omega
 go_wp2_with fail
 go_ret
 exact ⟨_,rfl,hO,hB⟩
def Swg.tkL (S:Swg):List Ent:=qs (iD S.nE S.e) (S.now+1)
def Swg.jZ (S:Swg) (aE:Option Addr) (cE:Nat):Swg:={ S with now:=S.now+1,aE:=aE,nE:=S.tkL.length,cE:=cE,e:=fun i=>S.tkL.getD i default }
theorem mK.og {A:List Ent} (h:mK w base v A):∃ a c,v=.slice a A.length c∧OG 71 3 w base a A.length c (jd (iD A.length fun i=>A.getD i default)):=by
 rw [kO]
 rcases h.2 with ⟨e1,e2⟩ | ⟨g,cap,cur,e1,_⟩
 ·
  refine ⟨none,0,by rw [e1,e2],?_⟩
  have h':w.ownsRow base 71 3 v A.length (jd A):=h
  rw [e1] at h'
  show w.ownsRow base 71 3 (.slice none A.length 0) A.length (jd A)
  rw [e2] at h' ⊢
  exact h'
 refine ⟨some ⟨g,0,none⟩,cap,e1,?_⟩
 have h':w.ownsRow base 71 3 v A.length (jd A):=h
 rw [e1] at h'
 exact h'
theorem iG.tick {P:Swg} {aE:Option Addr} {cE:Nat} (h:iG w base P) (he:OG 71 3 w base aE P.tkL.length cE (jd (iD P.tkL.length fun i=>P.tkL.getD i default))):iG w base (P.jZ aE cE):=⟨he,h.n,h.k,h.l,h.un⟩
theorem iw.tick {S P:Swg} (h:iw S P) (a a':Option Addr) (c c':Nat):iw (S.jZ a c) (P.jZ a' c'):=by
 have e:P.tkL=S.tkL:=by unfold Swg.tkL;rw [h.nE,h.e,h.now]
 refine ⟨h.c,?_,h.nx,?_,?_,h.n,h.nK,h.k,h.nL,h.l,h.dr,h.lst⟩
 ·
  show P.now+1=S.now+1
  rw [h.now]
 ·
  show P.tkL.length=S.tkL.length
  rw [e]
 show (fun i=>P.tkL.getD i default)=fun i=>S.tkL.getD i default
 rw [e]
theorem Swg.Ok.small {S:Swg} (h:S.Ok):S.Small:=by
 have h1:=h.seen.1.1
 have h2:=h.n.nU
 have h3:=h.n.nP
 have h4:=h.n.c.num.p
 have h5:=h.k.le
 have h6:=h.nl
 refine ⟨by omega,⟨by omega,by omega⟩,by omega,fun i hi=>by have:=(h.k.one i hi).2.2.le;omega,by omega,fun i hi=>?_⟩
 have hl:=h.l i hi
 have ht:=hl.t.le h.k
 have hz:∀ c,c<2→(S.L i).uL c≤1000∧(S.L i).R.L c=(S.L i).uL c:=fun c hc=>⟨Nat.le_trans ((hl.z c hc).1.le h.k) h5,(hl.z c hc).2.1.symm⟩
 have hu:=hl.u
 have hn:=hl.n
 have hd:=hl.r.d
 have hs:=hl.r.s
 refine ⟨by omega,by omega,fun c hc=>by have:=(hz c (by omega)).1;omega,⟨by omega,by omega,by omega,fun c hc=>?_⟩⟩
 have h7:=hz c (by omega)
 omega
theorem AV {S:Swg} {y:Ent} (h:y∈S.tkL):y∈iD S.nE S.e:=by
 unfold Swg.tkL qs at h
 exact (List.mem_filter.1 h).1
theorem Swg.Ok.tick {S:Swg} (h:S.Ok) (hn:S.now<1000000000) (a:Option Addr) (c:Nat):(S.jZ a c).Ok:=by
 have hnow:=h.nums.now
 obtain ⟨t1,t2,t3⟩:S.tkL.length≤8∧jB S.tkL∧∀ y∈S.tkL,me y:=by
  obtain ⟨q1,q2⟩:=h.seen.1
  have hs:=kM h.seen.1.2
  refine ⟨?_,hs.sublist List.filter_sublist,fun y hy=>?_⟩
  ·
   have e1:S.tkL.length≤(iD S.nE S.e).length:=List.length_filter_le _ _
   have e2:(iD S.nE S.e).length=S.nE:=by simp [iD]
   omega
  obtain ⟨i,hi,rfl⟩:=vA (AV hy)
  exact (q2 i hi).1
 refine ⟨h.n,⟨by show 0≤S.now+1∧S.now+1≤1000000000;omega,h.nums.nx,h.nums.dr,h.nums.lst⟩,⟨qV t1 t2 t3,fun j hj=>?_⟩,h.k,h.nl,h.l,h.refs,h.held⟩
 have hj':j<S.tkL.length:=hj
 show (S.tkL.getD j default).p<S.C.p∧(S.tkL.getD j default).t≤S.now+1
 have e:S.tkL.getD j default=S.tkL[j]:=by simp [List.getD_eq_getElem?_getD,hj']
 rw [e]
 obtain ⟨i,hi,e2⟩:=vA (AV (List.getElem_mem hj'))
 have:=h.seen.2 i hi
 rw [e2] at this
 omega
def Swg.Low (S:Swg):Prop:=0≤S.dr∧0≤S.lst∧S.dr+S.lst≤100
structure Ln where
 st:Bool
 aU:Option Addr
 cU:Nat
 R:Rnd
def Ln.cells (l:Ln):Array Value:=#[.bool l.st,.slice none 0 0,.slice l.aU 2 l.cU,.slice l.R.aQ l.R.nQ l.R.cQ,.slice l.R.aD l.R.nD l.R.cD,.int .i64 l.R.turn,.bool l.R.fresh,.slice l.R.aS l.R.nS l.R.cS]
theorem Ln.iY (l:Ln):l.cells.size=8:=rfl
def Ch (L:Nat→Ln) (j:Nat):Value:=((L (j / 8)).cells[j % 8]?).getD (.bool false)
theorem zg (L:Nat→Ln) (i j:Nat) (h:j<8):some (Ch L (i*8+j))=(L i).cells[j]?:=by
 unfold Ch
 rw [show (i*8+j) / 8=i by omega,show (i*8+j) % 8=j by omega]
 have:j<(L i).cells.size:=by rw [Ln.iY];exact h
 simp [this]
def GZ (w:World) (a:Option Addr) (n:Nat) (L:Nat→Ln):Prop:=∀ i,i<n→∃ g o,a=some ⟨g,o,none⟩∧∀ j,j<8→w.cell? ⟨g,o+i*8+j,none⟩=(L i).cells[j]?
theorem ja.Bt {L:Nat→Ln} (h:ja g t (n*8) (Ch L) (n*8) w):GZ w (some ⟨g,0,none⟩) n L:=by
 intro i hi
 refine ⟨g,0,rfl,fun j hj=>?_⟩
 rw [Nat.zero_add,h.at (i*8+j) (by omega),zg L i j hj]
theorem jy.off (h:jy w base R) (hl:∀ j,R.L j=0) (ht:Touch S w w') (hq:∀ x∈jR R.aQ R.nQ,x∉S) (hd:∀ x∈jR R.aD R.nD,x∉S)
  (hS:∀ g arr,w.heap[g]?=some (.cells arr 27 (0,0))→g∉S):jy w' base R :=
 ⟨h.q.iu ht hq,h.d.iu ht hd,h.s.AU ht hS,fun i hi=>.inl (hl i),h.qd,h.qz,h.dz,h.zz⟩
structure yD (w:World) (n:Nat) (b:Nat→Nat) (g:Nat) (L:Nat→Ln):Prop where
 row:ja g 47 (n*8) (Ch L) (n*8) w
 own:∀ i,i<n→jy w (b i) (L i).R
 sh:∀ i,i<n→(L i).R.nQ=2∧(L i).R.nD=2∧(L i).R.nS=2∧∀ j,(L i).R.L j=0
 u:∀ i,i<n→VS w (b i) (L i).aU 2 fun _=>.slice none 0 0
 hq:∀ i,i<n→∀ x∈jR (L i).R.aQ (L i).R.nQ,x<b (i+1)
 hd:∀ i,i<n→∀ x∈jR (L i).R.aD (L i).R.nD,x<b (i+1)
 bm:∀ i,i<n→b i≤b (i+1)
 gb:b 0≤g
theorem yD.mono {L:Nat→Ln} (h:yD w n b g L) (hij:i≤j) (hj:j≤n):b i≤b j:=dG
theorem yD.uD {L:Nat→Ln} (h:yD w n b g L) (ht:Touch S w w') (hS:∀ x∈S,x<b 0):yD w' n b g L :=
 have hb:∀ i,i<n→∀ x∈S,x<b i:=fun i hi x hx=>by
  have:=hS x hx
  have:=h.mono (i:=0) (j:=i) (by omega) (by omega)
  omega
 ⟨h.row.jQ (ht.block g h.row.lt (fun hx=>by have:=hS g hx;have:=h.gb;omega)),fun i hi=>(h.own i hi).kk ht (hb i hi),h.sh,fun i hi=>(h.u i hi).imp id (by
  rintro ⟨g',ha,hg,hr⟩
  exact ⟨g',ha,hg,hr.jQ (ht.block g' hr.lt (fun hx=>by have:=hb i hi g' hx;omega))⟩),h.hq,h.hd,h.bm,h.gb⟩
def upd (L:Nat→Ln) (k:Nat) (l:Ln) (i:Nat):Ln:=if i=k then l else L i
theorem ni (L:Nat→Ln) (k:Nat) (l:Ln):upd L k l k=l:=if_pos rfl
theorem rX (L:Nat→Ln) (k:Nat) (l:Ln) (h:i≠k):upd L k l i=L i:=if_neg h
theorem Eu {L:Nat→Ln} {l:Ln} {p:Nat→Ln→Prop} (h:∀ i,i<n→i≠k→p i (L i)) (hk:p k l):∀ i,i<n→p i (upd L k l i):=by
 intro i hi
 by_cases e:i=k
 ·
  subst e;rw [ni];exact hk
 rw [rX _ _ _ e];exact h i hi e
theorem FR:(Tryz.prog.info? 47).map (fun i=>(i.zero,i.size,i.bytes))=some (some (.agg af),8,144):=by kernel_rfl
def ti (L:Nat→Ln) (n:Nat):List Value:=(List.range n).flatMap fun i=>(L i).cells.toList
theorem mY (L:Nat→Ln) (n:Nat):ti L (n+1)=ti L n++(L n).cells.toList:=by simp [ti,List.range_succ]
theorem pV (L:Nat→Ln):∀ n,(ti L n).length=n*8
 | 0=>rfl
 | n+1=>by
  rw [mY,List.length_append,pV L n]
  simp [Ln.cells];omega
theorem wN {L L':Nat→Ln}:∀ {n},(∀ i,i<n→L i=L' i)→ti L n=ti L' n
 | 0,_=>rfl
 | n+1,h=>by rw [mY,mY,wN (fun i hi=>h i (by omega)),h n (by omega)]
theorem wM (L:Nat→Ln):∀ n i j,i<n→j<8→(ti L n)[i*8+j]?=(L i).cells[j]?
 | 0,i,j,h,_=>by omega
 | n+1,i,j,h,hj=>by
  rw [mY]
  by_cases e:i=n
  ·
   subst e
   rw [List.getElem?_append_right (by rw [pV];omega),pV,show i*8+j-i*8=j by omega]
   simp
  rw [List.getElem?_append_left (by rw [pV];omega)]
  exact wM L n i j (by omega) hj
def mz (w:World) (base:Nat) (v:Value) (n:Nat) (L:Nat→Ln):Prop:=w.ownsRow base 47 8 v n (ti L n)
theorem mz.nil (w:World) (base:Nat) (L:Nat→Ln):mz w base (.slice none 0 0) 0 L:=World.ownsRow_nil _ _ _ _
theorem mz.up {L:Nat→Ln} (h:mz w base v n L) (hb:Below w.heap.size w w'):mz w' base v n L:=mq h hb (Nat.le_refl _)
theorem tw (w:World) (l:Ln) (t:TypeId):∀ j u,(l.cells.toList)[j]?=some u→(w.alloc (.cells l.cells t)).cell? ((⟨w.heap.size,0,none⟩:Addr).add j)=some u:=by
 intro j u hj
 have hc:=ie (im w (.cells l.cells t)) j
 have:(⟨w.heap.size,0,none⟩:Addr).add j=⟨w.heap.size,j,none⟩:=by unfold Addr.add;split <;> simp_all
 rw [this,hc]
 simpa using hj
theorem oneL (l:Ln):∀ u∈l.cells.toList,u.oneCell'=true:=by
 intro u hu
 simp [Ln.cells] at hu
 rcases hu with rfl | rfl | rfl | rfl | rfl | rfl | rfl | rfl <;> rfl
theorem zn {L:Nat→Ln} (l:Ln) (h:mz w base v n L) (hl:n≤1048576) (hb:base≤w.heap.size) (ty:TypeId) :
  ∃ g cap w',(Builtin.append_ #[32,32] ty #[v,.slice (some ⟨w.heap.size,0,none⟩) 1 1]).run Tryz.prog (w.alloc (.cells l.cells 47))=.ok (.slice (some ⟨g,0,none⟩) (n+1) cap) w' ∧
   mz w' base (.slice (some ⟨g,0,none⟩) (n+1) cap) (n+1) (upd L n l)∧w.grownBy w' v.ownBlock∧(some g=v.ownBlock∨w.heap.size≤g):=by
 obtain ⟨i0,hi,hz0,hz1,hz2⟩:=info_parts FR
 obtain ⟨v',w',hr,h2,h3,h4,h5⟩:=run_append_own_at (P:=Tryz.prog) (w.alloc (.cells l.cells 47)) base 32 ty 47 i0 _ 8 144 Tryz.underlying32 hi hz0 hz1 hz2 rfl (by decide) v n (ti L n) (World.ownsRow.alloc h _) ⟨w.heap.size,0,none⟩ 1 1 l.cells.toList rfl (tw w l _) (oneL l) (by unfold maxLen;omega) (by omega) (by simp;omega)
 rcases h2.2 with ⟨_,h0⟩ | ⟨g,cap,cur,rfl,_⟩
 ·
  omega
 refine ⟨g,cap,w',hr,?_,?_,?_⟩
 ·
  unfold mz
  rw [mY,ni,wN (L':=L) (fun i hi=>rX _ _ _ (by omega))]
  exact h2
 ·
  exact (World.grownBy_alloc w _ _).trans h3
 rcases h5 with h5 | h5
 ·
  exact .inl h5
 right
 simp only [Value.ownBlock,Option.some.injEq] at h5
 rw [h5];simp
theorem mz.row {L:Nat→Ln} (h:mz w base v n L):(v=.slice none 0 0∧n=0)∨∃ g cap,v=.slice (some ⟨g,0,none⟩) n cap∧base≤g∧ja g 47 (n*8) (Ch L) (n*8) w:=by
 rcases h.2 with ⟨h1,h2⟩ | ⟨g,cap,cur,hv,hg,hblk,hn,hc,hs,ht⟩
 ·
  exact .inl ⟨h1,h2⟩
 refine .inr ⟨g,cap,hv,hg,cur,hblk,by rw [hs];omega,fun j hj=>?_⟩
 have hg0:cur[j]?=(ti L n)[j]?:=by
  rw [←ht,List.getElem?_take_of_lt hj,Array.getElem?_toList]
 rw [hg0,show j=j / 8*8+j % 8 by omega,wM L n (j / 8) (j % 8) (by omega) (by omega),zg L (j / 8) (j % 8) (by omega)]
structure lW (w:World) (b0:Nat) (v:Value) (n:Nat) (b:Nat→Nat) (L:Nat→Ln):Prop where
 row:mz w b0 v n L
 own:∀ i,i<n→jy w (b i) (L i).R
 sh:∀ i,i<n→(L i).R.nQ=2∧(L i).R.nD=2∧(L i).R.nS=2∧∀ j,(L i).R.L j=0
 u:∀ i,i<n→VS w (b i) (L i).aU 2 fun _=>.slice none 0 0
 hq:∀ i,i<n→∀ x∈jR (L i).R.aQ (L i).R.nQ,x<b (i+1)
 hd:∀ i,i<n→∀ x∈jR (L i).R.aD (L i).R.nD,x<b (i+1)
 bm:∀ i,i<n→b i≤b (i+1)
 b0:b0=b 0
 bn:b n≤w.heap.size
theorem lW.start (w:World) (b0:Nat) (h:b0≤w.heap.size) (L:Nat→Ln):lW w b0 (.slice none 0 0) 0 (fun _=>b0) L :=
 ⟨mz.nil _ _ _,fun i hi=>by omega,fun i hi=>by omega,fun i hi=>by omega,fun i hi=>by omega,fun i hi=>by omega,fun i hi=>by omega,rfl,h⟩
theorem lW.up {L:Nat→Ln} (h:lW w b0 v n b L) (hb:Below w.heap.size w w'):lW w' b0 v n b L :=
 ⟨h.row.up hb,fun i hi=>(h.own i hi).up hb,h.sh,fun i hi=>(h.u i hi).up hb,h.hq,h.hd,h.bm,h.b0,Nat.le_trans h.bn hb.size⟩
theorem lW.Bt {L:Nat→Ln} (h:lW w b0 v n b L):(v=.slice none 0 0∧n=0)∨∃ g cap,v=.slice (some ⟨g,0,none⟩) n cap∧b0≤g∧yD w n b g L:=by
 rcases h.row.row with h1 | ⟨g,cap,hv,hg,hr⟩
 ·
  exact .inl h1
 exact .inr ⟨g,cap,hv,hg,hr,h.own,h.sh,h.u,h.hq,h.hd,h.bm,by rw [←h.b0];exact hg⟩
structure Sw where
 C:Cfg
 nx:Int
 N:Cnt
 aL:Option Addr
 nL:Nat
 cL:Nat
 L:Nat→Ln
def Sw.cells (S:Sw):Array Value:=#[.int .i64 S.C.p,.int .i64 S.C.c,.int .i64 S.C.xo,.int .i64 S.C.xn,.int .i64 S.C.hd,.int .i64 S.C.lo,.int .i64 S.C.dl,.int .i64 0,.int .i64 S.nx,.slice none 0 0,.slice S.N.aU S.N.nU S.N.cU,.int .i64 S.N.lo,.slice S.N.aP S.N.nP S.N.cP,.slice none 0 0,.slice S.aL S.nL S.cL,.int .i64 0,.int .i64 0]
structure GD (w:World) (S:Sw):Prop where
 n:my w S.N
 l:GZ w S.aL S.nL S.L
 u:∀ i,i<S.nL→iP w (S.L i).aU 2 fun _=>.slice none 0 0
 r:∀ i,i<S.nL→mN w (S.L i).R
structure AB (w:World) (base:Nat) (g:Nat) (b:Nat→Nat) (S:Sw):Prop where
 n:iN w base S.N
 bb:base≤b 0
 l:yD w S.nL b g S.L
 a:S.aL=some ⟨g,0,none⟩
 z:∀ x∈zC S.N,x<b 0
theorem AB.rd {S:Sw} (h:AB w base g b S):GD w S:=⟨h.n.rd,by rw [h.a];exact h.l.row.Bt,fun i hi=>(h.l.u i hi).read,fun i hi=>(h.l.own i hi).rd⟩
theorem iN.off {N:Cnt} {T:List Nat} (h:iN w base N) (ht:Touch T w w') (hT:∀ x∈zC N,x∉T):iN w' base N :=
 ⟨h.u.iu ht (fun x hx=>hT x (List.mem_append_left _ hx)),h.p.iu ht (fun x hx=>hT x (List.mem_append_right _ hx))⟩
theorem EZ:(Tryz.prog.info? 34).map (·.size)=some 17:=by kernel_rfl
theorem zt (hg:o.guard=none) (x:Operand) (ho:o.op=.load 34 x) (g:Nat) (hx:a.eval x=.pointer (some ⟨g,0,none⟩))
  (cs:Array Value) (hk:w.heap[g]?=some (.cells cs 34 (0,0))) (hs:cs.size=17) (h:wpList Tryz.prog ops Q rest (a.put o.dst (.agg cs)) w):wpList Tryz.prog ops Q (o :: rest) a w :=
 wpList_plain hg fun _ hK=>wp_load_row 34 x ho g hx 34 cs (0,0) _ hk Tryz.underlying34 rfl (by rw [hs];exact EZ) (hK _ _ h)
theorem qv (hg:o.guard=none) (x y:Operand) (ho:o.op=.store 34 x y) (g:Nat) (hx:a.eval x=.pointer (some ⟨g,0,none⟩))
  (cs:Array Value) (hy:a.eval y=.agg cs) (old:Array Value) (hk:w.heap[g]?=some (.cells old 34 (0,0))) (hs:cs.size=17) (ho2:old.size=17) (h1:cs.all (·.oneCell')=true) (h:wpList Tryz.prog ops Q rest (a.put o.dst undef) (w.setRow g cs)):wpList Tryz.prog ops Q (o :: rest) a w :=
 wpList_plain hg fun _ hK=>wp_store_row 34 x y ho g cs hx hy 34 old hk (by rw [hs];exact EZ) (by omega) h1 (hK _ _ h)
theorem wD {fn:Func} {i j:Tmp} (h:fn.results=#[.cell i 34,.tmp j]) (tmps:Array Value) (w:World) (g:Nat) (cs:Array Value) (hi:tmps[i]?.getD undef=.pointer (some ⟨g,0,none⟩)) (hk:w.heap[g]?=some (.cells cs 34 (0,0))) (hs:cs.size=17) (v:Value) (hv:tmps[j]?.getD undef=v) :
  (results fn tmps).run Tryz.prog w=.ok (.tuple #[.agg cs,v]) w:=by
 have:=run_loadVar_row (P:=Tryz.prog) w g 34 34 cs (0,0) _ hk Tryz.underlying34 rfl (by rw [hs];exact EZ)
 simp [results,h,hi,hv,asAddr,this]
theorem qC {old cs:Array Value} (h:w.heap[g]?=some (.cells old t (0,0))):(w.setRow g cs).heap[g]?=some (.cells cs t (0,0)):=by
 simp [World.setRow,Array.getElem?_modify,h]
theorem nX (w:World) (g:Nat) (cs:Array Value):Touch [g] w (w.setRow g cs):=⟨rfl,rfl,rfl,by simp [World.setRow],fun k _ hn=>by
 have:¬ g=k:=fun e=>hn (by simp [e])
 simp [World.setRow,Array.getElem?_modify,this]⟩
def qfN (i:Nat):Int:=if i=0 then 2 else 4
theorem FD:(ub 2 qfN none 0 0 0).Ok:=by
 refine ⟨⟨by decide,by decide⟩,rfl,rfl,⟨by decide,by decide⟩,fun i hi=>⟨?_,⟨Nat.zero_le _,fun j hj=>?_⟩,?_⟩⟩
 ·
  show 1≤qfN i∧qfN i≤10
  unfold qfN
  split <;> exact ⟨by decide,by decide⟩
 ·
  have hj:j<0:=hj
  omega
 show ry _ _ 0 _
 unfold ry
 rw [if_pos rfl];rfl
theorem Ev (w:World):iP (w.alloc (.cells #[.int .i64 2,.int .i64 4] 2)) (some ⟨w.heap.size,0,none⟩) 2 fun i=>.int .i64 (qfN i):=by
 intro i hi
 refine ⟨w.heap.size,0,rfl,?_⟩
 rw [ie (im _ _)]
 match i,hi with
 | 0,_=>rfl
 | 1,_=>rfl
 | i+2,hi=>omega
theorem yS (w:World):(Instr.makeSlice 43 (.int .i64 2) (.int .i64 2)).run Tryz.prog w=.ok (.slice (some ⟨w.heap.size,0,none⟩) 2 2) (w.alloc (.cells (sZ 2) 27)):=uZ 2 (by omega) w
theorem D5 (hg:base≤g) (h:w.heap[g]?=some (.cells (sZ 2) 27 (0,0))):VS w base (some ⟨g,0,none⟩) 2 fun _=>.slice none 0 0:=.inr ⟨g,rfl,hg,uq h⟩
theorem sP {row:Option Nat} (h:W.grownBy W' row):Touch row.toList W W':=⟨h.os,h.tape,h.output,h.size,fun k hk hn=>h.block k hk (fun e=>hn (by rw [←e];simp))⟩
theorem mz.typed {L:Nat→Ln} (h:mz w base v n L):∀ x∈v.ownBlock.toList,base≤x∧∃ arr,w.heap[x]?=some (.cells arr 47 (0,0)):=by
 intro x hx
 rcases h.2 with ⟨h1,h2⟩ | ⟨g,cap,cur,hv,hg,hblk,_⟩
 ·
  rw [h1] at hx
  simp [Value.ownBlock] at hx
 rw [hv] at hx
 simp [Value.ownBlock] at hx
 subst hx
 exact ⟨hg,cur,hblk⟩
theorem lW.mono {L:Nat→Ln} (h:lW w b0 v n b L) (hij:i≤j) (hj:j≤n):b i≤b j:=dG
theorem lW.uD {L:Nat→Ln} (h:lW w b0 v n b L) (ht:Touch S w w') (hS:∀ x∈S,x<b0):lW w' b0 v n b L:=by
 have hb:∀ i,i<n→∀ x∈S,x<b i:=fun i hi x hx=>by
  have:=hS x hx
  have:=h.mono (i:=0) (j:=i) (by omega) (by omega)
  have:=h.b0
  omega
 refine ⟨?_,fun i hi=>(h.own i hi).kk ht (hb i hi),h.sh,fun i hi=>(h.u i hi).imp id (by
  rintro ⟨g',ha,hg,hr⟩
  exact ⟨g',ha,hg,hr.jQ (ht.block g' hr.lt (fun hx=>by have:=hb i hi g' hx;omega))⟩),h.hq,h.hd,h.bm,h.b0,Nat.le_trans h.bn ht.size⟩
 obtain ⟨h1,h2⟩:=h.row
 refine ⟨h1,h2.imp id ?_⟩
 rintro ⟨g,cap,cur,hv,hg,hblk,hr⟩
 exact ⟨g,cap,cur,hv,hg,(ht.block g (ig hblk) (fun hx=>by have:=hS g hx;omega)).trans hblk,hr⟩
def upB (b:Nat→Nat) (k x i:Nat):Nat:=if i≤k then b i else x
theorem lW.next {v':Value} {L:Nat→Ln} (h:lW W b0 v k b L) (l:Ln) (hrow:mz W' b0 v' (k+1) (upd L k l)) (hg:W.grownBy W' v.ownBlock)
  (hR:jy W (b k) l.R) (hsh:l.R.nQ=2∧l.R.nD=2∧l.R.nS=2∧∀ j,l.R.L j=0) (hU:VS W (b k) l.aU 2 fun _=>.slice none 0 0):lW W' b0 v' (k+1) (upB b k W'.heap.size) (upd L k l):=by
 have ht:=sP hg
 have hty:=h.row.typed
 have hS:∀ g arr,W.heap[g]?=some (.cells arr 27 (0,0))→g∉v.ownBlock.toList:=fun g arr hb hx=>by
  obtain ⟨_,arr2,h2⟩:=hty g hx
  rw [hb] at h2
  simp at h2
 have hI:∀ {base:Nat} {a:Option Addr} {n:Nat} {f:Nat→Int},VI W base a n f→∀ x∈jR a n,x∉v.ownBlock.toList:=fun hv x hx hm=>by
  obtain ⟨_,arr2,h2⟩:=hty x hm
  exact yR hv (by decide) h2 hx
 have hO:∀ {base:Nat} {R:Rnd},jy W base R→(∀ j,R.L j=0)→jy W' base R:=fun hr hl=>hr.off hl ht (hI hr.q) (hI hr.d) hS
 have hb:∀ i,i<k+1→(upB b k W'.heap.size) i=b i:=fun i hi=>if_pos (by omega)
 have hbs:∀ i,i<k→(upB b k W'.heap.size) (i+1)=b (i+1):=fun i hi=>if_pos (by omega)
 have hbk:(upB b k W'.heap.size) (k+1)=W'.heap.size:=if_neg (by omega)
 refine ⟨hrow,?_,?_,?_,?_,?_,?_,?_,?_⟩
 ·
  intro i hi
  rw [hb i hi]
  by_cases e:i=k
  ·
   subst e;rw [ni];exact hO hR hsh.2.2.2
  rw [rX _ _ _ e];exact hO (h.own i (by omega)) (h.sh i (by omega)).2.2.2
 ·
  intro i hi
  by_cases e:i=k
  ·
   subst e;rw [ni];exact hsh
  rw [rX _ _ _ e];exact h.sh i (by omega)
 ·
  intro i hi
  rw [hb i hi]
  by_cases e:i=k
  ·
   subst e;rw [ni];exact hU.AU ht hS
  rw [rX _ _ _ e];exact (h.u i (by omega)).AU ht hS
 ·
  intro i hi
  by_cases e:i=k
  ·
   subst e
   rw [ni,hbk]
   exact fun x hx=>Nat.lt_of_lt_of_le (hR.q.blk x hx).2 hg.size
  rw [rX _ _ _ e,hbs i (by omega)];exact h.hq i (by omega)
 ·
  intro i hi
  by_cases e:i=k
  ·
   subst e
   rw [ni,hbk]
   exact fun x hx=>Nat.lt_of_lt_of_le (hR.d.blk x hx).2 hg.size
  rw [rX _ _ _ e,hbs i (by omega)];exact h.hd i (by omega)
 ·
  intro i hi
  by_cases e:i=k
  ·
   subst e
   rw [hb i hi,hbk]
   exact Nat.le_trans h.bn hg.size
  rw [hb i hi,hbs i (by omega)];exact h.bm i (by omega)
 ·
  rw [hb 0 (by omega)];exact h.b0
 rw [hbk];exact Nat.le_refl _
def rr (l:Ln):Prop:=l.st=false∧Alike (Gq 2 qfN true) l.R
theorem rr.sh {l:Ln} (h:rr l):l.R.nQ=2∧l.R.nD=2∧l.R.nS=2∧∀ j,l.R.L j=0:=⟨h.2.nQ,h.2.nD,h.2.nS,fun j=>by rw [h.2.l];rfl⟩
def GO:Nat→Ln:=fun _=>⟨false,none,0,zR⟩
def Fs:Sw:=⟨⟨0,0,0,0,0,0,0⟩,0,vQ,none,0,0,GO⟩
def DZ (w:World) (base:Nat) (C:Cfg) (n:Nat) (ok:Bool) (S:Sw):Prop:=match ok with
 | false=>S=Fs
 | true=>S.C=C∧S.nx=1∧S.nL=n∧1≤n∧n≤4∧iR (Gr n true) S.N∧(∀ i,i<n→rr (S.L i))∧∃ g b,AB w base g b S
