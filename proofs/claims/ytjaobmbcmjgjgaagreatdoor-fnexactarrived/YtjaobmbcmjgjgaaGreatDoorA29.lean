import Derived.Test.YtjaobmbcmjgjgaaGreatDoorA28
namespace Go.Proofs.YtjaobmbcmjgjgaaGreatDoor
set_option maxRecDepth 100000
set_option maxHeartbeats 8000000
open Go.RowKit
set_option linter.unusedVariables false
set_option linter.unusedSimpArgs false
theorem dX {p:Prop} (h:p:=by
 have hBd:Below w.heap.size w wr.drew:=HO2.out.below.trans (by rw [←HWB.out];exact (HSm.out.below _).drew)
 have hwo:IntKind.i64.wrap ((o:Int)+1)=(o:Int)+1:=j0 _ (by omega) (by omega)
 have hto:((o:Int)+1).toNat=o+1:=by omega
 have ho':(o:Int)<k:=by omega
 have ho1:(o:Int)+1≤k:=by omega
 have ho0:(0:Int)≤(o:Int)+1:=by omega
 have hck:k≤cap2:=by
  rcases hown.2 with ⟨e,_⟩ | ⟨g',cap',cur,e,_,_,hkc,_⟩
  ·
   cases e
  cases e;rw [HN.out] at hkc;exact hkc
 have hck':(k:Int)≤cap2:=by omega
 have hco:(o:Int)≤cap2:=by omega
 have hco1:(o:Int)+1≤cap2:=by omega
 by_cases hcc:cap2=o+1
 ·
  have hko:k=o+1:=by omega
  obtain ⟨v1,W2,v2,W3,hrun1,hrun2,hOwn,hBel⟩:=Bk (o:=o) 0 hown HN.out (by omega) ho hBd.size (.inr hko) cap2 0
  rw [hLast] at hOwn
  have HBel:Hid (Below w.heap.size w W3):=hBd.trans hBel
  have hz1:k-(o+1)=0:=by omega
  have hz2:(0:Nat)=o+1-(o+1):=by omega
  have HR2a:Hid ((Builtin.append_ #[38,38] 38 #[v1,.slice (some ⟨gg2,0,none⟩) 0 0]).run Tryz.prog W2=.ok v2 W3):=by rw [hz1] at hrun2;exact hrun2
  have HR2b:Hid ((Builtin.append_ #[38,38] 38 #[v1,.slice (some ⟨gg2,0,none⟩) 0 (o+1-(o+1))]).run Tryz.prog W2=.ok v2 W3):=by rw [←hz2];exact HR2a.out
  have HR2c:Hid ((Builtin.append_ #[38,38] 38 #[v1,.slice (some ⟨gg2,0,none⟩) (k-(o+1)) (o+1-(o+1))]).run Tryz.prog W2=.ok v2 W3):=by rw [←hz2];exact hrun2
  clear hz1 hz2 hBel hown hBd h3 h4 he hLast hko
  subst hcc
  have hoo:(o:Int)≤(o:Int)+1:=by omega
  exact eI
 obtain ⟨v1,W2,v2,W3,hrun1,hrun2,hOwn,hBel⟩:=Bk (o:=o) ((o+1)*3) hown HN.out (by omega) ho hBd.size (.inl rfl) cap2 (cap2-(o+1))
 rw [hLast] at hOwn
 have HBel:Hid (Below w.heap.size w W3):=hBd.trans hBel
 clear hBel hown hBd h3 h4 he hLast
 exact eI):p:=h
theorem dY {p:Prop} (h:p:=by
 have hlt':(k:Int)<N:=by omega
 obtain ⟨q1,q2⟩:=HC.out k hlt
 by_cases hm:(fo k).m=m
 ·
  have hmq:((fo k).m != m)=false:=by simp [hm]
  have HS2:Hid (St2 fo m (k+1) q):=Ae HSt.out hm
  clear hm
  go_wp2_with fail
  refine wp_region_held_drew (S:=fun w'=>w'.cell? ⟨gg2,k*3,none⟩=some (.int .i64 (fo k).m)∧w'.cell? ⟨gg2,k*3+2,none⟩=some (.int .i64 (fo k).t)) (by kernel_rfl) ⟨q1,q2⟩ (fun hHeld=>?_)
  refine t0 ?_
  iterate 7 refine tN ?_
  iterate 15 refine sN ?_
  refine tN ?_
  refine dnq ?_
  clear hHeld q1 q2
  go_wp2_with fail
  go_roundw
  case rel=>exact ⟨k+1,q,by omega,by go_num,rfl,HS2.out,HSm.out.drewN 1⟩
  case measure=>simp [intOf];omega
 have hmq:((fo k).m != m)=true:=by simp [hm]
 rcases Int.lt_or_le q 0 with h0 | h0
 ·
  have HS2:Hid (St2 fo m (k+1) k):=yd HSt.out hm h0
  clear hm
  go_wp2_with fail
  refine wp_region_held_drew (S:=fun w'=>w'.cell? ⟨gg2,k*3,none⟩=some (.int .i64 (fo k).m)∧w'.cell? ⟨gg2,k*3+2,none⟩=some (.int .i64 (fo k).t)) (by kernel_rfl) ⟨q1,q2⟩ (fun hHeld=>?_)
  refine t0 ?_
  iterate 10 refine tN ?_
  iterate 11 refine sN ?_
  iterate 2 refine tN ?_
  refine dnq ?_
  clear hHeld q1 q2
  exact eJ
 obtain ⟨o,rfl⟩:=Int.eq_ofNat_of_zero_le h0
 obtain ⟨hok2,hA,hB⟩:=Af HSt.out hm
 have HA:Hid ((fo k).t<(fo o).t→St2 fo m (k+1) k):=hA
 have HB:Hid (¬ (fo k).t<(fo o).t→St2 fo m (k+1) o):=hB
 have q3:=(HC.out o (by omega)).2
 have ho':(o:Int)<N:=by omega
 have h0':¬ (o:Int)<0:=by omega
 clear hA hB hm h0
 by_cases ht:(fo k).t<(fo o).t
 ·
  have HS2:Hid (St2 fo m (k+1) k):=HA.out ht
  go_wp2_with fail
  refine wp_region_held_drew (S:=fun w'=>w'.cell? ⟨gg2,k*3,none⟩=some (.int .i64 (fo k).m)∧w'.cell? ⟨gg2,k*3+2,none⟩=some (.int .i64 (fo k).t)∧w'.cell? ⟨gg2,o*3+2,none⟩=some (.int .i64 (fo o).t)) (by kernel_rfl) ⟨q1,q2,q3⟩ (fun hHeld=>?_)
  refine t0 ?_
  iterate 23 refine tN ?_
  refine dnq ?_
  clear hHeld q1 q2 q3
  exact eJ
 have HS2:Hid (St2 fo m (k+1) o):=HB.out ht
 go_wp2_with fail
 refine wp_region_held_drew (S:=fun w'=>w'.cell? ⟨gg2,k*3,none⟩=some (.int .i64 (fo k).m)∧w'.cell? ⟨gg2,k*3+2,none⟩=some (.int .i64 (fo k).t)∧w'.cell? ⟨gg2,o*3+2,none⟩=some (.int .i64 (fo o).t)) (by kernel_rfl) ⟨q1,q2,q3⟩ (fun hHeld=>?_)
 refine t0 ?_
 iterate 23 refine tN ?_
 refine dnq ?_
 clear hHeld q1 q2 q3
 go_wp2_with fail
 go_roundw
 case rel=>exact ⟨k+1,o,by omega,by go_num,rfl,HS2.out,HSm.out.drewN 1⟩
 case measure=>simp [intOf];omega):p:=h
theorem dZ {p:Prop} (h:p:=by
 go_simp
 refine hK.out _ _ q1 (fun hHeld=>?_)
 clear hK K
 try simp only [Act.put,PZ]
 refine rq1 10 (fun K hK=>?_)
 refine j1 (by kernel_rfl) (some 20) (.tmp 17) (.tmp 19) 25 _ _ _ rfl rfl rfl rfl rfl hrun ?_
 refine hK.out _ _ q2 (fun hHeld=>?_)
 clear hK K
 try simp only [Act.put,PZ]
 refine tC 11 21 (v:=?_) ?_ ?_
 rotate_left
 · exact dm
 try simp only [Act.put,PZ]
 refine rq1 12 (fun K hK=>?_)
 go_simp
 refine hK.out _ _ q3 (fun hHeld=>?_)
 clear hK K
 try simp only [Act.put,PZ]
 refine dnq ?_
 rw [←HW6.out]
 clear q0 q1 q2 q3 hHeld rS4 rS4' cS5 fS5
 go_wp2_with fail
 have ht:=iS W6 (w.heap.size+1) (.slice aq nQ cq) (.slice ad nD cd) (.int .i64 turn) (.bool fresh) (.slice (some ⟨gS,0,none⟩) nS cv)
 have cF:=fF (kh kB6 (.slice aq nQ cq) (.slice ad nD cd) (.int .i64 turn) (.bool fresh) (.slice (some ⟨gS,0,none⟩) nS cv))
 have hBf:=HB6.out.trans (ht.below HB6.out.size (fun x hx=>by simp at hx;omega))
 have hOf:=(HOw.out.kO ht (fun x hx=>by simp at hx;omega)).mono hbw
 unfold qJ at cF hBf hOf
 exact bodyPost_ret (v:=.agg ((Rnd.cp2 ⟨aQ,nQ,cQ,q,aD,nD,cD,d,turn,fresh,aS,nS,cS,A,L,C,z⟩ aq cq ad cd (some ⟨gS,0,none⟩) cv A' C').push k s a' c').cells) (by simp [results,Tryz.results56,go_sem,cF,Rnd.cp2,Rnd.push,Rnd.cells]) rfl ⟨_,rfl,hOf,hBf,HAl.out⟩):p:=h
theorem ec {p:Prop} (h:p:=by
 go_wp2_with fail
 go_ret
 exact ⟨iM HF.out.symm,B1⟩):p:=h
theorem eh {p:Prop} (h:p:=by
 clear hm HH HS x1 x2 x3
 go_wp2_with fail
 go_round
 case rel=>exact ⟨k+1,by omega,by go_num,HS2.out⟩
 case measure=>simp [intOf];omega):p:=h
theorem ew {p:Prop} (h:p:=by
 clear cX c1 c2 c3 hO
 go_roundw
 case rel=>exact ⟨k+1,true,_,by omega,by go_num,rfl,HS.out,hO2⟩
 case measure=>simp [intOf];omega):p:=h
theorem eG {p:Prop} (h:p:=by
 rcases hO2.own.row with ⟨e,_⟩ | ⟨g',cap',e,_,hr⟩
 ·
  cases e
 cases e;rw [hMl] at hr;exact hr):p:=h
theorem eH {p:Prop} (h:p:=by
 have:=ku ⟨m,p,t⟩ (notM m (gb k f))
 exact this.symm.trans e):p:=h
theorem eI {p:Prop} (h:p:=by
 go_wp2_with fail
 refine wp_region_held_drew (S:=fun _=>True) (by kernel_rfl) True.intro (fun hHeld=>?_)
 refine tQ 1 97 ?_
 refine tQ 2 98 ?_
 refine tQ 3 99 ?_
 refine tQ 5 101 ?_
 refine tQ 6 102 ?_
 refine tQ 7 103 ?_
 refine tQ 8 104 ?_
 refine rq1 0 (fun K hK=>?_)
 go_simp
 refine hK.out _ _ ⟨⟩ fun hHeld=>?_
 clear hK K
 try simp only [Act.put,PZ]
 refine rq1 4 (fun K hK=>?_)
 refine vL (by kernel_rfl) (some 100) (.tmp 96) (.tmp 99) 38 _ _ _ rfl rfl rfl rfl rfl hrun1 ?_
 refine hK.out _ _ ⟨⟩ fun hHeld=>?_
 clear hK K
 try simp only [Act.put,PZ]
 refine rq1 9 (fun K hK=>?_)
 refine vL (by kernel_rfl) (some 105) (.tmp 100) (.tmp 104) 38 _ _ _ rfl rfl rfl rfl rfl (by first | exact hrun2 | exact HR2a.out | exact HR2b.out | exact HR2c.out | (simp [go_sem];exact hrun2)) ?_
 refine hK.out _ _ ⟨⟩ fun hHeld=>?_
 clear hK K
 try simp only [Act.put,PZ]
 refine tQ 10 8 ?_
 refine dnq ?_
 go_wp2_with fail
 go_ret
 exact ⟨_,rfl,hOwn,HBel.out⟩):p:=h
theorem eJ {p:Prop} (h:p:=by
 go_wp2_with fail
 go_roundw
 case rel=>exact ⟨k+1,k,by omega,by go_num,rfl,HS2.out,HSm.out.drewN 1⟩
 case measure=>simp [intOf];omega):p:=h
theorem qZ (a:Option Addr) (n cap:Nat) (f:Nat→Ent) (m p t:Int) (w:World) (hok:jr n f) (h:iu w a n f) :
  Calls Tryz.prog 53 #[.slice a n cap,.int .i64 m,.int .i64 p,.int .i64 t] w fun e w'=>∃ v,e=.returned v∧ks w' w.heap.size v (im (gb n f) ⟨m,p,t⟩)∧Below w.heap.size w w':=by
 have HR:Hid (iu w a n f):=h
 have HT:Hid (jr n f):=hok
 have HO:Hid (iE n f):=hok.2
 have h8:=hok.1
 clear h hok
 obtain ⟨i0,hi,hz0,hz1,hz2⟩:=info_parts BT
 have HI:Hid (Out w ((w.alloc (.cells #[] 92)).alloc (.cells #[.int .i64 m,.int .i64 p,.int .i64 t] 92)) (.slice (some ⟨w.heap.size,0,none⟩) 0 0) [] ⟨m,p,t⟩):=by
  have e1:(w.alloc (.cells #[] 92)).heap.size=w.heap.size+1:=by simp
  have hE:=ks.empty w w.heap.size (Nat.le_refl _)
  refine ⟨hE.up ((Below.refl _ _).alloc (Nat.le_refl _) _),((Below.refl _ _).alloc (Nat.le_refl _) _).alloc (by omega) _,?_,by simp [Value.ownBlock]⟩
  rw [←e1];exact fK _ _
 go_enter Tryz.func53,Tryz.ntmps53
 go_wp2_with fail
 go_loopw [9,11,12] (fun v d i wr=>∃ (k:Nat) (b:Bool) (L:List Ent),k≤n∧i=.int .i64 k∧d=.bool b∧St1 f ⟨m,p,t⟩ k b L∧Out w wr v L ⟨m,p,t⟩) (fun _ _ i _=>n-(intOf i).toNat)
 case atStart=>exact ⟨0,false,[],Nat.zero_le _,rfl,rfl,.inl ⟨rfl,fun y hy=>by simp [gb] at hy,rfl⟩,HI.out⟩
 obtain ⟨k,d,L,hk,rfl,rfl,hst,hO⟩:=hrel
 have hL:=BC hst
 clear HI
 have cX:=fF hO.box
 by_cases hlt:k<n
 ·
  have hlt':(k:Int)<n:=by omega
  obtain ⟨g,o,rfl,c1,c2,c3⟩:=(HR.out.up hO.below) k hlt
  cases d
  ·
   have HSt:Hid (St1 f ⟨m,p,t⟩ k false L):=hst
   clear hst
   rcases Int.lt_trichotomy (f k).m m with hm | hm | hm
   ·
    have HS:Hid (St1 f ⟨m,p,t⟩ (k+1) false (L++[f k])):=Ai HSt.out hm
    generalize f k=y at *
    obtain ⟨ym,yp,yt⟩:=y
    dsimp only at c1 c2 c3 hm
    have h1:¬ m≤ym:=by omega
    have h2:(ym != m)=true:=by simp;omega
    go_wp2_with (at_builtin;refine wpList_append_own_at _ rfl (.tmp 48) (.tmp 53) 38 rfl w.heap.size 92 i0 (.agg #[.int .i64 0,.int .i64 0,.int .i64 0]) 3 24 Tryz.underlying38 hi hz0 hz1 hz2 rfl (by decide) _ (L.length) _ rfl (World.ownsRow.alloc hO.own _) ⟨wr.heap.size,0,none⟩ 1 1 (iZ ⟨ym,yp,yt⟩) rfl rfl (ic wr ⟨ym,yp,yt⟩ _) (zW _) (by unfold maxLen;omega) (by omega) (by have:=hO.below.size;simp;omega) ?_;intro v2 w2 hown2 hgrow2 hnil2 hat2;obtain ⟨gg2,cap2,rfl⟩:=lx hown2;have hO2:=hO.app hown2 hgrow2 hat2;clear hown2 hgrow2 hnil2 hat2)
    clear cX c1 c2 c3 hO
    go_roundw
    case rel=>exact ⟨k+1,false,_,by omega,by go_num,rfl,HS.out,hO2⟩
    case measure=>simp [intOf];omega
   ·
    have HS:Hid (St1 f ⟨m,p,t⟩ (k+1) true (L++[⟨m,p,t⟩])):=Ag HSt.out hm
    have HRk:Hid (∀ w2,Below w.heap.size w w2→w2.cell? ⟨g,o+k*3,none⟩=some (.int .i64 (f k).m)):=fun w2 hb=>by
     obtain ⟨g',o',eg,c,_,_⟩:=(HR.out.up hb) k hlt
     cases eg;exact c
    generalize f k=y at *
    obtain ⟨ym,yp,yt⟩:=y
    dsimp only at c1 c2 c3 hm HRk
    have h1:m≤ym:=by omega
    have h2:(ym != m)=false:=by simp [hm]
    clear hm
    go_wp2_with ((at_builtin;refine wpList_append_own_at _ rfl (.tmp 37) (.tmp 39) 38 rfl w.heap.size 92 i0 (.agg #[.int .i64 0,.int .i64 0,.int .i64 0]) 3 24 Tryz.underlying38 hi hz0 hz1 hz2 rfl (by decide) _ (L.length) _ rfl (World.ownsRow.alloc hO.own _) ⟨wr.heap.size,0,none⟩ 1 1 (iZ ⟨m,p,t⟩) rfl rfl (ic wr ⟨m,p,t⟩ _) (zW _) (by unfold maxLen;omega) (by omega) (by have:=hO.below.size;simp;omega) ?_;intro v2 w2 hown2 hgrow2 hnil2 hat2;obtain ⟨gg2,cap2,rfl⟩:=lx hown2;have hO2:=hO.app hown2 hgrow2 hat2;clear hown2 hgrow2 hnil2 hat2);have c1:=HRk.out _ hO2.below)
    exact ew
   have HS:Hid (St1 f ⟨m,p,t⟩ (k+1) true (L++[⟨m,p,t⟩]++[f k])):=Ah HSt.out hm
   have HRk:Hid (∀ w2,Below w.heap.size w w2→w2.cell? ⟨g,o+k*3,none⟩=some (.int .i64 (f k).m)∧w2.cell? ⟨g,o+k*3+1,none⟩=some (.int .i64 (f k).p)∧w2.cell? ⟨g,o+k*3+2,none⟩=some (.int .i64 (f k).t)):=fun w2 hb=>by
    obtain ⟨g',o',eg,ca,cb,cc⟩:=(HR.out.up hb) k hlt
    cases eg;exact ⟨ca,cb,cc⟩
   generalize f k=y at *
   obtain ⟨ym,yp,yt⟩:=y
   dsimp only at c1 c2 c3 hm HRk
   have h1:m≤ym:=by omega
   have h2:(ym != m)=true:=by simp;omega
   have hLL:(L++[(⟨m,p,t⟩:Ent)]).length=L.length+1:=by simp
   go_wp2_with (first | ((at_builtin;refine wpList_append_own_at _ rfl (.tmp 37) (.tmp 39) 38 rfl w.heap.size 92 i0 (.agg #[.int .i64 0,.int .i64 0,.int .i64 0]) 3 24 Tryz.underlying38 hi hz0 hz1 hz2 rfl (by decide) _ (L.length) _ rfl (World.ownsRow.alloc hO.own _) ⟨wr.heap.size,0,none⟩ 1 1 (iZ ⟨m,p,t⟩) rfl rfl (ic wr ⟨m,p,t⟩ _) (zW _) (by unfold maxLen;omega) (by omega) (by have:=hO.below.size;simp;omega) ?_;intro v2 w2 hown2 hgrow2 hnil2 hat2;obtain ⟨gg2,cap2,rfl⟩:=lx hown2;have hO2:=hO.app hown2 hgrow2 hat2;clear hown2 hgrow2 hnil2 hat2);obtain ⟨c1,c2,c3⟩:=HRk.out _ hO2.below) | (at_builtin;refine wpList_append_own_at _ rfl (.tmp 48) (.tmp 53) 38 rfl w.heap.size 92 i0 (.agg #[.int .i64 0,.int .i64 0,.int .i64 0]) 3 24 Tryz.underlying38 hi hz0 hz1 hz2 rfl (by decide) _ ((L++[(⟨m,p,t⟩:Ent)]).length) _ rfl (World.ownsRow.alloc hO2.own _) ⟨w2.heap.size,0,none⟩ 1 1 (iZ ⟨ym,yp,yt⟩) rfl rfl (ic w2 ⟨ym,yp,yt⟩ _) (zW _) (by unfold maxLen;omega) (by omega) (by have:=hO2.below.size;simp;omega) ?_;intro v3 w3 hown3 hgrow3 hnil3 hat3;obtain ⟨gg3,cap3,rfl⟩:=lx hown3;have hO3:=hO2.app hown3 hgrow3 hat3;clear hown3 hgrow3 hnil3 hat3))
   clear cX c1 c2 c3 hO hO2
   go_roundw
   case rel=>exact ⟨k+1,true,_,by omega,by go_num,rfl,HS.out,by rw [hLL] at hO3;exact hO3⟩
   case measure=>simp [intOf];omega
  obtain ⟨hm,hs⟩:=Aj HO.out hlt hst
  have HS:Hid (St1 f ⟨m,p,t⟩ (k+1) true (L++[f k])):=hs
  clear hst hs
  generalize f k=y at *
  obtain ⟨ym,yp,yt⟩:=y
  dsimp only at c1 c2 c3 hm
  have h2:(ym != m)=true:=by simp;omega
  go_wp2_with (at_builtin;refine wpList_append_own_at _ rfl (.tmp 48) (.tmp 53) 38 rfl w.heap.size 92 i0 (.agg #[.int .i64 0,.int .i64 0,.int .i64 0]) 3 24 Tryz.underlying38 hi hz0 hz1 hz2 rfl (by decide) _ (L.length) _ rfl (World.ownsRow.alloc hO.own _) ⟨wr.heap.size,0,none⟩ 1 1 (iZ ⟨ym,yp,yt⟩) rfl rfl (ic wr ⟨ym,yp,yt⟩ _) (zW _) (by unfold maxLen;omega) (by omega) (by have:=hO.below.size;simp;omega) ?_;intro v2 w2 hown2 hgrow2 hnil2 hat2;obtain ⟨gg2,cap2,rfl⟩:=lx hown2;have hO2:=hO.app hown2 hgrow2 hat2;clear hown2 hgrow2 hnil2 hat2)
  exact ew
 obtain rfl:k=n:=by omega
 have HE:Hid ((if d then L else L++[⟨m,p,t⟩])=iX ⟨m,p,t⟩ (notM m (gb k f))):=BD hst
 clear hst
 have hb8:L.length≤9:=by omega
 cases d
 ·
  have HE2:Hid (L++[⟨m,p,t⟩]=iX ⟨m,p,t⟩ (notM m (gb k f))):=HE.out
  by_cases h9:L.length+1≤8
  ·
   have h9':((L.length+1:Nat):Int)≤8:=by omega
   have HQ:Hid (L++[⟨m,p,t⟩]=im (gb k f) ⟨m,p,t⟩):=by
    rw [Hid,HE2.out];exact mV (by rw [←HE2.out];simp;omega)
   go_wp2_with (at_builtin;refine wpList_append_own_at _ rfl (.tmp 57) (.tmp 59) 38 rfl w.heap.size 92 i0 (.agg #[.int .i64 0,.int .i64 0,.int .i64 0]) 3 24 Tryz.underlying38 hi hz0 hz1 hz2 rfl (by decide) _ (L.length) _ rfl (World.ownsRow.alloc hO.own _) ⟨wr.heap.size,0,none⟩ 1 1 (iZ ⟨m,p,t⟩) rfl rfl (ic wr ⟨m,p,t⟩ _) (zW _) (by unfold maxLen;omega) (by omega) (by have:=hO.below.size;simp;omega) ?_;intro v2 w2 hown2 hgrow2 hnil2 hat2;obtain ⟨gg2,cap2,rfl⟩:=lx hown2;have hO2:=hO.app hown2 hgrow2 hat2;clear hown2 hgrow2 hnil2 hat2)
   go_ret
   exact ⟨_,rfl,by rw [←HQ.out];exact hO2.own,hO2.below⟩
  have h9':¬ ((L.length+1:Nat):Int)≤8:=by omega
  go_wp2_with (at_builtin;refine wpList_append_own_at _ rfl (.tmp 57) (.tmp 59) 38 rfl w.heap.size 92 i0 (.agg #[.int .i64 0,.int .i64 0,.int .i64 0]) 3 24 Tryz.underlying38 hi hz0 hz1 hz2 rfl (by decide) _ (L.length) _ rfl (World.ownsRow.alloc hO.own _) ⟨wr.heap.size,0,none⟩ 1 1 (iZ ⟨m,p,t⟩) rfl rfl (ic wr ⟨m,p,t⟩ _) (zW _) (by unfold maxLen;omega) (by omega) (by have:=hO.below.size;simp;omega) ?_;intro v2 w2 hown2 hgrow2 hnil2 hat2;obtain ⟨gg2,cap2,rfl⟩:=lx hown2;have hO2:=hO.app hown2 hgrow2 hat2;clear hown2 hgrow2 hnil2 hat2)
  have hMl:(L++[(⟨m,p,t⟩:Ent)]).length=L.length+1:=by simp
  have HM:Hid (L++[(⟨m,p,t⟩:Ent)]=iX ⟨m,p,t⟩ (notM m (gb k f))):=HE2.out
  have h9N:L.length+1≤10∧¬ L.length+1≤8:=⟨by omega,h9⟩
  generalize hMM:L++[(⟨m,p,t⟩:Ent)]=M at *
  generalize hNN:L.length+1=N at *
  have HN:Hid (M.length=N):=hMl
  have HO2:Hid (Out w w2 (.slice (some ⟨gg2,0,none⟩) N cap2) M ⟨m,p,t⟩):=hO2
  have hrow:fU gg2 92 (N*3) (flat fun i=>M.getD i default) (N*3) w2:=eG
  obtain ⟨fo,hfo⟩:∃ fo:Nat→Ent,fo=fun i=>M.getD i default:=⟨_,rfl⟩
  have HFo:Hid (fo=fun i=>M.getD i default):=hfo
  rw [←hfo] at hrow
  have HRw:Hid (fU gg2 92 (N*3) (flat fo) (N*3) w2):=hrow
  obtain ⟨wB,hwB⟩:∃ wB:World,wB=w2:=⟨_,rfl⟩
  have HWB:Hid (wB=w2):=hwB
  have hN10:=h9N.1
  have HLong:Hid (∀ o,o<M.length→l8 (notM m M)=some (M.getD o default)→M.take o++M.drop (o+1)=im (gb k f) ⟨m,p,t⟩):=fun o ho hb=>by
   rw [HM.out] at ho hb ⊢
   exact nX (x:=⟨m,p,t⟩) (kp HO.out) (by rw [iH];exact h8) (by
    have hh:=h9N.2
    rw [←hMl,HM.out] at hh
    exact hh) ho hb
  have HNe:Hid (notM m M≠[]):=fun e=>by
   rw [HM.out] at e
   have e2:notM m (notM m (gb k f))=[]:=eH
   rw [km (fun y hy=>o6 hy)] at e2
   have e3:=congrArg List.length HM.out
   rw [jR,e2,hMl] at e3
   have:=h9N.2
   simp at e3
   omega
  have H9N:Hid (¬ N≤8):=h9N.2
  clear hrow hfo hO2 hMl h9N h9 h9' cX hO hwB
  go_loopw [13,14] (fun old i wr=>∃ (k:Nat) (q:Int),k≤N∧i=.int .i64 k∧old=.int .i64 q∧St2 fo m k q∧kJ wB wr) (fun _ i _=>N-(intOf i).toNat)
  case atStart=>exact ⟨0,-1,Nat.zero_le _,rfl,rfl,.inl ⟨rfl,by simp [gb,notM]⟩,by rw [HWB.out];exact kJ.refl _⟩
  obtain ⟨k,q,hk,rfl,rfl,hst,hS⟩:=hrel
  have HSt:Hid (St2 fo m k q):=hst
  have HSm:Hid (kJ wB wr):=hS
  have HC:Hid (∀ i,i<N→wr.cell? ⟨gg2,i*3,none⟩=some (.int .i64 (fo i).m)∧wr.cell? ⟨gg2,i*3+2,none⟩=some (.int .i64 (fo i).t)):=fun i hi=>by
   rw [hS.cell,hS.cell,HWB.out,HRw.out.at _ (by omega),HRw.out.at _ (by omega),vp,vo]
   exact ⟨rfl,rfl⟩
  clear hst hS
  by_cases hlt:k<N
  · exact dY
  obtain rfl:k=N:=by omega
  have he:gb k fo=M:=by
   rw [HFo.out]
   conv=>lhs;rw [←HN.out]
   exact lq M
  rcases HSt.out with ⟨h1,h2⟩ | ⟨o,ho,hq,h3,h4⟩
  ·
   rw [he] at h2
   exact absurd h2 HNe.out
  subst hq
  rw [he] at h4
  have hLast:=HLong.out o (by rw [HN.out];exact ho) (h4.trans (by rw [HFo.out]))
  have hown:ks wr.drew w.heap.size (.slice (some ⟨gg2,0,none⟩) k cap2) M:=ks.up HO2.out.own (by rw [←HWB.out];exact (HSm.out.below _).drew)
  exact dX
 have HE2:Hid (L=iX ⟨m,p,t⟩ (notM m (gb k f))):=HE.out
 rcases hO.own.row with ⟨e,e2⟩ | ⟨gg2,cap2,e,_,_⟩
 ·
  exfalso
  have:=congrArg List.length HE2.out
  rw [jR,e2] at this
  simp at this
 subst e
 by_cases h9:L.length≤8
 ·
  have h9':((L.length:Nat):Int)≤8:=by omega
  have HQ:Hid (L=im (gb k f) ⟨m,p,t⟩):=by
   rw [Hid]
   conv=>lhs;rw [HE2.out]
   exact mV (by rw [←HE2.out];exact h9)
  go_wp2_with fail
  go_ret
  exact ⟨_,rfl,by rw [←HQ.out];exact hO.own,hO.below⟩
 have h9':¬ ((L.length:Nat):Int)≤8:=by omega
 go_wp2_with fail
 have HM:Hid (L=iX ⟨m,p,t⟩ (notM m (gb k f))):=HE2.out
 have h9N:L.length≤10∧¬ L.length≤8:=⟨by omega,h9⟩
 have hO2:=hO
 obtain ⟨N,hNN⟩:∃ N,N=L.length:=⟨_,rfl⟩
 have hMl:L.length=N:=hNN.symm
 rw [←hNN] at h9N hO2 ⊢
 clear hNN
 have HN:Hid (L.length=N):=hMl
 have HO2:Hid (Out w wr (.slice (some ⟨gg2,0,none⟩) N cap2) L ⟨m,p,t⟩):=hO2
 have hrow:fU gg2 92 (N*3) (flat fun i=>L.getD i default) (N*3) wr:=eG
 obtain ⟨fo,hfo⟩:∃ fo:Nat→Ent,fo=fun i=>L.getD i default:=⟨_,rfl⟩
 have HFo:Hid (fo=fun i=>L.getD i default):=hfo
 rw [←hfo] at hrow
 have HRw:Hid (fU gg2 92 (N*3) (flat fo) (N*3) wr):=hrow
 obtain ⟨wB,hwB⟩:∃ wB:World,wB=wr:=⟨_,rfl⟩
 have HWB:Hid (wB=wr):=hwB
 have hN10:=h9N.1
 have HLong:Hid (∀ o,o<L.length→l8 (notM m L)=some (L.getD o default)→L.take o++L.drop (o+1)=im (gb k f) ⟨m,p,t⟩):=fun o ho hb=>by
  rw [HM.out] at ho hb ⊢
  exact nX (x:=⟨m,p,t⟩) (kp HO.out) (by rw [iH];exact h8) (by
   have hh:=h9N.2
   rw [←hMl,HM.out] at hh
   exact hh) ho hb
 have HNe:Hid (notM m L≠[]):=fun e=>by
  rw [HM.out] at e
  have e2:notM m (notM m (gb k f))=[]:=eH
  rw [km (fun y hy=>o6 hy)] at e2
  have e3:=congrArg List.length HM.out
  rw [jR,e2,hMl] at e3
  have:=h9N.2
  simp at e3
  omega
 have H9N:Hid (¬ N≤8):=h9N.2
 clear hrow hfo hO2 hMl h9N h9 h9' cX hO hwB
 go_loopw [13,14] (fun old i wr=>∃ (k:Nat) (q:Int),k≤N∧i=.int .i64 k∧old=.int .i64 q∧St2 fo m k q∧kJ wB wr) (fun _ i _=>N-(intOf i).toNat)
 case atStart=>exact ⟨0,-1,Nat.zero_le _,rfl,rfl,.inl ⟨rfl,by simp [gb,notM]⟩,by rw [HWB.out];exact kJ.refl _⟩
 obtain ⟨k,q,hk,rfl,rfl,hst,hS⟩:=hrel
 have HSt:Hid (St2 fo m k q):=hst
 have HSm:Hid (kJ wB wr):=hS
 have HC:Hid (∀ i,i<N→wr.cell? ⟨gg2,i*3,none⟩=some (.int .i64 (fo i).m)∧wr.cell? ⟨gg2,i*3+2,none⟩=some (.int .i64 (fo i).t)):=fun i hi=>by
  rw [hS.cell,hS.cell,HWB.out,HRw.out.at _ (by omega),HRw.out.at _ (by omega),vp,vo]
  exact ⟨rfl,rfl⟩
 clear hst hS
 by_cases hlt:k<N
 · exact dY
 obtain rfl:k=N:=by omega
 have he:gb k fo=L:=by
  rw [HFo.out]
  conv=>lhs;rw [←HN.out]
  exact lq L
 rcases HSt.out with ⟨h1,h2⟩ | ⟨o,ho,hq,h3,h4⟩
 ·
  rw [he] at h2
  exact absurd h2 HNe.out
 subst hq
 rw [he] at h4
 have hLast:=HLong.out o (by rw [HN.out];exact ho) (h4.trans (by rw [HFo.out]))
 have hown:ks wr.drew w.heap.size (.slice (some ⟨gg2,0,none⟩) k cap2) L:=ks.up HO2.out.own (by rw [←HWB.out];exact (HSm.out.below _).drew)
 exact dX
theorem zo {n k:Nat} {f:Nat→Ent} (hk:k<n):AO (f k).m (gb n f)=true:=by
 unfold AO
 rw [List.any_eq_true]
 exact ⟨f k,List.mem_map.2 ⟨k,List.mem_range.2 hk,rfl⟩,by simp⟩
theorem iE.inj {n:Nat} {f:Nat→Ent} (h:iE n f) {i j:Nat} (hi:i<n) (hj:j<n) (e:(f i).m=(f j).m):i=j:=by
 rcases Nat.lt_trichotomy i j with h1 | h1 | h1
 ·
  have:=h.lt j i h1 hj;omega
 ·
  exact h1
 have:=h.lt i j h1 hi;omega
theorem CS {n k:Nat} {f:Nat→Ent} (h:iE n f) (hk:k<n):atM (f k).m (gb n f)=f k:=by
 obtain ⟨h1,h2⟩:=rX (zo (f:=f) hk)
 obtain ⟨i,hi,e⟩:=List.mem_map.1 h1
 rw [←e] at h2 ⊢
 rw [h.inj (List.mem_range.1 hi) hk h2]
theorem yj {n k:Nat} {f:Nat→Ent} {mac now:Int} (h:iE n f) (hk:k<n) (h1:(f k).m=mac) (h2:now-(f k).t≤20):qL (gb n f) mac now=(f k).p:=by
 subst h1
 unfold qL
 rw [CS h hk,if_pos ⟨zo hk,h2⟩]
theorem wT {n:Nat} {f:Nat→Ent} {mac now:Int} (h:∀ i,i<n→¬ ((f i).m=mac∧now-(f i).t≤20)):qL (gb n f) mac now=-1:=by
 unfold qL
 rw [if_neg]
 rintro ⟨h1,h2⟩
 obtain ⟨h3,h4⟩:=rX h1
 obtain ⟨i,hi,e⟩:=List.mem_map.1 h3
 rw [←e] at h4 h2
 exact h i (List.mem_range.1 hi) ⟨h4,h2⟩
theorem uO (a:Option Addr) (n cap:Nat) (f:Nat→Ent) (mac now r:Int) (w:World) (hn:n≤maxLen) (h:iu w a n f) (hr:zT n f mac now r) :
  Calls Tryz.prog 54 #[.slice a n cap,.int .i64 mac,.int .i64 now] w fun e w'=>e=.returned (.int .i64 r)∧Below w.heap.size w w':=by
 have HR:Hid (iu w a n f):=h
 have HP:Hid (zT n f mac now r):=hr
 obtain ⟨ok,hok⟩:=oW n f
 have HO:Hid (ok=true↔jr n f):=hok
 clear h hr hok
 go_enter Tryz.func54,Tryz.ntmps54
 go_wp2_with fail
 refine (nI a n cap f _ hn HR.out ok HO.out).mono ?_
 rintro e w1 ⟨rfl,B1⟩
 cases ok
 ·
  have HF:Hid (r=-1):=HP.out.bad (fun hh=>absurd (HO.out.2 hh.1) (by simp))
  exact ec
 have HT:Hid (jr n f):=HO.out.1 rfl
 go_wp2_with fail
 refine (fT _ _ _ _).mono ?_
 rintro e w' ⟨rfl,rfl⟩
 by_cases ht:0≤now∧now≤1000000000
 ·
  have HTm:Hid (vS now):=ht
  have h8:=HT.out.1
  rw [decide_eq_true ht]
  go_wp2_with fail
  go_loop [7] (fun i=>∃ k:Nat,k≤n∧i=.int .i64 k∧∀ i,i<k→¬ ((f i).m=mac∧now-(f i).t≤20)) (fun i=>n-(intOf i).toNat)
  case atStart=>exact ⟨0,Nat.zero_le _,rfl,fun i hi=>by omega⟩
  obtain ⟨k,hk,rfl,hall⟩:=hrel
  have HA:Hid (∀ i,i<k→¬ ((f i).m=mac∧now-(f i).t≤20)):=hall
  clear hall
  by_cases hlt:k<n
  ·
   have hlt':(k:Int)<n:=by omega
   obtain ⟨g,o,rfl,c1,c2,c3⟩:=(HR.out.up B1) k hlt
   have hx:=(HT.out.2 k hlt).1
   have HH:Hid ((f k).m=mac→now-(f k).t≤20→r=(f k).p):=fun e1 e2=>by
    rw [HP.out.good HT.out HTm.out,yj HT.out.2 hlt e1 e2]
   have HS:Hid (¬ ((f k).m=mac∧now-(f k).t≤20)→∀ i,i<k+1→¬ ((f i).m=mac∧now-(f i).t≤20)):=fun hh i hi=>by
    by_cases e:i=k
    ·
     subst e;exact hh
    exact HA.out i (by omega)
   generalize f k=x at *
   obtain ⟨m,p,t⟩:=x
   obtain ⟨x1,x2,x3⟩:=hx
   dsimp only at c1 c2 c3 x1 x2 x3 HH HS
   have hw:IntKind.i64.wrap (now-t)=now-t:=j0 _ (by omega) (by omega)
   by_cases hm:m=mac
   ·
    have hmq:(m == mac)=true:=by simp [hm]
    by_cases hs:now-t≤20
    ·
     have HF:Hid (r=p):=HH.out hm hs
     clear hm HH HS x1 x2 x3
     exact ec
    have HS2:Hid (∀ i,i<k+1→¬ ((f i).m=mac∧now-(f i).t≤20)):=HS.out (fun hh=>hs hh.2)
    exact eh
   have hmq:(m == mac)=false:=by simp [hm]
   have HS2:Hid (∀ i,i<k+1→¬ ((f i).m=mac∧now-(f i).t≤20)):=HS.out (fun hh=>hm hh.1)
   exact eh
  obtain rfl:k=n:=by omega
  have HF:Hid (r=-1):=by rw [Hid,HP.out.good HT.out HTm.out,wT HA.out]
  exact ec
 have HF:Hid (r=-1):=HP.out.bad (fun hh=>ht hh.2)
 rw [decide_eq_false ht]
 clear ht
 exact ec
theorem yM (R:Rnd) (k:Nat) (s:Int) (w:World) (hs:R.Small) (h:jw w R) (hk:k<R.nS) (hL:R.L k≤1000) :
  Calls Tryz.prog 56 #[.agg R.cells,.int .i64 k,.int .i64 s] w fun e w'=>∃ R',e=.returned (.agg R'.cells)∧iv w' w.heap.size R'∧Below w.heap.size w w'∧Alike (R.push k s none 0) R':=by
 obtain ⟨aQ,nQ,cQ,q,aD,nD,cD,d,turn,fresh,aS,nS,cS,A,L,C,z⟩:=R
 have HR:Hid (jw w ⟨aQ,nQ,cQ,q,aD,nD,cD,d,turn,fresh,aS,nS,cS,A,L,C,z⟩):=h
 have HS:Hid (Rnd.Small ⟨aQ,nQ,cQ,q,aD,nD,cD,d,turn,fresh,aS,nS,cS,A,L,C,z⟩):=hs
 dsimp only at hk hL
 have hk':(k:Int)<nS:=by omega
 have hnS:(nS:Int)≤1048576:=by have:nS≤1048576:=hs.s;omega
 clear h hs
 have HA:Hid (∀ A B,Below w.heap.size w ((w.alloc A).alloc B)):=fun A B=>((Below.refl _ _).alloc (Nat.le_refl _) _).alloc (by simp) _
 have e2:∀ A B,((w.alloc A).alloc B).heap.size=w.heap.size+1+1:=fun A B=>by simp
 dsimp only [Rnd.cells]
 go_enter Tryz.func56,Tryz.ntmps56
 go_wp2_with fail
 refine (lh ⟨aQ,nQ,cQ,q,aD,nD,cD,d,turn,fresh,aS,nS,cS,A,L,C,z⟩ _ HS.out (HR.out.up (HA.out _ _))).mono ?_
 rintro e w3 ⟨aq,cq,ad,cd,av,cv,A',C',rfl,hZ,hb3⟩
 obtain ⟨kA,kB3,B3,z3⟩:=oP hb3
 rw [e2] at hZ
 clear hb3 HA kA e2
 obtain ⟨gS,rfl⟩:∃ gS,av=some ⟨gS,0,none⟩:=by
  rcases hZ.own.s with h0 | ⟨g,hg,_,_⟩
  ·
   exact absurd hk (by rw [show nS=0 from h0];omega)
  exact ⟨g,hg⟩
 have hX:Below w3.heap.size w3 (w3.alloc (.cells #[.slice aq nQ cq,.slice ad nD cd,.int .i64 turn,.bool fresh,.slice (some ⟨gS,0,none⟩) nS cv] 97)).drew:=((Below.refl _ _).alloc (Nat.le_refl _) _).drew
 have kT:=fK w3 (.cells #[.slice aq nQ cq,.slice ad nD cd,.int .i64 turn,.bool fresh,.slice (some ⟨gS,0,none⟩) nS cv] 97)
 have kT4:(w3.alloc (.cells #[.slice aq nQ cq,.slice ad nD cd,.int .i64 turn,.bool fresh,.slice (some ⟨gS,0,none⟩) nS cv] 97)).drew.heap[w3.heap.size]?=_:=kT
 have kB4:=(hX.block _ (fG kB3)).trans kB3
 have hZ4:=hZ.up hX
 have B4:=B3.trans (hX.mono B3.size)
 clear hX kT kB3 hZ B3
 simp only [Rnd.cp2,Rnd.cells]
 go_wp2_with fail
 generalize (w3.alloc (.cells #[.slice aq nQ cq,.slice ad nD cd,.int .i64 turn,.bool fresh,.slice (some ⟨gS,0,none⟩) nS cv] 97))=Wx at *
 have hbw:w.heap.size≤w.heap.size+1+1:=by omega
 have hz4:w.heap.size+1+1≤Wx.drew.heap.size:=by have:=fG kT4;omega
 obtain ⟨W4,hW4⟩:∃ W4,W4=Wx.drew:=⟨_,rfl⟩
 rw [←hW4] at kT4 kB4 hZ4 B4 hz4
 obtain ⟨a',c',W5,hrun,hP⟩:=hZ4.A7 (c:=k) (gS:=gS) hk hL hz4 rfl s
 dsimp only [Rnd.cp2] at hrun
 have hrow:w.heap.size+1+1≤gS∧fU gS 25 nS (fun i=>.slice (A' i) (L i) (C' i)) nS W4:=by
  rcases hZ4.own.s with h0 | ⟨g,hg,hbg,hr⟩
  ·
   exact absurd hk (by rw [show nS=0 from h0];omega)
  cases hg
  exact ⟨hbg,hr⟩
 obtain ⟨hgS,hr4⟩:=hrow
 have hAl:=(Below.refl W4.heap.size W4).alloc (Nat.le_refl _) (.cells #[.int .i64 s] 2)
 have rS4:=hr4.at k hk
 have rS4':=(hr4.iB (hAl.block _ hr4.lt)).at k hk
 have hne:w3.heap.size≠gS:=fun e=>by
  obtain ⟨arr,hx,_⟩:=hr4
  rw [←e,kT4] at hx
  simp at hx
 have q0:W4.cell? ⟨w3.heap.size,4,none⟩=some (.slice (some ⟨gS,0,none⟩) nS cv):=fF kT4 4
 have q1:(W4.alloc (.cells #[.int .i64 s] 2)).cell? ⟨w3.heap.size,4,none⟩=some (.slice (some ⟨gS,0,none⟩) nS cv):=fF ((hAl.block _ (fG kT4)).trans kT4) 4
 have kT5:=hP.box _ _ _ (by decide) kT4
 have q2:W5.cell? ⟨w3.heap.size,4,none⟩=some (.slice (some ⟨gS,0,none⟩) nS cv):=fF kT5 4
 have kT6:=(fS (w:=W5) (g:=gS) (i:=k) hne (.slice a' (L k+1) c')).trans kT5
 have q3:(W5.setCell ⟨gS,k,none⟩ (.slice a' (L k+1) c')).cell? ⟨w3.heap.size,4,none⟩=some (.slice (some ⟨gS,0,none⟩) nS cv):=fF kT6 4
 have cS5:=hP.row.at k hk
 have fS5:=hP.row.free k
 dsimp only [Rnd.cp2] at cS5 rS4 rS4'
 obtain ⟨W6,hW6⟩:∃ W6,W6=W5.setCell ⟨gS,k,none⟩ (.slice a' (L k+1) c'):=⟨_,rfl⟩
 have HOw:Hid (iv W6 (w.heap.size+1+1) ((Rnd.cp2 ⟨aQ,nQ,cQ,q,aD,nD,cD,d,turn,fresh,aS,nS,cS,A,L,C,z⟩ aq cq ad cd (some ⟨gS,0,none⟩) cv A' C').push k s a' c')):=by rw [Hid,hW6];exact hP.oz
 have hB6:Below (w.heap.size+1+1) W4 W6:=by rw [hW6];exact hP.below
 have kB6:=(hB6.block _ (show w.heap.size+1<w.heap.size+1+1 by omega)).trans kB4
 have HB6:Hid (Below w.heap.size w W6):=B4.trans (hB6.mono hbw)
 rw [←hW6] at kT6
 have cT6:=fF kT6
 have cB6:=fF kB6
 have fB6:=fZ kB6
 have HAl:Hid (Alike (Rnd.push ⟨aQ,nQ,cQ,q,aD,nD,cD,d,turn,fresh,aS,nS,cS,A,L,C,z⟩ k s none 0) ((Rnd.cp2 ⟨aQ,nQ,cQ,q,aD,nD,cD,d,turn,fresh,aS,nS,cS,A,L,C,z⟩ aq cq ad cd (some ⟨gS,0,none⟩) cv A' C').push k s a' c')):=⟨rfl,rfl,rfl,rfl,rfl,rfl,rfl,rfl,rfl⟩
 have HW6:Hid (W6=W5.setCell ⟨gS,k,none⟩ (.slice a' (L k+1) c')):=hW6
 clear hP hB6 hZ4 hr4 hAl kT5 B4 kB4 hW6
 refine wp_region_held_drew (S:=fun w'=>w'.cell? ⟨w3.heap.size,4,none⟩=some (.slice (some ⟨gS,0,none⟩) nS cv)) (by kernel_rfl) (by rw [←hW4];exact q0) (fun hHeld=>?_)
 rw [←hW4] at hHeld ⊢
 clear hW4 kT4
 refine tC 0 10 (v:=?_) ?_ ?_
 rotate_left
 · exact dm
 try simp only [Act.put,PZ]
 refine tC 1 11 (v:=?_) ?_ ?_
 rotate_left
 · exact dm
 try simp only [Act.put,PZ]
 refine tC 2 12 (v:=?_) ?_ ?_
 rotate_left
 · exact dm
 try simp only [Act.put,PZ]
 refine tC 3 13 (v:=?_) ?_ ?_
 rotate_left
 · exact dm
 try simp only [Act.put,PZ]
 refine tC 4 14 (v:=?_) ?_ ?_
 rotate_left
 · exact dm
 try simp only [Act.put,PZ]
 refine tC 5 15 (v:=?_) ?_ ?_
 rotate_left
 · exact dm
 try simp only [Act.put,PZ]
 refine tC 6 16 (v:=?_) ?_ ?_
 rotate_left
 · exact dm
 try simp only [Act.put,PZ]
 refine tC 8 18 (v:=?_) ?_ ?_
 rotate_left
 · exact dm
 try simp only [Act.put,PZ]
 refine rq2 7 9 (fun K hK=>?_) (fun K hK=>?_)
 ·
  go_simp
  refine hK.out _ _ q0 (fun hHeld=>?_)
  clear hK K
  try simp only [Act.put,PZ]
  refine rq1 9 (fun K hK=>?_)
  exact dZ
 go_simp
 refine hK.out _ _ q1 (fun hHeld=>?_)
 clear hK K
 try simp only [Act.put,PZ]
 refine rq1 7 (fun K hK=>?_)
 exact dZ
end Go.Proofs.YtjaobmbcmjgjgaaGreatDoor
