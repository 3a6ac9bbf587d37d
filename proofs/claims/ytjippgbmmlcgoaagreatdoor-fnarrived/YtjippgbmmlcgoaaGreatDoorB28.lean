import Derived.Test.YtjippgbmmlcgoaaGreatDoorB27
namespace Go.Proofs.YtjippgbmmlcgoaaGreatDoor
set_option maxRecDepth 100000
set_option maxHeartbeats 9000000
open Go.RowKit
set_option linter.unusedVariables false
set_option linter.unusedSimpArgs false
variable {cl dst id nx p port prio v y:Int} {A:List Ent} {l:Lng} {base i j m n:Nat} {z:Nat→Int} {K K':Nat→Pkt} {x:Pkt} {P S:Swg} {w w':World}
theorem dB {p:Prop} (h:p:=by
 have hokF:ok=false:=by
  cases ok
  ·
   rfl
  exact absurd (HO.1 rfl) HNo
 subst hokF
 have cX:=ie kB
 have fX:=ix kB
 go_wp2_with fail
 have ht:=jv w2 (w.heap.size+1) (.slice none 0 0) (.slice none 0 0) (.int .i64 0) (.bool false) (.slice none 0 0)
 have cF:=ie (ln kB (.slice none 0 0) (.slice none 0 0) (.int .i64 0) (.bool false) (.slice none 0 0))
 have hBf:=B2.trans (ht.below B2.size (fun x hx=>by simp at hx;omega))
 exact dE):p:=h
theorem Hs {p:Prop} (h:p:=by
 go_simp
 refine ah (hK _ _ q1) ?_
 intro hHeld
 clear hK K
 refine rq1 10 (fun K hK=>?_)
 refine jz (by kernel_rfl) (some 45) (.tmp 42) (.tmp 44) 27 _ _ _ rfl rfl rfl rfl rfl hrun ?_
 refine ah (hK _ _ q2) ?_
 intro hHeld
 clear hK K
 refine tC 11 46 (v:=?_) ?_ ?_
 rotate_left
 · exact aY
 try simp only [Act.put,PZ]
 refine rq1 12 (fun K hK=>?_)
 go_simp
 refine ah (hK _ _ q3) ?_
 intro hHeld
 clear hK K
 refine dnq ?_
 rw [←HW6.out]
 clear q0 q1 q2 q3 hHeld rS4 rS4' cS5 fS5
 go_wp2_with fail
 have ht:=jv W6 (w.heap.size+1) (.slice aq nQ cq) (.slice ad nD cd) (.int .i64 turn) (.bool fresh) (.slice (some ⟨gS,0,none⟩) nS nS)
 have cF:=ie (ln kB6 (.slice aq nQ cq) (.slice ad nD cd) (.int .i64 turn) (.bool fresh) (.slice (some ⟨gS,0,none⟩) nS nS))
 have hBf:=HB6.trans (ht.below HB6.size (fun x hx=>by simp at hx;omega))
 have hOf:=(HOw.kk ht (fun x hx=>by simp at hx;omega)).mono hbw
 unfold sg at cF hBf hOf
 exact bodyPost_ret (v:=.tuple #[.agg ((Rnd.cp ⟨aQ,nQ,cQ,q,aD,nD,cD,d,turn,fresh,some ⟨gs,os,none⟩,nS,cS,A,L,C,z⟩ aq cq ad cd gS A' C').push k s a' c').cells,.bool true]) (by simp [results,Tryz.results133,go_sem,cF,Rnd.cp,Rnd.push,Rnd.cells]) rfl ⟨_,rfl,hOf,hBf,HAl⟩):p:=h
theorem dD {p:Prop} (h:p:=by
 obtain ⟨av,cv,hvv,_⟩:=HV.read
 subst hvv
 go_wp2_with fail
 exact bodyPost_ret (v:=.tuple #[.slice av A.length cv,.bool true]) (by simp [results,Tryz.results115,go_sem]) rfl ⟨_,by rw [HA.2],HV,B9⟩):p:=h
theorem dE {p:Prop} (h:p:=by
 unfold sg at cF hBf
 exact bodyPost_ret (v:=.tuple #[.agg zR.cells,.bool false]) (by simp [results,Tryz.results133,go_sem,cF,zR,Rnd.cells]) rfl ⟨zR,rfl,Gg _ _,hBf,Alike.refl _⟩):p:=h
theorem zK (a:Option Addr) (n cap:Nat) (f:Nat→Ent) (w:World) (h1:1≤n) (h8:n≤8) (h:lD w a n f) :
  Calls Tryz.prog 129 #[.slice a n cap] w fun e w'=>e=.returned (.int .i64 (xF (iD n f)).m)∧Below w.heap.size w w':=by
 have HR:=aa h
 obtain ⟨g0,o0,rfl,c1,c2,c3⟩:=h 0 (by omega)
 simp only [Nat.zero_mul,Nat.add_zero] at c1 c2 c3
 have hn0:(0:Int)<n:=by omega
 clear h
 go_enter Tryz.func129,Tryz.ntmps129
 go_wp2_with fail
 clear c1 c2 c3
 go_loopw [11] (fun i wr=>∃ (k:Nat) (b:Ent),k≤n∧i=.int .i64 k∧((k=0∧b=f 0)∨oX (iD k f)=some b)∧wr.heap[w.heap.size]?=some (.cells #[.int .i64 b.m,.int .i64 b.p,.int .i64 b.t] 71 (0,0))∧Below w.heap.size w wr) (fun i _=>n-(intOf i).toNat)
 case atStart=>exact ⟨0,f 0,Nat.zero_le _,rfl,.inl ⟨rfl,rfl⟩,im w _,(Below.refl _ _).alloc (Nat.le_refl _) _⟩
 obtain ⟨k,b,hk,rfl,hb,hbox,hB⟩:=hrel
 have HB:=aa hb
 clear hb
 by_cases hlt:k<n
 ·
  have hlt':(k:Int)<n:=by omega
  obtain ⟨g,o,eg,c1,c2,c3⟩:=(HR.up hB) k hlt
  cases eg
  have HN:Hid (oX (iD (k+1) f)=some (if (f k).t<b.t then f k else b)):=by
   rw [Hid,jG,oS]
   rcases HB.out with ⟨rfl,rfl⟩ | hb
   ·
    simp [iD,oX,th]
   rw [hb];rfl
  generalize f k=x at *
  obtain ⟨m,p,t⟩:=x
  obtain ⟨bm,bp,bt⟩:=b
  dsimp only at c1 c2 c3 hbox HN
  have hz:=hB.size
  have hbl:=ig hbox
  have kX:=(iH (.cells #[.int .i64 m,.int .i64 p,.int .i64 t] 71) hbl).trans hbox
  have cX0:wr.cell? ⟨w.heap.size,0,none⟩=some (.int .i64 bm):=ie hbox 0
  have cX1:wr.cell? ⟨w.heap.size,1,none⟩=some (.int .i64 bp):=ie hbox 1
  have cX2:wr.cell? ⟨w.heap.size,2,none⟩=some (.int .i64 bt):=ie hbox 2
  have fX0:=ix hbox 0
  have fX1:=ix hbox 1
  have fX2:=ix hbox 2
  have cN:=ie (im wr (.cells #[.int .i64 m,.int .i64 p,.int .i64 t] 71))
  have HA:Hid (∀ ob,Below w.heap.size w (wr.alloc ob)):=fun ob=>hB.alloc hz _
  by_cases hs:t<bt
  ·
   have HN2:Hid (oX (iD (k+1) f)=some ⟨m,p,t⟩):=by rw [Hid,HN.out,if_pos hs]
   have s1:=iL (i:=0) hbox (.int .i64 m)
   have s2:=iL (i:=1) s1 (.int .i64 p)
   have s3:=iL (i:=2) s2 (.int .i64 t)
   have s4:=(iH (.cells #[.int .i64 m,.int .i64 p,.int .i64 t] 71) (ig s3)).trans s3
   have HX:=aa s4
   have B4:=((hB.setCell (p:=⟨w.heap.size,0,none⟩) (Nat.le_refl _) (.int .i64 m)).setCell (p:=⟨w.heap.size,1,none⟩) (Nat.le_refl _) (.int .i64 p)).setCell (p:=⟨w.heap.size,2,none⟩) (Nat.le_refl _) (.int .i64 t)
   have HB4:Hid (Below w.heap.size w ((((wr.setCell ⟨w.heap.size,0,none⟩ (.int .i64 m)).setCell ⟨w.heap.size,1,none⟩ (.int .i64 p)).setCell ⟨w.heap.size,2,none⟩ (.int .i64 t)).alloc (.cells #[.int .i64 m,.int .i64 p,.int .i64 t] 71))):=B4.alloc B4.size _
   clear s4 B4
   clear HN s1 s2 s3 kX hbox
   go_wp2_with fail
   go_roundw
   case rel=>exact ⟨k+1,⟨m,p,t⟩,by omega,by go_num,.inr HN2.out,HX.out,HB4.out⟩
   case measure=>simp [intOf];omega
  have HN2:Hid (oX (iD (k+1) f)=some ⟨bm,bp,bt⟩):=by rw [Hid,HN.out,if_neg hs]
  have HX:=aa kX
  clear HN kX hbox
  go_wp2_with fail
  go_roundw
  case rel=>exact ⟨k+1,⟨bm,bp,bt⟩,by omega,by go_num,.inr HN2.out,HX.out,HA _⟩
  case measure=>simp [intOf];omega
 obtain rfl:k=n:=by omega
 have HE:Hid ((xF (iD k f)).m=b.m):=by
  rcases HB.out with ⟨h0,_⟩ | hb
  ·
   omega
  rw [Hid,xF,hb];rfl
 have cX:=ie hbox
 go_wp2_with fail
 go_ret
 exact ⟨lR HE.symm,hB⟩
theorem kO (L:List Ent):iD L.length (fun i=>L.getD i default)=L:=by
 apply List.ext_getElem?
 intro i
 by_cases h:i<L.length
 ·
  simp [iD,h]
 simp [iD,h]
theorem xx {w1 w2:World} {C:Array Value} {t:TypeId} (hb:Below w1.heap.size w1 w2) (hk:w1.heap[w.heap.size]?=some (.cells C t (0,0))):w2.heap[w.heap.size]?=some (.cells C t (0,0)):=(hb.block _ (ig hk)).trans hk
theorem uB {b:Nat} (h:w.mapTurned w' b) (hj:j<w.heap.size) (hne:j≠b):w'.heap[j]?=w.heap[j]?:=h.grown.block j hj (fun e=>hne (by cases e;rfl))
theorem wZ (a:Option Addr) (n cap:Nat) (f:Nat→Ent) (m p t:Int) (A:List Ent) (b:Bool) (w:World) (hn:n≤maxLen) (h:lD w a n f) (k0:-9223372036854775808≤m) (k1:m≤9223372036854775807) (hA:Gb n f ⟨m,p,t⟩ A b) :
  Calls Tryz.prog 115 #[.slice a n cap,.int .i64 m,.int .i64 p,.int .i64 t] w fun e w'=>∃ v,e=.returned (.tuple #[v,.bool b])∧mK w' w.heap.size v A∧Below w.heap.size w w':=by
 have HR:=aa h
 have HP:=aa hA
 obtain ⟨ok,hok⟩:=sb n f
 have HO:=aa hok
 clear h hA hok
 have BX:Below w.heap.size w (w.alloc (.cells #[.int .i64 m,.int .i64 p,.int .i64 t] 71)):=(Below.refl _ _).alloc (Nat.le_refl _) _
 have kX:=im w (.cells #[.int .i64 m,.int .i64 p,.int .i64 t] 71)
 go_enter Tryz.func115,Tryz.ntmps115
 go_wp2_with fail
 refine (oD a n cap f _ hn (HR.up BX) ok HO).mono ?_
 rintro e w1 ⟨rfl,hb1⟩
 have B1:=BX.trans (hb1.mono BX.size)
 have kX1:=xx hb1 kX
 have cX:=ie kX1
 clear hb1 BX kX
 cases ok
 ·
  have HF:Hid (A=[]∧b=false):=HP.bad (fun hh=>absurd (HO.2 hh.1) (by simp))
  go_wp2_with fail
  exact bodyPost_ret (v:=.tuple #[.slice none 0 0,.bool false]) (by simp [results,Tryz.results115,go_sem]) rfl ⟨_,by rw [HF.2],by rw [HF.1];exact mK.nil _ _,B1⟩
 have HT:Hid (mA n f):=HO.1 rfl
 go_wp2_with fail
 refine (mw _ _ _ _).mono ?_
 rintro e w2 ⟨rfl,hb2⟩
 have B2:=B1.trans (hb2.mono B1.size)
 have kX2:=xx hb2 kX1
 have cX:=ie kX2
 clear hb2 B1 kX1
 by_cases hx:me ⟨m,p,t⟩
 rotate_left
 ·
  have HF:Hid (A=[]∧b=false):=HP.bad (fun hh=>hx hh.2)
  rw [decide_eq_false hx]
  clear hx
  go_wp2_with fail
  exact bodyPost_ret (v:=.tuple #[.slice none 0 0,.bool false]) (by simp [results,Tryz.results115,go_sem]) rfl ⟨_,by rw [HF.2],by rw [HF.1];exact mK.nil _ _,B2⟩
 have HX:=aa hx
 have HA:=aa (HP.good HT hx)
 rw [decide_eq_true hx]
 clear hx
 go_wp2_with fail
 refine (xw a n cap f _ HT (HR.up B2)).mono ?_
 rintro e w3 ⟨rfl,hown,hb3⟩
 have B3:=B2.trans (hb3.mono B2.size)
 have kX3:=xx hb3 kX2
 have hXl:w.heap.size<w2.heap.size:=ig kX2
 obtain ⟨bM,hbM⟩:∃ bM,bM=w2.heap.size:=⟨_,rfl⟩
 rw [←hbM] at hown ⊢
 have hM:w.heap.size<bM:=by rw [hbM];exact hXl
 have h8:=HT.1
 have hkey:keyOf Tryz.prog 2 (.int .i64 m)=some (.int .i64 m):=FP k0 k1
 clear hb3 hbM B2 kX2 cX hXl
 have HS:=aa (kM HT.2)
 obtain ⟨O,hO⟩:∃ O,O=notM m (iD n f):=⟨_,rfl⟩
 have HOs:Hid (O.Sublist (iD n f)):=by rw [Hid,hO];exact jL _ _
 have hOl:=HOs.length_le
 rw [jH] at hOl
 have HOn:Hid (∀ y∈O,y.m≠m):=fun y hy=>by rw [hO] at hy;exact sq hy
 have HOk:Hid (∀ y∈O,me y):=fun y hy=>rR HT.2 (HOs.subset hy)
 have HL:Hid (jl (iD n f) ⟨m,p,t⟩=if O.length=8 then kI ⟨m,p,t⟩ (notM (xF O).m O) else kI ⟨m,p,t⟩ O):=by rw [Hid,jl,hO]
 have HD:Hid ((mD (iD n f)).del (.int .i64 m)=mD O):=by rw [Hid,hO,Ec]
 obtain ⟨F1,F2,F3⟩:=nz HT HX.out
 have HF1:Hid (jB A):=by rw [Hid,HA.1];exact F1
 have HF2:Hid (A.length≤8):=by rw [Hid,HA.1];exact F2
 have HF3:Hid (∀ y∈A,me y):=by rw [Hid,HA.1];exact F3
 clear F1 F2 F3 hO
 by_cases h9:O.length=8
 ·
  have h9':(((O.length:Nat):Int) == 8)=true:=by simp [h9]
  have HL2:Hid (A=kI ⟨m,p,t⟩ (notM (xF O).m O)):=by rw [Hid,HA.1,HL.out,if_pos h9]
  have H9:=aa h9
  clear h9
  go_wp2_with (at_delete;refine wpList_delete_own _ rfl _ _ 73 2 rfl 71 ue Tryz.underlying73 _ bM n _ rfl hown _ _ rfl hkey ?_;intro w4 hown4 hturn4;rw [HD.out] at hown4;have hlen4:=World.ownsMap.len hown4 Tryz.underlying73 3;rw [vb] at hlen4)
  have B4:=mh B3 hturn4 B3.size (Nat.le_of_lt hM)
  have kX4:=(uB hturn4 (ig kX3) (by omega)).trans kX3
  clear hturn4 B3 kX3 hown hlen4 h9'
  refine (pC _ hown4 (HS.sub HOs) (by omega) (fun y hy=>(HOk y hy).1)).mono ?_
  rintro e w5 ⟨vO,rfl,hvO,hb5⟩
  obtain ⟨aO,cO,hv,rO⟩:=hvO.read
  subst hv
  have B5:=B4.trans (hb5.mono B4.size)
  have kX5:=xx hb5 kX4
  have hown5:mO w5 bM n O:=mO.kept hown4 (hb5.block _ (World.ownsMap.lt hown4))
  clear hb5 B4 kX4 hown4 hvO
  go_wp2_with fail
  refine (zK aO O.length cO _ _ (by have:=H9.out;omega) (by have:=H9.out;omega) rO).mono ?_
  rintro e w6 ⟨rfl,hb6⟩
  rw [kO]
  have B6:=B5.trans (hb6.mono B5.size)
  have kX6:=xx hb6 kX5
  have hown6:mO w6 bM n O:=mO.kept hown5 (hb6.block _ (World.ownsMap.lt hown5))
  clear hb6 B5 kX5 hown5 rO
  have hq:=(HOk _ (yQ (by intro e;have:=H9.out;rw [e] at this;simp at this)).1).1
  have HL3:Hid (A=kI ⟨m,p,t⟩ (notM m (notM (xF O).m O))):=by
   rw [Hid,HL2.out,mG (k:=m) (fun y hy=>HOn y ((jL _ _).subset hy))]
  have HD2:Hid ((mD O).del (.int .i64 (xF O).m)=mD (notM (xF O).m O)):=Ec _ _
  generalize (xF O).m=q at *
  have hkq:keyOf Tryz.prog 2 (.int .i64 q)=some (.int .i64 q):=FP (by omega) (by omega)
  clear hq HL2
  go_wp2_with (at_delete;refine wpList_delete_own _ rfl _ _ 73 2 rfl 71 ue Tryz.underlying73 _ bM n _ rfl hown6 _ _ rfl hkq ?_;intro w7 hown7 hturn7;rw [HD2.out] at hown7;have kX7:=(uB hturn7 (ig kX6) (by omega)).trans kX6;have cX:=ie kX7;obtain ⟨w8,hrun8,hown8,hturn8⟩:=AZ (p:=p) (t:=t) hown7 (show n<maxLen by unfold maxLen;omega) k0 k1)
  have B7:=mh B6 hturn7 B6.size (Nat.le_of_lt hM)
  have B8:=mh B7 hturn8 B7.size (Nat.le_of_lt hM)
  rw [←HL3.out] at hown8
  clear hturn7 hturn8 hrun8 hown7 hown6 B6 B7 kX6 kX7 cX
  refine (pC _ hown8 HF1 HF2 (fun y hy=>(HF3 y hy).1)).mono ?_
  rintro e w9 ⟨v,rfl,hv,hb9⟩
  have B9:=B8.trans (hb9.mono B8.size)
  have HV:=aa (hv.mono B8.size)
  clear hv hb9 B8
  exact dD
 have h9':(((O.length:Nat):Int) == 8)=false:=by simp;omega
 have HL2:Hid (A=kI ⟨m,p,t⟩ O):=by rw [Hid,HA.1,HL.out,if_neg h9]
 clear h9
 go_wp2_with (at_delete;refine wpList_delete_own _ rfl _ _ 73 2 rfl 71 ue Tryz.underlying73 _ bM n _ rfl hown _ _ rfl hkey ?_;intro w4 hown4 hturn4;rw [HD.out] at hown4;have hlen4:=World.ownsMap.len hown4 Tryz.underlying73 3;rw [vb] at hlen4;have kX4:=(uB hturn4 (ig kX3) (by omega)).trans kX3;have cX:=ie kX4;obtain ⟨w6,hrun6,hown6,hturn6⟩:=AZ (p:=p) (t:=t) hown4 (show n<maxLen by unfold maxLen;omega) k0 k1)
 have B4:=mh B3 hturn4 B3.size (Nat.le_of_lt hM)
 have B6:=mh B4 hturn6 B4.size (Nat.le_of_lt hM)
 have HL3:Hid (A=kI ⟨m,p,t⟩ (notM m O)):=by rw [Hid,HL2.out,mG (k:=m) HOn.out]
 rw [←HL3.out] at hown6
 clear hturn4 hturn6 hrun6 hown4 hown B3 B4 kX3 kX4 cX hlen4 h9'
 refine (pC _ hown6 HF1 HF2 (fun y hy=>(HF3 y hy).1)).mono ?_
 rintro e w9 ⟨v,rfl,hv,hb9⟩
 have B9:=B6.trans (hb9.mono B6.size)
 have HV:=aa (hv.mono B6.size)
 clear hv hb9 B6
 exact dD
def pM (R:Rnd) (c s:Int):Prop:=R.Ok∧(0≤c∧c<R.nQ)∧(1≤s∧s≤5)∧R.L c.toNat<1000
def D4 (R:Rnd) (c s:Int) (ok:Bool):Rnd:=if ok then R.push c.toNat s none 0 else zR
theorem Gg (w:World) (base:Nat):jD w base zR:=⟨D0 _ _,fun i hi=>absurd hi (Nat.not_lt_zero _),fun i hi=>absurd hi (Nat.not_lt_zero _),fun i hi=>absurd hi (Nat.not_lt_zero _),fun i j hi=>absurd hi (Nat.not_lt_zero _)⟩
theorem Dw (R:Rnd) (c s:Int) (w:World) (hs:R.Small) (h:mN w R) (ok:Bool) (hok:ok=true↔pM R c s) :
  Calls Tryz.prog 133 #[.agg R.cells,.int .i64 c,.int .i64 s] w fun e w'=>∃ R',e=.returned (.tuple #[.agg R'.cells,.bool ok])∧jD w' w.heap.size R'∧Below w.heap.size w w'∧Alike (D4 R c s ok) R':=by
 obtain ⟨aQ,nQ,cQ,q,aD,nD,cD,d,turn,fresh,aS,nS,cS,A,L,C,z⟩:=R
 have HR:=aa h
 have HS:=aa hs
 have HO:=aa hok
 obtain ⟨okR,hokR⟩:=uS (Rnd.Ok ⟨aQ,nQ,cQ,q,aD,nD,cD,d,turn,fresh,aS,nS,cS,A,L,C,z⟩)
 have HOR:=aa hokR
 clear h hs hok hokR
 have HA:Hid (∀ A B,Below w.heap.size w ((w.alloc A).alloc B)):=fun A B=>((Below.refl _ _).alloc (Nat.le_refl _) _).alloc (by simp) _
 dsimp only [Rnd.cells]
 go_enter Tryz.func133,Tryz.ntmps133
 go_wp2_with fail
 refine (lO ⟨aQ,nQ,cQ,q,aD,nD,cD,d,turn,fresh,aS,nS,cS,A,L,C,z⟩ _ (wy HS) (HR.up (HA _ _)) okR HOR).mono ?_
 rintro e w1 ⟨rfl,hb1⟩
 obtain ⟨kA,kB,B1,z1⟩:=rZ hb1
 clear hb1 HA
 have cA:=ie kA
 cases okR
 ·
  have HNo:Hid (¬ pM ⟨aQ,nQ,cQ,q,aD,nD,cD,d,turn,fresh,aS,nS,cS,A,L,C,z⟩ c s):=fun hh=>absurd (HOR.2 hh.1) (by simp)
  have hokF:ok=false:=by
   cases ok
   ·
    rfl
   exact absurd (HO.1 rfl) HNo
  subst hokF
  have cX:=ie kB
  have fX:=ix kB
  go_wp2_with fail
  have ht:=jv w1 (w.heap.size+1) (.slice none 0 0) (.slice none 0 0) (.int .i64 0) (.bool false) (.slice none 0 0)
  have cF:=ie (ln kB (.slice none 0 0) (.slice none 0 0) (.int .i64 0) (.bool false) (.slice none 0 0))
  have hBf:=B1.trans (ht.below B1.size (fun x hx=>by simp at hx;omega))
  exact dE
 have HRok:Hid (Rnd.Ok ⟨aQ,nQ,cQ,q,aD,nD,cD,d,turn,fresh,aS,nS,cS,A,L,C,z⟩):=HOR.1 rfl
 go_wp2_with fail
 refine (pA ⟨aQ,nQ,cQ,q,aD,nD,cD,d,turn,fresh,aS,nS,cS,A,L,C,z⟩ c _ (wy HS)).mono ?_
 rintro e w2 ⟨rfl,hb2⟩
 replace kA:=(hb2.block _ (ig kA)).trans kA
 replace kB:=(hb2.block _ (ig kB)).trans kB
 have B2:=B1.trans (hb2.mono B1.size)
 have z2:w.heap.size+2≤w2.heap.size:=Nat.le_trans z1 hb2.size
 clear hb2 B1 z1 cA
 have cA:=ie kA
 by_cases hc:0≤c∧c<(nQ:Int)
 rotate_left
 ·
  have HNo:Hid (¬ pM ⟨aQ,nQ,cQ,q,aD,nD,cD,d,turn,fresh,aS,nS,cS,A,L,C,z⟩ c s):=fun hh=>hc hh.2.1
  rw [decide_eq_false hc]
  clear hc
  exact dB
 rw [decide_eq_true hc]
 obtain ⟨k,rfl⟩:=Int.eq_ofNat_of_zero_le hc.1
 have hkQ:k<nQ:=by omega
 have hSQ:nS=nQ:=HRok.s
 have hk:k<nS:=by omega
 have hk':(k:Int)<nS:=by omega
 clear hc hSQ
 go_wp2_with fail
 refine (uf s _).mono ?_
 rintro e w2' ⟨rfl,hw⟩
 rw [hw]
 clear hw w2'
 by_cases hsz:1≤s∧s≤5
 rotate_left
 ·
  have HNo:Hid (¬ pM ⟨aQ,nQ,cQ,q,aD,nD,cD,d,turn,fresh,aS,nS,cS,A,L,C,z⟩ (k:Int) s):=fun hh=>hsz hh.2.2.1
  rw [decide_eq_false hsz]
  clear hsz
  exact dB
 rw [decide_eq_true hsz]
 have HSz:=aa hsz
 clear hsz
 have hL1:(L k:Int)≤1048576:=by have:L k≤1048576:=HS.l k hk;omega
 obtain ⟨gs,os,rfl,hcl⟩:=(HR.s.up B2) k hk
 dsimp only at hcl
 by_cases hL:(L k:Int)<1000
 rotate_left
 ·
  have HNo:Hid (¬ pM ⟨aQ,nQ,cQ,q,aD,nD,cD,d,turn,fresh,some ⟨gs,os,none⟩,nS,cS,A,L,C,z⟩ (k:Int) s):=fun hh=>hL (by have h7:L (k:Int).toNat<1000:=hh.2.2.2;simp at h7;omega)
  exact dB
 have HOk:Hid (ok=true):=HO.2 ⟨HRok.out,⟨by omega,by show (k:Int)<nQ;omega⟩,HSz.out,by show L (k:Int).toNat<1000;simp;omega⟩
 go_wp2_with fail
 refine (mf ⟨aQ,nQ,cQ,q,aD,nD,cD,d,turn,fresh,some ⟨gs,os,none⟩,nS,cS,A,L,C,z⟩ _ HS (HR.up B2)).mono ?_
 rintro e w3 ⟨aq,cq,ad,cd,gS,A',C',rfl,hZ,hb3⟩
 have kB3:=(hb3.block _ (ig kB)).trans kB
 have B3:=B2.trans (hb3.mono B2.size)
 have z3:w2.heap.size≤w3.heap.size:=hb3.size
 clear hb3 B2 kA kB cA hcl
 have hX:Below w3.heap.size w3 (w3.alloc (.cells #[.slice aq nQ cq,.slice ad nD cd,.int .i64 turn,.bool fresh,.slice (some ⟨gS,0,none⟩) nS nS] 45)).drew:=((Below.refl _ _).alloc (Nat.le_refl _) _).drew
 have kT:=im w3 (.cells #[.slice aq nQ cq,.slice ad nD cd,.int .i64 turn,.bool fresh,.slice (some ⟨gS,0,none⟩) nS nS] 45)
 have kT4:(w3.alloc (.cells #[.slice aq nQ cq,.slice ad nD cd,.int .i64 turn,.bool fresh,.slice (some ⟨gS,0,none⟩) nS nS] 45)).drew.heap[w3.heap.size]?=_:=kT
 have kB4:=(hX.block _ (ig kB3)).trans kB3
 have hZ4:=hZ.up hX
 have B4:=B3.trans (hX.mono B3.size)
 clear hX kT kB3 hZ B3
 simp only [Rnd.cp,Rnd.cells]
 go_wp2_with fail
 generalize (w3.alloc (.cells #[.slice aq nQ cq,.slice ad nD cd,.int .i64 turn,.bool fresh,.slice (some ⟨gS,0,none⟩) nS nS] 45))=Wx at *
 have hbw:w.heap.size≤w2.heap.size:=by omega
 have hz4:w2.heap.size≤Wx.drew.heap.size:=Nat.le_trans z3 (Nat.le_of_lt (ig kT4))
 obtain ⟨W4,hW4⟩:∃ W4,W4=Wx.drew:=⟨_,rfl⟩
 rw [←hW4] at kT4 kB4 hZ4 B4 hz4
 obtain ⟨a',c',W5,hrun,hP⟩:=hZ4.D8 (c:=k) (gS:=gS) hk (show L k≤1000 by omega) hz4 rfl s
 dsimp only [Rnd.cp] at hrun
 have hrow:w2.heap.size≤gS∧ja gS 27 nS (fun i=>.slice (A' i) (L i) (C' i)) nS W4:=by
  rcases hZ4.own.s with h0 | ⟨g,hg,hbg,hr⟩
  ·
   exact absurd hk (by rw [show nS=0 from h0];omega)
  cases hg
  exact ⟨hbg,hr⟩
 obtain ⟨hgS,hr4⟩:=hrow
 have hAl:=(Below.refl W4.heap.size W4).alloc (Nat.le_refl _) (.cells #[.int .i64 s] 2)
 have rS4:=hr4.at k hk
 have rS4':=(hr4.jQ (hAl.block _ hr4.lt)).at k hk
 have hne:w3.heap.size≠gS:=fun e=>by
  obtain ⟨arr,hx,_⟩:=hr4
  rw [←e,kT4] at hx
  simp at hx
 have q0:W4.cell? ⟨w3.heap.size,4,none⟩=some (.slice (some ⟨gS,0,none⟩) nS nS):=ie kT4 4
 have q1:(W4.alloc (.cells #[.int .i64 s] 2)).cell? ⟨w3.heap.size,4,none⟩=some (.slice (some ⟨gS,0,none⟩) nS nS):=ie ((hAl.block _ (ig kT4)).trans kT4) 4
 have kT5:=hP.box _ _ _ (by decide) kT4
 have q2:W5.cell? ⟨w3.heap.size,4,none⟩=some (.slice (some ⟨gS,0,none⟩) nS nS):=ie kT5 4
 have kT6:=(iE (w:=W5) (g:=gS) (i:=k) hne (.slice a' (L k+1) c')).trans kT5
 have q3:(W5.setCell ⟨gS,k,none⟩ (.slice a' (L k+1) c')).cell? ⟨w3.heap.size,4,none⟩=some (.slice (some ⟨gS,0,none⟩) nS nS):=ie kT6 4
 have cS5:=hP.row.at k hk
 have fS5:=hP.row.free k
 dsimp only [Rnd.cp] at cS5 rS4 rS4'
 obtain ⟨W6,hW6⟩:∃ W6,W6=W5.setCell ⟨gS,k,none⟩ (.slice a' (L k+1) c'):=⟨_,rfl⟩
 have HOw:Hid (jD W6 w2.heap.size ((Rnd.cp ⟨aQ,nQ,cQ,q,aD,nD,cD,d,turn,fresh,some ⟨gs,os,none⟩,nS,cS,A,L,C,z⟩ aq cq ad cd gS A' C').push k s a' c')):=by rw [Hid,hW6];exact hP.oz
 have hB6:Below w2.heap.size W4 W6:=by rw [hW6];exact hP.below
 have kB6:=(hB6.block _ (show w.heap.size+1<w2.heap.size by omega)).trans kB4
 have HB6:=aa (B4.trans (hB6.mono hbw))
 rw [←hW6] at kT6
 have cT6:=ie kT6
 have cB6:=ie kB6
 have fB6:=ix kB6
 have HAl:Hid (Alike (D4 ⟨aQ,nQ,cQ,q,aD,nD,cD,d,turn,fresh,some ⟨gs,os,none⟩,nS,cS,A,L,C,z⟩ (k:Int) s true) ((Rnd.cp ⟨aQ,nQ,cQ,q,aD,nD,cD,d,turn,fresh,some ⟨gs,os,none⟩,nS,cS,A,L,C,z⟩ aq cq ad cd gS A' C').push k s a' c')):=by
  show Alike (Rnd.push ⟨aQ,nQ,cQ,q,aD,nD,cD,d,turn,fresh,some ⟨gs,os,none⟩,nS,cS,A,L,C,z⟩ (k:Int).toNat s none 0) _
  rw [Int.toNat_natCast]
  exact ⟨rfl,rfl,rfl,rfl,rfl,rfl,rfl,rfl,rfl⟩
 have hokT:=HOk.out
 subst hokT
 have HW6:=aa hW6
 clear hP hB6 hZ4 hr4 hAl kT5 HO HOk B4 kB4 hW6
 refine wp_region_held_drew (S:=fun w'=>w'.cell? ⟨w3.heap.size,4,none⟩=some (.slice (some ⟨gS,0,none⟩) nS nS)) (by kernel_rfl) (by rw [←hW4];exact q0) (fun hHeld=>?_)
 rw [←hW4] at hHeld ⊢
 clear hW4 kT4
 refine tC 0 35 (v:=?_) ?_ ?_
 rotate_left
 · exact aY
 try simp only [Act.put,PZ]
 refine tC 1 36 (v:=?_) ?_ ?_
 rotate_left
 · exact aY
 try simp only [Act.put,PZ]
 refine tC 2 37 (v:=?_) ?_ ?_
 rotate_left
 · exact aY
 try simp only [Act.put,PZ]
 refine tC 3 38 (v:=?_) ?_ ?_
 rotate_left
 · exact aY
 try simp only [Act.put,PZ]
 refine tC 4 39 (v:=?_) ?_ ?_
 rotate_left
 · exact aY
 try simp only [Act.put,PZ]
 refine tC 5 40 (v:=?_) ?_ ?_
 rotate_left
 · exact aY
 try simp only [Act.put,PZ]
 refine tC 6 41 (v:=?_) ?_ ?_
 rotate_left
 · exact aY
 try simp only [Act.put,PZ]
 refine tC 8 43 (v:=?_) ?_ ?_
 rotate_left
 · exact aY
 try simp only [Act.put,PZ]
 refine rq2 7 9 (fun K hK=>?_) (fun K hK=>?_)
 ·
  go_simp
  refine ah (hK _ _ q0) ?_
  intro hHeld
  clear hK K
  refine rq1 9 (fun K hK=>?_)
  exact Hs
 go_simp
 refine ah (hK _ _ q1) ?_
 intro hHeld
 clear hK K
 refine rq1 7 (fun K hK=>?_)
 exact Hs
theorem qV (hl:A.length≤8) (hs:jB A) (ho:∀ y∈A,me y):mA A.length (fun i=>A.getD i default):=by
 have hg:∀ i (h:i<A.length),A.getD i default=A[i]:=fun i h=>by simp [List.getD_eq_getElem?_getD,h]
 refine ⟨hl,fun i hi=>⟨?_,fun h0=>?_⟩⟩
 ·
  show me (A.getD i default)
  rw [hg i hi]
  exact ho _ (List.getElem_mem hi)
 show (A.getD (i-1) default).m<(A.getD i default).m
 rw [hg i hi,hg (i-1) (by omega)]
 exact (List.pairwise_iff_getElem.1 hs) (i-1) i (by omega) hi (by omega)
theorem qi (h:x.nR):1≤x.s∧x.s≤20∧(1≤x.d∧x.d≤20∨x.d=255):=by
 have h2:=h.2
 have h1:=h.1
 unfold mc at h2
 simp only [decide_eq_true_eq] at h2
 omega
theorem Swg.Ok.lrn (h:S.Ok) (hi:i<S.nL) (hx:x.nR):me ⟨x.s,(i:Int),S.now⟩:=by
 have h1:=qi hx
 have h2:=h.nl
 have h3:=h.n.c.num.p
 have h4:=h.nums.now
 exact ⟨⟨h1.1,h1.2.1⟩,⟨by show (0:Int)≤(i:Int);omega,by show (i:Int)≤3;omega⟩,h4⟩
theorem Swg.Ok.Dl (h:S.Ok) (hi:i<S.nL) (hx:x.nR):mA (S.lrL i x).length (fun j=>(S.lrL i x).getD j default):=by
 obtain ⟨h1,h2,h3⟩:=nz h.seen.1 (h.lrn hi hx)
 exact qV h2 h1 h3
theorem Swg.Ok.toR (h:S.Ok) (hi:i<S.nL) (hx:x.nR):xC (S.lrL i x).length (fun j=>(S.lrL i x).getD j default) x.d S.now (S.toP i x):=by
 refine ⟨fun _ _=>?_,fun hn=>absurd ⟨h.Dl hi hx,h.nums.now⟩ hn⟩
 rw [kO]
 rfl
theorem Swg.Ok.GJ (h:S.Ok) (hi:i<S.nL) (hx:x.nR):-1≤S.toP i x∧S.toP i x≤3:=by
 unfold Swg.toP oW
 obtain ⟨_,_,h3⟩:=nz h.seen.1 (h.lrn hi hx)
 split
 ·
  rename_i hc
  have h4:(0:Int)≤(atM x.d (S.lrL i x)).p∧(atM x.d (S.lrL i x)).p≤3:=(h3 _ (sU hc.1).1).2.1
  omega
 omega
theorem mK.ogW {v:Value} (h:mK w base v A):∃ a c,v=.slice a A.length c∧OG 71 3 w base a A.length c (jd (iD A.length fun i=>A.getD i default)):=by
 rw [kO]
 rcases h.2 with ⟨e1,e2⟩ | ⟨g,cap,cur,e1,_⟩
 ·
  refine ⟨none,0,by rw [e1,e2],?_⟩
  have h':w.ownsRow base 71 3 v A.length (jd A):=h
  rw [e1] at h'
  show w.ownsRow base 71 3 (.slice none A.length 0) A.length (jd A)
  rw [e2] at h' ⊢
  exact h'
 refine ⟨some ⟨g,0,none⟩,cap,e1,?_⟩
 have h':w.ownsRow base 71 3 v A.length (jd A):=h
 rw [e1] at h'
 exact h'
theorem iG.jm {aE:Option Addr} {cE:Nat} (h:iG w base P) (he:OG 71 3 w base aE (P.lrL port x).length cE (jd (iD (P.lrL port x).length fun i=>(P.lrL port x).getD i default))):iG w base (P.jm port x aE cE):=⟨he,h.n,h.k,h.l,h.un⟩
theorem iG.counts {W:World} {M:Cnt} (h:iG w base P) (hb:Below w.heap.size w W) (hm:w.heap.size≤m) (hbs:base≤w.heap.size) (hM:iN W m M) (nx:Int):iG W base { P with N:=M,nx:=nx }:=by
 refine ⟨h.e.up hb,hM.mono (by omega),h.k.up hb,h.l.up hb,fun x hx hy=>?_⟩
 have h1:=(hM.u.blk x hx).1
 simp only [List.mem_flatMap,List.mem_range] at hy
 obtain ⟨i,hi,hy⟩:=hy
 have h2:=((h.l.ls i hi).blk x hy).2
 omega
theorem iG.lane {gL gp:Nat} {l2:Lng} {cur cp:Array Value} (h:iG w base P) (hi:i<P.nL) (eL:P.aL=some ⟨gL,0,none⟩) (kL:w.heap[gL]?=some (.cells cur 47 (0,0))) (kP:w.heap[gp]?=some (.cells cp 51 (0,0))) (hgp:gp∉iI P.aK) (hn:Es w w' base gL gp (i*8) cur (P.L i) l2) :
  iG w' base { P with L:=fun k=>if k=i then l2 else P.L k }:=by
 obtain ⟨T,hto,hT⟩:=hn.hit
 have oi:=h.l.ls i hi
 have far:∀ {x:Nat} {cs:Array Value} {t:TypeId},w.heap[x]?=some (.cells cs t (0,0))→t≠47→t≠51→t≠2→t≠27→x∉T:=by
  intro x cs t kx h1 h2 h3 h4 hx
  rcases hT x hx with e | e | e | e
  ·
   exact iT kx kL h1 e
  ·
   exact iT kx kP h2 e
  ·
   obtain ⟨c2,k2⟩:=oi.type2 x e
   exact iT kx k2 h3 rfl
  obtain ⟨c2,k2⟩:=oi.xL x e
  exact iT kx k2 h4 rfl
 refine ⟨h.e.iu hto (fun x hx=>?_),⟨h.n.u.iu hto (fun x hx hy=>?_),h.n.p.iu hto (fun x hx=>?_)⟩,h.k.iu hto (fun x hx hy=>?_),h.l.swap hi eL kL kP hn,fun x hx hy=>?_⟩
 ·
  obtain ⟨cs,k⟩:=h.e.type x hx
  exact far k (by decide) (by decide) (by decide) (by decide)
 ·
  obtain ⟨cs,k⟩:=h.n.u.type x hx
  rcases hT x hy with e | e | e | e
  ·
   exact iT k kL (by decide) e
  ·
   exact iT k kP (by decide) e
  ·
   exact h.un x hx (by simp only [List.mem_flatMap,List.mem_range];exact ⟨i,hi,e⟩)
  obtain ⟨c2,k2⟩:=oi.xL x e
  exact iT k k2 (by decide) rfl
 ·
  obtain ⟨cs,k⟩:=h.n.p.type x hx
  exact far k (by decide) (by decide) (by decide) (by decide)
 ·
  obtain ⟨cs,k⟩:=h.k.type x hx
  rcases hT x hy with e | e | e | e
  ·
   exact iT k kL (by decide) e
  ·
   exact hgp (e▸hx)
  ·
   obtain ⟨c2,k2⟩:=oi.type2 x e
   exact iT k k2 (by decide) rfl
  obtain ⟨c2,k2⟩:=oi.xL x e
  exact iT k k2 (by decide) rfl
 simp only [List.mem_flatMap,List.mem_range] at hy
 obtain ⟨k,hk,hy⟩:=hy
 have hy':x∈(if k=i then l2 else P.L k).jN:=hy
 by_cases e:k=i
 ·
  rw [if_pos e] at hy'
  rcases hn.z x hy' with e1 | e1
  ·
   exact h.un x hx (by simp only [List.mem_flatMap,List.mem_range];exact ⟨i,hi,e1⟩)
  have:=(h.n.u.blk x hx).2
  omega
 rw [if_neg e] at hy'
 exact h.un x hx (by simp only [List.mem_flatMap,List.mem_range];exact ⟨k,hk,hy'⟩)
theorem tL (h:lQ nx p m K):∀ {a b:Nat},a≤b→b≤m→iM K a≤iM K b:=by
 intro a b
 induction b with
 | zero =>
  intro h1 _
  have e:a=0:=by omega
  rw [e]
  exact Int.le_refl _
 | succ b ih =>
  intro h1 h2
  by_cases e:a=b+1
  ·
   subst e;exact Int.le_refl _
  have:=ih (by omega) (by omega)
  have hc:=(h.one b (by omega)).2.2.cl
  show iM K a≤iM K b+_
  split <;> omega
theorem pD.lo (h:pD n z prio m K) (hK:lQ nx p m K) (hp:prio≠2):(n:Int)≤iM K m:=by
 have key:∀ k,k≤n→∀ j,j<m→(0<k→(K j).id=z (k-1)∧(K j).p=prio)→(k:Int)≤iM K (j+1):=by
  intro k
  induction k with
  | zero=>intro _ j hj _;have:=(pN hK (j+1) (by omega)).1;omega
  | succ k ih =>
   intro hk j hj e
   obtain ⟨e1,e3⟩:=e (by omega)
   rw [Nat.add_sub_cancel] at e1
   have hc:=(hK.one j hj).2.2.cl
   have hs:iM K (j+1)=iM K j+(K j).cl:=by
    show iM K j+_=_
    rw [if_neg (by rw [e3];exact hp)]
   by_cases h0:k=0
   ·
    have:=(pN hK j (by omega)).1
    omega
   obtain ⟨⟨j',hj',e2,e4⟩,hr⟩:=h (k-1) (by omega)
   have hlt:=(h k (by omega)).2 (by omega)
   have:=ih (by omega) j' hj' (fun _=>⟨e2,e4⟩)
   have hjj:j'<j:=by
    have hu:=oa hK.up j' j
    by_cases c:j'<j
    ·
     exact c
    by_cases c2:j=j'
    ·
     subst c2;omega
    have:=hu (by omega) hj'
    omega
   have:=tL hK (show j'+1≤j by omega) (by omega)
   omega
 by_cases h0:n=0
 ·
  have:=(pN hK m (Nat.le_refl _)).1
  omega
 obtain ⟨⟨j,hj,e,e2⟩,_⟩:=h (n-1) (by omega)
 have h1:=key n (Nat.le_refl _) j hj (fun _=>⟨e,e2⟩)
 have:=tL hK (show j+1≤m by omega) (Nat.le_refl _)
 omega
theorem Swg.Ok.room (h:S.Ok) (hi:i<S.nL) (hx:x.nR) {k:Nat} (hk:x.p=(k:Int)) (h2:x.p≠2):k<2∧pM (S.L i).R (k:Int) x.cl∧(S.L i).uL k≤1000:=by
 have hl:=h.l i hi
 have hp:=hx.pr
 have hk2:k<2:=by omega
 obtain ⟨z1,z2,_⟩:=hl.z k hk2
 have hlo:=z1.lo h.k (by omega)
 have h5:=h.held.1
 have h6:=h.n.lo
 have h7:=h.n.c.sum
 have h8:=h.n.c.num
 have h9:=h8.c
 have h10:=h8.xo
 have h11:=h8.hd
 have h12:=h8.p
 have h13:1≤S.C.p*(S.C.xo+S.C.hd):=by
  have a1:(1:Int)≤S.C.p:=by omega
  have a2:(1:Int)≤S.C.xo+S.C.hd:=by omega
  calc (1:Int)=1*1:=rfl
   _≤S.C.p*(S.C.xo+S.C.hd):=Int.mul_le_mul a1 a2 (by omega) (by omega)
 have hn:(S.L i).uL k<1000:=by omega
 refine ⟨hk2,⟨hl.r,⟨by omega,by rw [hl.n];omega⟩,hx.cl,?_⟩,by omega⟩
 rw [Int.toNat_natCast,←z2]
 exact hn
theorem Db {R:Rnd} {c:Nat} {s:Int} (h:pM R (c:Int) s) (a:Option Addr) (k:Nat):(R.push c s a k).Ok:=by
 obtain ⟨ho,hc,hs,hl⟩:=h
 rw [Int.toNat_natCast] at hl
 refine ⟨ho.n,ho.d,ho.s,ho.t,fun i hi=>?_⟩
 obtain ⟨h1,h2,h3⟩:=ho.c i hi
 show vH (R.q i) (R.d i) (if i=c then R.L c+1 else R.L i) (fun j=>if i=c then jM (R.L c) s (R.z c) j else R.z i j) (R.begun i)
 by_cases e:i=c
 ·
  subst e
  simp only [if_true]
  refine ⟨h1,⟨by omega,fun j hj=>?_⟩,?_⟩
  ·
   show 1≤jM _ s _ j∧jM _ s _ j≤5
   unfold jM
   split
   ·
    exact hs
   exact h2.2 j (by omega)
  unfold ry at h3 ⊢
  rw [if_neg (by omega)]
  split at h3
  ·
   rw [h3]
   refine ⟨Int.le_refl _,?_⟩
   split <;> omega
  exact h3
 simp only [if_neg e]
 exact ⟨h1,h2,h3⟩
def AG (K:Nat→Pkt) (n:Nat):Nat→Int
 | 0=>0
 | P+1=>AG K n P+jI K (P:Int) n
theorem wg (K:Nat→Pkt):∀ P,AG K 0 P=0
 | 0=>rfl
 | P+1=>by
  show AG K 0 P+0=0
  rw [wg K P]
  rfl
theorem wh (K:Nat→Pkt) (n:Nat):∀ P:Nat,AG K (n+1) P=AG K n P+if (K n).p=2∧0≤(K n).inn∧(K n).inn<(P:Int) then (K n).cl else 0
 | 0=>by
  show (0:Int)=0+_
  rw [if_neg (fun h=>by have h2:=h.2.1;have h3:=h.2.2;omega)]
  rfl
 | P+1=>by
  have ih:=wh K n P
  show AG K (n+1) P+(jI K (P:Int) n+if (K n).p=2∧(K n).inn=(P:Int) then (K n).cl else 0)=AG K n P+jI K (P:Int) n+_
  rw [ih]
  by_cases h2:(K n).p=2
  ·
   by_cases e:(K n).inn=(P:Int)
   ·
    rw [if_neg (fun h=>by omega),if_pos ⟨h2,e⟩,if_pos ⟨h2,by omega,by omega⟩]
    omega
   by_cases c:0≤(K n).inn∧(K n).inn<(P:Int)
   ·
    rw [if_pos ⟨h2,c⟩,if_neg (fun h=>e h.2),if_pos ⟨h2,c.1,by omega⟩]
    omega
   rw [if_neg (fun h=>c h.2),if_neg (fun h=>e h.2),if_neg (fun h=>c ⟨h.2.1,by omega⟩)]
   omega
  rw [if_neg (fun h=>h2 h.1),if_neg (fun h=>h2 h.1),if_neg (fun h=>h2 h.1)]
  omega
theorem zl {p:Int} {m:Nat} {K:Nat→Pkt} (h:∀ i,i<m→(0≤(K i).inn∧(K i).inn≤p-1)∧(K i).nR) {P:Nat} (hP:(P:Int)=p):∀ n,n≤m→(n:Int)≤AG K n P+iM K n
 | 0,_=>by rw [wg];exact Int.le_refl _
 | n+1,hn=>by
  have ih:=zl h hP n (by omega)
  obtain ⟨o2,o3⟩:=h n (by omega)
  have hc:=o3.cl
  rw [wh]
  show ((n+1:Nat):Int)≤AG K n P+(if (K n).p=2∧0≤(K n).inn∧(K n).inn<(P:Int) then (K n).cl else 0)+(iM K n+if (K n).p=2 then 0 else (K n).cl)
  by_cases e:(K n).p=2
  ·
   rw [if_pos ⟨e,o2.1,by omega⟩,if_pos e]
   omega
  rw [if_neg (fun h=>e h.1),if_neg e]
  omega
theorem Dc {C:Cfg} {N:Cnt} {P:Nat} (hc:Cnt.Ok C N) (hp:(P:Int)=C.p) (h1:∀ j,j<n→(0≤(K j).inn∧(K j).inn≤C.p-1)∧(K j).nR) (hl:N.lo=iM K n) (hu:∀ q,q<N.nU→N.u q=jI K (q:Int) n):n≤1000:=by
 have h2:=zl h1 hp n (Nat.le_refl _)
 have hn:=hc.c.num.p
 have hs:=hc.c.sum
 have hcc:=hc.c.num.c
 have hlo:=hc.lo
 have hnU:=hc.nU
 have hq:∀ q,q<P→jI K (q:Int) n≤C.xo+C.hd:=fun q hq=>by rw [←hu q (by omega)];exact (hc.u q (by omega)).2
 have:P=2∨P=3∨P=4:=by omega
 rcases this with rfl | rfl | rfl
 ·
  have a:=hq 0 (by omega)
  have b:=hq 1 (by omega)
  have e:AG K n 2=0+jI K ((0:Nat):Int) n+jI K ((1:Nat):Int) n:=rfl
  have hp2:C.p=2:=by omega
  rw [hp2] at hs
  omega
 ·
  have a:=hq 0 (by omega)
  have b:=hq 1 (by omega)
  have c:=hq 2 (by omega)
  have e:AG K n 3=0+jI K ((0:Nat):Int) n+jI K ((1:Nat):Int) n+jI K ((2:Nat):Int) n:=rfl
  have hp2:C.p=3:=by omega
  rw [hp2] at hs
  omega
 have a:=hq 0 (by omega)
 have b:=hq 1 (by omega)
 have c:=hq 2 (by omega)
 have d:=hq 3 (by omega)
 have e:AG K n 4=0+jI K ((0:Nat):Int) n+jI K ((1:Nat):Int) n+jI K ((2:Nat):Int) n+jI K ((3:Nat):Int) n:=rfl
 have hp2:C.p=4:=by omega
 rw [hp2] at hs
 omega
theorem Bf {z z':Nat→Int} {y:Int}:∀ n,(∀ i,i<n→z i=z' i)→occ z y n=occ z' y n
 | 0,_=>rfl
 | n+1,h=>by
  show occ z y n+_=occ z' y n+_
  rw [Bf n (fun i hi=>h i (by omega)),h n (by omega)]
theorem pR (h:j<n):jM n v z j=z j:=if_neg (by omega)
theorem qD:jM n v z n=v:=if_pos rfl
theorem uU (z:Nat→Int) (n:Nat) (v y:Int):occ (jM n v z) y (n+1)=occ z y n+if v=y then 1 else 0:=by
 show occ (jM n v z) y n+(if jM n v z n=y then 1 else 0)=_
 rw [Bf (z':=z) n (fun i hi=>pR hi),qD]
theorem pS (h:l.nU=2) (y:Int):l.ua y=occ l.t y l.nT+(0+occ (l.uz 0) y (l.uL 0)+occ (l.uz 1) y (l.uL 1)):=by
 unfold Lng.ua
 rw [h]
 rfl
theorem CH (hu:l.nU=2) (hp:0≤p∧p≤2) (id cl y:Int):(l.wait p id cl).ua y=l.ua y+if id=y then 1 else 0:=by
 have hw:(l.wait p id cl).nU=2:=by unfold Lng.wait;split <;> exact hu
 rw [pS hw,pS hu]
 unfold Lng.wait
 by_cases e:p=2
 ·
  rw [if_pos e]
  show occ (jM l.nT id l.t) y (l.nT+1)+(0+occ (l.uz 0) y (l.uL 0)+occ (l.uz 1) y (l.uL 1))=_
  rw [uU]
  omega
 rw [if_neg e]
 have hk:p.toNat=0∨p.toNat=1:=by omega
 show occ l.t y l.nT+(0+occ (fun j=>if 0=p.toNat then jM (l.uL p.toNat) id (l.uz p.toNat) j else l.uz 0 j) y (if 0=p.toNat then l.uL p.toNat+1 else l.uL 0)+occ (fun j=>if 1=p.toNat then jM (l.uL p.toNat) id (l.uz p.toNat) j else l.uz 1 j) y (if 1=p.toNat then l.uL p.toNat+1 else l.uL 1))=_
 rcases hk with h | h
 ·
  rw [h]
  simp only [if_true,show ¬ (1=0) by omega,if_false]
  have:=uU (l.uz 0) (l.uL 0) id y
  show occ l.t y l.nT+(0+occ (jM (l.uL 0) id (l.uz 0)) y (l.uL 0+1)+occ (l.uz 1) y (l.uL 1))=_
  omega
 rw [h]
 simp only [if_true,show ¬ (0=1) by omega,if_false]
 have:=uU (l.uz 1) (l.uL 1) id y
 show occ l.t y l.nT+(0+occ (l.uz 0) y (l.uL 0)+occ (jM (l.uL 1) id (l.uz 1)) y (l.uL 1+1))=_
 omega
structure AE (m:Nat) (K K':Nat→Pkt) (id p cl:Int):Prop where
 same:∀ j,j<m→K' j=K j
 nid:(K' m).id=id
 np:(K' m).p=p
 ncl:(K' m).cl=cl
 lt:∀ j,j<m→(K j).id<id
theorem pD.more (h:pD n z prio m K) (hk:AE m K K' id p cl):pD n z prio (m+1) K':=fun i hi=>by
 obtain ⟨⟨j,j1,j2,j3⟩,h2⟩:=h i hi
 exact ⟨⟨j,by omega,by rw [hk.same j j1];exact j2,by rw [hk.same j j1];exact j3⟩,h2⟩
theorem pD.lt (h:pD n z prio m K) (hk:AE m K K' id p cl):∀ i,i<n→z i<id:=fun i hi=>by
 obtain ⟨⟨j,j1,j2,j3⟩,h2⟩:=h i hi
 rw [←j2]
 exact hk.lt j j1
theorem pD.push (h:pD n z p m K) (hk:AE m K K' id p cl):pD (n+1) (jM n id z) p (m+1) K':=fun i hi=>by
 by_cases e:i=n
 ·
  subst e
  rw [qD]
  refine ⟨⟨m,by omega,hk.nid,hk.np⟩,fun h0=>?_⟩
  rw [pR (by omega)]
  exact h.lt hk (i-1) (by omega)
 obtain ⟨h1,h2⟩:=h.more hk i (by omega)
 rw [pR (by omega)]
 exact ⟨h1,fun h0=>by rw [pR (by omega)];exact h2 h0⟩
theorem nN.more (h:nN m K l) (hk:AE m K K' id p cl):nN (m+1) K' l:=by
 refine ⟨h.r,h.n,h.q0,h.q1,h.u,fun c hc=>⟨(h.z c hc).1.more hk,(h.z c hc).2.1,fun i hi j hj e=>?_⟩,h.t.more hk⟩
 by_cases c2:j=m
 ·
  subst c2
  rw [hk.nid] at e
  have:=(h.z c hc).1.lt hk i hi
  omega
 rw [hk.same j (by omega)] at e ⊢
 exact (h.z c hc).2.2 i hi j (by omega) e
theorem nN.wait (h:nN m K l) (hk:AE m K K' id p cl) (hp:0≤p∧p≤2) (hr:∀ c:Nat,p=(c:Int)→p≠2→pM l.R (c:Int) cl):nN (m+1) K' (l.wait p id cl):=by
 have hm:=h.more hk
 unfold Lng.wait
 by_cases e:p=2
 ·
  rw [if_pos e]
  subst e
  exact ⟨h.r,h.n,h.q0,h.q1,h.u,hm.z,h.t.push hk⟩
 rw [if_neg e]
 obtain ⟨c,rfl⟩:∃ c:Nat,p=(c:Int):=⟨p.toNat,by omega⟩
 rw [Int.toNat_natCast]
 refine ⟨Db (hr c rfl e) _ _,h.n,h.q0,h.q1,h.u,fun d hd=>?_,hm.t⟩
 obtain ⟨z1,z2,z3⟩:=h.z d hd
 show pD (if d=c then l.uL c+1 else l.uL d) (fun j=>if d=c then jM (l.uL c) id (l.uz c) j else l.uz d j) (d:Int) (m+1) K'∧(if d=c then l.uL c+1 else l.uL d)=(if d=c then l.R.L c+1 else l.R.L d)∧∀ i,i<(if d=c then l.uL c+1 else l.uL d)→∀ j,j<m+1→(K' j).id=(if d=c then jM (l.uL c) id (l.uz c) i else l.uz d i)→(if d=c then jM (l.R.L c) cl (l.R.z c) i else l.R.z d i)=(K' j).cl
 by_cases ed:d=c
 ·
  subst ed
  simp only [if_true]
  refine ⟨z1.push hk,by rw [z2],fun i hi j hj ej=>?_⟩
  rw [←z2]
  by_cases ei:i=l.uL d
  ·
   subst ei
   rw [qD] at ej ⊢
   by_cases c2:j=m
   ·
    subst c2
    exact hk.ncl.symm
   rw [hk.same j (by omega)] at ej
   have:=hk.lt j (by omega)
   omega
  rw [pR (by omega)] at ej ⊢
  exact (hm.z d hd).2.2 i (by omega) j hj ej
 simp only [if_neg ed]
 exact ⟨z1.more hk,z2,(hm.z d hd).2.2⟩
theorem tZ {S:Swg} {port dst:Int} {x:Pkt} (hx:0≤x.p∧x.p≤2) (hu:∀ i,i<S.nL→(S.L i).nU=2) (y:Int):∀ n,n≤S.nL→lS (S.jx port dst x S.nL) y n=lS S.L y n+if S.nx=y then kY dst port n else 0
 | 0,_=>by
  show 0=0+_
  split <;> rfl
 | n+1,hn=>by
  have ih:=tZ (port:=port) (dst:=dst) hx hu y n (by omega)
  show lS (S.jx port dst x S.nL) y n+(S.jx port dst x S.nL n).ua y=lS S.L y n+(S.L n).ua y+if S.nx=y then kY dst port n+(if jj n dst port=true then 1 else 0) else 0
  rw [ih]
  have e:(S.jx port dst x S.nL n).ua y=(S.L n).ua y+if jj (n:Int) dst port=true then (if S.nx=y then 1 else 0) else 0:=by
   unfold Swg.jx
   by_cases hb:jj (n:Int) dst port=true
   ·
    rw [if_pos (show n<S.nL∧jj (n:Int) dst port=true from ⟨by omega,hb⟩),CH (hu n (by omega)) hx,if_pos hb]
   rw [if_neg (fun h:n<S.nL∧jj (n:Int) dst port=true=>hb h.2),if_neg hb]
   rfl
  rw [e]
  by_cases h1:S.nx=y
  ·
   simp only [if_pos h1]
   omega
  simp only [if_neg h1]
  split <;> omega
theorem uV (h:∀ i,i<n→z i<y):occ z y n=0:=by
 by_cases h0:0<occ z y n
 ·
  obtain ⟨i,hi,e⟩:=sl.1 h0
  have:=h i hi
  omega
 omega
theorem wK {L:Nat→Lng} {y:Int}:∀ n,(∀ i,i<n→(L i).ua y=0)→lS L y n=0
 | 0,_=>rfl
 | n+1,h=>by
  show lS L y n+(L n).ua y=0
  rw [wK n (fun i hi=>h i (by omega)),h n (by omega)]
theorem Dz {src:Int} (hs:0≤src∧src<n) (hn:2≤n) (hd:dst≠src) (hr:dst=-1∨0≤dst∧dst<n):1≤kY dst src n:=by
 have key:∀ m k:Nat,k<m→jj (k:Int) dst src=true→1≤kY dst src m:=by
  intro m
  induction m with
  | zero=>intro k hk;omega
  | succ m ih =>
   intro k hk hb
   show 1≤kY dst src m+_
   by_cases e:k=m
   ·
    subst e
    rw [if_pos hb]
    omega
   have:=ih k (by omega) hb
   omega
 rcases hr with h | h
 ·
  by_cases c:src=0
  ·
   exact key n 1 (by omega) (by unfold jj;rw [if_pos h];simp;omega)
  exact key n 0 (by omega) (by unfold jj;rw [if_pos h];simp;omega)
 exact key n dst.toNat (by omega) (by unfold jj;rw [if_neg (by omega)];simp;omega)
theorem EU {y:Ent} (h:y∈S.lrL port x):y=⟨x.s,port,S.now⟩∨y∈iD S.nE S.e:=by
 unfold Swg.lrL jl at h
 split at h
 ·
  rcases nv.1 h with e | e
  ·
   exact .inl e
  exact .inr ((jL _ _).subset ((jL _ _).subset e))
 rcases nv.1 h with e | e
 ·
  exact .inl e
 exact .inr ((jL _ _).subset e)
theorem vA {f:Nat→Ent} {y:Ent} (h:y∈iD n f):∃ i,i<n∧f i=y:=by
 unfold iD at h
 simpa using h
theorem Swg.Ok.GQ (h:S.Ok) (hi:i<S.nL) :∀ y∈S.lrL i x,y.p<S.C.p∧y.t≤S.now:=fun y hy=>by
 rcases EU hy with rfl | hy
 ·
  have:=h.nl
  exact ⟨by show (i:Int)<_;omega,Int.le_refl _⟩
 obtain ⟨j,hj,rfl⟩:=vA hy
 exact h.seen.2 j hj
theorem Swg.Ok.GI (h:S.Ok) (hi:i<S.nL) (hx:x.nR):S.toP i x=-1∨0≤S.toP i x∧S.toP i x<S.C.p:=by
 have h0:=(h.GJ hi hx).1
 unfold Swg.toP oW at h0 ⊢
 split
 ·
  rename_i hc
  have:=(h.GQ hi _ (sU hc.1).1).1
  rw [if_pos hc] at h0
  by_cases e:(atM x.d (S.lrL i x)).p=-1
  ·
   exact .inl e
  exact .inr ⟨by omega,this⟩
 exact .inl rfl
theorem Swg.Ok.jm (h:S.Ok) (hi:i<S.nL) (hx:x.nR) (a:Option Addr) (c:Nat):(S.jm i x a c).Ok:=by
 refine ⟨h.n,⟨h.nums.now,h.nums.nx,h.nums.dr,h.nums.lst⟩,⟨h.Dl hi hx,fun j hj=>?_⟩,h.k,h.nl,h.l,h.refs,h.held⟩
 have hj':j<(S.lrL i x).length:=hj
 show ((S.lrL i x).getD j default).p<S.C.p∧((S.lrL i x).getD j default).t≤S.now
 have e:(S.lrL i x).getD j default=(S.lrL i x)[j]:=by simp [List.getD_eq_getElem?_getD,hj']
 rw [e]
 exact h.GQ hi _ (List.getElem_mem hj')
theorem Swg.Ok.lG (h:S.Ok) (p:Int):(S.lG p).Ok:=by
 have h1:=h.nums.lst
 have h2:=h.nums.dr
 unfold Swg.lG
 split
 ·
  exact ⟨h.n,⟨h.nums.now,h.nums.nx,h.nums.dr,by show 0≤min (S.lst+1) 1000000000∧min (S.lst+1) 1000000000≤1000000000;omega⟩,h.seen,h.k,h.nl,h.l,h.refs,h.held⟩
 exact ⟨h.n,⟨h.nums.now,h.nums.nx,by show 0≤min (S.dr+1) 1000000000∧min (S.dr+1) 1000000000≤1000000000;omega,h.nums.lst⟩,h.seen,h.k,h.nl,h.l,h.refs,h.held⟩
theorem Swg.Ok.stop (h:S.Ok) (hi:i<S.nL) (b:Bool):(S.stop i b).Ok:=by
 refine ⟨h.n,⟨h.nums.now,h.nums.nx,h.nums.dr,h.nums.lst⟩,h.seen,h.k,h.nl,fun k hk=>?_,fun j hj=>?_,h.held⟩
 ·
  show nN S.nK S.K (if k=i then ({ S.L i with st:=b }:Lng) else S.L k)
  have hl:=h.l i hi
  split
  ·
   exact ⟨hl.r,hl.n,hl.q0,hl.q1,hl.u,hl.z,hl.t⟩
  exact h.l k hk
 have h1:=h.refs j hj
 have hu:=(h.l i hi).u
 have h2:=sn S.L i { S.L i with st:=b } (S.K j).id 0 (by rw [Nat.add_zero,pS (l:={ S.L i with st:=b }) hu,pS hu]) S.nL
 show 1≤(S.K j).refs∧(S.K j).refs=((lS (fun k=>if k=i then ({ S.L i with st:=b }:Lng) else S.L k) (S.K j).id S.nL:Nat):Int)
 rw [show lS (fun k=>if k=i then ({ S.L i with st:=b }:Lng) else S.L k) (S.K j).id S.nL=lS S.L (S.K j).id S.nL by
  have e:(if i<S.nL then 0 else 0)=0:=by split <;> rfl
  rw [e] at h2
  exact h2]
 exact h1
theorem Swg.Ok.waits (h:S.Ok) (hi:i<S.nL) (hx:x.nR) (hd:dst≠i) (hr:dst=-1∨0≤dst∧dst<S.C.p) (hn:Cnt.Ok S.C (lq S.N i x.p x.cl)) (hnx:S.nx≠1000000000):(S.waits i x dst).Ok:=by
 have hpr:=hx.pr
 have hnl:=h.nl
 have hp4:=h.n.c.num.p
 have hnx1:=h.nums.nx
 obtain ⟨K',eK⟩:∃ K',(fun j=>if j=S.nK then S.pkt i x (kY dst i S.nL) else S.K j)=K':=⟨_,rfl⟩
 have hK:AE S.nK S.K K' S.nx x.p x.cl:=by
  subst eK
  refine ⟨fun j hj=>if_neg (by omega),?_,?_,?_,fun j hj=>?_⟩
  ·
   show (if S.nK=S.nK then S.pkt i x (kY dst i S.nL) else S.K S.nK).id=S.nx
   rw [if_pos rfl];rfl
  ·
   show (if S.nK=S.nK then S.pkt i x (kY dst i S.nL) else S.K S.nK).p=x.p
   rw [if_pos rfl];rfl
  ·
   show (if S.nK=S.nK then S.pkt i x (kY dst i S.nL) else S.K S.nK).cl=x.cl
   rw [if_pos rfl];rfl
  have:=(h.k.one j hj).1.2
  omega
 have hKi:(K' S.nK).inn=(i:Int)∧(K' S.nK).nR∧(K' S.nK).refs=((kY dst i S.nL:Nat):Int):=by
  subst eK
  show (if S.nK=S.nK then S.pkt i x (kY dst i S.nL) else S.K S.nK).inn=_∧(if S.nK=S.nK then S.pkt i x (kY dst i S.nL) else S.K S.nK).nR∧(if S.nK=S.nK then S.pkt i x (kY dst i S.nL) else S.K S.nK).refs=_
  rw [if_pos rfl]
  exact ⟨rfl,hx,rfl⟩
 have hone:∀ j,j<S.nK+1→(1≤(K' j).id∧(K' j).id≤S.nx+1-1)∧(0≤(K' j).inn∧(K' j).inn≤S.C.p-1)∧(K' j).nR:=fun j hj=>by
  by_cases e:j=S.nK
  ·
   subst e
   rw [hK.nid,hKi.1]
   exact ⟨by omega,by omega,hKi.2.1⟩
  rw [hK.same j (by omega)]
  obtain ⟨a,b,c⟩:=h.k.one j (by omega)
  exact ⟨by omega,b,c⟩
 have hsl:iM K' (S.nK+1)=iM S.K S.nK+if x.p=2 then 0 else x.cl:=by
  show iM K' S.nK+(if (K' S.nK).p=2 then 0 else (K' S.nK).cl)=_
  rw [qB (K':=S.K) S.nK (fun j hj=>hK.same j hj),hK.np,hK.ncl]
 have hsu:∀ q:Int,jI K' q (S.nK+1)=jI S.K q S.nK+if x.p=2∧(i:Int)=q then x.cl else 0:=fun q=>by
  show jI K' q S.nK+(if (K' S.nK).p=2∧(K' S.nK).inn=q then (K' S.nK).cl else 0)=_
  rw [sc (K':=S.K) S.nK (fun j hj=>hK.same j hj),hK.np,hK.ncl,hKi.1]
 have hN:(lq S.N (i:Int) x.p x.cl).lo=iM K' (S.nK+1)∧∀ q,q<(lq S.N (i:Int) x.p x.cl).nU→(lq S.N (i:Int) x.p x.cl).u q=jI K' (q:Int) (S.nK+1):=by
  rw [hsl]
  by_cases e:x.p=2
  ·
   rw [e,mx]
   refine ⟨by rw [if_pos rfl,Int.add_zero];exact h.held.1,fun q hq=>?_⟩
   have hq':q<S.N.nU:=hq
   rw [hsu,e]
   show (if q=i then S.N.u q+x.cl else S.N.u q)=_
   have:=h.held.2 q hq'
   by_cases c:q=i
   ·
    rw [if_pos c,if_pos ⟨rfl,by omega⟩];omega
   rw [if_neg c,if_neg (fun hh=>c (by omega))];omega
  rw [lC e,if_neg e]
  refine ⟨by show S.N.lo+x.cl=_;have:=h.held.1;omega,fun q hq=>?_⟩
  rw [hsu,if_neg (fun hh=>e hh.1),Int.add_zero]
  exact h.held.2 q hq
 have hle:=Dc hn hnl (fun j hj=>(hone j hj).2) hN.1 hN.2
 have hlw:∀ k,k<S.nL→nN (S.nK+1) K' (S.jx i dst x S.nL k):=fun k hk=>by
  unfold Swg.jx
  split
  ·
   exact (h.l k hk).wait hK hpr (fun c hc h2=>(h.room hk hx hc h2).2.1)
  exact (h.l k hk).more hK
 have hshow:(S.waits i x dst)={ S with N:=lq S.N i x.p x.cl,nx:=S.nx+1,nK:=S.nK+1,K:=K',L:=S.jx i dst x S.nL }:=by rw [←eK];rfl
 rw [hshow]
 refine ⟨hn,⟨h.nums.now,by show 1≤S.nx+1∧S.nx+1≤1000000000;omega,h.nums.dr,h.nums.lst⟩,h.seen,⟨hle,hone,fun j hj h0=>?_⟩,h.nl,hlw,fun j hj=>?_,hN⟩
 ·
  show (K' (j-1)).id<(K' j).id
  have hj':j<S.nK+1:=hj
  rw [hK.same (j-1) (by omega)]
  by_cases e:j=S.nK
  ·
   subst e
   rw [hK.nid]
   exact hK.lt _ (by omega)
  rw [hK.same j (by omega)]
  exact h.k.up j (by omega) h0
 have hj':j<S.nK+1:=hj
 show 1≤(K' j).refs∧(K' j).refs=((lS (S.jx i dst x S.nL) (K' j).id S.nL:Nat):Int)
 rw [tZ hpr (fun k hk=>(h.l k hk).u) _ S.nL (Nat.le_refl _)]
 by_cases e:j=S.nK
 ·
  subst e
  have hno:lS S.L S.nx S.nL=0:=wK S.nL (fun k hk=>by
   have hl:=h.l k hk
   rw [pS hl.u,uV (hl.t.lt hK),uV ((hl.z 0 (by omega)).1.lt hK),uV ((hl.z 1 (by omega)).1.lt hK)])
  have h1:=Dz (dst:=dst) (src:=(i:Int)) (n:=S.nL) (by omega) (by omega) hd (by omega)
  rw [hKi.2.2,hK.nid,hno,if_pos rfl]
  omega
 rw [hK.same j (by omega),if_neg (by have:=hK.lt j (by omega);omega)]
 exact h.refs j (by omega)
theorem xG.ok {S':Swg} {code:Int} (h:S.Ok) (hm:xG S S' port x code):S'.Ok:=by
 rcases hm with ⟨hn,_⟩ | ⟨_,_,rfl,_⟩ | ⟨_,hfr,i,rfl,hi,hm⟩
 ·
  exact absurd h hn
 ·
  exact h
 rcases hm with ⟨_,rfl,_⟩ | ⟨hk,hm⟩
 ·
  exact h.stop hi _
 have hx:x.nR:=⟨hk,hfr⟩
 have hL:=h.jm hi hx none 0
 rcases hm with ⟨_,rfl,_⟩ | ⟨_,_,rfl,_⟩ | ⟨h1,h2,h3,rfl,_⟩
 ·
  exact hL
 ·
  exact hL.lG _
 exact hL.waits (S:=S.jm i x none 0) hi hx h1 (h.GI hi hx) h2 h3
