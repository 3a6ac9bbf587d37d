import Derived.Test.YtjippgbmmlcgoaaGreatDoorB04
namespace Go.Proofs.YtjippgbmmlcgoaaGreatDoor
set_option maxRecDepth 100000
open Go.RowKit
set_option linter.unusedVariables false
set_option linter.unusedSimpArgs false
variable {p:Prop}
theorem ay (h:p:=by
 clear hw5 hw4 hwn hwn1 hx hy hHeld b0 b4 cq cs hq hd hs
 go_wp2_with fail
 go_roundw
 case rel=>exact ⟨k+1,by omega,by go_num,fun i hi=>by
  by_cases e:i=k
  ·
   subst e;exact HG.out
  ·
   exact HA i (by omega),HSd⟩
 case measure=>simp [intOf];omega):p:=h
theorem az (h:p:=by
 go_wp2_with fail
 go_ret
 exact ⟨iv HE.symm,HBd⟩):p:=h
theorem aA (h:p:=by
 go_wp2_with fail
 go_ret
 exact ⟨iv HE.symm,HA0 _⟩):p:=h
theorem aB (h:p:=by
 iterate 15 refine sN ?_
 refine tN ?_
 refine dnq ?_
 exact az):p:=h
theorem pz (a:Option Addr) (n cap:Nat) (z:Nat→Int) (w:World) (hn:n≤maxLen) (h:iP w a n fun j=>.int .i64 (z j)) (ok:Bool) (hok:ok=true↔qW n z) :
  Calls Tryz.prog 123 #[.slice a n cap] w fun e w'=>e=.returned (.bool ok)∧w'=w:=by
 have HO:=aa hok
 have HR:=aa h
 have hm:(n:Int)≤9223372036854775807:=by unfold maxLen at hn;omega
 clear h hok
 go_enter Tryz.func123,Tryz.ntmps123
 go_wp2_with fail
 go_loop [3] (fun i=>∃ k:Nat,k≤n∧i=.int .i64 k∧(∀ j,j<k→1≤z j∧z j≤5)) (fun i=>n-(intOf i).toNat)
 case atStart=>exact ⟨0,Nat.zero_le _,rfl,fun i hi=>by omega⟩
 obtain ⟨k,hk,rfl,hall⟩:=hrel
 have HA:=aa hall
 clear hall
 by_cases hlt:k<n
 ·
  have hlt':(k:Int)<n:=by omega
  obtain ⟨g,o,rfl,c0⟩:=HR k hlt
  dsimp only at c0
  go_wp2_with fail
  refine (iB _ _ _ _).mono ?_
  rintro e w' ⟨rfl,rfl⟩
  by_cases hz:1≤z k∧z k≤5
  ·
   have HZ:=aa hz
   rw [decide_eq_true hz]
   clear hz
   go_wp2_with fail
   go_round
   case rel=>exact ⟨k+1,by omega,by go_num,fun j hj=>by
    by_cases e:j=k
    ·
     subst e;exact HZ.out
    ·
     exact HA j (by omega)⟩
   case measure=>simp [intOf];omega
  have HF:Hid (ok=false):=by
   show ok=false
   rw [Bool.eq_false_iff]
   intro e
   exact hz ((HO.1 e).2 k hlt)
  rw [decide_eq_false hz]
  clear hz
  go_wp2_with fail
  go_ret
  exact ⟨iv HF.symm,rfl⟩
 obtain rfl:k=n:=by omega
 by_cases h8:k≤1000
 ·
  have h8':(k:Int)≤1000:=by omega
  have HT:Hid (ok=true):=HO.2 ⟨h8,HA.out⟩
  go_wp2_with fail
  go_ret
  exact ⟨iv HT.symm,rfl⟩
 have h8':¬ (k:Int)≤1000:=by omega
 have HF:Hid (ok=false):=by
  show ok=false
  rw [Bool.eq_false_iff]
  intro e
  exact h8 (HO.1 e).1
 go_wp2_with fail
 go_ret
 exact ⟨iv HF.symm,rfl⟩
set_option maxHeartbeats 9000000 in
theorem qY (R:Rnd) (w:World) (hf:R.Fit) (h:mN w R) (ok:Bool) (hok:ok=true↔R.Ok) :
  Calls Tryz.prog 94 #[.agg R.cells] w fun e w'=>e=.returned (.bool ok)∧Below w.heap.size w w':=by
 obtain ⟨aQ,nQ,cQ,q,aD,nD,cD,d,turn,fresh,aS,nS,cS,A,L,C,z⟩:=R
 have HR:=aa h
 have HF:Hid (¬ Rnd.Ok ⟨aQ,nQ,cQ,q,aD,nD,cD,d,turn,fresh,aS,nS,cS,A,L,C,z⟩→ok=false):=fun hh=>by
  rw [Bool.eq_false_iff]
  intro e
  exact hh (hok.1 e)
 have HO:=aa hok
 have HFit:=aa hf
 have hq:nQ≤maxLen:=hf.q
 have hd:nD≤maxLen:=hf.d
 have hs:nS≤maxLen:=hf.s
 unfold maxLen at hq hd hs
 clear h hok hf
 have HA0:Hid (∀ ob,Below w.heap.size w (w.alloc ob)):=fun ob=>(Below.refl _ _).alloc (Nat.le_refl _) _
 have kB:=im w (.cells #[.slice aQ nQ cQ,.slice aD nD cD,.int .i64 turn,.bool fresh,.slice aS nS cS] 45)
 have hwn:IntKind.i64.wrap (nQ:Int)=(nQ:Int):=ur _ (by omega) (by omega)
 unfold Rnd.cells
 go_enter Tryz.func94,Tryz.ntmps94
 go_wp2_with fail
 refine (iB _ _ _ _).mono ?_
 rintro e w' ⟨rfl,rfl⟩
 by_cases h12:(1:Int)≤nQ∧(nQ:Int)≤4
 rotate_left
 ·
  have HE:Hid (ok=false):=HF (fun hh=>by have:=hh.n;dsimp only at this;omega)
  rw [decide_eq_false h12]
  clear h12
  exact aA
 rw [decide_eq_true h12]
 have H12:Hid (1≤nQ∧nQ≤4):=by show _∧_;omega
 obtain ⟨g1,g4⟩:=h12
 by_cases h3:nD=nQ
 rotate_left
 ·
  have h3':((nD:Int) != (nQ:Int))=true:=by simp;omega
  have HE:Hid (ok=false):=HF (fun hh=>h3 hh.d)
  clear h3
  exact aA
 have h3':((nD:Int) != (nQ:Int))=false:=by simp [h3]
 have H3:=aa h3
 clear h3
 by_cases h4:nS=nQ
 rotate_left
 ·
  have h4':((nS:Int) != (nQ:Int))=true:=by simp;omega
  have HE:Hid (ok=false):=HF (fun hh=>h4 hh.s)
  clear h4
  exact aA
 have h4':((nS:Int) != (nQ:Int))=false:=by simp [h4]
 have H4:=aa h4
 have hwn1:IntKind.i64.wrap ((nQ:Int)-1)=(nQ:Int)-1:=ur _ (by omega) (by omega)
 clear h4
 go_wp2_with fail
 refine (iB _ _ _ _).mono ?_
 rintro e w' ⟨rfl,rfl⟩
 by_cases h5:0≤turn∧turn≤(nQ:Int)-1
 rotate_left
 ·
  have HE:Hid (ok=false):=HF (fun hh=>by have:=hh.t;dsimp only at this;omega)
  rw [decide_eq_false h5]
  clear h5
  exact aA
 have H5:Hid (0≤turn∧turn<nQ):=by show _∧_;omega
 rw [decide_eq_true h5]
 clear h5
 go_wp2_with fail
 go_loopw [4] (fun i wr=>∃ k:Nat,k≤nQ∧i=.int .i64 k∧(∀ i,i<k→vH (q i) (d i) (L i) (z i) (decide ((i:Int)=turn) && !fresh))∧Same (w.alloc (.cells #[.slice aQ nQ cQ,.slice aD nD cD,.int .i64 turn,.bool fresh,.slice aS nS cS] 45)) wr) (fun i _=>nQ-(intOf i).toNat)
 case atStart=>exact ⟨0,Nat.zero_le _,rfl,fun i hi=>by omega,Same.refl _⟩
 obtain ⟨k,hk,rfl,hall,hS⟩:=hrel
 have HA:=aa hall
 have HBd:Hid (Below w.heap.size w wr.drew):=(HA0 _).trans ((hS.below _).drew)
 have HB0:Hid (Below w.heap.size w wr):=(HA0 _).trans (hS.below _)
 have HSd:=aa (hS.drewN 1)
 have cB:=fun o=>(hS.cell ⟨w.heap.size,o,none⟩).trans (ie kB o)
 clear hall
 by_cases hlt:k<nQ
 ·
  have hlt':(k:Int)<nQ:=by omega
  have hltD:(k:Int)<nD:=by have:=H3.out;omega
  have hltS:(k:Int)<nS:=by have:=H4.out;omega
  have hrd:=HR.up HB0.out
  obtain ⟨gq,oq,rfl,cq⟩:=hrd.q k hlt
  obtain ⟨gd,od,rfl,cd⟩:=hrd.d k (by show k<nD;omega)
  obtain ⟨gs,os,rfl,cs⟩:=hrd.s k (by show k<nS;omega)
  have HZ0:Hid (iP wr (A k) (L k) fun j=>.int .i64 (z k j)):=hrd.z k (by show k<nS;omega)
  have HLn:Hid (L k≤maxLen):=HFit.l k (by show k<nS;omega)
  have HN:Hid (¬ vH (q k) (d k) (L k) (z k) (decide ((k:Int)=turn) && !fresh)→ok=false):=fun hh=>HF (fun ho=>hh (ho.c k hlt))
  dsimp only at cq cd cs
  have b0:wr.cell? ⟨w.heap.size,0,none⟩=some (.slice (some ⟨gq,oq,none⟩) nQ cQ):=cB 0
  have b1:wr.cell? ⟨w.heap.size,1,none⟩=some (.slice (some ⟨gd,od,none⟩) nD cD):=cB 1
  have b2:wr.cell? ⟨w.heap.size,2,none⟩=some (.int .i64 turn):=cB 2
  have b3:wr.cell? ⟨w.heap.size,3,none⟩=some (.bool fresh):=cB 3
  have b4:wr.cell? ⟨w.heap.size,4,none⟩=some (.slice (some ⟨gs,os,none⟩) nS cS):=cB 4
  have HG0:Hid ((1≤q k∧q k≤10)→qW (L k) (z k)→ry (q k) (d k) (L k) (decide ((k:Int)=turn) && !fresh)→vH (q k) (d k) (L k) (z k) (decide ((k:Int)=turn) && !fresh)):=fun a b c=>⟨a,b,c⟩
  clear hrd cB hS
  have HZ:Hid (∀ ww:World,Same wr ww→iP ww (A k) (L k) fun j=>.int .i64 (z k j)):=fun ww hs=>HZ0.up (hs.below _)
  generalize hxq:q k=x at *
  generalize hyd:d k=y at *
  generalize hai:A k=ai at *
  generalize hci:C k=ci at *
  generalize hzk:z k=zk at *
  generalize hli:L k=li at *
  have HZ:=aa (HZ wr.drew ((Same.refl wr).drewN 1))
  by_cases hx0:1≤x∧x≤10
  rotate_left
  ·
   have HE:Hid (ok=false):=HN (fun hh=>hx0 hh.1)
   have hx:decide (1≤x∧x≤10)=false:=decide_eq_false hx0
   clear hx0
   go_wp2_with fail
   refine wp_region_held_drew (S:=fun w'=>w'.cell? ⟨w.heap.size,0,none⟩=some (.slice (some ⟨gq,oq,none⟩) nQ cQ)∧w'.cell? ⟨w.heap.size,1,none⟩=some (.slice (some ⟨gd,od,none⟩) nD cD)∧w'.cell? ⟨w.heap.size,4,none⟩=some (.slice (some ⟨gs,os,none⟩) nS cS)∧w'.cell? ⟨gq,oq+k,none⟩=some (.int .i64 x)∧w'.cell? ⟨gd,od+k,none⟩=some (.int .i64 y)∧w'.cell? ⟨gs,os+k,none⟩=some (.slice ai li ci)) (by kernel_rfl) ⟨b0,b1,b4,cq,cd,cs⟩ (fun hHeld=>?_)
   refine t0 ?_
   iterate 4 refine tN ?_
   refine rq1 5 (fun K hK=>?_)
   go_simp
   refine (iB _ _ _ _).mono ?_
   rintro e w1 ⟨rfl,rfl⟩
   rw [hx]
   go_wp2_with fail
   refine ah (hK _ _ ⟨b0,b1,b4,cq,cd,cs⟩) ?_
   intro hHeld
   clear hK K
   iterate 2 refine tN ?_
   iterate 14 refine sN ?_
   iterate 2 refine tN ?_
   iterate 7 refine sN ?_
   iterate 2 refine tN ?_
   exact aB
  have HX:=aa hx0
  have hx:decide (1≤x∧x≤10)=true:=decide_eq_true hx0
  have hw5:IntKind.i64.wrap (x+5)=x+5:=ur _ (by omega) (by omega)
  have hw4:IntKind.i64.wrap (x+5-1)=x+5-1:=ur _ (by omega) (by omega)
  clear hx0
  by_cases hy0:0≤y∧y≤x+5-1
  rotate_left
  ·
   have HE:Hid (ok=false):=HN (fun hh=>by
    have h1:=hh.2.2
    unfold ry at h1
    have h2:=HX.out
    split at h1
    ·
     omega
    ·
     split at h1 <;> omega)
   have hy:decide (0≤y∧y≤x+5-1)=false:=decide_eq_false hy0
   clear hy0
   go_wp2_with fail
   refine wp_region_held_drew (S:=fun w'=>w'.cell? ⟨w.heap.size,0,none⟩=some (.slice (some ⟨gq,oq,none⟩) nQ cQ)∧w'.cell? ⟨w.heap.size,1,none⟩=some (.slice (some ⟨gd,od,none⟩) nD cD)∧w'.cell? ⟨w.heap.size,4,none⟩=some (.slice (some ⟨gs,os,none⟩) nS cS)∧w'.cell? ⟨gq,oq+k,none⟩=some (.int .i64 x)∧w'.cell? ⟨gd,od+k,none⟩=some (.int .i64 y)∧w'.cell? ⟨gs,os+k,none⟩=some (.slice ai li ci)) (by kernel_rfl) ⟨b0,b1,b4,cq,cd,cs⟩ (fun hHeld=>?_)
   refine t0 ?_
   iterate 4 refine tN ?_
   refine rq1 5 (fun K hK=>?_)
   go_simp
   refine (iB _ _ _ _).mono ?_
   rintro e w1 ⟨rfl,rfl⟩
   rw [hx]
   go_wp2_with fail
   refine ah (hK _ _ ⟨b0,b1,b4,cq,cd,cs⟩) ?_
   intro hHeld
   clear hK K
   iterate 14 refine tN ?_
   refine rq1 20 (fun K hK=>?_)
   go_simp
   refine (iB _ _ _ _).mono ?_
   rintro e w1 ⟨rfl,rfl⟩
   rw [hy]
   go_wp2_with fail
   refine ah (hK _ _ ⟨b0,b1,b4,cq,cd,cs⟩) ?_
   intro hHeld
   clear hK K
   iterate 3 refine tN ?_
   iterate 7 refine sN ?_
   iterate 2 refine tN ?_
   exact aB
  have HY:=aa hy0
  have hy:decide (0≤y∧y≤x+5-1)=true:=decide_eq_true hy0
  clear hy0
  by_cases hsz:qW li zk
  rotate_left
  ·
   have HE:Hid (ok=false):=HN (fun hh=>hsz hh.2.1)
   have HNs:=aa hsz
   clear hsz
   go_wp2_with fail
   refine wp_region_held_drew (S:=fun w'=>w'.cell? ⟨w.heap.size,0,none⟩=some (.slice (some ⟨gq,oq,none⟩) nQ cQ)∧w'.cell? ⟨w.heap.size,1,none⟩=some (.slice (some ⟨gd,od,none⟩) nD cD)∧w'.cell? ⟨w.heap.size,4,none⟩=some (.slice (some ⟨gs,os,none⟩) nS cS)∧w'.cell? ⟨gq,oq+k,none⟩=some (.int .i64 x)∧w'.cell? ⟨gd,od+k,none⟩=some (.int .i64 y)∧w'.cell? ⟨gs,os+k,none⟩=some (.slice ai li ci)) (by kernel_rfl) ⟨b0,b1,b4,cq,cd,cs⟩ (fun hHeld=>?_)
   refine t0 ?_
   iterate 4 refine tN ?_
   refine rq1 5 (fun K hK=>?_)
   go_simp
   refine (iB _ _ _ _).mono ?_
   rintro e w1 ⟨rfl,rfl⟩
   rw [hx]
   go_wp2_with fail
   refine ah (hK _ _ ⟨b0,b1,b4,cq,cd,cs⟩) ?_
   intro hHeld
   clear hK K
   iterate 14 refine tN ?_
   refine rq1 20 (fun K hK=>?_)
   go_simp
   refine (iB _ _ _ _).mono ?_
   rintro e w1 ⟨rfl,rfl⟩
   rw [hy]
   go_wp2_with fail
   refine ah (hK _ _ ⟨b0,b1,b4,cq,cd,cs⟩) ?_
   intro hHeld
   clear hK K
   iterate 8 refine tN ?_
   refine rq1 29 (fun K hK=>?_)
   go_simp
   refine (pz _ _ _ _ _ HLn HZ false ⟨fun h=>(by cases h),fun hh=>absurd hh HNs⟩).mono ?_
   rintro e w1 ⟨rfl,rfl⟩
   go_wp2_with fail
   refine ah (hK _ _ ⟨b0,b1,b4,cq,cd,cs⟩) ?_
   intro hHeld
   clear hK K
   iterate 3 refine tN ?_
   exact aB
  have HSz:=aa hsz
  clear hsz
  by_cases hl0:li=0
  ·
   have hl1:((li:Int) == 0)=true:=by simp [hl0]
   have HL0:=aa hl0
   clear hl0
   go_wp2_with fail
   refine wp_region_held_drew (S:=fun w'=>w'.cell? ⟨w.heap.size,0,none⟩=some (.slice (some ⟨gq,oq,none⟩) nQ cQ)∧w'.cell? ⟨w.heap.size,1,none⟩=some (.slice (some ⟨gd,od,none⟩) nD cD)∧w'.cell? ⟨w.heap.size,4,none⟩=some (.slice (some ⟨gs,os,none⟩) nS cS)∧w'.cell? ⟨gq,oq+k,none⟩=some (.int .i64 x)∧w'.cell? ⟨gd,od+k,none⟩=some (.int .i64 y)∧w'.cell? ⟨gs,os+k,none⟩=some (.slice ai li ci)) (by kernel_rfl) ⟨b0,b1,b4,cq,cd,cs⟩ (fun hHeld=>?_)
   refine t0 ?_
   iterate 4 refine tN ?_
   refine rq1 5 (fun K hK=>?_)
   go_simp
   refine (iB _ _ _ _).mono ?_
   rintro e w1 ⟨rfl,rfl⟩
   rw [hx]
   go_wp2_with fail
   refine ah (hK _ _ ⟨b0,b1,b4,cq,cd,cs⟩) ?_
   intro hHeld
   clear hK K
   iterate 14 refine tN ?_
   refine rq1 20 (fun K hK=>?_)
   go_simp
   refine (iB _ _ _ _).mono ?_
   rintro e w1 ⟨rfl,rfl⟩
   rw [hy]
   go_wp2_with fail
   refine ah (hK _ _ ⟨b0,b1,b4,cq,cd,cs⟩) ?_
   intro hHeld
   clear hK K
   iterate 8 refine tN ?_
   refine rq1 29 (fun K hK=>?_)
   go_simp
   refine (pz _ _ _ _ _ HLn HZ true ⟨fun _=>HSz.out,fun _=>rfl⟩).mono ?_
   rintro e w1 ⟨rfl,rfl⟩
   go_wp2_with fail
   refine ah (hK _ _ ⟨b0,b1,b4,cq,cd,cs⟩) ?_
   intro hHeld
   clear hK K
   iterate 19 refine tN ?_
   refine dnq ?_
   by_cases hy1:y=0
   ·
    have hyq:(y != 0)=false:=by simp [hy1]
    have h5:¬ (5:Int)≤y:=by omega
    have HG:Hid (vH (q k) (d k) (L k) (z k) (decide ((k:Int)=turn) && !fresh)):=by
     rw [Hid,hxq,hyd,hzk,hli]
     exact HG0 HX HSz (by unfold ry;rw [if_pos HL0.out];exact hy1)
    clear hy1 hxq hyd hzk hli hai hci
    exact ay
   have hyq:(y != 0)=true:=by simp [hy1]
   have HE:Hid (ok=false):=HN (fun hh=>by
    have h1:=hh.2.2
    unfold ry at h1
    rw [if_pos HL0.out] at h1
    exact hy1 h1)
   clear hy1
   exact az
  have hl1:((li:Int) == 0)=false:=by simp;omega
  have HL0:=aa hl0
  clear hl0
  go_wp2_with fail
  refine wp_region_held_drew (S:=fun w'=>w'.cell? ⟨w.heap.size,0,none⟩=some (.slice (some ⟨gq,oq,none⟩) nQ cQ)∧w'.cell? ⟨w.heap.size,1,none⟩=some (.slice (some ⟨gd,od,none⟩) nD cD)∧w'.cell? ⟨w.heap.size,4,none⟩=some (.slice (some ⟨gs,os,none⟩) nS cS)∧w'.cell? ⟨gq,oq+k,none⟩=some (.int .i64 x)∧w'.cell? ⟨gd,od+k,none⟩=some (.int .i64 y)∧w'.cell? ⟨gs,os+k,none⟩=some (.slice ai li ci)) (by kernel_rfl) ⟨b0,b1,b4,cq,cd,cs⟩ (fun hHeld=>?_)
  refine t0 ?_
  iterate 4 refine tN ?_
  refine rq1 5 (fun K hK=>?_)
  go_simp
  refine (iB _ _ _ _).mono ?_
  rintro e w1 ⟨rfl,rfl⟩
  rw [hx]
  go_wp2_with fail
  refine ah (hK _ _ ⟨b0,b1,b4,cq,cd,cs⟩) ?_
  intro hHeld
  clear hK K
  iterate 14 refine tN ?_
  refine rq1 20 (fun K hK=>?_)
  go_simp
  refine (iB _ _ _ _).mono ?_
  rintro e w1 ⟨rfl,rfl⟩
  rw [hy]
  go_wp2_with fail
  refine ah (hK _ _ ⟨b0,b1,b4,cq,cd,cs⟩) ?_
  intro hHeld
  clear hK K
  iterate 8 refine tN ?_
  refine rq1 29 (fun K hK=>?_)
  go_simp
  refine (pz _ _ _ _ _ HLn HZ true ⟨fun _=>HSz.out,fun _=>rfl⟩).mono ?_
  rintro e w1 ⟨rfl,rfl⟩
  go_wp2_with fail
  refine ah (hK _ _ ⟨b0,b1,b4,cq,cd,cs⟩) ?_
  intro hHeld
  clear hK K
  iterate 11 refine tN ?_
  iterate 6 refine sN ?_
  iterate 2 refine tN ?_
  refine dnq ?_
  by_cases h5:(5:Int)≤y
  ·
   by_cases hkt:(k:Int)=turn
   ·
    have hktq:((k:Int) != turn)=false:=by simp [hkt]
    cases fresh
    ·
     have HG:Hid (vH (q k) (d k) (L k) (z k) (decide ((k:Int)=turn) && !false)):=by
      rw [Hid,hxq,hyd,hzk,hli]
      refine HG0 HX HSz.out ?_
      unfold ry
      rw [if_neg HL0.out]
      have:=HY.out
      simp [hkt]
      omega
     clear hkt hxq hyd hzk hli hai hci
     exact ay
    have HE:Hid (ok=false):=HN (fun hh=>by
     have h1:=hh.2.2
     unfold ry at h1
     rw [if_neg HL0.out] at h1
     simp at h1
     omega)
    clear hkt
    exact az
   have hktq:((k:Int) != turn)=true:=by simp [hkt]
   have HE:Hid (ok=false):=HN (fun hh=>by
    have h1:=hh.2.2
    unfold ry at h1
    rw [if_neg HL0.out] at h1
    simp [hkt] at h1
    omega)
   clear hkt
   exact az
  have HG:Hid (vH (q k) (d k) (L k) (z k) (decide ((k:Int)=turn) && !fresh)):=by
   rw [Hid,hxq,hyd,hzk,hli]
   refine HG0 HX HSz.out ?_
   unfold ry
   rw [if_neg HL0.out]
   have h1:=HY.out
   have h2:=HX.out
   refine ⟨h1.1,?_⟩
   split <;> omega
  clear hxq hyd hzk hli hai hci
  exact ay
 obtain rfl:k=nQ:=by omega
 have HT:Hid (ok=true):=HO.2 ⟨H12.out,H3.out,H4.out,H5.out,HA.out⟩
 go_wp2_with fail
 go_ret
 exact ⟨iv HT.symm,HB0⟩
