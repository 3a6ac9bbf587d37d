import Derived.Test.YtjippgbmmlcgoaaGreatDoorB29
import Derived.Test.YtjippgbmmlcgoaaGreatDoorB33
namespace Go.Proofs.YtjippgbmmlcgoaaGreatDoor
set_option maxRecDepth 100000
set_option maxHeartbeats 9000000
open Go.RowKit
set_option linter.unusedVariables false
set_option linter.unusedSimpArgs false
variable {d:Bool} {x:Ent} {dst i mac now old:Int} {L M:List Ent} {N base cap g g8 gS gp j k n o:Nat} {f:Nat→Ent} {p:Prop} {Q1 S:Swg} {u v:Value} {W W' w:World}
theorem Ib (h:p:=by
 have hBd:Below w.heap.size w wr.drew:=HO2.below.trans (by rw [←HWB.out];exact (HSm.below _).drew)
 have hwo:IntKind.i64.wrap ((o:Int)+1)=(o:Int)+1:=jS _ (by omega) (by omega)
 have hto:((o:Int)+1).toNat=o+1:=by omega
 have ho':(o:Int)<k:=by omega
 have ho1:(o:Int)+1≤k:=by omega
 have ho0:(0:Int)≤(o:Int)+1:=by omega
 have hck:k≤cap2:=by
  rcases hown.2 with ⟨e,_⟩ | ⟨g',cap',cur,e,_,_,hkc,_⟩
  ·
   cases e
  cases e;rw [HN.out] at hkc;exact hkc
 have hck':(k:Int)≤cap2:=by omega
 have hco:(o:Int)≤cap2:=by omega
 have hco1:(o:Int)+1≤cap2:=by omega
 by_cases hcc:cap2=o+1
 ·
  have hko:k=o+1:=by omega
  obtain ⟨v1,W2,v2,W3,hrun1,hrun2,hOwn,hBel⟩:=El (o:=o) 0 hown HN (by omega) ho hBd.size (.inr hko) cap2 0
  rw [hLast] at hOwn
  have HBel:Hid (Below w.heap.size w W3):=hBd.trans hBel
  have hz1:k-(o+1)=0:=by omega
  have hz2:(0:Nat)=o+1-(o+1):=by omega
  have HR2a:Hid ((Builtin.append_ #[26,26] 26 #[v1,.slice (some ⟨gg2,0,none⟩) 0 0]).run Tryz.prog W2=.ok v2 W3):=by rw [hz1] at hrun2;exact hrun2
  have HR2b:Hid ((Builtin.append_ #[26,26] 26 #[v1,.slice (some ⟨gg2,0,none⟩) 0 (o+1-(o+1))]).run Tryz.prog W2=.ok v2 W3):=by rw [←hz2];exact HR2a.out
  have HR2c:Hid ((Builtin.append_ #[26,26] 26 #[v1,.slice (some ⟨gg2,0,none⟩) (k-(o+1)) (o+1-(o+1))]).run Tryz.prog W2=.ok v2 W3):=by rw [←hz2];exact hrun2
  clear hz1 hz2 hBel hown hBd h3 h4 he hLast hko
  subst hcc
  have hoo:(o:Int)≤(o:Int)+1:=by omega
  exact fT
 obtain ⟨v1,W2,v2,W3,hrun1,hrun2,hOwn,hBel⟩:=El (o:=o) ((o+1)*3) hown HN (by omega) ho hBd.size (.inl rfl) cap2 (cap2-(o+1))
 rw [hLast] at hOwn
 have HBel:Hid (Below w.heap.size w W3):=hBd.trans hBel
 clear hBel hown hBd h3 h4 he hLast
 exact fT):p:=h
theorem Ic (h:p:=by
 have hlt':(k:Int)<N:=by omega
 obtain ⟨q1,q2⟩:=HC k hlt
 by_cases hm:(fo k).m=m
 ·
  have hmq:((fo k).m != m)=false:=by simp [hm]
  have HS2:Hid (St2 fo m (k+1) q):=CP HSt hm
  clear hm
  go_wp2_with fail
  refine wp_region_held_drew (S:=fun w'=>w'.cell? ⟨gg2,k*3,none⟩=some (.int .i64 (fo k).m)∧w'.cell? ⟨gg2,k*3+2,none⟩=some (.int .i64 (fo k).t)) (by kernel_rfl) ⟨q1,q2⟩ (fun hHeld=>?_)
  refine t0 ?_
  iterate 7 refine tN ?_
  iterate 15 refine sN ?_
  refine tN ?_
  refine dnq ?_
  clear hHeld q1 q2
  go_wp2_with fail
  go_roundw
  case rel=>exact ⟨k+1,q,by omega,by go_num,rfl,HS2.out,HSm.drewN 1⟩
  case measure=>simp [intOf];omega
 have hmq:((fo k).m != m)=true:=by simp [hm]
 rcases Int.lt_or_le q 0 with h0 | h0
 ·
  have HS2:Hid (St2 fo m (k+1) k):=A0 HSt hm h0
  clear hm
  go_wp2_with fail
  refine wp_region_held_drew (S:=fun w'=>w'.cell? ⟨gg2,k*3,none⟩=some (.int .i64 (fo k).m)∧w'.cell? ⟨gg2,k*3+2,none⟩=some (.int .i64 (fo k).t)) (by kernel_rfl) ⟨q1,q2⟩ (fun hHeld=>?_)
  refine t0 ?_
  iterate 10 refine tN ?_
  iterate 11 refine sN ?_
  iterate 2 refine tN ?_
  refine dnq ?_
  clear hHeld q1 q2
  exact fU
 obtain ⟨o,rfl⟩:=Int.eq_ofNat_of_zero_le h0
 obtain ⟨hok2,hA,hB⟩:=CQ HSt hm
 have HA:Hid ((fo k).t<(fo o).t→St2 fo m (k+1) k):=hA
 have HB:Hid (¬ (fo k).t<(fo o).t→St2 fo m (k+1) o):=hB
 have q3:=(HC o (by omega)).2
 have ho':(o:Int)<N:=by omega
 have h0':¬ (o:Int)<0:=by omega
 clear hA hB hm h0
 by_cases ht:(fo k).t<(fo o).t
 ·
  have HS2:Hid (St2 fo m (k+1) k):=HA ht
  go_wp2_with fail
  refine wp_region_held_drew (S:=fun w'=>w'.cell? ⟨gg2,k*3,none⟩=some (.int .i64 (fo k).m)∧w'.cell? ⟨gg2,k*3+2,none⟩=some (.int .i64 (fo k).t)∧w'.cell? ⟨gg2,o*3+2,none⟩=some (.int .i64 (fo o).t)) (by kernel_rfl) ⟨q1,q2,q3⟩ (fun hHeld=>?_)
  refine t0 ?_
  iterate 23 refine tN ?_
  refine dnq ?_
  clear hHeld q1 q2 q3
  exact fU
 have HS2:Hid (St2 fo m (k+1) o):=HB ht
 go_wp2_with fail
 refine wp_region_held_drew (S:=fun w'=>w'.cell? ⟨gg2,k*3,none⟩=some (.int .i64 (fo k).m)∧w'.cell? ⟨gg2,k*3+2,none⟩=some (.int .i64 (fo k).t)∧w'.cell? ⟨gg2,o*3+2,none⟩=some (.int .i64 (fo o).t)) (by kernel_rfl) ⟨q1,q2,q3⟩ (fun hHeld=>?_)
 refine t0 ?_
 iterate 23 refine tN ?_
 refine dnq ?_
 clear hHeld q1 q2 q3
 go_wp2_with fail
 go_roundw
 case rel=>exact ⟨k+1,o,by omega,by go_num,rfl,HS2.out,HSm.drewN 1⟩
 case measure=>simp [intOf];omega):p:=h
theorem HJ (h:p:=by
 go_simp
 refine ah (hK _ _ q1) ?_
 intro hHeld
 clear hK K
 refine rq1 10 (fun K hK=>?_)
 refine jz (by kernel_rfl) (some 20) (.tmp 17) (.tmp 19) 27 _ _ _ rfl rfl rfl rfl rfl hrun ?_
 refine ah (hK _ _ q2) ?_
 intro hHeld
 clear hK K
 refine tC 11 21 (v:=?_) ?_ ?_
 rotate_left
 · exact aY
 try simp only [Act.put,PZ]
 refine rq1 12 (fun K hK=>?_)
 go_simp
 refine ah (hK _ _ q3) ?_
 intro hHeld
 clear hK K
 refine dnq ?_
 rw [←HW6.out]
 clear q0 q1 q2 q3 hHeld rS4 rS4' cS5 fS5
 go_wp2_with fail
 have ht:=jv W6 (w.heap.size+1) (.slice aq nQ cq) (.slice ad nD cd) (.int .i64 turn) (.bool fresh) (.slice (some ⟨gS,0,none⟩) nS cv)
 have cF:=ie (ln kB6 (.slice aq nQ cq) (.slice ad nD cd) (.int .i64 turn) (.bool fresh) (.slice (some ⟨gS,0,none⟩) nS cv))
 have hBf:=HB6.trans (ht.below HB6.size (fun x hx=>by simp at hx;omega))
 have hOf:=(HOw.kk ht (fun x hx=>by simp at hx;omega)).mono hbw
 unfold sg at cF hBf hOf
 exact bodyPost_ret (v:=.agg ((Rnd.cp2 ⟨aQ,nQ,cQ,q,aD,nD,cD,d,turn,fresh,aS,nS,cS,A,L,C,z⟩ aq cq ad cd (some ⟨gS,0,none⟩) cv A' C').push k s a' c').cells) (by simp [results,Tryz.results64,go_sem,cF,Rnd.cp2,Rnd.push,Rnd.cells]) rfl ⟨_,rfl,hOf,hBf,HAl⟩):p:=h
theorem fM (h:p:=by
 go_wp2_with fail
 go_ret
 exact ⟨lR HF.symm,B1⟩):p:=h
theorem fN (h:p:=by
 clear hm HH HS x1 x2 x3
 go_wp2_with fail
 go_round
 case rel=>exact ⟨k+1,by omega,by go_num,HS2.out⟩
 case measure=>simp [intOf];omega):p:=h
theorem fO (h:p:=by
 clear cX c1 c2 c3 hO
 go_roundw
 case rel=>exact ⟨k+1,true,_,by omega,by go_num,rfl,HS.out,hO2⟩
 case measure=>simp [intOf];omega):p:=h
theorem fP (h:p:=by
 rcases hO2.own.row with ⟨e,_⟩ | ⟨g',cap',e,_,hr⟩
 ·
  cases e
 cases e;rw [hMl] at hr;exact hr):p:=h
theorem fQ (h:p:=by
 have:=mL ⟨m,p,t⟩ (notM m (iD k f))
 exact this.symm.trans e):p:=h
theorem fT (h:p:=by
 go_wp2_with fail
 refine wp_region_held_drew (S:=fun _=>True) (by kernel_rfl) True.intro (fun hHeld=>?_)
 refine tQ 1 97 ?_
 refine tQ 2 98 ?_
 refine tQ 3 99 ?_
 refine tQ 5 101 ?_
 refine tQ 6 102 ?_
 refine tQ 7 103 ?_
 refine tQ 8 104 ?_
 refine rq1 0 (fun K hK=>?_)
 go_simp
 refine ah (hK _ _ ⟨⟩) ?_
 intro hHeld
 clear hK K
 refine rq1 4 (fun K hK=>?_)
 refine yF (by kernel_rfl) (some 100) (.tmp 96) (.tmp 99) 26 _ _ _ rfl rfl rfl rfl rfl hrun1 ?_
 refine ah (hK _ _ ⟨⟩) ?_
 intro hHeld
 clear hK K
 refine rq1 9 (fun K hK=>?_)
 refine yF (by kernel_rfl) (some 105) (.tmp 100) (.tmp 104) 26 _ _ _ rfl rfl rfl rfl rfl (by first | exact hrun2 | exact HR2a.out | exact HR2b.out | exact HR2c.out | (simp [go_sem];exact hrun2)) ?_
 refine ah (hK _ _ ⟨⟩) ?_
 intro hHeld
 clear hK K
 refine tQ 10 8 ?_
 refine dnq ?_
 go_wp2_with fail
 go_ret
 exact ⟨_,rfl,hOwn,HBel⟩):p:=h
theorem fU (h:p:=by
 go_wp2_with fail
 go_roundw
 case rel=>exact ⟨k+1,k,by omega,by go_num,rfl,HS2.out,HSm.drewN 1⟩
 case measure=>simp [intOf];omega):p:=h
structure SaL (w W:World) (gS gp g8:Nat) (S Q1:Swg) (M:Cnt) (x:Pkt) (i:Nat) (dst:Int) (k:Nat) (L:Nat→Lng):Prop where
 box:W.heap[gS]?=some (.cells Q1.cells 34 (0,0))
 own:iG W w.heap.size { Q1 with N:=M,L:=L }
 pk:W.heap[gp]?=some (.cells (S.pkt i x (kY dst i k)).cells 51 (0,0))
 al:∀ j,j<S.nL→iO (S.jx i dst x k j) (L j)
 bel:Below w.heap.size w W
 fr:W.heap[w.heap.size+1]?=some (.cells x.frc 36 (0,0))
 a:W.heap[w.heap.size]?=some (.cells S.cells 34 (0,0))
 z:W.heap[w.heap.size+1+1]?=some (.cells zSw 34 (0,0))
 m:W.heap[g8]?=some (.cells M.cells 30 (0,0))
theorem SaL.skip {M:Cnt} {x:Pkt} {i:Nat} {L:Nat→Lng} (h:SaL w W gS gp g8 S Q1 M x i dst k L) (hb:jj (k:Int) dst i=false):SaL w W gS gp g8 S Q1 M x i dst (k+1) L:=by
 refine ⟨h.box,h.own,?_,fun j hj=>by rw [sy hb];exact h.al j hj,h.bel,h.fr,h.a,h.z,h.m⟩
 have e:kY dst i (k+1)=kY dst i k:=by show kY dst i k+_=_;rw [if_neg (by rw [hb];decide),Nat.add_zero]
 rw [e]
 exact h.pk
theorem Ac {k:Int} (h:k=i) (h2:dst≠i):jj k dst i=false:=by
 unfold jj
 split
 ·
  simp [h]
 simp;omega
theorem Ad {k:Int} (h0:0≤dst) (h:dst≠k):jj k dst i=false:=by
 unfold jj
 rw [if_neg (by omega)]
 simp;omega
theorem BC {k:Int} (h0:dst=-1) (h:k≠i):jj k dst i=true:=by
 unfold jj
 rw [if_pos h0]
 simp [h]
theorem BA {k:Int} (h0:0≤dst) (h:dst=k):jj k dst i=true:=by
 unfold jj
 rw [if_neg (by omega)]
 simp;omega
theorem SaL.next {gL:Nat} {M:Cnt} {x:Pkt} {i:Nat} {L:Nat→Lng} {l2:Lng} {cur:Array Value} (h:SaL w W gS gp g8 S Q1 M x i dst k L) (hb:jj (k:Int) dst i=true) (hk:k<S.nL) (e3:Q1.nL=S.nL) (eL:Q1.aL=some ⟨gL,0,none⟩) (hgp:w.heap.size≤gp) (hgk:gp∉iI Q1.aK) (kL:W.heap[gL]?=some (.cells cur 47 (0,0)))
  (kP:W'.heap[gp]?=some (.cells (S.pkt i x (kY dst i k)).more.cells 51 (0,0))) (hA:iO ((L k).wait x.p S.nx x.cl) l2) (hn:Es W W' w.heap.size gL gp (k*8) cur (L k) l2):SaL w W' gS gp g8 S Q1 M x i dst (k+1) (fun j=>if j=k then l2 else L j):=by
 have hk3:k<({ Q1 with N:=M,L:=L }:Swg).nL:=by show k<Q1.nL;omega
 have ho:=h.own.lane (gp:=gp) hk3 eL kL h.pk hgk hn
 obtain ⟨T,hto,hT⟩:=hn.hit
 have oi:=h.own.l.ls k hk3
 have far:∀ {y:Nat} {cs:Array Value} {t:TypeId},W.heap[y]?=some (.cells cs t (0,0))→t≠47→t≠51→t≠2→t≠27→W'.heap[y]?=some (.cells cs t (0,0)):=by
  intro y cs t ky h1 h2 h3 h4
  refine (hto.block y (ig ky) (fun hx=>?_)).trans ky
  rcases hT y hx with e | e | e | e
  ·
   exact iT ky kL h1 e
  ·
   exact iT ky h.pk h2 e
  ·
   obtain ⟨c2,k2⟩:=oi.type2 y e
   exact iT ky k2 h3 rfl
  obtain ⟨c2,k2⟩:=oi.xL y e
  exact iT ky k2 h4 rfl
 refine ⟨far h.box (by decide) (by decide) (by decide) (by decide),ho,?_,fun j hj=>?_,h.bel.trans (hto.below h.bel.size (fun y hy=>?_)),far h.fr (by decide) (by decide) (by decide) (by decide),far h.a (by decide) (by decide) (by decide) (by decide),far h.z (by decide) (by decide) (by decide) (by decide),far h.m (by decide) (by decide) (by decide) (by decide)⟩
 ·
  have e:kY dst i (k+1)=kY dst i k+1:=by show kY dst i k+_=_;rw [if_pos hb]
  rw [e]
  exact kP
 ·
  have h9:=h.al j hj
  show iO (S.jx i dst x (k+1) j) (if j=k then l2 else L j)
  by_cases e:j=k
  ·
   subst e
   rw [if_pos rfl]
   unfold Swg.jx at h9 ⊢
   rw [if_neg (fun h=>absurd h.1 (Nat.lt_irrefl _))] at h9
   rw [if_pos ⟨by omega,hb⟩]
   exact (Lng.qw h9 _ _ _).trans hA
  rw [if_neg e]
  unfold Swg.jx at h9 ⊢
  by_cases h1:j<k∧jj (j:Int) dst i=true
  ·
   rw [if_pos h1] at h9
   rw [if_pos ⟨by omega,h1.2⟩]
   exact h9
  rw [if_neg h1] at h9
  rw [if_neg (fun h2=>h1 ⟨by omega,h2.2⟩)]
  exact h9
 rcases hT y hy with e | e | e | e
 ·
  rw [e]
  have h1:Q1.aL=some ⟨gL,0,none⟩:=eL
  exact (h.own.l.l.blk gL (by show gL∈iI Q1.aL;rw [h1];simp [iI])).1
 ·
  rw [e];exact hgp
 ·
  exact (oi.blk y e).1
 exact (oi.Fm y e).1
theorem yF {o:Oper} {a:Act} {K:Act→World→Prop} {Q:Exit→Act→World→Prop} {c:Prop} [Decidable c] {E:Prop} (hc:c) (d:Option Tmp) (s x:Operand) (t:TypeId) (vs vx v:Value) (hd:o.dst=d)
  (ho:o.op=.call { callee:=.builtin .append,args:=#[s,x],argTypes:=#[t,t] }) (hty:o.type=t) (hs:a.eval s=vs) (hx:a.eval x=vx)
  (hr:(Builtin.append_ #[t,t] t #[vs,vx]).run Tryz.prog W=.ok v W') (h:K (a.put d v) W'):if c then o.wp Tryz.prog a W K Q else E:=by
 subst hd
 exact uv hc s x t vs vx v ho hty hs hx hr h
def St1 (f:Nat→Ent) (x:Ent) (k:Nat) (d:Bool) (L:List Ent):Prop :=
 (d=false∧(∀ y∈iD k f,y.m<x.m)∧L=iD k f)∨(d=true∧(∃ i,i<k∧x.m≤(f i).m)∧L=kI x (notM x.m (iD k f)))
theorem mV (k:Int) (L:List Ent) (y:Ent):notM k (L++[y])=if y.m=k then notM k L else notM k L++[y]:=by
 by_cases h:y.m=k <;> simp [notM,h]
theorem Ez (h:St1 f x k d L):L.length≤k+1:=by
 rcases h with ⟨_,_,rfl⟩ | ⟨_,_,rfl⟩
 ·
  rw [jH];omega
 rw [lZ]
 have:=(jL x.m (iD k f)).length_le
 rw [jH] at this
 omega
theorem vc (h:∀ y∈iD k f,y.m<x.m):iD k f++[x]=kI x (notM x.m (iD k f)):=by
 rw [mG (fun y hy=>by have:=h y hy;omega),sJ h]
theorem CT (h:St1 f x k false L) (hk:(f k).m<x.m):St1 f x (k+1) false (L++[f k]):=by
 rcases h with ⟨_,h1,rfl⟩ | ⟨h,_⟩
 ·
  refine .inl ⟨rfl,fun y hy=>?_,(jG k f).symm⟩
  rw [jG] at hy
  rcases List.mem_append.1 hy with hy | hy
  ·
   exact h1 y hy
  simp at hy;rw [hy];exact hk
 cases h
theorem CR (h:St1 f x k false L) (hk:(f k).m=x.m):St1 f x (k+1) true (L++[x]):=by
 rcases h with ⟨_,h1,rfl⟩ | ⟨h,_⟩
 ·
  refine .inr ⟨rfl,⟨k,by omega,by omega⟩,?_⟩
  rw [jG,mV,if_pos hk,vc h1]
 cases h
theorem CS (h:St1 f x k false L) (hk:x.m<(f k).m):St1 f x (k+1) true (L++[x]++[f k]):=by
 rcases h with ⟨_,h1,rfl⟩ | ⟨h,_⟩
 ·
  refine .inr ⟨rfl,⟨k,by omega,by omega⟩,?_⟩
  rw [jG,mV,if_neg (by omega),sI hk,vc h1]
 cases h
theorem CU (ho:ka n f) (hn:k<n) (h:St1 f x k true L):x.m<(f k).m∧St1 f x (k+1) true (L++[f k]):=by
 rcases h with ⟨h,_⟩ | ⟨_,⟨i,hi,h1⟩,rfl⟩
 ·
  cases h
 have hlt:=ho.lt k i hi hn
 have hk:x.m<(f k).m:=by omega
 refine ⟨hk,.inr ⟨rfl,⟨i,by omega,h1⟩,?_⟩⟩
 rw [jG,mV,if_neg (by omega),sI hk]
theorem EA (h:St1 f x k d L):(if d then L else L++[x])=kI x (notM x.m (iD k f)):=by
 rcases h with ⟨rfl,h1,rfl⟩ | ⟨rfl,_,rfl⟩
 ·
  exact vc h1
 rfl
def St2 (f:Nat→Ent) (mac:Int) (k:Nat) (old:Int):Prop :=
 (old=-1∧notM mac (iD k f)=[])∨∃ o:Nat,o<k∧old=o∧(f o).m≠mac∧oX (notM mac (iD k f))=some (f o)
theorem CP (h:St2 f mac k old) (hk:(f k).m=mac):St2 f mac (k+1) old:=by
 have e:notM mac (iD (k+1) f)=notM mac (iD k f):=by rw [jG,mV,if_pos hk]
 rcases h with ⟨h1,h2⟩ | ⟨o,h1,h2,h3,h4⟩
 ·
  exact .inl ⟨h1,by rw [e];exact h2⟩
 exact .inr ⟨o,by omega,h2,h3,by rw [e];exact h4⟩
theorem A0 (h:St2 f mac k old) (hk:(f k).m≠mac) (h0:old<0):St2 f mac (k+1) k:=by
 have e:notM mac (iD (k+1) f)=notM mac (iD k f)++[f k]:=by rw [jG,mV,if_neg hk]
 rcases h with ⟨h1,h2⟩ | ⟨o,h1,h2,h3,h4⟩
 ·
  exact .inr ⟨k,by omega,rfl,hk,by rw [e,oS,h2];rfl⟩
 omega
theorem CQ (h:St2 f mac k o) (hk:(f k).m≠mac):o<k∧((f k).t<(f o).t→St2 f mac (k+1) k)∧(¬ (f k).t<(f o).t→St2 f mac (k+1) o):=by
 have e:notM mac (iD (k+1) f)=notM mac (iD k f)++[f k]:=by rw [jG,mV,if_neg hk]
 rcases h with ⟨h1,h2⟩ | ⟨o',h1,h2,h3,h4⟩
 ·
  omega
 obtain rfl:o=o':=by omega
 refine ⟨h1,fun ht=>.inr ⟨k,by omega,rfl,hk,?_⟩,fun ht=>.inr ⟨o,by omega,rfl,h3,?_⟩⟩
 ·
  rw [e,oS,h4];simp [th,ht]
 rw [e,oS,h4];simp [th,ht]
structure Out (w wr:World) (v:Value) (L:List Ent) (x:Ent):Prop where
 own:mK wr w.heap.size v L
 below:Below w.heap.size w wr
 box:wr.heap[w.heap.size+1]?=some (.cells #[.int .i64 x.m,.int .i64 x.p,.int .i64 x.t] 71 (0,0))
 apart:v.ownBlock≠some (w.heap.size+1)
theorem Out.app {wr w':World} {v':Value} {y:Ent} {o:Obj} (h:Out w wr v L x) (hown':w'.ownsRow w.heap.size 71 3 v' (L.length+1) (jd L++kc y)) (hg:(wr.alloc o).grownBy w' v.ownBlock) (hat:v'.ownBlock=v.ownBlock∨v'.ownBlock=some (wr.alloc o).heap.size):Out w w' v' (L++[y]) x:=by
 have hg':wr.grownBy w' v.ownBlock:=(World.grownBy_alloc wr o _).trans hg
 have hbl:=ig h.box
 refine ⟨?_,h.below.grown hg' h.below.size (fun j hj=>(World.ownsRow.lt h.own j hj).1),(hg'.block _ hbl (fun e=>h.apart e.symm)).trans h.box,?_⟩
 ·
  unfold mK
  rw [uj,List.length_append]
  exact hown'
 intro e
 rcases hat with e2 | e2
 ·
  rw [e2] at e;exact h.apart e
 rw [e2] at e
 simp at e
 omega
theorem Cw {q c:Nat} (h:mK W base v L) (hb:base≤W.heap.size) (hL:L.length≤1000) (hM:M.length≤1000) (hc:∀ j u,(jd M)[j]?=some u→W.cell? ⟨g,q+j,none⟩=some u) :
  ∃ v' W',(Builtin.append_ #[26,26] 26 #[v,.slice (some ⟨g,q,none⟩) M.length c]).run Tryz.prog W=.ok v' W'∧mK W' base v' (L++M)∧W.grownBy W' v.ownBlock:=by
 obtain ⟨i0,hi,hz0,hz1,hz2⟩:=info_parts Dv
 obtain ⟨v',w',hr,h2,h3,h4,h5⟩:=run_append_own_at (P:=Tryz.prog) W base 26 26 71 i0 (.agg #[.int .i64 0,.int .i64 0,.int .i64 0]) 3 24 Tryz.underlying26 hi hz0 hz1 hz2 rfl (by decide) v L.length (jd L) h ⟨g,q,none⟩ M.length c (jd M) (mZ M) (fun j u hj=>by
  have:=hc j u hj
  have e:(⟨g,q,none⟩:Addr).add j=⟨g,q+j,none⟩:=by unfold Addr.add;split <;> simp_all
  rw [e];exact this) (fun u hu=>by
  obtain ⟨y,_,hy⟩:=List.mem_flatMap.1 hu
  exact Bd y u hy) (by unfold maxLen;omega) (by omega) hb
 refine ⟨v',w',hr,?_,h3⟩
 unfold mK
 rw [show jd (L++M)=jd L++jd M by simp [jd],List.length_append]
 exact h2
theorem ns {sz:Nat} {e:TypeId} {xs:List Value} (h:w.ownsRow base e sz v (n+1) xs):∃ g cap,v=.slice (some ⟨g,0,none⟩) (n+1) cap:=by
 rcases h.2 with ⟨_,h0⟩ | ⟨g,cap,cur,hv,_⟩
 ·
  omega
 exact ⟨g,cap,hv⟩
theorem xj (A B:List Ent):jd (A++B)=jd A++jd B:=by simp [jd]
theorem Ai (h:(jd (M.take o))[j]?=some u):(jd M)[j]?=some u:=by
 have e:jd M=jd (M.take o)++jd (M.drop o):=by rw [←xj,List.take_append_drop]
 rw [e,List.getElem?_append_left (List.getElem?_eq_some_iff.1 h).1]
 exact h
theorem Ak (ho:o≤M.length) (h:(jd (M.drop o))[j]?=some u):(jd M)[o*3+j]?=some u:=by
 have e:jd M=jd (M.take o)++jd (M.drop o):=by rw [←xj,List.take_append_drop]
 have e2:(jd (M.take o)).length=o*3:=by rw [mZ,List.length_take,Nat.min_eq_left ho]
 rw [e,List.getElem?_append_right (by omega),e2]
 simpa using h
theorem mK.at (h:mK W base (.slice (some ⟨g,0,none⟩) N cap) M) (hj:(jd M)[j]?=some u):W.cell? ⟨g,j,none⟩=some u:=by
 have:=World.ownsRow.cells h (g:=g) rfl j u hj
 have e:(⟨g,0,none⟩:Addr).add j=⟨g,j,none⟩:=by unfold Addr.add;split <;> simp_all
 rw [e] at this;exact this
theorem El (q:Nat) (h:mK W base (.slice (some ⟨g,0,none⟩) N cap) M) (hN:M.length=N) (hN9:N≤1000) (ho:o<N) (hb:base≤W.heap.size) (hq:q=(o+1)*3∨N=o+1) (c1 c2:Nat) :
  ∃ v1 W2 v2 W3,(Builtin.append_ #[26,26] 26 #[.slice (some ⟨W.heap.size,0,none⟩) 0 0,.slice (some ⟨g,0,none⟩) o c1]).run Tryz.prog (W.alloc (.cells #[] 71))=.ok v1 W2 ∧
   (Builtin.append_ #[26,26] 26 #[v1,.slice (some ⟨g,q,none⟩) (N-(o+1)) c2]).run Tryz.prog W2=.ok v2 W3∧mK W3 base v2 (M.take o++M.drop (o+1))∧Below base W W3:=by
 have hgl:=(World.ownsRow.lt h g rfl).2
 have l1:(M.take o).length=o:=by rw [List.length_take];omega
 have l2:(M.drop (o+1)).length=N-(o+1):=by rw [List.length_drop];omega
 have hE:=mK.empty W base hb
 have b1:Below W.heap.size W (W.alloc (.cells #[] 71)):=(Below.refl _ _).alloc (Nat.le_refl _) _
 have h1:=h.up b1
 obtain ⟨v1,W2,r1,o1,g1⟩:=Cw (M:=M.take o) (g:=g) (q:=0) (c:=c1) hE (by have:=b1.size;omega) (by simp) (by omega) (fun j u hj=>by rw [Nat.zero_add];exact h1.at (Ai hj))
 rw [l1] at r1
 have hb2:W2.heap[g]?=(W.alloc (.cells #[] 71)).heap[g]?:=g1.block g (by have:=b1.size;omega) (by simp [Value.ownBlock];omega)
 have h2:mK W2 base (.slice (some ⟨g,0,none⟩) N cap) M:=by
  obtain ⟨x1,x2⟩:=h1
  refine ⟨x1,x2.imp id ?_⟩
  rintro ⟨g',cap',cur,e,hg',hbk,hr⟩
  cases e
  exact ⟨_,_,cur,rfl,hg',hb2.trans hbk,hr⟩
 have B2:Below base W W2:=((b1.mono hb).grown g1 (by have:=b1.size;omega) (fun k e=>by cases e;exact hb))
 obtain ⟨v2,W3,r2,o2,g2⟩:=Cw (M:=M.drop (o+1)) (g:=g) (q:=q) (c:=c2) o1 (Nat.le_trans hb B2.size) (by simp;omega) (by omega) (fun j u hj=>by
  rcases hq with rfl | hq
  ·
   exact h2.at (Ak (by omega) hj)
  ·
   rw [List.drop_eq_nil_of_le (by omega)] at hj
   simp [jd] at hj)
 rw [l2] at r2
 refine ⟨v1,W2,v2,W3,r1,r2,by simpa using o2,B2.grown g2 (Nat.le_trans hb B2.size) (fun k e=>(World.ownsRow.lt o1 k e).1)⟩
theorem vm (a:Option Addr) (n cap:Nat) (f:Nat→Ent) (m p t:Int) (w:World) (hok:mA n f) (h:lD w a n f) :
  Calls Tryz.prog 61 #[.slice a n cap,.int .i64 m,.int .i64 p,.int .i64 t] w fun e w'=>∃ v,e=.returned v∧mK w' w.heap.size v (jl (iD n f) ⟨m,p,t⟩)∧Below w.heap.size w w':=by
 have HR:Hid (lD w a n f):=h
 have HT:Hid (mA n f):=hok
 have HO:Hid (ka n f):=hok.2
 have h8:=hok.1
 clear h hok
 obtain ⟨i0,hi,hz0,hz1,hz2⟩:=info_parts Dv
 have HI:Hid (Out w ((w.alloc (.cells #[] 71)).alloc (.cells #[.int .i64 m,.int .i64 p,.int .i64 t] 71)) (.slice (some ⟨w.heap.size,0,none⟩) 0 0) [] ⟨m,p,t⟩):=by
  have e1:(w.alloc (.cells #[] 71)).heap.size=w.heap.size+1:=by simp
  have hE:=mK.empty w w.heap.size (Nat.le_refl _)
  refine ⟨hE.up ((Below.refl _ _).alloc (Nat.le_refl _) _),((Below.refl _ _).alloc (Nat.le_refl _) _).alloc (by omega) _,?_,by simp [Value.ownBlock]⟩
  rw [←e1];exact im _ _
 go_enter Tryz.func61,Tryz.ntmps61
 go_wp2_with fail
 go_loopw [9,11,12] (fun v d i wr=>∃ (k:Nat) (b:Bool) (L:List Ent),k≤n∧i=.int .i64 k∧d=.bool b∧St1 f ⟨m,p,t⟩ k b L∧Out w wr v L ⟨m,p,t⟩) (fun _ _ i _=>n-(intOf i).toNat)
 case atStart=>exact ⟨0,false,[],Nat.zero_le _,rfl,rfl,.inl ⟨rfl,fun y hy=>by simp [iD] at hy,rfl⟩,HI.out⟩
 obtain ⟨k,d,L,hk,rfl,rfl,hst,hO⟩:=hrel
 have hL:=Ez hst
 clear HI
 have cX:=ie hO.box
 by_cases hlt:k<n
 ·
  have hlt':(k:Int)<n:=by omega
  obtain ⟨g,o,rfl,c1,c2,c3⟩:=(HR.up hO.below) k hlt
  cases d
  ·
   have HSt:Hid (St1 f ⟨m,p,t⟩ k false L):=hst
   clear hst
   rcases Int.lt_trichotomy (f k).m m with hm | hm | hm
   ·
    have HS:Hid (St1 f ⟨m,p,t⟩ (k+1) false (L++[f k])):=CT HSt hm
    generalize f k=y at *
    obtain ⟨ym,yp,yt⟩:=y
    dsimp only at c1 c2 c3 hm
    have h1:¬ m≤ym:=by omega
    have h2:(ym != m)=true:=by simp;omega
    go_wp2_with (at_builtin;refine wpList_append_own_at _ rfl (.tmp 48) (.tmp 53) 26 rfl w.heap.size 71 i0 (.agg #[.int .i64 0,.int .i64 0,.int .i64 0]) 3 24 Tryz.underlying26 hi hz0 hz1 hz2 rfl (by decide) _ (L.length) _ rfl (World.ownsRow.alloc hO.own _) ⟨wr.heap.size,0,none⟩ 1 1 (kc ⟨ym,yp,yt⟩) rfl rfl (ji wr ⟨ym,yp,yt⟩ _) (Bd _) (by unfold maxLen;omega) (by omega) (by have:=hO.below.size;simp;omega) ?_;intro v2 w2 hown2 hgrow2 hnil2 hat2;obtain ⟨gg2,cap2,rfl⟩:=ns hown2;have hO2:=hO.app hown2 hgrow2 hat2;clear hown2 hgrow2 hnil2 hat2)
    clear cX c1 c2 c3 hO
    go_roundw
    case rel=>exact ⟨k+1,false,_,by omega,by go_num,rfl,HS.out,hO2⟩
    case measure=>simp [intOf];omega
   ·
    have HS:Hid (St1 f ⟨m,p,t⟩ (k+1) true (L++[⟨m,p,t⟩])):=CR HSt hm
    have HRk:Hid (∀ w2,Below w.heap.size w w2→w2.cell? ⟨g,o+k*3,none⟩=some (.int .i64 (f k).m)):=fun w2 hb=>by
     obtain ⟨g',o',eg,c,_,_⟩:=(HR.up hb) k hlt
     cases eg;exact c
    generalize f k=y at *
    obtain ⟨ym,yp,yt⟩:=y
    dsimp only at c1 c2 c3 hm HRk
    have h1:m≤ym:=by omega
    have h2:(ym != m)=false:=by simp [hm]
    clear hm
    go_wp2_with ((at_builtin;refine wpList_append_own_at _ rfl (.tmp 37) (.tmp 39) 26 rfl w.heap.size 71 i0 (.agg #[.int .i64 0,.int .i64 0,.int .i64 0]) 3 24 Tryz.underlying26 hi hz0 hz1 hz2 rfl (by decide) _ (L.length) _ rfl (World.ownsRow.alloc hO.own _) ⟨wr.heap.size,0,none⟩ 1 1 (kc ⟨m,p,t⟩) rfl rfl (ji wr ⟨m,p,t⟩ _) (Bd _) (by unfold maxLen;omega) (by omega) (by have:=hO.below.size;simp;omega) ?_;intro v2 w2 hown2 hgrow2 hnil2 hat2;obtain ⟨gg2,cap2,rfl⟩:=ns hown2;have hO2:=hO.app hown2 hgrow2 hat2;clear hown2 hgrow2 hnil2 hat2);have c1:=HRk _ hO2.below)
    exact fO
   have HS:Hid (St1 f ⟨m,p,t⟩ (k+1) true (L++[⟨m,p,t⟩]++[f k])):=CS HSt hm
   have HRk:Hid (∀ w2,Below w.heap.size w w2→w2.cell? ⟨g,o+k*3,none⟩=some (.int .i64 (f k).m)∧w2.cell? ⟨g,o+k*3+1,none⟩=some (.int .i64 (f k).p)∧w2.cell? ⟨g,o+k*3+2,none⟩=some (.int .i64 (f k).t)):=fun w2 hb=>by
    obtain ⟨g',o',eg,ca,cb,cc⟩:=(HR.up hb) k hlt
    cases eg;exact ⟨ca,cb,cc⟩
   generalize f k=y at *
   obtain ⟨ym,yp,yt⟩:=y
   dsimp only at c1 c2 c3 hm HRk
   have h1:m≤ym:=by omega
   have h2:(ym != m)=true:=by simp;omega
   have hLL:(L++[(⟨m,p,t⟩:Ent)]).length=L.length+1:=by simp
   go_wp2_with (first | ((at_builtin;refine wpList_append_own_at _ rfl (.tmp 37) (.tmp 39) 26 rfl w.heap.size 71 i0 (.agg #[.int .i64 0,.int .i64 0,.int .i64 0]) 3 24 Tryz.underlying26 hi hz0 hz1 hz2 rfl (by decide) _ (L.length) _ rfl (World.ownsRow.alloc hO.own _) ⟨wr.heap.size,0,none⟩ 1 1 (kc ⟨m,p,t⟩) rfl rfl (ji wr ⟨m,p,t⟩ _) (Bd _) (by unfold maxLen;omega) (by omega) (by have:=hO.below.size;simp;omega) ?_;intro v2 w2 hown2 hgrow2 hnil2 hat2;obtain ⟨gg2,cap2,rfl⟩:=ns hown2;have hO2:=hO.app hown2 hgrow2 hat2;clear hown2 hgrow2 hnil2 hat2);obtain ⟨c1,c2,c3⟩:=HRk _ hO2.below) | (at_builtin;refine wpList_append_own_at _ rfl (.tmp 48) (.tmp 53) 26 rfl w.heap.size 71 i0 (.agg #[.int .i64 0,.int .i64 0,.int .i64 0]) 3 24 Tryz.underlying26 hi hz0 hz1 hz2 rfl (by decide) _ ((L++[(⟨m,p,t⟩:Ent)]).length) _ rfl (World.ownsRow.alloc hO2.own _) ⟨w2.heap.size,0,none⟩ 1 1 (kc ⟨ym,yp,yt⟩) rfl rfl (ji w2 ⟨ym,yp,yt⟩ _) (Bd _) (by unfold maxLen;omega) (by omega) (by have:=hO2.below.size;simp;omega) ?_;intro v3 w3 hown3 hgrow3 hnil3 hat3;obtain ⟨gg3,cap3,rfl⟩:=ns hown3;have hO3:=hO2.app hown3 hgrow3 hat3;clear hown3 hgrow3 hnil3 hat3))
   clear cX c1 c2 c3 hO hO2
   go_roundw
   case rel=>exact ⟨k+1,true,_,by omega,by go_num,rfl,HS.out,by rw [hLL] at hO3;exact hO3⟩
   case measure=>simp [intOf];omega
  obtain ⟨hm,hs⟩:=CU HO hlt hst
  have HS:Hid (St1 f ⟨m,p,t⟩ (k+1) true (L++[f k])):=hs
  clear hst hs
  generalize f k=y at *
  obtain ⟨ym,yp,yt⟩:=y
  dsimp only at c1 c2 c3 hm
  have h2:(ym != m)=true:=by simp;omega
  go_wp2_with (at_builtin;refine wpList_append_own_at _ rfl (.tmp 48) (.tmp 53) 26 rfl w.heap.size 71 i0 (.agg #[.int .i64 0,.int .i64 0,.int .i64 0]) 3 24 Tryz.underlying26 hi hz0 hz1 hz2 rfl (by decide) _ (L.length) _ rfl (World.ownsRow.alloc hO.own _) ⟨wr.heap.size,0,none⟩ 1 1 (kc ⟨ym,yp,yt⟩) rfl rfl (ji wr ⟨ym,yp,yt⟩ _) (Bd _) (by unfold maxLen;omega) (by omega) (by have:=hO.below.size;simp;omega) ?_;intro v2 w2 hown2 hgrow2 hnil2 hat2;obtain ⟨gg2,cap2,rfl⟩:=ns hown2;have hO2:=hO.app hown2 hgrow2 hat2;clear hown2 hgrow2 hnil2 hat2)
  exact fO
 obtain rfl:k=n:=by omega
 have HE:Hid ((if d then L else L++[⟨m,p,t⟩])=kI ⟨m,p,t⟩ (notM m (iD k f))):=EA hst
 clear hst
 have hb8:L.length≤9:=by omega
 cases d
 ·
  have HE2:Hid (L++[⟨m,p,t⟩]=kI ⟨m,p,t⟩ (notM m (iD k f))):=HE.out
  by_cases h9:L.length+1≤8
  ·
   have h9':((L.length+1:Nat):Int)≤8:=by omega
   have HQ:Hid (L++[⟨m,p,t⟩]=jl (iD k f) ⟨m,p,t⟩):=by
    rw [Hid,HE2.out];exact pX (by rw [←HE2.out];simp;omega)
   go_wp2_with (at_builtin;refine wpList_append_own_at _ rfl (.tmp 57) (.tmp 59) 26 rfl w.heap.size 71 i0 (.agg #[.int .i64 0,.int .i64 0,.int .i64 0]) 3 24 Tryz.underlying26 hi hz0 hz1 hz2 rfl (by decide) _ (L.length) _ rfl (World.ownsRow.alloc hO.own _) ⟨wr.heap.size,0,none⟩ 1 1 (kc ⟨m,p,t⟩) rfl rfl (ji wr ⟨m,p,t⟩ _) (Bd _) (by unfold maxLen;omega) (by omega) (by have:=hO.below.size;simp;omega) ?_;intro v2 w2 hown2 hgrow2 hnil2 hat2;obtain ⟨gg2,cap2,rfl⟩:=ns hown2;have hO2:=hO.app hown2 hgrow2 hat2;clear hown2 hgrow2 hnil2 hat2)
   go_ret
   exact ⟨_,rfl,by rw [←HQ.out];exact hO2.own,hO2.below⟩
  have h9':¬ ((L.length+1:Nat):Int)≤8:=by omega
  go_wp2_with (at_builtin;refine wpList_append_own_at _ rfl (.tmp 57) (.tmp 59) 26 rfl w.heap.size 71 i0 (.agg #[.int .i64 0,.int .i64 0,.int .i64 0]) 3 24 Tryz.underlying26 hi hz0 hz1 hz2 rfl (by decide) _ (L.length) _ rfl (World.ownsRow.alloc hO.own _) ⟨wr.heap.size,0,none⟩ 1 1 (kc ⟨m,p,t⟩) rfl rfl (ji wr ⟨m,p,t⟩ _) (Bd _) (by unfold maxLen;omega) (by omega) (by have:=hO.below.size;simp;omega) ?_;intro v2 w2 hown2 hgrow2 hnil2 hat2;obtain ⟨gg2,cap2,rfl⟩:=ns hown2;have hO2:=hO.app hown2 hgrow2 hat2;clear hown2 hgrow2 hnil2 hat2)
  have hMl:(L++[(⟨m,p,t⟩:Ent)]).length=L.length+1:=by simp
  have HM:Hid (L++[(⟨m,p,t⟩:Ent)]=kI ⟨m,p,t⟩ (notM m (iD k f))):=HE2.out
  have h9N:L.length+1≤10∧¬ L.length+1≤8:=⟨by omega,h9⟩
  generalize hMM:L++[(⟨m,p,t⟩:Ent)]=M at *
  generalize hNN:L.length+1=N at *
  have HN:Hid (M.length=N):=hMl
  have HO2:Hid (Out w w2 (.slice (some ⟨gg2,0,none⟩) N cap2) M ⟨m,p,t⟩):=hO2
  have hrow:ja gg2 71 (N*3) (flat fun i=>M.getD i default) (N*3) w2:=fP
  obtain ⟨fo,hfo⟩:∃ fo:Nat→Ent,fo=fun i=>M.getD i default:=⟨_,rfl⟩
  have HFo:Hid (fo=fun i=>M.getD i default):=hfo
  rw [←hfo] at hrow
  have HRw:Hid (ja gg2 71 (N*3) (flat fo) (N*3) w2):=hrow
  obtain ⟨wB,hwB⟩:∃ wB:World,wB=w2:=⟨_,rfl⟩
  have HWB:Hid (wB=w2):=hwB
  have hN10:=h9N.1
  have HLong:Hid (∀ o,o<M.length→oX (notM m M)=some (M.getD o default)→M.take o++M.drop (o+1)=jl (iD k f) ⟨m,p,t⟩):=fun o ho hb=>by
   rw [HM.out] at ho hb ⊢
   exact rl (x:=⟨m,p,t⟩) (kM HO) (by rw [jH];exact h8) (by
    have hh:=h9N.2
    rw [←hMl,HM.out] at hh
    exact hh) ho hb
  have HNe:Hid (notM m M≠[]):=fun e=>by
   rw [HM.out] at e
   have e2:notM m (notM m (iD k f))=[]:=fQ
   rw [mG (fun y hy=>sq hy)] at e2
   have e3:=congrArg List.length HM.out
   rw [lZ,e2,hMl] at e3
   have:=h9N.2
   simp at e3
   omega
  have H9N:Hid (¬ N≤8):=h9N.2
  clear hrow hfo hO2 hMl h9N h9 h9' cX hO hwB
  go_loopw [13,14] (fun old i wr=>∃ (k:Nat) (q:Int),k≤N∧i=.int .i64 k∧old=.int .i64 q∧St2 fo m k q∧Same wB wr) (fun _ i _=>N-(intOf i).toNat)
  case atStart=>exact ⟨0,-1,Nat.zero_le _,rfl,rfl,.inl ⟨rfl,by simp [iD,notM]⟩,by rw [HWB.out];exact Same.refl _⟩
  obtain ⟨k,q,hk,rfl,rfl,hst,hS⟩:=hrel
  have HSt:Hid (St2 fo m k q):=hst
  have HSm:Hid (Same wB wr):=hS
  have HC:Hid (∀ i,i<N→wr.cell? ⟨gg2,i*3,none⟩=some (.int .i64 (fo i).m)∧wr.cell? ⟨gg2,i*3+2,none⟩=some (.int .i64 (fo i).t)):=fun i hi=>by
   rw [hS.cell,hS.cell,HWB.out,HRw.at _ (by omega),HRw.at _ (by omega),Am,Al]
   exact ⟨rfl,rfl⟩
  clear hst hS
  by_cases hlt:k<N
  · exact Ic
  obtain rfl:k=N:=by omega
  have he:iD k fo=M:=by
   rw [HFo.out]
   conv=>lhs;rw [←HN.out]
   exact kO M
  rcases HSt.out with ⟨h1,h2⟩ | ⟨o,ho,hq,h3,h4⟩
  ·
   rw [he] at h2
   exact absurd h2 HNe
  subst hq
  rw [he] at h4
  have hLast:=HLong o (by rw [HN.out];exact ho) (h4.trans (by rw [HFo.out]))
  have hown:mK wr.drew w.heap.size (.slice (some ⟨gg2,0,none⟩) k cap2) M:=mK.up HO2.own (by rw [←HWB.out];exact (HSm.below _).drew)
  exact Ib
 have HE2:Hid (L=kI ⟨m,p,t⟩ (notM m (iD k f))):=HE.out
 rcases hO.own.row with ⟨e,e2⟩ | ⟨gg2,cap2,e,_,_⟩
 ·
  exfalso
  have:=congrArg List.length HE2.out
  rw [lZ,e2] at this
  simp at this
 subst e
 by_cases h9:L.length≤8
 ·
  have h9':((L.length:Nat):Int)≤8:=by omega
  have HQ:Hid (L=jl (iD k f) ⟨m,p,t⟩):=by
   rw [Hid]
   conv=>lhs;rw [HE2.out]
   exact pX (by rw [←HE2.out];exact h9)
  go_wp2_with fail
  go_ret
  exact ⟨_,rfl,by rw [←HQ.out];exact hO.own,hO.below⟩
 have h9':¬ ((L.length:Nat):Int)≤8:=by omega
 go_wp2_with fail
 have HM:Hid (L=kI ⟨m,p,t⟩ (notM m (iD k f))):=HE2.out
 have h9N:L.length≤10∧¬ L.length≤8:=⟨by omega,h9⟩
 have hO2:=hO
 obtain ⟨N,hNN⟩:∃ N,N=L.length:=⟨_,rfl⟩
 have hMl:L.length=N:=hNN.symm
 rw [←hNN] at h9N hO2 ⊢
 clear hNN
 have HN:Hid (L.length=N):=hMl
 have HO2:Hid (Out w wr (.slice (some ⟨gg2,0,none⟩) N cap2) L ⟨m,p,t⟩):=hO2
 have hrow:ja gg2 71 (N*3) (flat fun i=>L.getD i default) (N*3) wr:=fP
 obtain ⟨fo,hfo⟩:∃ fo:Nat→Ent,fo=fun i=>L.getD i default:=⟨_,rfl⟩
 have HFo:Hid (fo=fun i=>L.getD i default):=hfo
 rw [←hfo] at hrow
 have HRw:Hid (ja gg2 71 (N*3) (flat fo) (N*3) wr):=hrow
 obtain ⟨wB,hwB⟩:∃ wB:World,wB=wr:=⟨_,rfl⟩
 have HWB:Hid (wB=wr):=hwB
 have hN10:=h9N.1
 have HLong:Hid (∀ o,o<L.length→oX (notM m L)=some (L.getD o default)→L.take o++L.drop (o+1)=jl (iD k f) ⟨m,p,t⟩):=fun o ho hb=>by
  rw [HM.out] at ho hb ⊢
  exact rl (x:=⟨m,p,t⟩) (kM HO) (by rw [jH];exact h8) (by
   have hh:=h9N.2
   rw [←hMl,HM.out] at hh
   exact hh) ho hb
 have HNe:Hid (notM m L≠[]):=fun e=>by
  rw [HM.out] at e
  have e2:notM m (notM m (iD k f))=[]:=fQ
  rw [mG (fun y hy=>sq hy)] at e2
  have e3:=congrArg List.length HM.out
  rw [lZ,e2,hMl] at e3
  have:=h9N.2
  simp at e3
  omega
 have H9N:Hid (¬ N≤8):=h9N.2
 clear hrow hfo hO2 hMl h9N h9 h9' cX hO hwB
 go_loopw [13,14] (fun old i wr=>∃ (k:Nat) (q:Int),k≤N∧i=.int .i64 k∧old=.int .i64 q∧St2 fo m k q∧Same wB wr) (fun _ i _=>N-(intOf i).toNat)
 case atStart=>exact ⟨0,-1,Nat.zero_le _,rfl,rfl,.inl ⟨rfl,by simp [iD,notM]⟩,by rw [HWB.out];exact Same.refl _⟩
 obtain ⟨k,q,hk,rfl,rfl,hst,hS⟩:=hrel
 have HSt:Hid (St2 fo m k q):=hst
 have HSm:Hid (Same wB wr):=hS
 have HC:Hid (∀ i,i<N→wr.cell? ⟨gg2,i*3,none⟩=some (.int .i64 (fo i).m)∧wr.cell? ⟨gg2,i*3+2,none⟩=some (.int .i64 (fo i).t)):=fun i hi=>by
  rw [hS.cell,hS.cell,HWB.out,HRw.at _ (by omega),HRw.at _ (by omega),Am,Al]
  exact ⟨rfl,rfl⟩
 clear hst hS
 by_cases hlt:k<N
 · exact Ic
 obtain rfl:k=N:=by omega
 have he:iD k fo=L:=by
  rw [HFo.out]
  conv=>lhs;rw [←HN.out]
  exact kO L
 rcases HSt.out with ⟨h1,h2⟩ | ⟨o,ho,hq,h3,h4⟩
 ·
  rw [he] at h2
  exact absurd h2 HNe
 subst hq
 rw [he] at h4
 have hLast:=HLong o (by rw [HN.out];exact ho) (h4.trans (by rw [HFo.out]))
 have hown:mK wr.drew w.heap.size (.slice (some ⟨gg2,0,none⟩) k cap2) L:=mK.up HO2.own (by rw [←HWB.out];exact (HSm.below _).drew)
 exact Ib
theorem Cd (hk:k<n):CE (f k).m (iD n f)=true:=by
 unfold CE
 rw [List.any_eq_true]
 exact ⟨f k,List.mem_map.2 ⟨k,List.mem_range.2 hk,rfl⟩,by simp⟩
theorem ka.inj (h:ka n f) {i:Nat} (hi:i<n) (hj:j<n) (e:(f i).m=(f j).m):i=j:=by
 rcases Nat.lt_trichotomy i j with h1 | h1 | h1
 ·
  have:=h.lt j i h1 hj;omega
 ·
  exact h1
 have:=h.lt i j h1 hi;omega
theorem F5 (h:ka n f) (hk:k<n):atM (f k).m (iD n f)=f k:=by
 obtain ⟨h1,h2⟩:=sU (Cd (f:=f) hk)
 obtain ⟨i,hi,e⟩:=List.mem_map.1 h1
 rw [←e] at h2 ⊢
 rw [h.inj (List.mem_range.1 hi) hk h2]
theorem A9 (h:ka n f) (hk:k<n) (h1:(f k).m=mac) (h2:now-(f k).t≤20):oW (iD n f) mac now=(f k).p:=by
 subst h1
 unfold oW
 rw [F5 h hk,if_pos ⟨Cd hk,h2⟩]
theorem zF (h:∀ i,i<n→¬ ((f i).m=mac∧now-(f i).t≤20)):oW (iD n f) mac now=-1:=by
 unfold oW
 rw [if_neg]
 rintro ⟨h1,h2⟩
 obtain ⟨h3,h4⟩:=sU h1
 obtain ⟨i,hi,e⟩:=List.mem_map.1 h3
 rw [←e] at h4 h2
 exact h i (List.mem_range.1 hi) ⟨h4,h2⟩
theorem xR (a:Option Addr) (n cap:Nat) (f:Nat→Ent) (mac now r:Int) (w:World) (hn:n≤maxLen) (h:lD w a n f) (hr:xC n f mac now r) :
  Calls Tryz.prog 62 #[.slice a n cap,.int .i64 mac,.int .i64 now] w fun e w'=>e=.returned (.int .i64 r)∧Below w.heap.size w w':=by
 have HR:=aa h
 have HP:=aa hr
 obtain ⟨ok,hok⟩:=sb n f
 have HO:=aa hok
 clear h hr hok
 go_enter Tryz.func62,Tryz.ntmps62
 go_wp2_with fail
 refine (qX a n cap f _ hn HR ok HO).mono ?_
 rintro e w1 ⟨rfl,B1⟩
 cases ok
 ·
  have HF:Hid (r=-1):=HP.bad (fun hh=>absurd (HO.2 hh.1) (by simp))
  exact fM
 have HT:Hid (mA n f):=HO.1 rfl
 go_wp2_with fail
 refine (iB _ _ _ _).mono ?_
 rintro e w' ⟨rfl,rfl⟩
 by_cases ht:0≤now∧now≤1000000000
 ·
  have HTm:=aa ht
  have h8:=HT.1
  rw [decide_eq_true ht]
  go_wp2_with fail
  go_loop [7] (fun i=>∃ k:Nat,k≤n∧i=.int .i64 k∧∀ i,i<k→¬ ((f i).m=mac∧now-(f i).t≤20)) (fun i=>n-(intOf i).toNat)
  case atStart=>exact ⟨0,Nat.zero_le _,rfl,fun i hi=>by omega⟩
  obtain ⟨k,hk,rfl,hall⟩:=hrel
  have HA:=aa hall
  clear hall
  by_cases hlt:k<n
  ·
   have hlt':(k:Int)<n:=by omega
   obtain ⟨g,o,rfl,c1,c2,c3⟩:=(HR.up B1) k hlt
   have hx:=(HT.2 k hlt).1
   have HH:Hid ((f k).m=mac→now-(f k).t≤20→r=(f k).p):=fun e1 e2=>by
    rw [HP.good HT HTm.out,A9 HT.2 hlt e1 e2]
   have HS:Hid (¬ ((f k).m=mac∧now-(f k).t≤20)→∀ i,i<k+1→¬ ((f i).m=mac∧now-(f i).t≤20)):=fun hh i hi=>by
    by_cases e:i=k
    ·
     subst e;exact hh
    exact HA i (by omega)
   generalize f k=x at *
   obtain ⟨m,p,t⟩:=x
   obtain ⟨x1,x2,x3⟩:=hx
   dsimp only at c1 c2 c3 x1 x2 x3 HH HS
   have hw:IntKind.i64.wrap (now-t)=now-t:=jS _ (by omega) (by omega)
   by_cases hm:m=mac
   ·
    have hmq:(m == mac)=true:=by simp [hm]
    by_cases hs:now-t≤20
    ·
     have HF:=aa (HH hm hs)
     clear hm HH HS x1 x2 x3
     exact fM
    have HS2:Hid (∀ i,i<k+1→¬ ((f i).m=mac∧now-(f i).t≤20)):=HS (fun hh=>hs hh.2)
    exact fN
   have hmq:(m == mac)=false:=by simp [hm]
   have HS2:Hid (∀ i,i<k+1→¬ ((f i).m=mac∧now-(f i).t≤20)):=HS (fun hh=>hm hh.1)
   exact fN
  obtain rfl:k=n:=by omega
  have HF:Hid (r=-1):=by rw [Hid,HP.good HT HTm.out,zF HA.out]
  exact fM
 have HF:Hid (r=-1):=HP.bad (fun hh=>ht hh.2)
 rw [decide_eq_false ht]
 clear ht
 exact fM
theorem Bv (R:Rnd) (k:Nat) (s:Int) (w:World) (hs:R.Small) (h:mN w R) (hk:k<R.nS) (hL:R.L k≤1000) :
  Calls Tryz.prog 64 #[.agg R.cells,.int .i64 k,.int .i64 s] w fun e w'=>∃ R',e=.returned (.agg R'.cells)∧jD w' w.heap.size R'∧Below w.heap.size w w'∧Alike (R.push k s none 0) R':=by
 obtain ⟨aQ,nQ,cQ,q,aD,nD,cD,d,turn,fresh,aS,nS,cS,A,L,C,z⟩:=R
 have HR:=aa h
 have HS:=aa hs
 dsimp only at hk hL
 have hk':(k:Int)<nS:=by omega
 have hnS:(nS:Int)≤1048576:=by have:nS≤1048576:=hs.s;omega
 clear h hs
 have HA:Hid (∀ A B,Below w.heap.size w ((w.alloc A).alloc B)):=fun A B=>((Below.refl _ _).alloc (Nat.le_refl _) _).alloc (by simp) _
 have e2:∀ A B,((w.alloc A).alloc B).heap.size=w.heap.size+1+1:=fun A B=>by simp
 dsimp only [Rnd.cells]
 go_enter Tryz.func64,Tryz.ntmps64
 go_wp2_with fail
 refine (lz ⟨aQ,nQ,cQ,q,aD,nD,cD,d,turn,fresh,aS,nS,cS,A,L,C,z⟩ _ HS (HR.up (HA _ _))).mono ?_
 rintro e w3 ⟨aq,cq,ad,cd,av,cv,A',C',rfl,hZ,hb3⟩
 obtain ⟨kA,kB3,B3,z3⟩:=rZ hb3
 rw [e2] at hZ
 clear hb3 HA kA e2
 obtain ⟨gS,rfl⟩:∃ gS,av=some ⟨gS,0,none⟩:=by
  rcases hZ.own.s with h0 | ⟨g,hg,_,_⟩
  ·
   exact absurd hk (by rw [show nS=0 from h0];omega)
  exact ⟨g,hg⟩
 have hX:Below w3.heap.size w3 (w3.alloc (.cells #[.slice aq nQ cq,.slice ad nD cd,.int .i64 turn,.bool fresh,.slice (some ⟨gS,0,none⟩) nS cv] 45)).drew:=((Below.refl _ _).alloc (Nat.le_refl _) _).drew
 have kT:=im w3 (.cells #[.slice aq nQ cq,.slice ad nD cd,.int .i64 turn,.bool fresh,.slice (some ⟨gS,0,none⟩) nS cv] 45)
 have kT4:(w3.alloc (.cells #[.slice aq nQ cq,.slice ad nD cd,.int .i64 turn,.bool fresh,.slice (some ⟨gS,0,none⟩) nS cv] 45)).drew.heap[w3.heap.size]?=_:=kT
 have kB4:=(hX.block _ (ig kB3)).trans kB3
 have hZ4:=hZ.up hX
 have B4:=B3.trans (hX.mono B3.size)
 clear hX kT kB3 hZ B3
 simp only [Rnd.cp2,Rnd.cells]
 go_wp2_with fail
 generalize (w3.alloc (.cells #[.slice aq nQ cq,.slice ad nD cd,.int .i64 turn,.bool fresh,.slice (some ⟨gS,0,none⟩) nS cv] 45))=Wx at *
 have hbw:w.heap.size≤w.heap.size+1+1:=by omega
 have hz4:w.heap.size+1+1≤Wx.drew.heap.size:=by have:=ig kT4;omega
 obtain ⟨W4,hW4⟩:∃ W4,W4=Wx.drew:=⟨_,rfl⟩
 rw [←hW4] at kT4 kB4 hZ4 B4 hz4
 obtain ⟨a',c',W5,hrun,hP⟩:=hZ4.D8 (c:=k) (gS:=gS) hk hL hz4 rfl s
 dsimp only [Rnd.cp2] at hrun
 have hrow:w.heap.size+1+1≤gS∧ja gS 27 nS (fun i=>.slice (A' i) (L i) (C' i)) nS W4:=by
  rcases hZ4.own.s with h0 | ⟨g,hg,hbg,hr⟩
  ·
   exact absurd hk (by rw [show nS=0 from h0];omega)
  cases hg
  exact ⟨hbg,hr⟩
 obtain ⟨hgS,hr4⟩:=hrow
 have hAl:=(Below.refl W4.heap.size W4).alloc (Nat.le_refl _) (.cells #[.int .i64 s] 2)
 have rS4:=hr4.at k hk
 have rS4':=(hr4.jQ (hAl.block _ hr4.lt)).at k hk
 have hne:w3.heap.size≠gS:=fun e=>by
  obtain ⟨arr,hx,_⟩:=hr4
  rw [←e,kT4] at hx
  simp at hx
 have q0:W4.cell? ⟨w3.heap.size,4,none⟩=some (.slice (some ⟨gS,0,none⟩) nS cv):=ie kT4 4
 have q1:(W4.alloc (.cells #[.int .i64 s] 2)).cell? ⟨w3.heap.size,4,none⟩=some (.slice (some ⟨gS,0,none⟩) nS cv):=ie ((hAl.block _ (ig kT4)).trans kT4) 4
 have kT5:=hP.box _ _ _ (by decide) kT4
 have q2:W5.cell? ⟨w3.heap.size,4,none⟩=some (.slice (some ⟨gS,0,none⟩) nS cv):=ie kT5 4
 have kT6:=(iE (w:=W5) (g:=gS) (i:=k) hne (.slice a' (L k+1) c')).trans kT5
 have q3:(W5.setCell ⟨gS,k,none⟩ (.slice a' (L k+1) c')).cell? ⟨w3.heap.size,4,none⟩=some (.slice (some ⟨gS,0,none⟩) nS cv):=ie kT6 4
 have cS5:=hP.row.at k hk
 have fS5:=hP.row.free k
 dsimp only [Rnd.cp2] at cS5 rS4 rS4'
 obtain ⟨W6,hW6⟩:∃ W6,W6=W5.setCell ⟨gS,k,none⟩ (.slice a' (L k+1) c'):=⟨_,rfl⟩
 have HOw:Hid (jD W6 (w.heap.size+1+1) ((Rnd.cp2 ⟨aQ,nQ,cQ,q,aD,nD,cD,d,turn,fresh,aS,nS,cS,A,L,C,z⟩ aq cq ad cd (some ⟨gS,0,none⟩) cv A' C').push k s a' c')):=by rw [Hid,hW6];exact hP.oz
 have hB6:Below (w.heap.size+1+1) W4 W6:=by rw [hW6];exact hP.below
 have kB6:=(hB6.block _ (show w.heap.size+1<w.heap.size+1+1 by omega)).trans kB4
 have HB6:=aa (B4.trans (hB6.mono hbw))
 rw [←hW6] at kT6
 have cT6:=ie kT6
 have cB6:=ie kB6
 have fB6:=ix kB6
 have HAl:Hid (Alike (Rnd.push ⟨aQ,nQ,cQ,q,aD,nD,cD,d,turn,fresh,aS,nS,cS,A,L,C,z⟩ k s none 0) ((Rnd.cp2 ⟨aQ,nQ,cQ,q,aD,nD,cD,d,turn,fresh,aS,nS,cS,A,L,C,z⟩ aq cq ad cd (some ⟨gS,0,none⟩) cv A' C').push k s a' c')):=⟨rfl,rfl,rfl,rfl,rfl,rfl,rfl,rfl,rfl⟩
 have HW6:=aa hW6
 clear hP hB6 hZ4 hr4 hAl kT5 B4 kB4 hW6
 refine wp_region_held_drew (S:=fun w'=>w'.cell? ⟨w3.heap.size,4,none⟩=some (.slice (some ⟨gS,0,none⟩) nS cv)) (by kernel_rfl) (by rw [←hW4];exact q0) (fun hHeld=>?_)
 rw [←hW4] at hHeld ⊢
 clear hW4 kT4
 refine tC 0 10 (v:=?_) ?_ ?_
 rotate_left
 · exact aY
 try simp only [Act.put,PZ]
 refine tC 1 11 (v:=?_) ?_ ?_
 rotate_left
 · exact aY
 try simp only [Act.put,PZ]
 refine tC 2 12 (v:=?_) ?_ ?_
 rotate_left
 · exact aY
 try simp only [Act.put,PZ]
 refine tC 3 13 (v:=?_) ?_ ?_
 rotate_left
 · exact aY
 try simp only [Act.put,PZ]
 refine tC 4 14 (v:=?_) ?_ ?_
 rotate_left
 · exact aY
 try simp only [Act.put,PZ]
 refine tC 5 15 (v:=?_) ?_ ?_
 rotate_left
 · exact aY
 try simp only [Act.put,PZ]
 refine tC 6 16 (v:=?_) ?_ ?_
 rotate_left
 · exact aY
 try simp only [Act.put,PZ]
 refine tC 8 18 (v:=?_) ?_ ?_
 rotate_left
 · exact aY
 try simp only [Act.put,PZ]
 refine rq2 7 9 (fun K hK=>?_) (fun K hK=>?_)
 ·
  go_simp
  refine ah (hK _ _ q0) ?_
  intro hHeld
  clear hK K
  refine rq1 9 (fun K hK=>?_)
  exact HJ
 go_simp
 refine ah (hK _ _ q1) ?_
 intro hHeld
 clear hK K
 refine rq1 7 (fun K hK=>?_)
 exact HJ
