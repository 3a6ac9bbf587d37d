import Derived.Test.YtjippgbmmlcgoaaGreatDoorB20
namespace Go.Proofs.YtjippgbmmlcgoaaGreatDoor
open Go.RowKit
set_option linter.unusedVariables false
set_option linter.unusedSimpArgs false
variable {s:Int} {S:List Nat} {base c c' g gD gS gb k n:Nat} {f:Nat→Int} {a a':Option Addr} {t:TypeId} {W W2 w w':World}
def sY (S:List Nat) (w w':World):Prop:=∀ (g:Nat) (arr:Array Value) (t:TypeId),t=2∨t=27→g∉S→w.heap[g]?=some (.cells arr t (0,0))→w'.heap[g]?=w.heap[g]?
theorem ja.pZ {f:Nat→Value} (h:ja g t n f k w) (hk:sY S w w') (ht:t=2∨t=27) (hg:g∉S):ja g t n f k w':=by
 obtain ⟨arr,h1,h2⟩:=h
 exact ja.jQ ⟨arr,h1,h2⟩ (hk g arr t ht hg h1)
theorem VI.pZ (h:VI w base a n f) (hk:sY S w w') (hg:∀ x∈jR a n,x∉S):VI w' base a n f:=by
 by_cases h0:n=0
 ·
  exact .inl h0
 rcases h with h1 | ⟨g,rfl,hb,hr⟩
 ·
  exact absurd h1 h0
 exact .inr ⟨g,rfl,hb,hr.pZ hk (.inl rfl) (hg g (oO h0))⟩
theorem VS.pZ {F:Nat→Value} (h:VS w base a n F) (hk:sY S w w') (hg:∀ x∈jR a n,x∉S):VS w' base a n F:=by
 by_cases h0:n=0
 ·
  exact .inl h0
 rcases h with h1 | ⟨g,rfl,hb,hr⟩
 ·
  exact absurd h1 h0
 exact .inr ⟨g,rfl,hb,hr.pZ hk (.inr rfl) (hg g (oO h0))⟩
theorem jy.pZ {R:Rnd} (h:jy w base R) (hk:sY [] w w'):jy w' base R :=
 ⟨h.q.pZ hk (fun _ _=>by simp),h.d.pZ hk (fun _ _=>by simp),h.s.pZ hk (fun _ _=>by simp),fun i hi=>(h.z i hi).pZ hk (fun _ _=>by simp),h.qd,h.qz,h.dz,h.zz⟩
theorem sY.Be {cs:Array Value} (ht:Touch [g] w w') (hg:w.heap[g]?=some (.cells cs 45 (0,0))):sY [] w w':=fun k arr t h1 _ h2=>ht.block k (ig h2) (fun hx=>by
 simp at hx
 subst hx
 rw [hg] at h2
 simp at h2
 rcases h1 with rfl | rfl
 ·
  exact absurd h2.2 (by decide)
 ·
  exact absurd h2.2 (by decide))
theorem Rep.up {X:Rnd} (h:Rep w base gb gD X X) (hb:Below w.heap.size w w'):Rep w' base gb gD X X :=
 ⟨(hb.block _ (ig h.box)).trans h.box,h.own.up hb,Alike.refl _,h.ad,h.cap⟩
theorem Rep.turn {X:Rnd} (h:Rep w base gb gD X X):Rep (w.setRow gb (iU X).cells) base gb gD (iU X) (iU X) :=
 have o:=h.own.pZ (sY.Be (jK w gb (iU X).cells) h.box)
 ⟨py h.box,⟨o.q,o.d,o.s,o.z,o.qd,o.qz,o.dz,o.zz⟩,Alike.refl _,h.ad,h.cap⟩
def Rnd.iV (X:Rnd) (c:Nat) (v:Int):Rnd:={ X with d:=qU X.d c v }
theorem VI.set (h:VI w base (some ⟨g,0,none⟩) n f) (hc:c<n) (v:Int):VI (w.setCell ⟨g,c,none⟩ (.int .i64 v)) base (some ⟨g,0,none⟩) n (qU f c v):=by
 rcases h with h | ⟨g',e,hb,arr,h1,h2,h3⟩
 ·
  omega
 cases e
 refine .inr ⟨g,rfl,hb,_,iL h1 _,by simpa using h2,fun i hi=>?_⟩
 by_cases e:i=c
 ·
  subst e
  rw [Array.getElem?_setIfInBounds_self_of_lt (by omega)]
  show some (Value.int .i64 v)=some (Value.int .i64 (qU f i v i))
  rw [mS]
 rw [Array.getElem?_setIfInBounds_ne (by omega)]
 show arr[i]?=some (Value.int .i64 (qU f c v i))
 rw [qy e]
 exact h3 i hi
theorem sY.set (w:World) (g c:Nat) (v:Value):sY [g] w (w.setCell ⟨g,c,none⟩ v):=fun k arr t _ hn _=>iE (by
 intro e
 subst e
 exact hn (by simp)) v
theorem Rep.def {X:Rnd} (h:Rep w base gb gD X X) (hc:c<X.nD) (v:Int):Rep (w.setCell ⟨gD,c,none⟩ (.int .i64 v)) base gb gD (X.iV c v) (X.iV c v):=by
 have hk:=sY.set w gD c (.int .i64 v)
 have h0:¬ X.nD=0:=by omega
 have hin:gD∈jR X.aD X.nD:=by rw [h.ad];exact oO h0
 have hdv:=h.own.d
 rw [h.ad] at hdv
 have hD:∃ arr,w.heap[gD]?=some (.cells arr 2 (0,0)):=by
  rcases hdv with h1 | ⟨g,e,_,arr,h1,_⟩
  ·
   exact absurd h1 h0
  cases e;exact ⟨arr,h1⟩
 obtain ⟨arr,hD⟩:=hD
 have hnb:¬ gD=gb:=fun e=>by
  subst e
  rw [h.box] at hD
  simp at hD
 have hsv:∀ x∈jR X.aS X.nS,x∉[gD]:=fun x hx hx2=>by
  simp at hx2
  subst hx2
  by_cases h1:X.nS=0
  ·
   unfold jR at hx;rw [if_pos h1] at hx;simp at hx
  rcases h.own.s with h2 | ⟨g,e,_,a2,h2,_⟩
  ·
   exact h1 h2
  rw [e] at hx
  unfold jR at hx
  rw [if_neg h1] at hx
  simp at hx
  subst hx
  rw [hD] at h2
  simp at h2
 have nin:∀ {a:Option Addr} {n:Nat},ke X.aD X.nD a n→∀ x∈jR a n,x∉[gD]:=fun ha x hx hx2=>by
  simp at hx2
  subst hx2
  exact ha _ hin hx
 refine ⟨(iE (fun e=>hnb e.symm) _).trans h.box,⟨h.own.q.pZ hk (nin h.own.qd.symm),?_,h.own.s.pZ hk hsv,fun i hi=>(h.own.z i hi).pZ hk (nin (h.own.dz i hi)),h.own.qd,h.own.qz,h.own.dz,h.own.zz⟩,Alike.refl _,h.ad,h.cap⟩
 show VI _ base X.aD X.nD (qU X.d c v)
 rw [h.ad]
 exact hdv.set hc v
theorem Rep.begun {X:Rnd} (h:Rep w base gb gD X X):Rep (w.setCell ⟨gb,3,none⟩ (.bool false)) base gb gD { X with fresh:=false } { X with fresh:=false } :=
 have o:=h.own.pZ (sY.Be ((Touch.refl [gb] w).set (by simp) 3 (.bool false)) h.box)
 ⟨iL h.box _,⟨o.q,o.d,o.s,o.z,o.qd,o.qz,o.dz,o.zz⟩,Alike.refl _,h.ad,h.cap⟩
theorem lu.ED {R R':Rnd} (h:lu k R R' c s) (h0:R.L R.now=0):∃ k2,k=k2+1∧lu k2 (iU R) R' c s:=by
 cases h with
 | skip _ h=>exact ⟨_,rfl,h⟩
 | short h1=>exact absurd h0 h1
 | take h1=>exact absurd h0 h1
theorem lu.CY {R R':Rnd} (h:lu k R R' c s) (h0:R.L R.now≠0) (hd:(iJ R).d R.now<R.z R.now 0):∃ k2,k=k2+1∧lu k2 (iU (iJ R)) R' c s:=by
 cases h with
 | skip h1=>exact absurd h1 h0
 | short _ _ h=>exact ⟨_,rfl,h⟩
 | take _ h1=>exact absurd hd (by omega)
theorem lu.AY {R R':Rnd} (h:lu k R R' c s) (h0:R.L R.now≠0) (hd:R.z R.now 0≤(iJ R).d R.now):R'=mT (iJ R)∧c=R.now∧s=R.z R.now 0:=by
 cases h with
 | skip h1=>exact absurd h1 h0
 | short _ h1 _=>exact absurd hd (by omega)
 | take _ _=>exact ⟨rfl,rfl,rfl⟩
def Rnd.cut (R:Rnd) (c:Nat) (a':Option Addr) (c':Nat):Rnd :=
 { R with A:=fun i=>if i=c then a' else R.A i,L:=oY R.L c (R.L c-1),C:=fun i=>if i=c then c' else R.C i,z:=tJ R.z c (fun j=>R.z c (j+1)) }
structure Cut (X:Rnd) (base gb gD:Nat) (W W2:World) (c gS:Nat) (a':Option Addr) (c':Nat):Prop where
 own:jy (W2.setCell ⟨gS,c,none⟩ (.slice a' (X.L c-1) c')) base (X.cut c a' c')
 after:(W2.setCell ⟨gS,c,none⟩ (.slice a' (X.L c-1) c')).heap[gb]?=some (.cells X.cells 45 (0,0))
 below:Below base W (W2.setCell ⟨gS,c,none⟩ (.slice a' (X.L c-1) c'))
 row:ja gS 27 X.nS (fun i=>.slice (X.A i) (X.L i) (X.C i)) X.nS W2
 box:W2.heap[gb]?=some (.cells X.cells 45 (0,0))
 cap:X.L c-1≤c'
theorem DS {v:Value} {q:Nat} (h:W.ownsRow base 2 1 v 0 []) (hb:base≤W.heap.size) (hn:n≤1048576) (hc:∀ i,i<n→W.cell? ⟨g,q+i,none⟩=some (.int .i64 (f i))) :
  ∃ a' c' W',(Builtin.append_ #[27,27] 27 #[v,.slice (some ⟨g,q,none⟩) n c]).run Tryz.prog W=.ok (.slice a' n c') W'∧VI W' base a' n f∧W.grownBy W' v.ownBlock∧(∀ x∈jR a' n,some x=v.ownBlock∨x=W.heap.size)∧n≤c':=by
 obtain ⟨i0,hi,hz0,hz1,hz2⟩:=info_parts rD
 obtain ⟨v',w',hr,h2,h3,h4,h5⟩:=run_append_own_at (P:=Tryz.prog) W base 27 27 2 i0 (.int .i64 0) 1 8 Tryz.underlying27 hi hz0 hz1 hz2 rfl (by decide) v 0 [] h ⟨g,q,none⟩ n c (kW n f) (by rw [qb];omega) (fun j u hj=>by
  obtain ⟨hjn,rfl⟩:=sH hj
  have e:(⟨g,q,none⟩:Addr).add j=⟨g,q+j,none⟩:=by unfold Addr.add;split <;> simp_all
  rw [e];exact hc j hjn) (fun u hu=>by
  obtain ⟨j,_,rfl⟩:=List.mem_map.1 hu
  rfl) (by unfold maxLen;omega) (by omega) hb
 rw [Nat.zero_add,List.nil_append] at h2
 obtain ⟨a',c',rfl,hv⟩:=wI h2
 have hcap':n≤c':=by
  rcases h2.2 with ⟨_,e0⟩ | ⟨g9,cap9,cur9,e9,_,_,h9,_⟩
  ·
   omega
  cases e9
  exact h9
 refine ⟨a',c',w',hr,hv,h3,fun x hx=>?_,hcap'⟩
 unfold jR at hx
 split at hx
 ·
  simp at hx
 rename_i hn0
 rcases hv with h0 | ⟨g',rfl,_,_⟩
 ·
  exact absurd h0 hn0
 simp at hx
 subst hx
 rcases h5 with h5 | h5
 ·
  exact .inl h5
 right
 simpa [Value.ownBlock] using h5
theorem Rep.cut {gz:Nat} {X:Rnd} (h:Rep W base gb gD X X) (hc:c<X.nS) (hl:X.L c≠0) (hl2:X.L c≤1000) (hb:base≤W.heap.size) (hS:X.aS=some ⟨gS,0,none⟩) (hA:X.A c=some ⟨gz,0,none⟩) (cc q:Nat) (hq:q=1∨X.L c=1) :
  ∃ a' c' W2,(Builtin.append_ #[27,27] 27 #[.slice (some ⟨W.heap.size,0,none⟩) 0 0,.slice (some ⟨gz,q,none⟩) (X.L c-1) cc]).run Tryz.prog (W.alloc (.cells #[] 2))=.ok (.slice a' (X.L c-1) c') W2∧Cut X base gb gD W W2 c gS a' c':=by
 have hA1:Below W.heap.size W (W.alloc (.cells #[] 2)):=(Below.refl _ _).alloc (Nat.le_refl _) _
 have e1:(W.alloc (.cells #[] 2)).heap.size=W.heap.size+1:=by simp
 have hz:=(h.own.z c hc).read.up hA1
 rw [hA] at hz
 obtain ⟨a',c',W2,hr,hv,h3,h4,h4c⟩:=DS (base:=base) (c:=cc) (g:=gz) (q:=q) (n:=X.L c-1) (f:=fun j=>X.z c (j+1)) (om hb (im W (.cells #[] 2))) (by omega) (by omega) (fun i hi=>by
  rcases hq with rfl | hq
  ·
   obtain ⟨g,o,e,hcl⟩:=hz (i+1) (by omega)
   cases e
   rw [Nat.zero_add] at hcl
   rw [Nat.add_comm 1 i]
   exact hcl
  ·
   omega)
 refine ⟨a',c',W2,hr,?_⟩
 have hblk:∀ k,k<W.heap.size→W2.heap[k]?=W.heap[k]?:=fun k hk=>(h3.block k (by omega) (fun e=>by
  simp [Value.ownBlock] at e
  omega)).trans (hA1.block k hk)
 have hnb:∀ x∈jR a' (X.L c-1),W.heap.size≤x:=fun x hx=>by
  rcases h4 x hx with h5 | h5
  ·
   simp [Value.ownBlock] at h5
   omega
  omega
 rcases h.own.s with h0 | ⟨g,hg,hbg,hrow⟩
 ·
  omega
 rw [hS] at hg
 cases hg
 have hrow2:=hrow.jQ (hblk gS hrow.lt)
 have hrow3:=hrow2
 obtain ⟨arr2,hb2,hn2,hc2⟩:=hrow2
 have ht:Touch [gS] W2 (W2.setCell ⟨gS,c,none⟩ (.slice a' (X.L c-1) c')):=(Touch.refl _ _).set (by simp) c _
 have key2:∀ {a:Option Addr} {n:Nat} {f:Nat→Int},VI W2 base a n f→VI (W2.setCell ⟨gS,c,none⟩ (.slice a' (X.L c-1) c')) base a n f:=fun hv=>hv.iu ht (fun x hx hx2=>by
  simp at hx2
  subst hx2
  exact yR hv (by decide) hb2 hx)
 have key:∀ {a:Option Addr} {n:Nat} {f:Nat→Int},VI W base a n f→VI (W2.setCell ⟨gS,c,none⟩ (.slice a' (X.L c-1) c')) base a n f:=fun hv=>key2 (hv.EY (fun x hx hlt=>hblk x hlt))
 have hap:∀ {a:Option Addr} {n:Nat} {f:Nat→Int},VI W base a n f→ke a n a' (X.L c-1):=fun hv x hx hy=>by
  have:=hnb x hy
  have:=(hv.blk x hx).2
  omega
 have hbox:W2.heap[gb]?=some (.cells X.cells 45 (0,0)):=(hblk gb (ig h.box)).trans h.box
 have hgb:¬ gb=gS:=fun e=>by
  subst e
  rw [hbox] at hb2
  simp at hb2
 have hLc:oY X.L c (X.L c-1) c=X.L c-1:=jE _ _ _
 have hZc:tJ X.z c (fun j=>X.z c (j+1)) c=fun j=>X.z c (j+1):=mm _ _ _
 refine ⟨⟨key h.own.q,key h.own.d,.inr ⟨gS,hS,hbg,?_⟩,fun i hi=>?_,h.own.qd,fun i hi=>?_,fun i hi=>?_,fun i j hi hj hne=>?_⟩,(iE hgb _).trans hbox,?_,hrow3,hbox,h4c⟩
 ·
  refine ⟨_,iL hb2 _,by simpa [Rnd.cut] using hn2,fun i hi=>?_⟩
  show _=some (Value.slice (if i=c then a' else X.A i) (oY X.L c (X.L c-1) i) (if i=c then c' else X.C i))
  by_cases e:i=c
  ·
   subst e
   rw [hLc]
   simp only [if_true]
   exact Array.getElem?_setIfInBounds_self_of_lt (by omega)
  rw [Array.getElem?_setIfInBounds_ne (by omega),hc2 i hi,if_neg e,if_neg e,jJ e]
 ·
  show VI _ base (if i=c then a' else X.A i) (oY X.L c (X.L c-1) i) (tJ X.z c (fun j=>X.z c (j+1)) i)
  by_cases e:i=c
  ·
   subst e
   rw [hLc,hZc]
   simp only [if_true]
   exact key2 hv
  rw [jJ e,pv e]
  simp only [if_neg e]
  exact key (h.own.z i hi)
 ·
  show ke X.aQ X.nQ (if i=c then a' else X.A i) (oY X.L c (X.L c-1) i)
  by_cases e:i=c
  ·
   subst e
   rw [hLc]
   simp only [if_true]
   exact hap h.own.q
  rw [jJ e]
  simp only [if_neg e]
  exact h.own.qz i hi
 ·
  show ke X.aD X.nD (if i=c then a' else X.A i) (oY X.L c (X.L c-1) i)
  by_cases e:i=c
  ·
   subst e
   rw [hLc]
   simp only [if_true]
   exact hap h.own.d
  rw [jJ e]
  simp only [if_neg e]
  exact h.own.dz i hi
 ·
  show ke (if i=c then a' else X.A i) (oY X.L c (X.L c-1) i) (if j=c then a' else X.A j) (oY X.L c (X.L c-1) j)
  by_cases e:i=c
  ·
   subst e
   rw [hLc,jJ (Ne.symm hne)]
   simp only [if_true,if_neg (Ne.symm hne)]
   exact (hap (h.own.z j hj)).symm
  by_cases e2:j=c
  ·
   subst e2
   rw [hLc,jJ e]
   simp only [if_true,if_neg e]
   exact hap (h.own.z i hi)
  rw [jJ e,jJ e2]
  simp only [if_neg e,if_neg e2]
  exact h.own.zz i j hi hj hne
 have hB2:Below base W W2:=⟨h3.os,h3.tape,h3.output,by have:=h3.size;omega,fun k hk=>hblk k (by omega)⟩
 exact hB2.trans (ht.below (by have:=h3.size;omega) (fun x hx=>by simp at hx;subst hx;exact hbg))
theorem Cut.rep {X:Rnd} (h:Cut X base gb gD W W2 c gS a' c') (h1:X.L c=1) (had:X.aD=some ⟨gD,0,none⟩) (hcap:∀ i,i<X.nS→X.L i≤X.C i) :
  Rep (W2.setCell ⟨gS,c,none⟩ (.slice a' (X.L c-1) c')) base gb gD (X.cut c a' c') (X.cut c a' c'):=by
 refine ⟨h.after,h.own,Alike.refl _,had,fun i hi=>?_⟩
 show oY X.L c (X.L c-1) i≤(if i=c then c' else X.C i)
 by_cases e:i=c
 ·
  subst e
  rw [jE,h1]
  omega
 rw [jJ e,if_neg e]
 exact hcap i hi
theorem Cut.capR {X:Rnd} (h:Cut X base gb gD W W2 c gS a' c') (hcap:∀ i,i<X.nS→X.L i≤X.C i):∀ i,i<(X.cut c a' c').nS→(X.cut c a' c').L i≤(X.cut c a' c').C i:=fun i hi=>by
 show oY X.L c (X.L c-1) i≤(if i=c then c' else X.C i)
 by_cases e:i=c
 ·
  subst e
  rw [jE,if_pos rfl]
  exact h.cap
 rw [jJ e,if_neg e]
 exact hcap i hi
theorem AQ (f:Nat→Int) (c:Nat) (x y:Int):qU (qU f c x) c y=qU f c y:=by
 funext i
 unfold qU
 split <;> rfl
theorem zu {X:Rnd} (hc:X.now=c) (h1:X.L c≠1) (a':Option Addr) (c':Nat):Alike (mT X) ((X.iV c (X.d c-X.z c 0)).cut c a' c'):=by
 subst hc
 unfold mT
 rw [if_neg h1]
 exact ⟨rfl,rfl,rfl,rfl,rfl,rfl,rfl,rfl,rfl⟩
theorem zT {X:Rnd} (hc:X.now=c) (h1:X.L c=1) (a':Option Addr) (c':Nat):Alike (mT X) (iU (((X.iV c (X.d c-X.z c 0)).cut c a' c').iV c 0)):=by
 subst hc
 unfold mT
 rw [if_pos h1]
 exact oV ⟨rfl,rfl,rfl,AQ _ _ _ _,rfl,rfl,rfl,rfl,rfl⟩
theorem EM {wi:World} {A B:Array Value} {s:TypeId} (h:Below (w.heap.size+2) ((w.alloc (.cells A t)).alloc (.cells B s)) wi):wi.heap[w.heap.size+1]?=some (.cells B s (0,0)):=by
 refine (h.block _ (by omega)).trans ?_
 have:=im (w.alloc (.cells A t)) (.cells B s)
 simpa using this
theorem C5 (gz q L C:Nat) (w:World) (hL:L≠0) (hq:(if C=1 then some (⟨gz,0,none⟩:Addr) else some ⟨gz,1,none⟩)=some ⟨gz,q,none⟩) :
  (Instr.slice 27 (.slice (some ⟨gz,0,none⟩) L C) (some (.int .i64 1)) none none).run Tryz.prog w=.ok (.slice (some ⟨gz,q,none⟩) (L-1) (C-1)) w:=by
 have h1:(1:Int)≤(L:Int):=by omega
 have h2:(some (⟨gz,0,none⟩:Addr)).map (·.add (1*1))=some ⟨gz,1,none⟩:=rfl
 simp [go_sem,h1]
 exact hq
