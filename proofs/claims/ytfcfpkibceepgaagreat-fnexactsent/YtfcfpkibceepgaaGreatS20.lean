import Derived.Test.YtfcfpkibceepgaaGreatS05
import Derived.Test.YtfcfpkibceepgaaGreatS19
import Derived.Deep.MidRow
namespace Go.Proofs.YtfcfpkibceepgaaGreat
set_option maxHeartbeats 1000000
open Go.RowKit
set_option linter.unusedVariables false
set_option linter.unusedSimpArgs false
theorem cZ {p:Prop} (h:p:=by
 go_wp2_with fail
 go_ret
 exact ⟨⟨_,rfl,.inl rfl⟩,HA.out _⟩):p:=h
theorem da {p:Prop} (h:p:=by
 go_wp2_with fail
 go_ret
 exact ⟨⟨_,rfl,.inl rfl⟩,rfl⟩):p:=h
theorem db {p:Prop} (h:p:=by
 split at hx
 ·
  simp at hx
 rcases h with h | ⟨g,o,rfl,hg,hr⟩
 ·
  contradiction
 simp at hx;subst hx;exact ⟨hg,hr.lt⟩):p:=h
theorem dc {p:Prop} (h:p:=by
 go_wp2_with fail
 go_ret
 exact ⟨⟨_,rfl,.inr (by omega)⟩,rfl⟩):p:=h
theorem de {p:Prop} (h:p:=by
 go_enter Tryz.func91,Tryz.ntmps91
 go_wp2
 go_ret
 exact ⟨rfl,(Below.refl _ _).alloc (Nat.le_refl _) _⟩):p:=h
theorem df {p:Prop} (h:p:=by
 rw [hLc]
 simp only [if_true]
 exact Array.getElem?_setIfInBounds_self_of_lt (by omega)):p:=h
theorem dh {p:Prop} (h:p:=by
 rw [im e,im e2]
 simp only [if_neg e,if_neg e2]
 exact h.own.zz i j hi hj hne):p:=h
theorem di {p:Prop} (h:p:=by
 simp only [List.length_take,Array.length_toList,Array.getElem?_toList]
 congr 1
 omega):p:=h
theorem dj {p:Prop} (h:p:=by
 exact ⟨k 0 (by omega),k 1 (by omega),k 2 (by omega),k 3 (by omega),k 4 (by omega)⟩):p:=h
theorem dk {p:Prop} (h:p:=by
 rcases h with rfl | ⟨g,o,rfl,_,hr⟩
 ·
  exact fY.nil _ _ _
 exact hr.read):p:=h
def Rnd.cut (R:Rnd) (c:Nat) (a':Option Addr) (c':Nat):Rnd :=
 { R with A:=fun i=>if i=c then a' else R.A i,L:=jT R.L c (R.L c-1),C:=fun i=>if i=c then c' else R.C i,z:=pS R.z c (fun j=>R.z c (j+1)) }
structure Cut (X:Rnd) (base gb gD:Nat) (W W2:World) (c gS:Nat) (a':Option Addr) (c':Nat):Prop where
 own:iQ (W2.setCell ⟨gS,c,none⟩ (.slice a' (X.L c-1) c')) base (X.cut c a' c')
 after:(W2.setCell ⟨gS,c,none⟩ (.slice a' (X.L c-1) c')).heap[gb]?=some (.cells X.cells 100 (0,0))
 below:Below base W (W2.setCell ⟨gS,c,none⟩ (.slice a' (X.L c-1) c'))
 row:fV gS 25 X.nS (fun i=>.slice (X.A i) (X.L i) (X.C i)) X.nS W2
 box:W2.heap[gb]?=some (.cells X.cells 100 (0,0))
 cap:X.L c-1≤c'
theorem Bl {W:World} {base:Nat} {v:Value} {g q n c:Nat} {f:Nat→Int} (h:W.ownsRow base 2 1 v 0 []) (hb:base≤W.heap.size) (hn:n≤1048576) (hc:∀ i,i<n→W.cell? ⟨g,q+i,none⟩=some (.int .i64 (f i))) :
  ∃ a' c' W',(Builtin.append_ #[25,25] 25 #[v,.slice (some ⟨g,q,none⟩) n c]).run Tryz.prog W=.ok (.slice a' n c') W'∧VI W' base a' n f∧W.grownBy W' v.ownBlock∧(∀ x∈iS a' n,some x=v.ownBlock∨x=W.heap.size)∧n≤c':=by
 obtain ⟨i0,hi,hz0,hz1,hz2⟩:=info_parts rJ
 obtain ⟨v',w',hr,h2,h3,h4,h5⟩:=run_append_own_at (P:=Tryz.prog) W base 25 25 2 i0 (.int .i64 0) 1 8 Tryz.underlying25 hi hz0 hz1 hz2 rfl (by decide) v 0 [] h ⟨g,q,none⟩ n c (j9 n f) (by rw [pF];omega) (fun j u hj=>by
  obtain ⟨hjn,rfl⟩:=tJ hj
  have e:(⟨g,q,none⟩:Addr).add j=⟨g,q+j,none⟩:=by unfold Addr.add;split <;> simp_all
  rw [e];exact hc j hjn) (fun u hu=>by
  obtain ⟨j,_,rfl⟩:=List.mem_map.1 hu
  rfl) (by unfold maxLen;omega) (by omega) hb
 rw [Nat.zero_add,List.nil_append] at h2
 obtain ⟨a',c',rfl,hv⟩:=yK h2
 have hcap':n≤c':=by
  rcases h2.2 with ⟨_,e0⟩ | ⟨g9,cap9,cur9,e9,_,_,h9,_⟩
  ·
   omega
  cases e9
  exact h9
 refine ⟨a',c',w',hr,hv,h3,fun x hx=>?_,hcap'⟩
 unfold iS at hx
 split at hx
 ·
  simp at hx
 rename_i hn0
 rcases hv with h0 | ⟨g',rfl,_,_⟩
 ·
  exact absurd h0 hn0
 simp at hx
 subst hx
 rcases h5 with h5 | h5
 ·
  exact .inl h5
 right
 simpa [Value.ownBlock] using h5
theorem Rep.cut {W:World} {base gb gD c gS gz:Nat} {X:Rnd} (h:Rep W base gb gD X X) (hc:c<X.nS) (hl:X.L c≠0) (hl2:X.L c≤1000) (hb:base≤W.heap.size) (hS:X.aS=some ⟨gS,0,none⟩) (hA:X.A c=some ⟨gz,0,none⟩) (cc q:Nat) (hq:q=1∨X.L c=1) :
  ∃ a' c' W2,(Builtin.append_ #[25,25] 25 #[.slice (some ⟨W.heap.size,0,none⟩) 0 0,.slice (some ⟨gz,q,none⟩) (X.L c-1) cc]).run Tryz.prog (W.alloc (.cells #[] 2))=.ok (.slice a' (X.L c-1) c') W2∧Cut X base gb gD W W2 c gS a' c':=by
 have hA1:Below W.heap.size W (W.alloc (.cells #[] 2)):=(Below.refl _ _).alloc (Nat.le_refl _) _
 have e1:(W.alloc (.cells #[] 2)).heap.size=W.heap.size+1:=by simp
 have hz:=(h.own.z c hc).read.up hA1
 rw [hA] at hz
 obtain ⟨a',c',W2,hr,hv,h3,h4,h4c⟩:=Bl (base:=base) (c:=cc) (g:=gz) (q:=q) (n:=X.L c-1) (f:=fun j=>X.z c (j+1)) (ng hb (fL W (.cells #[] 2))) (by omega) (by omega) (fun i hi=>by
  rcases hq with rfl | hq
  ·
   obtain ⟨g,o,e,hcl⟩:=hz (i+1) (by omega)
   cases e
   rw [Nat.zero_add] at hcl
   rw [Nat.add_comm 1 i]
   exact hcl
  ·
   omega)
 refine ⟨a',c',W2,hr,?_⟩
 have hblk:∀ k,k<W.heap.size→W2.heap[k]?=W.heap[k]?:=fun k hk=>(h3.block k (by omega) (fun e=>by
  simp [Value.ownBlock] at e
  omega)).trans (hA1.block k hk)
 have hnb:∀ x∈iS a' (X.L c-1),W.heap.size≤x:=fun x hx=>by
  rcases h4 x hx with h5 | h5
  ·
   simp [Value.ownBlock] at h5
   omega
  omega
 rcases h.own.s with h0 | ⟨g,hg,hbg,hrow⟩
 ·
  omega
 rw [hS] at hg
 cases hg
 have hrow2:=hrow.ir (hblk gS hrow.lt)
 have hrow3:=hrow2
 obtain ⟨arr2,hb2,hn2,hc2⟩:=hrow2
 have ht:Touch [gS] W2 (W2.setCell ⟨gS,c,none⟩ (.slice a' (X.L c-1) c')):=(Touch.refl _ _).set (by simp) c _
 have key2:∀ {a:Option Addr} {n:Nat} {f:Nat→Int},VI W2 base a n f→VI (W2.setCell ⟨gS,c,none⟩ (.slice a' (X.L c-1) c')) base a n f:=fun hv=>hv.fK ht (fun x hx hx2=>by
  simp at hx2
  subst hx2
  exact yP hv (by decide) hb2 hx)
 have key:∀ {a:Option Addr} {n:Nat} {f:Nat→Int},VI W base a n f→VI (W2.setCell ⟨gS,c,none⟩ (.slice a' (X.L c-1) c')) base a n f:=fun hv=>key2 (hv.CQ (fun x hx hlt=>hblk x hlt))
 have hap:∀ {a:Option Addr} {n:Nat} {f:Nat→Int},VI W base a n f→iI a n a' (X.L c-1):=fun hv x hx hy=>by
  have:=hnb x hy
  have:=(hv.blk x hx).2
  omega
 have hbox:W2.heap[gb]?=some (.cells X.cells 100 (0,0)):=(hblk gb (fH h.box)).trans h.box
 have hgb:¬ gb=gS:=fun e=>by
  subst e
  rw [hbox] at hb2
  simp at hb2
 have hLc:jT X.L c (X.L c-1) c=X.L c-1:=iH _ _ _
 have hZc:pS X.z c (fun j=>X.z c (j+1)) c=fun j=>X.z c (j+1):=na _ _ _
 refine ⟨⟨key h.own.q,key h.own.d,.inr ⟨gS,hS,hbg,?_⟩,fun i hi=>?_,h.own.qd,fun i hi=>?_,fun i hi=>?_,fun i j hi hj hne=>?_⟩,(fO hgb _).trans hbox,?_,hrow3,hbox,h4c⟩
 ·
  refine ⟨_,gj hb2 _,by simpa [Rnd.cut] using hn2,fun i hi=>?_⟩
  show _=some (Value.slice (if i=c then a' else X.A i) (jT X.L c (X.L c-1) i) (if i=c then c' else X.C i))
  by_cases e:i=c
  ·
   subst e
   exact df
  rw [Array.getElem?_setIfInBounds_ne (by omega),hc2 i hi,if_neg e,if_neg e,im e]
 ·
  show VI _ base (if i=c then a' else X.A i) (jT X.L c (X.L c-1) i) (pS X.z c (fun j=>X.z c (j+1)) i)
  by_cases e:i=c
  ·
   subst e
   rw [hLc,hZc]
   simp only [if_true]
   exact key2 hv
  rw [im e,qM e]
  simp only [if_neg e]
  exact key (h.own.z i hi)
 ·
  show iI X.aQ X.nQ (if i=c then a' else X.A i) (jT X.L c (X.L c-1) i)
  by_cases e:i=c
  ·
   subst e
   rw [hLc]
   simp only [if_true]
   exact hap h.own.q
  rw [im e]
  simp only [if_neg e]
  exact h.own.qz i hi
 ·
  show iI X.aD X.nD (if i=c then a' else X.A i) (jT X.L c (X.L c-1) i)
  by_cases e:i=c
  ·
   subst e
   rw [hLc]
   simp only [if_true]
   exact hap h.own.d
  rw [im e]
  simp only [if_neg e]
  exact h.own.dz i hi
 ·
  show iI (if i=c then a' else X.A i) (jT X.L c (X.L c-1) i) (if j=c then a' else X.A j) (jT X.L c (X.L c-1) j)
  by_cases e:i=c
  ·
   subst e
   rw [hLc,im (Ne.symm hne)]
   simp only [if_true,if_neg (Ne.symm hne)]
   exact (hap (h.own.z j hj)).symm
  by_cases e2:j=c
  ·
   subst e2
   rw [hLc,im e]
   simp only [if_true,if_neg e]
   exact hap (h.own.z i hi)
  exact dh
 have hB2:Below base W W2:=⟨h3.os,h3.tape,h3.output,by have:=h3.size;omega,fun k hk=>hblk k (by omega)⟩
 exact hB2.trans (ht.below (by have:=h3.size;omega) (fun x hx=>by simp at hx;subst hx;exact hbg))
theorem Cut.rep {X:Rnd} {base gb gD:Nat} {W W2:World} {c gS:Nat} {a':Option Addr} {c':Nat} (h:Cut X base gb gD W W2 c gS a' c') (h1:X.L c=1) (had:X.aD=some ⟨gD,0,none⟩) (hcap:∀ i,i<X.nS→X.L i≤X.C i) :
  Rep (W2.setCell ⟨gS,c,none⟩ (.slice a' (X.L c-1) c')) base gb gD (X.cut c a' c') (X.cut c a' c'):=by
 refine ⟨h.after,h.own,Alike.refl _,had,fun i hi=>?_⟩
 show jT X.L c (X.L c-1) i≤(if i=c then c' else X.C i)
 by_cases e:i=c
 ·
  subst e
  rw [iH,h1]
  omega
 rw [im e,if_neg e]
 exact hcap i hi
theorem Cut.capR {X:Rnd} {base gb gD:Nat} {W W2:World} {c gS:Nat} {a':Option Addr} {c':Nat} (h:Cut X base gb gD W W2 c gS a' c') (hcap:∀ i,i<X.nS→X.L i≤X.C i):∀ i,i<(X.cut c a' c').nS→(X.cut c a' c').L i≤(X.cut c a' c').C i:=fun i hi=>by
 show jT X.L c (X.L c-1) i≤(if i=c then c' else X.C i)
 by_cases e:i=c
 ·
  subst e
  rw [iH,if_pos rfl]
  exact h.cap
 rw [im e,if_neg e]
 exact hcap i hi
theorem yr (f:Nat→Int) (c:Nat) (x y:Int):nF (nF f c x) c y=nF f c y:=by
 funext i
 unfold nF
 split <;> rfl
theorem qn {X:Rnd} {c:Nat} (hc:X.now=c) (h1:X.L c≠1) (a':Option Addr) (c':Nat):Alike (jG X) ((X.gw c (X.d c-X.z c 0)).cut c a' c'):=by
 subst hc
 unfold jG
 rw [if_neg h1]
 exact ⟨rfl,rfl,rfl,rfl,rfl,rfl,rfl,rfl,rfl⟩
theorem qE {X:Rnd} {c:Nat} (hc:X.now=c) (h1:X.L c=1) (a':Option Addr) (c':Nat):Alike (jG X) (gv (((X.gw c (X.d c-X.z c 0)).cut c a' c').gw c 0)):=by
 subst hc
 unfold jG
 rw [if_pos h1]
 exact mr ⟨rfl,rfl,rfl,yr _ _ _ _,rfl,rfl,rfl,rfl,rfl⟩
theorem BR {w wi:World} {A B:Array Value} {t s:TypeId} (h:Below (w.heap.size+2) ((w.alloc (.cells A t)).alloc (.cells B s)) wi):wi.heap[w.heap.size+1]?=some (.cells B s (0,0)):=by
 refine (h.block _ (by omega)).trans ?_
 have:=fL (w.alloc (.cells A t)) (.cells B s)
 simpa using this
theorem AK (gz q L C:Nat) (w:World) (hL:L≠0) (hq:(if C=1 then some (⟨gz,0,none⟩:Addr) else some ⟨gz,1,none⟩)=some ⟨gz,q,none⟩) :
  (Instr.slice 25 (.slice (some ⟨gz,0,none⟩) L C) (some (.int .i64 1)) none none).run Tryz.prog w=.ok (.slice (some ⟨gz,q,none⟩) (L-1) (C-1)) w:=by
 have h1:(1:Int)≤(L:Int):=by omega
 have h2:(some (⟨gz,0,none⟩:Addr)).map (·.add (1*1))=some ⟨gz,1,none⟩:=rfl
 simp [go_sem,h1]
 exact hq
theorem uZ (k d s p left:Int) (b:ByteArray) (w:World) (hb:b.size≤maxLen) (h0:0≤left) (h1:left≤1048576) :
  Calls Tryz.prog 91 #[.agg #[.int .i64 k,.int .i64 d,.int .i64 s,.int .i64 p,.string b],.int .i64 left] w fun e w'=>e=.returned (.int .i64 (if left<b.size then -1 else left-b.size))∧Below w.heap.size w w':=by
 unfold maxLen at hb
 by_cases h:left<b.size
 · exact de
 exact de
theorem uU (k d s p:Int) (b:ByteArray) (w:World) :
  Calls Tryz.prog 101 #[.agg #[.int .i64 k,.int .i64 d,.int .i64 s,.int .i64 p,.string b]] w fun e w'=>e=.returned (.agg #[.int .i64 k,.int .i64 d,.int .i64 s,.int .i64 p,.string b])∧Below w.heap.size w w':=by
 go_enter Tryz.func101,Tryz.ntmps101
 go_wp2
 exact bodyPost_ret (v:=.agg #[.int .i64 k,.int .i64 d,.int .i64 s,.int .i64 p,.string b]) (by simp [results,Tryz.results101,go_sem]) rfl ⟨rfl,(((Below.refl _ _).alloc (Nat.le_refl _) _).alloc (by simp) _).alloc (by simp;omega) _⟩
theorem Cf:(Tryz.prog.info? 95).map (fun i=>(i.zero,i.size,i.bytes))=some (some (.agg #[.int .i64 0,.int .i64 0,.int .i64 0]),3,24):=by kernel_rfl
def Au (n:Nat):Array Value:=madeCells #[.int .i64 0,.int .i64 0,.int .i64 0] (n*3)
theorem zb (n:Nat) (hn:n≤1048576) (w:World):(Instr.makeSlice 35 (.int .i64 (n:Int)) (.int .i64 (n:Int))).run Tryz.prog w=.ok (.slice (some ⟨w.heap.size,0,none⟩) n n) (w.alloc (.cells (Au n) 95)):=by
 obtain ⟨i0,hi,hz0,hz1,hz2⟩:=info_parts Cf
 have:=run_make (P:=Tryz.prog) w 35 95 i0 (.agg #[.int .i64 0,.int .i64 0,.int .i64 0]) Tryz.underlying35 hi hz0 .i64 .i64 (n:Int) (n:Int) (by omega) (by omega) (by rw [hz2];omega) (by omega)
 rw [this,hz1]
 simp [Au,Value.cells]
theorem yo {w:World} {g n:Nat} (h:w.heap[g]?=some (.cells (Au n) 95 (0,0))) (f:Nat→Ent):fV g 95 (n*3) (flat f) (0*3) w :=
 ⟨_,h,by simp [Au,size_madeCells],fun i hi=>by omega⟩
theorem sD (w:World) (A B C:Obj):(((w.alloc A).alloc B).alloc C).heap[w.heap.size]?=some A∧(((w.alloc A).alloc B).alloc C).heap[w.heap.size+1]?=some B∧(((w.alloc A).alloc B).alloc C).heap[w.heap.size+1+1]?=some C∧Below w.heap.size w (((w.alloc A).alloc B).alloc C):=by
 have e1:(w.alloc A).heap.size=w.heap.size+1:=by simp
 have e2:((w.alloc A).alloc B).heap.size=w.heap.size+1+1:=by simp
 refine ⟨?_,?_,?_,?_⟩
 ·
  rw [gg _ (by omega),gg _ (by omega),fL]
 ·
  rw [gg _ (by omega),←e1,fL]
 ·
  rw [←e2,fL]
 exact (((Below.refl _ _).alloc (Nat.le_refl _) _).alloc (by omega) _).alloc (by omega) _
theorem uV (m p t:Int) (w:World) :
  Calls Tryz.prog 60 #[.agg #[.int .i64 m,.int .i64 p,.int .i64 t]] w fun e w'=>e=.returned (.agg #[.int .i64 m,.int .i64 p,.int .i64 t])∧Below w.heap.size w w':=by
 go_enter Tryz.func60,Tryz.ntmps60
 have HB:Hid (∀ A B C,Below w.heap.size w (((w.alloc A).alloc B).alloc C)):=fun A B C=>(sD w A B C).2.2.2
 go_wp2_with fail
 have cB:=fG (sD w (.cells #[.int .i64 m,.int .i64 p,.int .i64 t] 112) (.cells #[.int .i64 m,.int .i64 p,.int .i64 t] 95) (.cells #[.int .i64 m,.int .i64 p,.int .i64 t] 95)).2.1
 exact bodyPost_ret (v:=.agg #[.int .i64 m,.int .i64 p,.int .i64 t]) (by simp [results,Tryz.results60,go_sem,cB]) rfl ⟨rfl,HB.out _ _ _⟩
theorem xg (a:Option Addr) (n cap:Nat) (f:Nat→Ent) (w:World) (hn:n≤1048576) (h:iZ w a n f) :
  Calls Tryz.prog 22 #[.slice a n cap] w fun e w'=>e=.returned (.slice (some ⟨w.heap.size,0,none⟩) n n)∧fV w.heap.size 95 (n*3) (flat f) (n*3) w'∧Below w.heap.size w w':=by
 have mk:=zb n hn
 go_enter Tryz.func22,Tryz.ntmps22
 go_wp2_with fail
 clear mk
 have HR:Hid (iZ w a n f):=h
 clear h
 go_loopw [4] (fun i wr=>∃ k:Nat,k≤n∧i=.int .i64 k∧fV w.heap.size 95 (n*3) (flat f) (k*3) wr∧Below w.heap.size w wr) (fun i _=>n-(intOf i).toNat)
 case atStart=>exact ⟨0,Nat.zero_le _,rfl,yo (fL w _) f,(Below.refl _ _).alloc (Nat.le_refl _) _⟩
 obtain ⟨k,hk,rfl,hR,hB⟩:=hrel
 by_cases hlt:k<n
 ·
  have hlt':(k:Int)<n:=by omega
  obtain ⟨g,o,rfl,c1,c2,c3⟩:=(HR.out.up hB) k hlt
  go_wp2_with fail
  refine (uV _ _ _ _).mono ?_
  rintro e w1 ⟨rfl,hb1⟩
  have B1:Below w.heap.size w w1:=hB.trans (hb1.mono hB.size)
  have R1:=hR.ir (hb1.block _ hR.lt)
  obtain ⟨v0,q0⟩:=R1.there (k*3) (by omega)
  obtain ⟨v1,q1⟩:=R1.there (k*3+1) (by omega)
  obtain ⟨v2,q2⟩:=R1.there (k*3+2) (by omega)
  have f0:=R1.free (k*3)
  have f1:=R1.free (k*3+1)
  have f2:=R1.free (k*3+2)
  have HS:Hid (fV w.heap.size 95 (n*3) (flat f) ((k+1)*3) (((w1.setCell ⟨w.heap.size,k*3,none⟩ (.int .i64 (f k).m)).setCell ⟨w.heap.size,k*3+1,none⟩ (.int .i64 (f k).p)).setCell ⟨w.heap.size,k*3+2,none⟩ (.int .i64 (f k).t))):=R1.ent hlt
  have HB:Hid (Below w.heap.size w w1):=B1
  clear hb1 c1 c2 c3 R1 B1 hR hB
  go_wp2_with fail
  go_roundw
  case rel=>exact ⟨k+1,by omega,by go_num,HS.out,((HB.out.setCell (Nat.le_refl _) _).setCell (Nat.le_refl _) _).setCell (Nat.le_refl _) _⟩
  case measure=>simp [intOf];omega
 obtain rfl:k=n:=by omega
 go_wp2_with fail
 go_ret
 exact ⟨rfl,hR,hB⟩
theorem vV (m p t:Int) (w:World) :
  Calls Tryz.prog 80 #[.agg #[.int .i64 m,.int .i64 p,.int .i64 t],.agg #[.int .i64 m,.int .i64 p,.int .i64 t]] w fun e w'=>e=.returned (.bool true)∧Below w.heap.size w w':=by
 go_enter Tryz.func80,Tryz.ntmps80
 go_wp2_with fail
 go_ret
 exact ⟨rfl,((Below.refl _ _).alloc (Nat.le_refl _) _).alloc (by simp) _⟩
theorem x6 (a1 a2:Option Addr) (n c1 c2:Nat) (f:Nat→Ent) (w:World) (hn:n≤1048576) (h1:iZ w a1 n f) (h2:iZ w a2 n f) :
  Calls Tryz.prog 31 #[.slice a1 n c1,.slice a2 n c2] w fun e w'=>e=.returned (.bool true)∧Below w.heap.size w w':=by
 have H1:Hid (iZ w a1 n f):=h1
 have H2:Hid (iZ w a2 n f):=h2
 clear h1 h2
 go_enter Tryz.func31,Tryz.ntmps31
 go_wp2_with fail
 go_loopw [5] (fun i wr=>∃ k:Nat,k≤n∧i=.int .i64 k∧Below w.heap.size w wr) (fun i _=>n-(intOf i).toNat)
 case atStart=>exact ⟨0,Nat.zero_le _,rfl,Below.refl _ _⟩
 obtain ⟨k,hk,rfl,hB⟩:=hrel
 by_cases hlt:k<n
 ·
  have hlt':(k:Int)<n:=by omega
  obtain ⟨g,o,rfl,c1,c2,c3⟩:=(H1.out.up hB) k hlt
  obtain ⟨g2,o2,rfl,d1,d2,d3⟩:=(H2.out.up hB) k hlt
  go_wp2_with fail
  refine wp_region_held_drew (S:=fun w'=>w'.cell? ⟨g,o+k*3,none⟩=some (.int .i64 (f k).m)∧w'.cell? ⟨g,o+k*3+1,none⟩=some (.int .i64 (f k).p)∧w'.cell? ⟨g,o+k*3+2,none⟩=some (.int .i64 (f k).t)∧w'.cell? ⟨g2,o2+k*3,none⟩=some (.int .i64 (f k).m)∧w'.cell? ⟨g2,o2+k*3+1,none⟩=some (.int .i64 (f k).p)∧w'.cell? ⟨g2,o2+k*3+2,none⟩=some (.int .i64 (f k).t)) (by kernel_rfl) ⟨c1,c2,c3,d1,d2,d3⟩ (fun hHeld=>?_)
  refine t0 ?_
  iterate 7 refine tN ?_
  refine rq1 8 (fun K hK=>?_)
  go_simp
  refine (vV _ _ _ _).mono ?_
  rintro e w1 ⟨rfl,hb1⟩
  have b1:Below wr.heap.size wr w1:=(Below.refl _ _).drew.trans hb1
  have c1:=(b1.cell (p:=⟨g,o+k*3,none⟩) (iu c1)).trans c1
  have c2:=(b1.cell (p:=⟨g,o+k*3+1,none⟩) (iu c2)).trans c2
  have c3:=(b1.cell (p:=⟨g,o+k*3+2,none⟩) (iu c3)).trans c3
  have d1:=(b1.cell (p:=⟨g2,o2+k*3,none⟩) (iu d1)).trans d1
  have d2:=(b1.cell (p:=⟨g2,o2+k*3+1,none⟩) (iu d2)).trans d2
  have d3:=(b1.cell (p:=⟨g2,o2+k*3+2,none⟩) (iu d3)).trans d3
  go_wp2_with fail
  refine hK.out _ _ ⟨c1,c2,c3,d1,d2,d3⟩ (fun hHeld=>?_)
  clear hK K
  try simp only [Act.put,PZ]
  refine tN ?_
  refine dnq ?_
  have HB:Hid (Below w.heap.size w w1):=hB.trans (b1.mono hB.size)
  clear b1 hb1 hB c1 c2 c3 d1 d2 d3 hHeld
  go_wp2_with fail
  go_roundw
  case rel=>exact ⟨k+1,by omega,by go_num,HB.out⟩
  case measure=>simp [intOf];omega
 obtain rfl:k=n:=by omega
 go_wp2_with fail
 go_ret
 exact ⟨rfl,hB⟩
theorem j0 (a:Option Addr) (n cap:Nat) (left:Int) (w:World) (hn:n≤maxLen) (h0:0≤left) (h1:left≤1048576) :
  Calls Tryz.prog 45 #[.slice a n cap,.int .i64 left] w fun e w'=>(∃ r:Int,e=.returned (.int .i64 r)∧(r=-1∨0≤r∧r≤left∧n≤1048576∧r+n≤left))∧w=w':=by
 have hm:(n:Int)≤9223372036854775807:=by unfold maxLen at hn;omega
 by_cases h:left-n<0
 ·
  go_enter Tryz.func45,Tryz.ntmps45
  exact da
 go_enter Tryz.func45,Tryz.ntmps45
 exact dc
theorem oe (a:Option Addr) (n cap:Nat) (A:Nat→Option Addr) (L C:Nat→Nat) (left:Int) (w:World) (hn:n≤maxLen) (h0:0≤left) (h1:left≤1048576) (h:fY w a n fun i=>.slice (A i) (L i) (C i)) (hl:∀ i,i<n→L i≤maxLen) :
  Calls Tryz.prog 92 #[.slice a n cap,.int .i64 left] w fun e w'=>(∃ r:Int,e=.returned (.int .i64 r)∧(r=-1∨0≤r∧r≤left∧n≤1048576∧(∀ i,i<n→L i≤1048576)∧r+(iD L n:Nat)≤left))∧w=w':=by
 have hm:(n:Int)≤9223372036854775807:=by unfold maxLen at hn;omega
 have HR:Hid (fY w a n fun i=>.slice (A i) (L i) (C i)):=h
 have HL:Hid (∀ i,i<n→L i≤maxLen):=hl
 clear h hl
 by_cases h2:left-n<0
 ·
  go_enter Tryz.func92,Tryz.ntmps92
  exact da
 go_enter Tryz.func92,Tryz.ntmps92
 go_wp2_with fail
 go_loop [1,5] (fun x i=>∃ (k:Nat) (r:Int),k≤n∧i=.int .i64 k∧x=.int .i64 r∧0≤r∧r≤left∧(∀ j,j<k→L j≤1048576)∧Hid (r+(iD L k:Nat)≤left)) (fun _ i=>n-(intOf i).toNat)
 case atStart=>exact ⟨0,left-n,Nat.zero_le _,rfl,rfl,by omega,by omega,fun j hj=>by omega,by show left-n+((0:Nat):Int)≤left;omega⟩
 obtain ⟨k,r,hk,rfl,rfl,r0,r1,hall,hsum⟩:=hrel
 have HA:Hid (∀ j,j<k→L j≤1048576):=hall
 clear hall
 by_cases hlt:k<n
 ·
  have hlt':(k:Int)<n:=by omega
  obtain ⟨g,o,rfl,hc⟩:=HR.out k hlt
  dsimp only at hc
  go_wp2_with fail
  refine (j0 (A k) (L k) (C k) r _ (HL.out k hlt) r0 (by omega)).mono ?_
  rintro e w1 ⟨⟨r',rfl,hr⟩,rfl⟩
  rcases hr with rfl | ⟨r0',r1',hn',hr9⟩
  · exact da
  have HN:Hid (L k≤1048576):=hn'
  have HS9:Hid (r'+(iD L (k+1):Nat)≤left):=by
   show r'+((iD L k+L k:Nat):Int)≤left
   have:=hsum.out
   omega
  clear hr9 hsum
  have hr0:¬ r'<0:=by omega
  clear hn'
  go_wp2_with fail
  go_round
  case rel=>exact ⟨k+1,r',by omega,by go_num,rfl,r0',by omega,fun j hj=>by
   by_cases e:j=k
   ·
    subst e;exact HN.out
   ·
    exact HA.out j (by omega),HS9.out⟩
  case measure=>simp [intOf];omega
 obtain rfl:k=n:=by omega
 go_wp2_with fail
 go_ret
 exact ⟨⟨_,rfl,.inr ⟨r0,r1,by omega,HA.out,hsum.out⟩⟩,rfl⟩
theorem yp {w:World} {base g n:Nat} {f:Nat→Int} (hb:base≤g) (h:fV g 2 n (fun i=>.int .i64 (f i)) n w):VI w base (some ⟨g,0,none⟩) n f:=.inr ⟨g,rfl,hb,h⟩
theorem o5 {g g' n n':Nat} (h:g≠g'):iI (some ⟨g,0,none⟩) n (some ⟨g',0,none⟩) n':=by
 intro x hx hy
 unfold iS at hx hy
 split at hx
 ·
  simp at hx
 split at hy
 ·
  simp at hy
 simp at hx hy
 omega
theorem oI.own {w:World} {R:Rnd} {gQ gD gS:Nat} {G:Nat→Nat} {base:Nat} (h:oI w R gQ gD gS G) (hb:base≤gQ):iQ w base (R.copy gQ gD gS G):=by
 have h1:=h.lt
 have hlo:∀ i,i<R.nS→gS<G i:=h.s.low
 refine ⟨yp hb h.q,yp (by omega) h.d,.inr ⟨gS,rfl,by omega,h.s.top⟩,fun i hi=>yp (by have:=hlo i hi;omega) (h.s.row i hi),o5 (by omega),fun i hi=>o5 (by have:=hlo i hi;omega),fun i hi=>o5 (by have:=hlo i hi;omega),fun i j hi hj hne=>o5 ?_⟩
 rcases Nat.lt_or_gt_of_ne hne with h2 | h2
 ·
  have:=h.s.inc i j h2 hj
  omega
 have:=h.s.inc j i h2 hi
 omega
theorem fP {ops:Array Oper} {rest:List Oper} {o:Oper} {a:Act} {w:World} {Q:Exit→Act→World→Prop} (hg:o.guard=none) (ty:TypeId) (n:Nat) (d:TypeDesc) (hu:Tryz.prog.underlying ty=some d) (hd:d.isRow=true) (hi:(Tryz.prog.info? ty).map (·.size)=some n) (x:Operand) (ho:o.op=.load ty x) (b off:Nat) (hx:a.eval x=.pointer (some ⟨b,off,none⟩))
  (cs:Array Value) (hs:cs.size=n) (hc:∀ j,j<n→w.cell? ⟨b,off+j,none⟩=cs[j]?) (h:wpList Tryz.prog ops Q rest (a.put o.dst (.agg cs)) w):wpList Tryz.prog ops Q (o :: rest) a w :=
 wpList_load_mid hg ty x ho b off hx cs.toList d (fun j v hv=>by
  have hj:j<n:=by
   have:=(List.getElem?_eq_some_iff.1 hv).1
   rw [Array.length_toList] at this
   omega
  rw [hc j hj,←Array.getElem?_toList]
  exact hv) hu hd (by rw [hi,Array.length_toList,hs]) (by rw [Array.toArray_toList];exact h)
structure Lng.Fit (l:Lng):Prop where
 t:l.nT≤maxLen
 u:l.nU≤maxLen
 z:∀ i,i<l.nU→l.uL i≤maxLen
 r:l.R.Fit
structure Swg.Fit (S:Swg):Prop where
 e:S.nE≤maxLen
 n:S.N.Fit
 k:S.nK≤maxLen
 b:∀ i,i<S.nK→(S.K i).b.size≤maxLen
 l:S.nL≤maxLen
 ls:∀ i,i<S.nL→(S.L i).Fit
def Rnd.tot (R:Rnd):Nat:=R.nQ+R.nD+iD R.L R.nS
def Lng.tot (l:Lng):Nat:=l.nT+iD l.uL l.nU+l.R.tot
def Swg.tot (S:Swg):Nat:=S.nE+(S.N.nU+S.N.nP)+S.nK+(S.nL+iD (fun i=>(S.L i).tot) S.nL)
theorem sH (R:Rnd) (left:Int) (w:World) (h0:0≤left) (h1:left≤1048576) (hf:R.Fit) (h:iY w R) :
  Calls Tryz.prog 93 #[.agg R.cells,.int .i64 left] w fun e w'=>(∃ r:Int,e=.returned (.int .i64 r)∧(r=-1∨0≤r∧R.Small∧r+R.tot≤left))∧Below w.heap.size w w':=by
 have HA:Hid (∀ o,Below w.heap.size w (w.alloc o)):=fun o=>(Below.refl _ _).alloc (Nat.le_refl _) _
 have HR:Hid (iY w R):=h
 have HF:Hid R.Fit:=hf
 clear h hf
 unfold Rnd.cells
 go_enter Tryz.func93,Tryz.ntmps93
 go_wp2_with fail
 refine (j0 R.aQ R.nQ R.cQ left _ HF.out.q h0 h1).mono ?_
 rintro e w1 ⟨⟨r,rfl,hr⟩,rfl⟩
 rcases hr with rfl | ⟨r0,r1,hn1,hs1⟩
 · exact cZ
 have hr0:¬ r<0:=by omega
 go_wp2_with fail
 refine (j0 R.aD R.nD R.cD r _ HF.out.d r0 (by omega)).mono ?_
 rintro e w2 ⟨⟨r2,rfl,hr2⟩,rfl⟩
 rcases hr2 with rfl | ⟨r20,r21,hn2,hs2⟩
 · exact cZ
 have hr20:¬ r2<0:=by omega
 go_wp2_with fail
 refine (oe R.aS R.nS R.cS R.A R.L R.C r2 _ HF.out.s r20 (by omega) (HR.out.s.up (HA.out _)) HF.out.l).mono ?_
 rintro e w3 ⟨⟨r3,rfl,hr3⟩,rfl⟩
 rcases hr3 with rfl | ⟨r30,r31,hn3,hl3,hs3⟩
 · exact cZ
 have hr30:¬ r3<0:=by omega
 have HS:Hid R.Small:=⟨hn1,hn2,hn3,hl3⟩
 have HSu:Hid (r3+R.tot≤left):=by show r3+((R.nQ+R.nD+iD R.L R.nS:Nat):Int)≤left;omega
 clear hl3 hs3 hs2 hs1
 go_wp2_with fail
 go_ret
 exact ⟨⟨_,rfl,.inr ⟨r30,HS.out,HSu.out⟩⟩,HA.out _⟩
theorem sJ (a:Option Addr) (n cap:Nat) (left:Int) (w:World) (hn:n≤maxLen) (h0:0≤left) (h1:left≤1048576) :
  Calls Tryz.prog 46 #[.slice a n cap,.int .i64 left] w fun e w'=>(∃ r:Int,e=.returned (.int .i64 r)∧(r=-1∨0≤r∧n≤1048576∧r+n≤left))∧w=w':=by
 have hm:(n:Int)≤9223372036854775807:=by unfold maxLen at hn;omega
 by_cases h:left-n<0
 ·
  go_enter Tryz.func46,Tryz.ntmps46
  exact da
 go_enter Tryz.func46,Tryz.ntmps46
 exact dc
theorem u0 (a:Option Addr) (n cap:Nat) (left:Int) (w:World) (hn:n≤maxLen) (h0:0≤left) (h1:left≤1048576) :
  Calls Tryz.prog 14 #[.slice a n cap,.int .i64 left] w fun e w'=>(∃ r:Int,e=.returned (.int .i64 r)∧(r=-1∨0≤r∧n≤1048576∧r+n≤left))∧w=w':=by
 have hm:(n:Int)≤9223372036854775807:=by unfold maxLen at hn;omega
 by_cases h:left-n<0
 ·
  go_enter Tryz.func14,Tryz.ntmps14
  exact da
 go_enter Tryz.func14,Tryz.ntmps14
 exact dc
theorem qS (N:Cnt) (left:Int) (w:World) (h0:0≤left) (h1:left≤1048576) (hf:N.Fit) :
  Calls Tryz.prog 15 #[.agg N.cells,.int .i64 left] w fun e w'=>(∃ r:Int,e=.returned (.int .i64 r)∧(r=-1∨0≤r∧N.Small∧r+N.nU+N.nP≤left))∧Below w.heap.size w w':=by
 have HA:Hid (∀ o,Below w.heap.size w (w.alloc o)):=fun o=>(Below.refl _ _).alloc (Nat.le_refl _) _
 have HF:Hid N.Fit:=hf
 clear hf
 unfold Cnt.cells
 go_enter Tryz.func15,Tryz.ntmps15
 go_wp2_with fail
 refine (j0 N.aU N.nU N.cU left _ HF.out.u h0 h1).mono ?_
 rintro e w1 ⟨⟨r,rfl,hr⟩,rfl⟩
 rcases hr with rfl | ⟨r0,r1,hn1,hs1⟩
 · exact cZ
 have hr0:¬ r<0:=by omega
 go_wp2_with fail
 refine (sJ N.aP N.nP N.cP r _ HF.out.p r0 (by omega)).mono ?_
 rintro e w2 ⟨⟨r2,rfl,hr2⟩,rfl⟩
 rcases hr2 with rfl | ⟨r20,hn2,hs2⟩
 · exact cZ
 have hr20:¬ r2<0:=by omega
 have HS:Hid (N.Small∧r2+N.nU+N.nP≤left):=⟨⟨hn1,hn2⟩,by omega⟩
 clear hs1 hs2
 go_wp2_with fail
 go_ret
 exact ⟨⟨_,rfl,.inr ⟨r20,HS.out.1,HS.out.2⟩⟩,HA.out _⟩
theorem xh (l:Lng) (left:Int) (w:World) (h0:0≤left) (h1:left≤1048576) (hf:l.Fit) (h:ml w l) :
  Calls Tryz.prog 48 #[.agg l.cells,.int .i64 left] w fun e w'=>(∃ r:Int,e=.returned (.int .i64 r)∧(r=-1∨0≤r∧l.Small∧r+l.tot≤left))∧Below w.heap.size w w':=by
 have HR:Hid (ml w l):=h
 have HF:Hid l.Fit:=hf
 obtain ⟨W,eW⟩:∃ W,w.alloc (.cells l.cells 91)=W:=⟨_,rfl⟩
 have hB:Below (w.heap.size+1) (w.alloc (.cells l.cells 91)) W:=by rw [eW];exact Below.refl _ _
 have hb0:=under hB
 have kS:=boxed hB
 have c1:W.cell? ⟨w.heap.size,1,none⟩=some (.slice l.aT l.nT l.cT):=kS 1
 have c2:W.cell? ⟨w.heap.size,2,none⟩=some (.slice l.aU l.nU l.cU):=kS 2
 have c3:W.cell? ⟨w.heap.size,3,none⟩=some (.slice l.R.aQ l.R.nQ l.R.cQ):=kS 3
 have c4:W.cell? ⟨w.heap.size,4,none⟩=some (.slice l.R.aD l.R.nD l.R.cD):=kS 4
 have c5:W.cell? ⟨w.heap.size,5,none⟩=some (.int .i64 l.R.turn):=kS 5
 have c6:W.cell? ⟨w.heap.size,6,none⟩=some (.bool l.R.fresh):=kS 6
 have c7:W.cell? ⟨w.heap.size,7,none⟩=some (.slice l.R.aS l.R.nS l.R.cS):=kS 7
 have HB:Hid (Below w.heap.size w W):=hb0
 clear h hf kS hB hb0
 go_enter Tryz.func48,Tryz.ntmps48
 go_wp2_with fail
 clear eW
 refine (j0 l.aT l.nT l.cT left _ HF.out.t h0 h1).mono ?_
 rintro e w1 ⟨⟨r,rfl,hr⟩,rfl⟩
 rcases hr with rfl | ⟨r0,r1,hn1,hs1⟩
 ·
  go_wp2_with fail
  go_ret
  exact ⟨⟨_,rfl,.inl rfl⟩,HB.out⟩
 have hr0:¬ r<0:=by omega
 go_wp2_with fail
 refine (oe l.aU l.nU l.cU l.uA l.uL l.uC r _ HF.out.u r0 (by omega) (HR.out.u.up HB.out) HF.out.z).mono ?_
 rintro e w2 ⟨⟨r2,rfl,hr2⟩,rfl⟩
 rcases hr2 with rfl | ⟨r20,r21,hn2,hl2,hs2⟩
 ·
  go_wp2_with fail
  go_ret
  exact ⟨⟨_,rfl,.inl rfl⟩,HB.out⟩
 have hr20:¬ r2<0:=by omega
 have HL2:Hid (∀ i,i<l.nU→l.uL i≤1048576):=hl2
 clear hl2
 go_wp2_with fail
 refine (sH l.R r2 _ r20 (by omega) HF.out.r (HR.out.r.up HB.out)).mono ?_
 rintro e w3 ⟨⟨r3,rfl,hr3⟩,hb3⟩
 have HB3:Hid (Below w.heap.size w w3):=HB.out.trans (hb3.mono HB.out.size)
 clear hb3
 rcases hr3 with rfl | ⟨r30,hs,hs3⟩
 ·
  go_wp2_with fail
  go_ret
  exact ⟨⟨_,rfl,.inl rfl⟩,HB3.out⟩
 have hr30:¬ r3<0:=by omega
 have HS:Hid (l.Small∧r3+l.tot≤left):=⟨⟨hn1,hn2,HL2.out,hs⟩,by
  show r3+((l.nT+iD l.uL l.nU+l.R.tot:Nat):Int)≤left
  omega⟩
 clear hs hs3 hs2 hs1 c1 c2 c3 c4 c5 c6 c7
 go_wp2_with fail
 go_ret
 exact ⟨⟨_,rfl,.inr ⟨r30,HS.out.1,HS.out.2⟩⟩,HB3.out⟩
theorem zt:(Tryz.prog.info? 91).map (·.size)=some 8:=by kernel_rfl
theorem zr:(Tryz.prog.info? 85).map (·.size)=some 8:=by kernel_rfl
theorem yA (L:Nat→Nat) (k:Nat):iD L (k+1)=iD L k+L k:=rfl
theorem uY (a:Option Addr) (n cap:Nat) (L:Nat→Lng) (left:Int) (w:World) (h0:0≤left) (h1:left≤1048576) (hn:n≤maxLen) (hf:∀ i,i<n→(L i).Fit) (h:qh w a n L) (hr:∀ i,i<n→ml w (L i)) :
  Calls Tryz.prog 17 #[.slice a n cap,.int .i64 left] w fun e w'=>(∃ r:Int,e=.returned (.int .i64 r)∧(r=-1∨0≤r∧n≤1048576∧(∀ i,i<n→(L i).Small)∧r+(n+iD (fun i=>(L i).tot) n:Nat)≤left))∧Below w.heap.size w w':=by
 have hm:(n:Int)≤9223372036854775807:=by unfold maxLen at hn;omega
 have HR:Hid (qh w a n L):=h
 have HL:Hid (∀ i,i<n→ml w (L i)):=hr
 have HF:Hid (∀ i,i<n→(L i).Fit):=hf
 clear h hr hf
 by_cases h2:left-n<0
 ·
  go_enter Tryz.func17,Tryz.ntmps17
  go_wp2_with fail
  go_ret
  exact ⟨⟨_,rfl,.inl rfl⟩,Below.refl _ _⟩
 go_enter Tryz.func17,Tryz.ntmps17
 go_wp2_with fail
 go_loopw [1,5] (fun x i wr=>∃ (k:Nat) (r:Int),k≤n∧i=.int .i64 k∧x=.int .i64 r∧0≤r∧r≤left∧Hid ((∀ j,j<k→(L j).Small)∧r+(n+iD (fun i=>(L i).tot) k:Nat)≤left)∧Below w.heap.size w wr) (fun _ i _=>n-(intOf i).toNat)
 case atStart=>exact ⟨0,left-n,Nat.zero_le _,rfl,rfl,by omega,by omega,⟨fun j hj=>by omega,by show left-n+((n+0:Nat):Int)≤left;omega⟩,Below.refl _ _⟩
 obtain ⟨k,r,hk,rfl,rfl,r0,r1,HS,hB⟩:=hrel
 by_cases hlt:k<n
 ·
  have hlt':(k:Int)<n:=by omega
  obtain ⟨g,o,ha,hc⟩:=(HR.out.up hB) k hlt
  subst ha
  have HC:Hid (∀ j,j<8→wr.cell? ⟨g,o+k*8+j,none⟩=(L k).cells[j]?):=hc
  clear hc
  go_wp2_with (refine fP rfl 91 8 _ Tryz.underlying91 rfl zt (.tmp 20) rfl g (o+k*8) rfl (L k).cells rfl HC.out ?_)
  refine (xh (L k) r _ r0 (by omega) (HF.out k hlt) ((HL.out k hlt).up hB)).mono ?_
  rintro e w1 ⟨⟨r',rfl,hr⟩,hb1⟩
  have HB1:Hid (Below w.heap.size w w1):=hB.trans (hb1.mono hB.size)
  clear hb1 hB HC
  rcases hr with rfl | ⟨r0',hsm,hr9⟩
  ·
   go_wp2_with fail
   go_ret
   exact ⟨⟨_,rfl,.inl rfl⟩,HB1.out⟩
  have HN:Hid ((∀ j,j<k+1→(L j).Small)∧r'+(n+iD (fun i=>(L i).tot) (k+1):Nat)≤left):=⟨fun j hj=>by
    by_cases e:j=k
    ·
     subst e;exact hsm
    ·
     exact HS.out.1 j (by omega),by
    rw [yA]
    have:=HS.out.2
    omega⟩
  have hr0:¬ r'<0:=by omega
  have hr1:r'≤left:=by omega
  clear hsm hr9 HS
  go_wp2_with fail
  go_roundw
  case rel=>exact ⟨k+1,r',by omega,by go_num,rfl,r0',hr1,HN,HB1.out⟩
  case measure=>simp [intOf];omega
 obtain rfl:k=n:=by omega
 go_wp2_with fail
 go_ret
 exact ⟨⟨_,rfl,.inr ⟨r0,by omega,HS.out.1,HS.out.2⟩⟩,hB⟩
def lay (cur:Array Value) (o:Nat) (cs:Array Value):Array Value:=(cur.toList.take o++cs.toList++cur.toList.drop (o+cs.size)).toArray
theorem jb {cur cs:Array Value} {o:Nat} (h:o+cs.size≤cur.size):(lay cur o cs).size=cur.size:=by
 unfold lay
 simp
 omega
theorem iX {cur cs:Array Value} {o:Nat} (h:o+cs.size≤cur.size) (j:Nat) (hj:j<cs.size):(lay cur o cs)[o+j]?=cs[j]?:=by
 unfold lay
 simp only [List.getElem?_toArray]
 rw [List.append_assoc,List.getElem?_append_right (by simp;omega),List.getElem?_append_left (by simp;omega)]
 exact di
theorem jI {cur cs:Array Value} {o:Nat} (h:o+cs.size≤cur.size) (j:Nat) (hj:j<o):(lay cur o cs)[j]?=cur[j]?:=by
 unfold lay
 simp only [List.getElem?_toArray]
 rw [List.append_assoc,List.getElem?_append_left (by simp;omega),List.getElem?_take,if_pos hj,Array.getElem?_toList]
structure Put (w W:World) (g:Nat) (cs:Array Value) (t:TypeId):Prop where
 blk:W.heap[g]?=some (.cells cs t (0,0))
 to:Touch [g] w W
 size:W.heap.size=w.heap.size
theorem Put.cast {w W:World} {g:Nat} {cs cs':Array Value} {t:TypeId} (h:Put w W g cs t) (e:cs=cs'):Put w W g cs' t:=e▸h
theorem nM {w:World} {g:Nat} {cur:Array Value} {t:TypeId} (hg:w.heap[g]?=some (.cells cur t (0,0))) (cs:Array Value):Put w (w.setRow g cs) g cs t :=
 ⟨setRow_heap w g cur cs t (0,0) hg,⟨rfl,rfl,rfl,by simp,fun k _ hk=>setRow_other w g k cs (by simpa using hk)⟩,by simp⟩
theorem l0 (w:World) (g off:Nat) (t ty:TypeId) (cur:Array Value) (v:Value) (hg:w.heap[g]?=some (.cells cur t (0,0))) (hi:(Tryz.prog.info? ty).map (·.size)=some v.cells.size) (hf:off+v.cells.size≤cur.size) (h1:v.cells.all (·.oneCell')=true) :
  (storeVar ty ⟨g,off,none⟩ v).run Tryz.prog w=.ok () (w.setRow g (lay cur off v.cells)):=by
 have:=run_storeCells_at (P:=Tryz.prog) g off t v.cells.toList 0 cur w hg (by simpa using hf) (fun x hx=>(Array.all_eq_true_iff_forall_mem.1 h1) x (by simpa using hx))
 simp only [Nat.add_zero,Array.length_toList] at this
 cases hq:Tryz.prog.info? ty with
 | none=>simp [hq] at hi
 | some i =>
  have hs:v.cells.size=i.size:=by simp [hq] at hi;omega
  simp [storeVar,sizeOf,typeInfo,hq,hs,this,lay]
theorem fJ {ops:Array Oper} {rest:List Oper} {o:Oper} {a:Act} {w:World} {Q:Exit→Act→World→Prop} (hgd:o.guard=none) (ty:TypeId) (x y:Operand) (ho:o.op=.store ty x y) (g off:Nat) (hx:a.eval x=.pointer (some ⟨g,off,none⟩))
  (v:Value) (hy:a.eval y=v) (n:Nat) (hn:v.cells.size=n) (t:TypeId) (cur:Array Value) (hg:w.heap[g]?=some (.cells cur t (0,0))) (hi:(Tryz.prog.info? ty).map (·.size)=some n) (hf:off+n≤cur.size) (h1:v.cells.all (·.oneCell')=true)
  (h:∀ W,Put w W g (lay cur off v.cells) t→wpList Tryz.prog ops Q rest (a.put o.dst undef) W):wpList Tryz.prog ops Q (o :: rest) a w:=by
 subst hn
 refine wpList_plain hgd fun _ hK=>?_
 unfold Oper.wp execOp
 simp only [ho,hx,hy,Instr.storeAt,Instr.sureAddr,Sem.run_bind,Sem.run_pure,Result.andThen_ok,l0 w g off t ty cur v hg hi hf h1]
 exact hK _ _ (h _ (nM hg _))
def As (t:TypeId) (g o n:Nat) (f:Nat→Value) (w:World):Prop:=∃ arr:Array Value,w.heap[g]?=some (.cells arr t (0,0))∧o+n≤arr.size∧∀ i,i<n→arr[o+i]?=some (f i)
theorem As.lt {t:TypeId} {g o n:Nat} {f:Nat→Value} {w:World} (h:As t g o n f w):g<w.heap.size:=by
 obtain ⟨arr,h1,_⟩:=h
 exact fH h1
theorem As.ir {t:TypeId} {g o n:Nat} {f:Nat→Value} {w w':World} (h:As t g o n f w) (hb:w'.heap[g]?=w.heap[g]?):As t g o n f w':=by
 obtain ⟨arr,h1,h2⟩:=h
 exact ⟨arr,hb.trans h1,h2⟩
theorem As.read {t:TypeId} {g o n:Nat} {f:Nat→Value} {w:World} (h:As t g o n f w):fY w (some ⟨g,o,none⟩) n f:=fun i hi=>by
 obtain ⟨arr,h1,h2,h3⟩:=h
 exact ⟨g,o,rfl,(fG h1 _).trans (h3 i hi)⟩
theorem fV.g {g n:Nat} {t:TypeId} {f:Nat→Value} {w:World} (h:fV g t n f n w):As t g 0 n f w:=by
 obtain ⟨arr,h1,h2,h3⟩:=h
 exact ⟨arr,h1,by omega,fun i hi=>by rw [Nat.zero_add];exact h3 i hi⟩
def VG (t:TypeId) (w:World) (base:Nat) (a:Option Addr) (n:Nat) (f:Nat→Value):Prop:=n=0∨∃ g o,a=some ⟨g,o,none⟩∧base≤g∧As t g o n f w
section
variable {t : TypeId} {w w' : World} {base base' : Nat} {a : Option Addr} {n : Nat} {f : Nat → Value} {S : List Nat}
theorem VG.read (h:VG t w base a n f):fY w a n f:=dk
theorem VG.up (h:VG t w base a n f) (hb:Below w.heap.size w w'):VG t w' base a n f :=
 h.imp id (by rintro ⟨g,o,ha,hg,hr⟩;exact ⟨g,o,ha,hg,hr.ir (hb.block _ hr.lt)⟩)
theorem VG.mono (h:VG t w base a n f) (hb:base'≤base):VG t w base' a n f :=
 h.imp id (by rintro ⟨g,o,ha,hg,hr⟩;exact ⟨g,o,ha,by omega,hr⟩)
theorem ks {g o n:Nat} (h:n≠0):g∈gF (some ⟨g,o,none⟩) n:=by unfold gF;rw [if_neg h];simp
theorem VG.fK (h:VG t w base a n f) (ht:Touch S w w') (hp:∀ x∈gF a n,x∉S):VG t w' base a n f:=by
 rcases h with h | ⟨g,o,rfl,hg,hr⟩
 ·
  exact .inl h
 by_cases h0:n=0
 ·
  exact .inl h0
 exact .inr ⟨g,o,rfl,hg,hr.ir (ht.block g hr.lt (hp g (ks h0)))⟩
theorem VG.blk (h:VG t w base a n f):∀ x∈gF a n,base≤x∧x<w.heap.size:=by
 intro x hx
 unfold gF at hx
 exact db
theorem VG.type (h:VG t w base a n f):∀ x∈gF a n,∃ cs,w.heap[x]?=some (.cells cs t (0,0)):=by
 intro x hx
 unfold gF at hx
 split at hx
 ·
  simp at hx
 rcases h with h | ⟨g,o,rfl,hg,hr⟩
 ·
  contradiction
 simp at hx
 subst hx
 obtain ⟨cs,hc,_⟩:=hr
 exact ⟨cs,hc⟩
theorem VG.ext {f':Nat→Value} (h:VG t w base a n f) (e:∀ i,i<n→f i=f' i):VG t w base a n f' :=
 h.imp id (by rintro ⟨g,o,ha,hg,arr,h1,h2,h3⟩;exact ⟨g,o,ha,hg,arr,h1,h2,fun i hi=>by rw [←e i hi];exact h3 i hi⟩)
theorem VG.low (h:VG t w base a n f) (ht:Touch S w w') (hS:∀ x∈S,x<base):VG t w' base a n f :=
 h.fK ht (fun x hx hy=>by have:=(h.blk x hx).1;have:=hS x hy;omega)
end
theorem VG.apart {t t':TypeId} {w:World} {base base':Nat} {a a':Option Addr} {n n':Nat} {f f':Nat→Value} (h:VG t w base a n f) (k:VG t' w base' a' n' f') (hne:t≠t'):∀ x∈gF a n,x∉gF a' n':=by
 intro x hx hy
 obtain ⟨cs,h1⟩:=h.type x hx
 obtain ⟨cs',h2⟩:=k.type x hy
 rw [h1] at h2
 simp at h2
 exact hne h2.2
theorem VT.g {t:TypeId} {w:World} {base:Nat} {a:Option Addr} {n:Nat} {f:Nat→Value} (h:VT t w base a n f):VG t w base a n f :=
 h.imp id (by rintro ⟨g,ha,hg,hr⟩;exact ⟨g,0,ha,hg,hr.g⟩)
theorem VI.g {w:World} {base:Nat} {a:Option Addr} {n:Nat} {f:Nat→Int} (h:VI w base a n f):VG 2 w base a n fun i=>.int .i64 (f i) :=
 h.imp id (by rintro ⟨g,ha,hg,hr⟩;exact ⟨g,0,ha,hg,hr.g⟩)
theorem VS.g {w:World} {base:Nat} {a:Option Addr} {n:Nat} {f:Nat→Value} (h:VS w base a n f):VG 25 w base a n f :=
 h.imp id (by rintro ⟨g,ha,hg,hr⟩;exact ⟨g,0,ha,hg,hr.g⟩)
theorem fV.vg {t:TypeId} {w:World} {base g n:Nat} {f:Nat→Value} (h:fV g t n f n w) (hb:base≤g):VG t w base (some ⟨g,0,none⟩) n f:=.inr ⟨g,0,rfl,hb,h.g⟩
def my (K:Nat→Pkt) (j:Nat):Value:=((K (j / 8)).cells[j % 8]?).getD (.bool false)
theorem jQ (K:Nat→Pkt) (i j:Nat) (h:j<8):some (my K (i*8+j))=(K i).cells[j]?:=by
 unfold my
 rw [show (i*8+j) / 8=i by omega,show (i*8+j) % 8=j by omega]
 rw [Array.getElem?_eq_getElem (by rw [Pkt.ig];exact h)]
 rfl
def k6 (L:Nat→Lng) (j:Nat):Value:=((L (j / 8)).cells[j % 8]?).getD (.bool false)
theorem jw (L:Nat→Lng) (i j:Nat) (h:j<8):some (k6 L (i*8+j))=(L i).cells[j]?:=by
 unfold k6
 rw [show (i*8+j) / 8=i by omega,show (i*8+j) % 8=j by omega]
 rw [Array.getElem?_eq_getElem (by rw [Lng.ig];exact h)]
 rfl
theorem VG.C8 {t:TypeId} {w:World} {base:Nat} {a:Option Addr} {n:Nat} {f:Nat→Ent} (h:VG t w base a (n*3) (flat f)):iZ w a n f:=by
 intro i hi
 obtain ⟨g,o,ha,h0⟩:=h.read (i*3) (by omega)
 obtain ⟨g1,o1,ha1,h1⟩:=h.read (i*3+1) (by omega)
 obtain ⟨g2,o2,ha2,h2⟩:=h.read (i*3+2) (by omega)
 rw [ha] at ha1 ha2
 cases ha1
 cases ha2
 rw [zY] at h0
 rw [zX] at h1
 rw [zU] at h2
 exact ⟨g,o,ha,h0,h1,h2⟩
theorem VG.pks {t:TypeId} {w:World} {base:Nat} {a:Option Addr} {n:Nat} {K:Nat→Pkt} (h:VG t w base a (n*8) (my K)):jN w a n K:=by
 intro i hi
 obtain ⟨g,o,ha,h0⟩:=h.read (i*8) (by omega)
 refine ⟨g,o,ha,fun j hj=>?_⟩
 obtain ⟨g1,o1,ha1,h1⟩:=h.read (i*8+j) (by omega)
 rw [ha] at ha1
 cases ha1
 rw [jQ K i j hj] at h1
 rw [Nat.add_assoc]
 exact h1
theorem VG.lns {t:TypeId} {w:World} {base:Nat} {a:Option Addr} {n:Nat} {L:Nat→Lng} (h:VG t w base a (n*8) (k6 L)):qh w a n L:=by
 intro i hi
 obtain ⟨g,o,ha,h0⟩:=h.read (i*8) (by omega)
 refine ⟨g,o,ha,fun j hj=>?_⟩
 obtain ⟨g1,o1,ha1,h1⟩:=h.read (i*8+j) (by omega)
 rw [ha] at ha1
 cases ha1
 rw [jw L i j hj] at h1
 rw [Nat.add_assoc]
 exact h1
def mi (n:Nat) (A:Nat→Option Addr) (L:Nat→Nat):List Nat:=(List.range n).flatMap fun i=>gF (A i) (L i)
theorem ib {n:Nat} {A:Nat→Option Addr} {L:Nat→Nat} {x:Nat}:x∈mi n A L↔∃ i,i<n∧x∈gF (A i) (L i):=by
 unfold mi
 simp
def Lng.jh (l:Lng):List Nat:=gF l.aT l.nT++(mi l.nU l.uA l.uL++(gF l.R.aQ l.R.nQ++(gF l.R.aD l.R.nD++mi l.R.nS l.R.A l.R.L)))
structure gO (w:World) (base:Nat) (l:Lng):Prop where
 t:VG 2 w base l.aT l.nT fun i=>.int .i64 (l.t i)
 u:VG 25 w base l.aU l.nU fun i=>.slice (l.uA i) (l.uL i) (l.uC i)
 z:∀ i,i<l.nU→VG 2 w base (l.uA i) (l.uL i) fun j=>.int .i64 (l.uz i j)
 q:VG 2 w base l.R.aQ l.R.nQ fun i=>.int .i64 (l.R.q i)
 d:VG 2 w base l.R.aD l.R.nD fun i=>.int .i64 (l.R.d i)
 s:VG 25 w base l.R.aS l.R.nS fun i=>.slice (l.R.A i) (l.R.L i) (l.R.C i)
 y:∀ i,i<l.R.nS→VG 2 w base (l.R.A i) (l.R.L i) fun j=>.int .i64 (l.R.z i j)
 nd:l.jh.Nodup
theorem gO.rd {w:World} {base:Nat} {l:Lng} (h:gO w base l):ml w l:=⟨h.t.read,h.u.read,fun i hi=>(h.z i hi).read,⟨h.q.read,h.d.read,h.s.read,fun i hi=>(h.y i hi).read⟩⟩
theorem gO.up {w w':World} {base:Nat} {l:Lng} (h:gO w base l) (hb:Below w.heap.size w w'):gO w' base l :=
 ⟨h.t.up hb,h.u.up hb,fun i hi=>(h.z i hi).up hb,h.q.up hb,h.d.up hb,h.s.up hb,fun i hi=>(h.y i hi).up hb,h.nd⟩
theorem gO.mono {w:World} {base base':Nat} {l:Lng} (h:gO w base l) (hb:base'≤base):gO w base' l :=
 ⟨h.t.mono hb,h.u.mono hb,fun i hi=>(h.z i hi).mono hb,h.q.mono hb,h.d.mono hb,h.s.mono hb,fun i hi=>(h.y i hi).mono hb,h.nd⟩
theorem gO.low {w w':World} {base:Nat} {l:Lng} {S:List Nat} (h:gO w base l) (ht:Touch S w w') (hS:∀ x∈S,x<base):gO w' base l :=
 ⟨h.t.low ht hS,h.u.low ht hS,fun i hi=>(h.z i hi).low ht hS,h.q.low ht hS,h.d.low ht hS,h.s.low ht hS,fun i hi=>(h.y i hi).low ht hS,h.nd⟩
theorem gO.blk {w:World} {base:Nat} {l:Lng} (h:gO w base l):∀ x∈l.jh,base≤x∧x<w.heap.size:=by
 intro x hx
 unfold Lng.jh at hx
 simp only [List.mem_append,ib] at hx
 rcases hx with hx | ⟨i,hi,hx⟩ | hx | hx | ⟨i,hi,hx⟩
 ·
  exact h.t.blk x hx
 ·
  exact (h.z i hi).blk x hx
 ·
  exact h.q.blk x hx
 ·
  exact h.d.blk x hx
 exact (h.y i hi).blk x hx
structure gy (a b:Lng):Prop where
 st:b.st=a.st
 nT:b.nT=a.nT
 t:b.t=a.t
 nU:b.nU=a.nU
 l:b.uL=a.uL
 z:b.uz=a.uz
 r:Alike a.R b.R
theorem gy.refl (a:Lng):gy a a:=⟨rfl,rfl,rfl,rfl,rfl,rfl,Alike.refl _⟩
theorem gy.symm {a b:Lng} (h:gy a b):gy b a:=⟨h.st.symm,h.nT.symm,h.t.symm,h.nU.symm,h.l.symm,h.z.symm,h.r.symm⟩
theorem gy.trans {a b c:Lng} (h:gy a b) (k:gy b c):gy a c:=⟨k.st.trans h.st,k.nT.trans h.nT,k.t.trans h.t,k.nU.trans h.nU,k.l.trans h.l,k.z.trans h.z,h.r.trans k.r⟩
structure ga (A B:Swg):Prop where
 c:B.C=A.C
 now:B.now=A.now
 nx:B.nx=A.nx
 nE:B.nE=A.nE
 e:B.e=A.e
 n:gx A.N B.N
 nK:B.nK=A.nK
 k:B.K=A.K
 nL:B.nL=A.nL
 l:∀ i,i<A.nL→gy (A.L i) (B.L i)
 dr:B.dr=A.dr
 lst:B.lst=A.lst
theorem ga.symm {A B:Swg} (h:ga A B):ga B A:=⟨h.c.symm,h.now.symm,h.nx.symm,h.nE.symm,h.e.symm,h.n.symm,h.nK.symm,h.k.symm,h.nL.symm,fun i hi=>(h.l i (by rw [←h.nL];exact hi)).symm,h.dr.symm,h.lst.symm⟩
theorem ga.trans {A B C:Swg} (h:ga A B) (k:ga B C):ga A C:=⟨k.c.trans h.c,k.now.trans h.now,k.nx.trans h.nx,k.nE.trans h.nE,k.e.trans h.e,h.n.trans k.n,k.nK.trans h.nK,k.k.trans h.k,k.nL.trans h.nL,fun i hi=>(h.l i hi).trans (k.l i (by rw [h.nL];exact hi)),k.dr.trans h.dr,k.lst.trans h.lst⟩
theorem gy.small {a b:Lng} (h:gy a b) (hs:a.Small):b.Small :=
 ⟨by rw [h.nT];exact hs.t,by rw [h.nU];exact hs.u,by rw [h.nU,h.l];exact hs.z,⟨by rw [h.r.nQ];exact hs.r.q,by rw [h.r.nD];exact hs.r.d,by rw [h.r.nS];exact hs.r.s,by rw [h.r.nS,h.r.l];exact hs.r.l⟩⟩
theorem ga.small {A B:Swg} (h:ga A B) (hs:A.Small):B.Small :=
 ⟨by rw [h.nE];exact hs.e,h.n.small hs.n,by rw [h.nK];exact hs.k,by rw [h.nK,h.k];exact hs.b,by rw [h.nL];exact hs.l,fun i hi=>by rw [h.nL] at hi;exact (h.l i hi).small (hs.ls i hi)⟩
theorem Alike.ok1 {a b:Rnd} (h:Alike a b) (k:a.Ok):b.Ok:=by
 obtain ⟨aQ,nQ,cQ,q,aD,nD,cD,d,turn,fresh,aS,nS,cS,A,L,C,z⟩:=a
 obtain ⟨aQ',nQ',cQ',q',aD',nD',cD',d',turn',fresh',aS',nS',cS',A',L',C',z'⟩:=b
 obtain ⟨h1,h2,h3,h4,h5,h6,h7,h8,h9⟩:=h
 dsimp only at h1 h2 h3 h4 h5 h6 h7 h8 h9
 subst h1 h2 h3 h4 h5 h6 h7 h8 h9
 exact ⟨k.n,k.d,k.s,k.t,k.c⟩
theorem gy.ok1 {a b:Lng} {m:Nat} {K:Nat→Pkt} (h:gy a b) (k:lY m K a):lY m K b :=
 ⟨h.r.ok1 k.r,by rw [h.r.nQ];exact k.n,by rw [h.r.q];exact k.q0,by rw [h.r.q];exact k.q1,by rw [h.nU];exact k.u,fun c hc=>by
  rw [h.l,h.z,h.r.l,h.r.z];exact k.z c hc,by rw [h.nT,h.t];exact k.t⟩
theorem xu {a b:Lng} (h:gy a b) (x:Int):∀ c,sn b x c=sn a x c:=by
 intro c
 induction c with
 | zero=>rfl
 | succ c ih =>
  show sn b x c+occ (b.uz c) x (b.uL c)=sn a x c+occ (a.uz c) x (a.uL c)
  rw [ih,h.z,h.l]
theorem xv {A B:Nat→Lng} {n:Nat} (h:∀ i,i<n→gy (A i) (B i)) (x:Int):∀ i,i≤n→nA B x i=nA A x i:=by
 intro i
 induction i with
 | zero=>intro _;rfl
 | succ i ih =>
  intro hi
  have hl:=h i (by omega)
  show nA B x i+(occ (B i).t x (B i).nT+sn (B i) x (B i).nU)=nA A x i+(occ (A i).t x (A i).nT+sn (A i) x (A i).nU)
  rw [ih (by omega),hl.t,hl.nT,hl.nU,xu hl]
theorem ga.ok1 {A B:Swg} (h:ga A B) (k:A.Ok):B.Ok:=by
 refine ⟨by rw [h.c];exact h.n.ok.2 k.n,⟨by rw [h.now];exact k.nums.now,by rw [h.nx];exact k.nums.nx,by rw [h.dr];exact k.nums.dr,by rw [h.lst];exact k.nums.lst⟩,?_,by rw [h.nx,h.c,h.nK,h.k];exact k.k,by rw [h.nL,h.c];exact k.nl,fun i hi=>?_,fun j hj=>?_,?_⟩
 ·
  unfold Swg.seen
  rw [h.nE,h.e,h.c,h.now]
  exact k.seen
 ·
  rw [h.nL] at hi
  rw [h.nK,h.k]
  exact (h.l i hi).ok1 (k.l i hi)
 ·
  rw [h.nK] at hj
  rw [h.k,h.nL,xv h.l _ _ (Nat.le_refl _)]
  exact k.refs j hj
 unfold Swg.xT
 rw [h.n.lo,h.k,h.nK,h.n.nU,h.n.u]
 exact k.held
theorem ga.ok {A B:Swg} (h:ga A B):B.Ok↔A.Ok:=⟨h.symm.ok1,h.ok1⟩
theorem VT.low {t:TypeId} {w w':World} {base:Nat} {a:Option Addr} {n:Nat} {f:Nat→Value} {S:List Nat} (h:VT t w base a n f) (ht:Touch S w w') (hS:∀ x∈S,x<base):VT t w' base a n f :=
 h.fK ht (fun x hx hy=>by have:=(h.blk x hx).1;have:=hS x hy;omega)
structure gI (w:World) (base:Nat) (S:Swg):Prop where
 e:VT 95 w base S.aE (S.nE*3) (flat S.e)
 u:VT 2 w base S.N.aU S.N.nU fun i=>.int .i64 (S.N.u i)
 p:VT 4 w base S.N.aP S.N.nP fun i=>.bool (S.N.p i)
 k:VT 97 w base S.aK (S.nK*8) (my S.K)
 l:VT 102 w base S.aL (S.nL*8) (k6 S.L)
 ls:∀ i,i<S.nL→gO w base (S.L i)
 nd:(gF S.N.aU S.N.nU++(List.range S.nL).flatMap fun i=>(S.L i).jh).Nodup
theorem gI.rd {w:World} {base:Nat} {S:Swg} (h:gI w base S):j4 w S:=⟨h.e.g.C8,⟨h.u.read,h.p.read⟩,h.k.g.pks,h.l.g.lns,fun i hi=>(h.ls i hi).rd⟩
theorem gI.up {w w':World} {base:Nat} {S:Swg} (h:gI w base S) (hb:Below w.heap.size w w'):gI w' base S :=
 ⟨h.e.up hb,h.u.up hb,h.p.up hb,h.k.up hb,h.l.up hb,fun i hi=>(h.ls i hi).up hb,h.nd⟩
theorem gI.mono {w:World} {base base':Nat} {S:Swg} (h:gI w base S) (hb:base'≤base):gI w base' S :=
 ⟨h.e.mono hb,h.u.mono hb,h.p.mono hb,h.k.mono hb,h.l.mono hb,fun i hi=>(h.ls i hi).mono hb,h.nd⟩
theorem gI.low {w w':World} {base:Nat} {S:Swg} {T:List Nat} (h:gI w base S) (ht:Touch T w w') (hS:∀ x∈T,x<base):gI w' base S :=
 ⟨h.e.low ht hS,h.u.low ht hS,h.p.low ht hS,h.k.low ht hS,h.l.low ht hS,fun i hi=>(h.ls i hi).low ht hS,h.nd⟩
theorem jj {a b:List Nat} (ha:a.Nodup) (hb:b.Nodup) (m:Nat) (h1:∀ x∈a,x<m) (h2:∀ x∈b,m≤x):(a++b).Nodup :=
 List.nodup_append.2 ⟨ha,hb,fun x hx y hy e=>by have:=h1 x hx;have:=h2 y hy;omega⟩
theorem jE (a:Option Addr) (n:Nat):(gF a n).Nodup:=by
 unfold gF
 split
 ·
  exact List.nodup_nil
 cases a <;> simp
def pN (g o n:Nat) (f:Nat→Value) (w:World):Prop:=∃ arr:Array Value,w.heap[g]?=some (.cells arr 2 (0,0))∧o+n≤arr.size∧∀ i,i<n→arr[o+i]?=some (f i)
theorem pN.lt {g o n:Nat} {f:Nat→Value} {w:World} (h:pN g o n f w):g<w.heap.size:=by
 obtain ⟨arr,h1,_⟩:=h
 exact fH h1
theorem pN.ir {g o n:Nat} {f:Nat→Value} {w w':World} (h:pN g o n f w) (hb:w'.heap[g]?=w.heap[g]?):pN g o n f w':=by
 obtain ⟨arr,h1,h2⟩:=h
 exact ⟨arr,hb.trans h1,h2⟩
theorem pN.read {g o n:Nat} {f:Nat→Value} {w:World} (h:pN g o n f w):fY w (some ⟨g,o,none⟩) n f:=fun i hi=>by
 obtain ⟨arr,h1,h2,h3⟩:=h
 exact ⟨g,o,rfl,(fG h1 _).trans (h3 i hi)⟩
theorem pN.drop {g o n:Nat} {f:Nat→Value} {w:World} (h:pN g o (n+1) f w):pN g (o+1) n (fun j=>f (j+1)) w:=by
 obtain ⟨arr,h1,h2,h3⟩:=h
 refine ⟨arr,h1,by omega,fun i hi=>?_⟩
 have:=h3 (i+1) (by omega)
 rwa [show o+1+i=o+(i+1) by omega]
def VO (w:World) (base:Nat) (a:Option Addr) (n:Nat) (f:Nat→Int):Prop:=n=0∨∃ g o,a=some ⟨g,o,none⟩∧base≤g∧pN g o n (fun i=>.int .i64 (f i)) w
section
variable {w w' : World} {base base' : Nat} {a : Option Addr} {n : Nat} {f : Nat → Int} {S : List Nat}
theorem VI.o (h:VI w base a n f):VO w base a n f:=by
 rcases h with h | ⟨g,e,hb,arr,h1,h2,h3⟩
 ·
  exact .inl h
 exact .inr ⟨g,0,e,hb,arr,h1,by omega,fun i hi=>by rw [Nat.zero_add];exact h3 i hi⟩
theorem VO.read (h:VO w base a n f):fY w a n fun i=>.int .i64 (f i):=dk
theorem VO.up (h:VO w base a n f) (hb:Below w.heap.size w w'):VO w' base a n f :=
 h.imp id (by rintro ⟨g,o,ha,hg,hr⟩;exact ⟨g,o,ha,hg,hr.ir (hb.block _ hr.lt)⟩)
theorem VO.mono (h:VO w base a n f) (hb:base'≤base):VO w base' a n f :=
 h.imp id (by rintro ⟨g,o,ha,hg,hr⟩;exact ⟨g,o,ha,by omega,hr⟩)
theorem Bk {g o n:Nat} (h:n≠0):g∈iS (some ⟨g,o,none⟩) n:=by unfold iS;rw [if_neg h];simp
theorem VO.fK (h:VO w base a n f) (ht:Touch S w w') (hp:∀ x∈iS a n,x∉S):VO w' base a n f:=by
 rcases h with h | ⟨g,o,rfl,hg,hr⟩
 ·
  exact .inl h
 by_cases h0:n=0
 ·
  exact .inl h0
 exact .inr ⟨g,o,rfl,hg,hr.ir (ht.block g hr.lt (hp g (Bk h0)))⟩
theorem VO.blk (h:VO w base a n f):∀ x∈iS a n,base≤x∧x<w.heap.size:=by
 intro x hx
 unfold iS at hx
 exact db
theorem CK (h:VO w base a n f) {g:Nat} {arr:Array Value} {t:TypeId} (ht:t≠2) (hg:w.heap[g]?=some (.cells arr t (0,0))):g∉iS a n:=by
 intro hx
 unfold iS at hx
 split at hx
 ·
  simp at hx
 rename_i h0
 rcases h with h1 | ⟨g',o,rfl,_,arr',h2,_⟩
 ·
  exact h0 h1
 simp at hx
 subst hx
 rw [hg] at h2
 simp at h2
 exact ht h2.2
end
structure oa (w:World) (base:Nat) (R:Rnd):Prop where
 q:VI w base R.aQ R.nQ R.q
 d:VI w base R.aD R.nD R.d
 s:VS w base R.aS R.nS fun i=>.slice (R.A i) (R.L i) (R.C i)
 z:∀ i,i<R.nS→VO w base (R.A i) (R.L i) (R.z i)
 qd:iI R.aQ R.nQ R.aD R.nD
 qz:∀ i,i<R.nS→iI R.aQ R.nQ (R.A i) (R.L i)
 dz:∀ i,i<R.nS→iI R.aD R.nD (R.A i) (R.L i)
 zz:∀ i j,i<R.nS→j<R.nS→i≠j→iI (R.A i) (R.L i) (R.A j) (R.L j)
theorem iQ.o {w:World} {base:Nat} {R:Rnd} (h:iQ w base R):oa w base R:=⟨h.q,h.d,h.s,fun i hi=>(h.z i hi).o,h.qd,h.qz,h.dz,h.zz⟩
theorem oa.rd {w:World} {base:Nat} {R:Rnd} (h:oa w base R):iY w R:=⟨h.q.read,h.d.read,h.s.read,fun i hi=>(h.z i hi).read⟩
theorem oa.up {w w':World} {base:Nat} {R:Rnd} (h:oa w base R) (hb:Below w.heap.size w w'):oa w' base R :=
 ⟨h.q.up hb,h.d.up hb,h.s.up hb,fun i hi=>(h.z i hi).up hb,h.qd,h.qz,h.dz,h.zz⟩
theorem oa.mono {w:World} {base base':Nat} {R:Rnd} (h:oa w base R) (hb:base'≤base):oa w base' R :=
 ⟨h.q.mono hb,h.d.mono hb,h.s.mono hb,fun i hi=>(h.z i hi).mono hb,h.qd,h.qz,h.dz,h.zz⟩
theorem oa.wF {w w':World} {base:Nat} {R:Rnd} {S:List Nat} (h:oa w base R) (ht:Touch S w w') (hS:∀ g∈S,∀ arr,w.heap[g]?≠some (.cells arr 2 (0,0))∧w.heap[g]?≠some (.cells arr 25 (0,0))):oa w' base R:=by
 have Cz:∀ {a:Option Addr} {n:Nat} {f:Nat→Int},VI w base a n f→VI w' base a n f:=fun hv=>by
  rcases hv with hv | ⟨g,e,hg,arr,h1,h2⟩
  ·
   exact .inl hv
  exact .inr ⟨g,e,hg,arr,(ht.block g (fH h1) (fun hx=>(hS g hx arr).1 h1)).trans h1,h2⟩
 have keyO:∀ {a:Option Addr} {n:Nat} {f:Nat→Int},VO w base a n f→VO w' base a n f:=fun hv=>by
  rcases hv with hv | ⟨g,o,e,hg,arr,h1,h2⟩
  ·
   exact .inl hv
  exact .inr ⟨g,o,e,hg,arr,(ht.block g (fH h1) (fun hx=>(hS g hx arr).1 h1)).trans h1,h2⟩
 refine ⟨Cz h.q,Cz h.d,?_,fun i hi=>keyO (h.z i hi),h.qd,h.qz,h.dz,h.zz⟩
 rcases h.s with hv | ⟨g,e,hg,arr,h1,h2⟩
 ·
  exact .inl hv
 exact .inr ⟨g,e,hg,arr,(ht.block g (fH h1) (fun hx=>(hS g hx arr).2 h1)).trans h1,h2⟩
theorem ju {cur cs:Array Value} {o:Nat} (h:o+cs.size≤cur.size) (j:Nat) (hj:o+cs.size≤j):(lay cur o cs)[j]?=cur[j]?:=by
 unfold lay
 simp only [List.getElem?_toArray]
 rw [List.append_assoc,List.getElem?_append_right (by simp;omega),List.getElem?_append_right (by simp;omega),List.getElem?_drop]
 exact di
structure oN where
 g:Nat
 o:Nat
 cur:Array Value
 t:TypeId
 fit:o+5≤cur.size
 n2:t≠2
 n3:t≠25
 B:Nat→Nat→Prop
theorem zl {cur cs:Array Value} {o i:Nat} (h:o+cs.size≤cur.size) (hi:i<cs.size) (v:Value):lay cur o (cs.setIfInBounds i v)=(lay cur o cs).setIfInBounds (o+i) v:=by
 have hs:(cs.setIfInBounds i v).size=cs.size:=by simp
 refine Array.ext_getElem? fun j=>?_
 rw [Array.getElem?_setIfInBounds,jb h]
 by_cases h1:j<o
 ·
  rw [jI (by omega) j h1,if_neg (by omega),jI h j h1]
 by_cases h2:j<o+cs.size
 ·
  have e1:=iX (cs:=cs.setIfInBounds i v) (cur:=cur) (o:=o) (by omega) (j-o) (by omega)
  have e2:=iX h (j-o) (by omega)
  rw [show o+(j-o)=j by omega] at e1 e2
  rw [e1,Array.getElem?_setIfInBounds]
  by_cases h3:i=j-o
  ·
   rw [if_pos h3,if_pos (by omega),if_pos (by omega),if_pos (by omega)]
  rw [if_neg h3,if_neg (by omega),e2]
 rw [ju (by omega) j (by omega),if_neg (by omega),ju h j (by omega)]
structure iy (w:World) (base top:Nat) (gb:oN) (gD gS:Nat) (X:Rnd):Prop where
 box:w.heap[gb.g]?=some (.cells (lay gb.cur gb.o X.cells) gb.t (0,0))
 own:oa w base X
 ad:X.aD=some ⟨gD,0,none⟩
 as_:X.aS=some ⟨gS,0,none⟩
 cap:∀ i,i<X.nS→X.L i≤X.C i
 pos:1≤X.nQ∧X.nD=X.nQ∧X.nS=X.nQ
 hi:(∀ x∈iS X.aQ X.nQ,x<top)∧gD<top∧gS<top∧gb.g<top∧∀ i,i<X.nS→∀ x∈iS (X.A i) (X.L i),x<top
 inn:(∀ x∈iS X.aQ X.nQ,gb.B 0 x)∧∀ i,i<X.nS→∀ x∈iS (X.A i) (X.L i),gb.B (i+1) x
section
variable {w w' : World} {base top : Nat} {gb : oN} {gD gS : Nat} {X : Rnd}
theorem iy.up (h:iy w base top gb gD gS X) (hb:Below w.heap.size w w'):iy w' base top gb gD gS X :=
 ⟨(hb.block _ (fH h.box)).trans h.box,h.own.up hb,h.ad,h.as_,h.cap,h.pos,h.hi,h.inn⟩
theorem iy.Ao (h:iy w base top gb gD gS X):fV gD 2 X.nQ (fun i=>.int .i64 (X.d i)) X.nQ w∧base≤gD:=by
 have hp:=h.pos
 rcases h.own.d with h0 | ⟨g,e,hb,hr⟩
 ·
  omega
 rw [h.ad] at e
 cases e
 rw [hp.2.1] at hr
 exact ⟨hr,hb⟩
theorem iy.BN (h:iy w base top gb gD gS X):fV gS 25 X.nQ (fun i=>.slice (X.A i) (X.L i) (X.C i)) X.nQ w∧base≤gS:=by
 have hp:=h.pos
 rcases h.own.s with h0 | ⟨g,e,hb,hr⟩
 ·
  omega
 rw [h.as_] at e
 cases e
 rw [hp.2.2] at hr
 exact ⟨hr,hb⟩
theorem iy.ne (h:iy w base top gb gD gS X):gb.g≠gD∧gb.g≠gS∧gD≠gS:=by
 obtain ⟨⟨a1,k1,_⟩,_⟩:=h.Ao
 obtain ⟨⟨a2,k2,_⟩,_⟩:=h.BN
 have k0:=h.box
 refine ⟨fun e=>?_,fun e=>?_,fun e=>?_⟩
 ·
  rw [e,k1] at k0;simp at k0;exact gb.n2 k0.2.symm
 ·
  rw [e,k2] at k0;simp at k0;exact gb.n3 k0.2.symm
 rw [e,k2] at k1;simp at k1
theorem iy.Ah (h:iy w base top gb gD gS X) {Y:Rnd} (i:Nat) (v:Value) (hi:i<5) (hc:Y.cells=X.cells.setIfInBounds i v) (hY:Y={ X with turn:=Y.turn,fresh:=Y.fresh }):iy (w.setCell ⟨gb.g,gb.o+i,none⟩ v) base top gb gD gS Y:=by
 have ht:Touch [gb.g] w (w.setCell ⟨gb.g,gb.o+i,none⟩ v):=(Touch.refl _ _).set (by simp) (gb.o+i) v
 have ho:=h.own.wF ht (fun g hg arr=>by
  simp at hg
  subst hg
  rw [h.box]
  exact ⟨fun e=>gb.n2 (by simp at e;exact e.2),fun e=>gb.n3 (by simp at e;exact e.2)⟩)
 have hbx:(w.setCell ⟨gb.g,gb.o+i,none⟩ v).heap[gb.g]?=some (.cells (lay gb.cur gb.o Y.cells) gb.t (0,0)):=by rw [hc,zl (cs:=X.cells) gb.fit hi];exact gj h.box v
 rw [hY] at hbx ⊢
 exact ⟨hbx,⟨ho.q,ho.d,ho.s,ho.z,ho.qd,ho.qz,ho.dz,ho.zz⟩,h.ad,h.as_,h.cap,h.pos,h.hi,h.inn⟩
theorem iy.def (h:iy w base top gb gD gS X) {c:Nat} (hc:c<X.nQ) (v:Int):iy (w.setCell ⟨gD,c,none⟩ (.int .i64 v)) base top gb gD gS (X.gw c v):=by
 obtain ⟨n1,n2,n3⟩:=h.ne
 obtain ⟨hrow,hbd⟩:=h.Ao
 obtain ⟨hrowS,_⟩:=h.BN
 have hp:=h.pos
 have ht:Touch [gD] w (w.setCell ⟨gD,c,none⟩ (.int .i64 v)):=(Touch.refl _ _).set (by simp) c _
 have hin:gD∈iS X.aD X.nD:=by rw [h.ad];exact lF (by omega)
 have nin:∀ {a:Option Addr} {n:Nat},iI X.aD X.nD a n→∀ x∈iS a n,x∉[gD]:=fun ha x hx hx2=>by
  simp at hx2
  subst hx2
  exact ha _ hin hx
 refine ⟨(fO n1 _).trans h.box,⟨h.own.q.fK ht (nin h.own.qd.symm),?_,?_,fun i hi=>(h.own.z i hi).fK ht (nin (h.own.dz i hi)),h.own.qd,h.own.qz,h.own.dz,h.own.zz⟩,h.ad,h.as_,h.cap,h.pos,h.hi,h.inn⟩
 ·
  show VI _ base X.aD X.nD (nF X.d c v)
  have hd:=h.own.d
  rw [h.ad] at hd ⊢
  exact hd.set (by omega) v
 show VS _ base X.aS X.nS _
 rcases h.own.s with h0 | ⟨g,e,hb,hr⟩
 ·
  exact .inl h0
 refine .inr ⟨g,e,hb,hr.ir (fO (fun e2=>?_) _)⟩
 rw [h.as_] at e
 cases e
 exact n3 e2.symm
theorem Bj {g o o' n n':Nat} (h:n'≠0→n≠0):∀ x∈iS (some ⟨g,o',none⟩) n',x∈iS (some ⟨g,o,none⟩) n:=fun x hx=>by
 unfold iS at hx ⊢
 split at hx
 ·
  simp at hx
 rename_i h0
 rw [if_neg (h h0)]
 exact hx
theorem iy.cut (h:iy w base top gb gD gS X) {c gz oz o':Nat} (hc:c<X.nQ) (hA:X.A c=some ⟨gz,oz,none⟩) (hL:X.L c≠0) (ho:X.C c≠1→o'=oz+1) :
  iy (w.setCell ⟨gS,c,none⟩ (.slice (some ⟨gz,o',none⟩) (X.L c-1) (X.C c-1))) base top gb gD gS (X.cut c (some ⟨gz,o',none⟩) (X.C c-1)):=by
 obtain ⟨n1,n2,n3⟩:=h.ne
 obtain ⟨hrowS,hbS⟩:=h.BN
 obtain ⟨hrow,hbd⟩:=h.Ao
 have hp:=h.pos
 have hcs:c<X.nS:=by omega
 have hcap:=h.cap c hcs
 have ht:Touch [gS] w (w.setCell ⟨gS,c,none⟩ (.slice (some ⟨gz,o',none⟩) (X.L c-1) (X.C c-1))):=(Touch.refl _ _).set (by simp) c _
 obtain ⟨arrS,hkS,_⟩:=hrowS
 have Cz:∀ {a:Option Addr} {n:Nat} {f:Nat→Int},VI w base a n f→VI (w.setCell ⟨gS,c,none⟩ (.slice (some ⟨gz,o',none⟩) (X.L c-1) (X.C c-1))) base a n f:=fun hv=>hv.fK ht (fun x hx hx2=>by
  simp at hx2
  subst hx2
  exact yP hv (by decide) hkS hx)
 have keyO:∀ {a:Option Addr} {n:Nat} {f:Nat→Int},VO w base a n f→VO (w.setCell ⟨gS,c,none⟩ (.slice (some ⟨gz,o',none⟩) (X.L c-1) (X.C c-1))) base a n f:=fun hv=>hv.fK ht (fun x hx hx2=>by
  simp at hx2
  subst hx2
  exact CK hv (by decide) hkS hx)
 have hLc:jT X.L c (X.L c-1) c=X.L c-1:=iH _ _ _
 have hZc:pS X.z c (fun j=>X.z c (j+1)) c=fun j=>X.z c (j+1):=na _ _ _
 have hsub:∀ x∈iS (some (⟨gz,o',none⟩:Addr)) (X.L c-1),x∈iS (X.A c) (X.L c):=fun x hx=>by rw [hA];exact Bj (fun _=>hL) x hx
 have hz:VO w base (some ⟨gz,o',none⟩) (X.L c-1) (fun j=>X.z c (j+1)):=by
  by_cases h1:X.L c-1=0
  ·
   exact .inl h1
  rcases h.own.z c hcs with h0 | ⟨g,o,e,hb,hr⟩
  ·
   exact absurd h0 hL
  rw [hA] at e
  cases e
  rw [ho (by omega)]
  have e2:X.L c=X.L c-1+1:=by omega
  rw [e2] at hr
  exact .inr ⟨_,_,rfl,hb,hr.drop⟩
 refine ⟨(fO n2 _).trans h.box,⟨Cz h.own.q,Cz h.own.d,?_,fun i hi=>?_,h.own.qd,fun i hi=>?_,fun i hi=>?_,fun i j hi hj hne=>?_⟩,h.ad,h.as_,fun i hi=>?_,h.pos,⟨h.hi.1,h.hi.2.1,h.hi.2.2.1,h.hi.2.2.2.1,fun i hi x hx=>?_⟩,h.inn.1,fun i hi x hx=>?_⟩
 ·
  rcases h.own.s with h0 | ⟨g,e,hb,arr,k1,k2,k3⟩
  ·
   omega
  have e0:=e
  rw [h.as_] at e0
  cases e0
  refine .inr ⟨gS,e,hb,_,gj k1 _,by simpa [Rnd.cut] using k2,fun i hi=>?_⟩
  show _=some (Value.slice (if i=c then _ else X.A i) (jT X.L c (X.L c-1) i) (if i=c then _ else X.C i))
  by_cases e1:i=c
  ·
   subst e1
   exact df
  rw [Array.getElem?_setIfInBounds_ne (by omega),k3 i hi,if_neg e1,if_neg e1,im e1]
 ·
  show VO _ base (if i=c then _ else X.A i) (jT X.L c (X.L c-1) i) (pS X.z c (fun j=>X.z c (j+1)) i)
  by_cases e:i=c
  ·
   subst e
   rw [hLc,hZc]
   simp only [if_true]
   exact keyO hz
  rw [im e,qM e]
  simp only [if_neg e]
  exact keyO (h.own.z i hi)
 ·
  show iI X.aQ X.nQ (if i=c then _ else X.A i) (jT X.L c (X.L c-1) i)
  by_cases e:i=c
  ·
   subst e
   rw [hLc]
   simp only [if_true]
   exact fun x hx hy=>h.own.qz i hi x hx (hsub x hy)
  rw [im e]
  simp only [if_neg e]
  exact h.own.qz i hi
 ·
  show iI X.aD X.nD (if i=c then _ else X.A i) (jT X.L c (X.L c-1) i)
  by_cases e:i=c
  ·
   subst e
   rw [hLc]
   simp only [if_true]
   exact fun x hx hy=>h.own.dz i hi x hx (hsub x hy)
  rw [im e]
  simp only [if_neg e]
  exact h.own.dz i hi
 ·
  show iI (if i=c then _ else X.A i) (jT X.L c (X.L c-1) i) (if j=c then _ else X.A j) (jT X.L c (X.L c-1) j)
  by_cases e:i=c
  ·
   subst e
   rw [hLc,im (Ne.symm hne)]
   simp only [if_true,if_neg (Ne.symm hne)]
   exact fun x hx hy=>h.own.zz i j hi hj hne x (hsub x hx) hy
  by_cases e2:j=c
  ·
   subst e2
   rw [hLc,im e]
   simp only [if_true,if_neg e]
   exact fun x hx hy=>h.own.zz i j hi hj hne x hx (hsub x hy)
  exact dh
 ·
  show jT X.L c (X.L c-1) i≤(if i=c then X.C c-1 else X.C i)
  by_cases e:i=c
  ·
   subst e
   rw [hLc,if_pos rfl]
   omega
  rw [im e,if_neg e]
  exact h.cap i hi
 ·
  change x∈iS (if i=c then _ else X.A i) (jT X.L c (X.L c-1) i) at hx
  by_cases e:i=c
  ·
   subst e
   rw [hLc,if_pos rfl] at hx
   exact h.hi.2.2.2.2 i hi x (hsub x hx)
  rw [im e,if_neg e] at hx
  exact h.hi.2.2.2.2 i hi x hx
 change x∈iS (if i=c then _ else X.A i) (jT X.L c (X.L c-1) i) at hx
 by_cases e:i=c
 ·
  subst e
  rw [hLc,if_pos rfl] at hx
  exact h.inn.2 i hi x (hsub x hx)
 rw [im e,if_neg e] at hx
 exact h.inn.2 i hi x hx
theorem iy.Az {S:List Nat} (h:iy w base top gb gD gS X) (ht:Touch S w w') (hS:∀ x∈S,top≤x):iy w' base top gb gD gS X:=by
 obtain ⟨h1,h2,h3,h4,h5⟩:=h.hi
 have hp:=h.pos
 refine ⟨(ht.block _ (fH h.box) (fun hx=>by have:=hS _ hx;omega)).trans h.box,⟨h.own.q.fK ht (fun x hx hx2=>by have:=hS x hx2;have:=h1 x hx;omega),h.own.d.fK ht (fun x hx hx2=>?_),?_,fun i hi=>(h.own.z i hi).fK ht (fun x hx hx2=>by have:=hS x hx2;have:=h5 i hi x hx;omega),h.own.qd,h.own.qz,h.own.dz,h.own.zz⟩,h.ad,h.as_,h.cap,h.pos,h.hi,h.inn⟩
 ·
  rw [h.ad] at hx
  have:x=gD:=by
   unfold iS at hx
   split at hx
   ·
    simp at hx
   simpa using hx
  have:=hS x hx2
  omega
 rcases h.own.s with h0 | ⟨g,e,hb,hr⟩
 ·
  exact .inl h0
 refine .inr ⟨g,e,hb,hr.ir (ht.block g hr.lt (fun hx=>?_))⟩
 have:=hS g hx
 rw [h.as_] at e
 cases e
 omega
theorem iy.cb (h:iy w base top gb gD gS X):w.cell? ⟨gb.g,gb.o,none⟩=some (.slice X.aQ X.nQ X.cQ)∧w.cell? ⟨gb.g,gb.o+1,none⟩=some (.slice (some ⟨gD,0,none⟩) X.nQ X.cD)∧w.cell? ⟨gb.g,gb.o+2,none⟩=some (.int .i64 X.turn)∧w.cell? ⟨gb.g,gb.o+3,none⟩=some (.bool X.fresh)∧w.cell? ⟨gb.g,gb.o+4,none⟩=some (.slice (some ⟨gS,0,none⟩) X.nQ X.cS):=by
 have k:∀ j,j<5→w.cell? ⟨gb.g,gb.o+j,none⟩=X.cells[j]?:=fun j hj=>(fG h.box _).trans (iX (cs:=X.cells) gb.fit j hj)
 have e:X.cells=#[.slice X.aQ X.nQ X.cQ,.slice (some ⟨gD,0,none⟩) X.nQ X.cD,.int .i64 X.turn,.bool X.fresh,.slice (some ⟨gS,0,none⟩) X.nQ X.cS]:=by rw [Rnd.cells,h.ad,h.as_,h.pos.2.1,h.pos.2.2]
 rw [e] at k
 exact dj
theorem iy.cx (h:iy w base top gb gD gS X):w.cell? ⟨gb.g,gb.o,none⟩=some (.slice X.aQ X.nQ X.cQ)∧w.cell? ⟨gb.g,gb.o+1,none⟩=some (.slice X.aD X.nD X.cD)∧w.cell? ⟨gb.g,gb.o+2,none⟩=some (.int .i64 X.turn)∧w.cell? ⟨gb.g,gb.o+3,none⟩=some (.bool X.fresh)∧w.cell? ⟨gb.g,gb.o+4,none⟩=some (.slice X.aS X.nS X.cS):=by
 have k:∀ j,j<5→w.cell? ⟨gb.g,gb.o+j,none⟩=X.cells[j]?:=fun j hj=>(fG h.box _).trans (iX (cs:=X.cells) gb.fit j hj)
 exact dj
theorem iy.cd (h:iy w base top gb gD gS X) {c:Nat} (hc:c<X.nQ):w.cell? ⟨gD,c,none⟩=some (.int .i64 (X.d c)):=h.Ao.1.at c hc
theorem iy.cs (h:iy w base top gb gD gS X) {c:Nat} (hc:c<X.nQ):w.cell? ⟨gS,c,none⟩=some (.slice (X.A c) (X.L c) (X.C c)):=h.BN.1.at c hc
end
theorem Ay {w:World} {base top:Nat} {gb:oN} {gD gS:Nat} {X:Rnd} (h:iy w base top gb gD gS X):iy ((w.setCell ⟨gb.g,gb.o+2,none⟩ (.int .i64 (((X.now+1) % X.nQ:Nat):Int))).setCell ⟨gb.g,gb.o+3,none⟩ (.bool true)) base top gb gD gS (gv X) :=
 (h.Ah (Y:={ X with turn:=(((X.now+1) % X.nQ:Nat):Int) }) 2 _ (by omega) rfl rfl).Ah 3 _ (by omega) rfl rfl
theorem nt (X:Rnd) (base top:Nat) (gb:oN) (gD gS:Nat) (w:World) (h:iy w base top gb gD gS X) (hn:X.nQ≤4) (ht:0≤X.turn∧X.turn<X.nQ) :
  Calls Tryz.prog 161 #[.pointer (some ⟨gb.g,gb.o,none⟩)] w fun e w'=>(∃ v,e=.returned v)∧iy w' base top gb gD gS (gv X)∧Touch [gb.g] w w':=by
 have hrt:=wN ht
 have HD:Hid (iy w.drew base top gb gD gS X):=h.up ((Below.refl _ _).drew)
 have HTu:Hid (Touch [gb.g] w w.drew):=Touch.gY ((Below.refl _ _).drew)
 have hp:=h.pos.1
 obtain ⟨T,hT⟩:∃ T:Int,T=(((X.now+1) % X.nQ:Nat):Int):=⟨_,rfl⟩
 have HTT:Hid (T=(((X.now+1) % X.nQ:Nat):Int)):=hT
 rw [←hT] at hrt
 have hrt2:(X.turn+1) % (X.nQ:Int)=T:=by rw [←hrt,Int.tmod_eq_emod_of_nonneg (by omega)]
 clear hT h
 have cb:=HD.out.cb
 have fr:=fX HD.out.box
 have hbx:=HD.out.box
 have HF:Hid (∀ V,iy V base top gb gD gS X→iy ((V.setCell ⟨gb.g,gb.o+2,none⟩ (.int .i64 T)).setCell ⟨gb.g,gb.o+3,none⟩ (.bool true)) base top gb gD gS (gv X)):=fun V hV=>by rw [HTT.out];exact Ay hV
 obtain ⟨aQ,nQ,cQ,q,aD,nD,cD,d,turn,fresh,aS,nS,cS,A,L,C,z⟩:=X
 dsimp only at cb hrt hrt2 hn ht hp
 have ht2:turn≤4:=by omega
 have ht1:0≤turn:=ht.1
 have hnz:((nQ:Int) == 0)=false:=by simp;omega
 have hwr:IntKind.i64.wrap (turn+1)=turn+1:=nB _ (by omega) (by omega)
 have hnz2:¬ nQ=0:=by omega
 have c0:w.drew.cell? ⟨gb.g,gb.o,none⟩=some (.slice aQ nQ cQ):=cb.1
 go_enter Tryz.func161,Tryz.ntmps161
 go_wp2_with fail
 refine wp_region_held_drew (S:=fun w'=>w'.cell? ⟨gb.g,gb.o,none⟩=some (.slice aQ nQ cQ)) (by kernel_rfl) c0 (fun hHeld=>?_)
 generalize w.drew=V at *
 refine t0 ?_
 iterate 3 refine tN ?_
 refine tQ 6 8 ?_
 refine tQ 7 9 ?_
 refine tQ 8 10 ?_
 refine tQ 9 11 ?_
 refine tQ 10 12 ?_
 refine rq1 4 (fun K hK=>?_)
 go_simp
 refine hK.out _ _ c0 (fun hHeld=>?_)
 clear hK K
 try simp only [Act.put,PZ]
 refine tQ 5 7 ?_
 refine tC 11 13 (v:=.int .i64 T) ?_ ?_
 ·
  intro wx hSw
  go_simp
 try simp only [Act.put,PZ]
 refine tQ 12 14 ?_
 refine tQ 13 15 ?_
 have c0s:(V.setCell ⟨gb.g,gb.o+2,none⟩ (.int .i64 T)).cell? ⟨gb.g,gb.o,none⟩=some (.slice aQ nQ cQ):=(World.cell?_setCell_other _ _ _ _ (by simp)).trans c0
 refine rq1 14 (fun K hK=>?_)
 go_simp
 refine hK.out _ _ c0s (fun hHeld=>?_)
 clear hK K
 try simp only [Act.put,PZ]
 refine dnq ?_
 have cb2:(V.setCell ⟨gb.g,gb.o+2,none⟩ (.int .i64 T)).cell? ⟨gb.g,gb.o+3,none⟩=some (.bool fresh):=(World.cell?_setCell_other _ _ _ _ (by simp)).trans cb.2.2.2.1
 have fr2:(V.setCell ⟨gb.g,gb.o+2,none⟩ (.int .i64 T)).frozen? ⟨gb.g,gb.o+3,none⟩=false:=fX (gj (i:=gb.o+2) hbx _) (gb.o+3)
 clear hHeld c0 c0s cb fr hbx
 go_wp2_with fail
 go_end0
 exact ⟨⟨_,rfl⟩,HF.out V HD.out,(HTu.out.set (by simp) (gb.o+2) _).set (by simp) (gb.o+3) _⟩
end Go.Proofs.YtfcfpkibceepgaaGreat
