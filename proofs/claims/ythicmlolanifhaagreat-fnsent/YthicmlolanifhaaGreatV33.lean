import Derived.Test.YthicmlolanifhaaGreatV21
namespace Go.Proofs.YthicmlolanifhaaGreat
set_option maxRecDepth 100000
set_option maxHeartbeats 9000000
open Go.RowKit
set_option linter.unusedVariables false
set_option linter.unusedSimpArgs false
variable {ps:Array Tmp} {cur:Array Value} {assign body:Code} {S:List Nat} {D base c g gD gS gz i l n o' oz top:Nat} {f:Nat→Value} {lo:Obj} {p:Prop} {R X:Rnd} {W w w':World}
theorem fV (h:p:=by
 have eQ:((X.iV c (X.d c-X.z c 0))).aQ=some ⟨gq,oq,none⟩:=HQ.out
 have eF:((X.iV c (X.d c-X.z c 0))).fresh=false:=HF.out
 have eT:((X.iV c (X.d c-X.z c 0))).turn=(c:Int):=HTu.out
 rw [←eQ,←eF,←eT]
 exact h9):p:=h
theorem fW (h:p:=by
 have HAl:Hid (Alike (ml X) (iY (((X.iV c (X.d c-X.z c 0)).cut c (some ⟨gz,o',none⟩) (X.C c-1)).iV c 0))):=uP HNo h1 _ _
 clear h1
 go_wp2_with fail
 refine (qX _ base top gb gD gS _ HR4 hn.2 HOk.t).mono ?_
 rintro e V5 ⟨⟨v,rfl⟩,hR5,hT5⟩
 go_wp2_with fail
 go_ret2
 exact ⟨.inr ⟨hsh',rfl,_,HAl,hR5⟩,HT4.trans (hT5.mono (fun x hx=>by simp at hx;simp [hx]))⟩):p:=h
theorem fY (h:p:=by
 rw [←eV1]
 have kf:∀ o,(V0.setCell ⟨gD,c,none⟩ (.int .i64 (X0.d c+X0.q c))).cell? ⟨gb.g,o,none⟩=V0.cell? ⟨gb.g,o,none⟩:=fun o=>World.cell?_setCell_far _ _ _ _ (fun e=>hne.1 e.symm)
 exact ⟨(kf _).trans cb0.1,(kf _).trans cb0.2.1,(kf _).trans cb0.2.2.1,(kf _).trans cb0.2.2.2.1,(kf _).trans cb0.2.2.2.2⟩):p:=h
theorem fZ (h:p:=by
 have h1':(((X.L c-1:Nat):Int) == 0)=false:=by simp;have:=HL.out;omega
 have HAl:Hid (Alike (ml X) ((X.iV c (X.d c-X.z c 0)).cut c (some ⟨gz,o',none⟩) (X.C c-1))):=uF HNo h1 _ _
 clear h1
 go_wp2_with fail
 go_ret2
 exact ⟨.inr ⟨hsh',rfl,_,HAl,HR3⟩,HT3⟩):p:=h
theorem gi (h:p:=by
 rw [HR3.cs hcq]
 show some (Value.slice (if c=c then _ else X.A c) (mj X.L c (X.L c-1) c) (if c=c then _ else X.C c))=_
 rw [if_pos rfl,if_pos rfl,jD]):p:=h
theorem gj (h:p:=by
 exact ⟨k 0 (by omega),k 1 (by omega),k 2 (by omega),k 3 (by omega),k 4 (by omega)⟩):p:=h
theorem gv (h:p:=by
 rw [HV.cs hcq]
 show some (Value.slice (X.A c) (X.L c) (X.C c))=_
 rw [HA.out]):p:=h
def tw (g o n:Nat) (f:Nat→Value) (w:World):Prop:=∃ arr:Array Value,w.heap[g]?=some (.cells arr 2 (0,0))∧o+n≤arr.size∧∀ i,i<n→arr[o+i]?=some (f i)
theorem tw.lt {o:Nat} (h:tw g o n f w):g<w.heap.size:=by
 obtain ⟨arr,h1,_⟩:=h
 exact iw h1
theorem tw.jR {o:Nat} (h:tw g o n f w) (hb:w'.heap[g]?=w.heap[g]?):tw g o n f w':=by
 obtain ⟨arr,h1,h2⟩:=h
 exact ⟨arr,hb.trans h1,h2⟩
theorem tw.read {o:Nat} (h:tw g o n f w):iX w (some ⟨g,o,none⟩) n f:=fun i hi=>by
 obtain ⟨arr,h1,h2,h3⟩:=h
 exact ⟨g,o,rfl,(iv h1 _).trans (h3 i hi)⟩
theorem tw.drop {o:Nat} (h:tw g o (n+1) f w):tw g (o+1) n (fun j=>f (j+1)) w:=by
 obtain ⟨arr,h1,h2,h3⟩:=h
 refine ⟨arr,h1,by omega,fun i hi=>?_⟩
 have:=h3 (i+1) (by omega)
 rwa [show o+1+i=o+(i+1) by omega]
def VO (w:World) (base:Nat) (a:Option Addr) (n:Nat) (f:Nat→Int):Prop:=n=0∨∃ g o,a=some ⟨g,o,none⟩∧base≤g∧tw g o n (fun i=>.int .i64 (f i)) w
section
variable {w w' : World} {base base' : Nat} {a : Option Addr} {n : Nat} {f : Nat → Int} {S : List Nat}
theorem VI.o (h:VI w base a n f):VO w base a n f:=by
 rcases h with h | ⟨g,e,hb,arr,h1,h2,h3⟩
 ·
  exact .inl h
 exact .inr ⟨g,0,e,hb,arr,h1,by omega,fun i hi=>by rw [Nat.zero_add];exact h3 i hi⟩
theorem VO.read (h:VO w base a n f):iX w a n fun i=>.int .i64 (f i):=by
 rcases h with rfl | ⟨g,o,rfl,_,hr⟩
 ·
  exact iX.nil _ _ _
 exact hr.read
theorem VO.up (h:VO w base a n f) (hb:Below w.heap.size w w'):VO w' base a n f :=
 h.imp id (by rintro ⟨g,o,ha,hg,hr⟩;exact ⟨g,o,ha,hg,hr.jR (hb.block _ hr.lt)⟩)
theorem D7 {o:Nat} (h:n≠0):g∈jA (some ⟨g,o,none⟩) n:=by unfold jA;rw [if_neg h];simp
theorem VO.iB (h:VO w base a n f) (ht:Touch S w w') (hp:∀ x∈jA a n,x∉S):VO w' base a n f:=by
 rcases h with h | ⟨g,o,rfl,hg,hr⟩
 ·
  exact .inl h
 by_cases h0:n=0
 ·
  exact .inl h0
 exact .inr ⟨g,o,rfl,hg,hr.jR (ht.block g hr.lt (hp g (D7 h0)))⟩
theorem F5 (h:VO w base a n f) {arr:Array Value} {t:TypeId} (ht:t≠2) (hg:w.heap[g]?=some (.cells arr t (0,0))):g∉jA a n:=by
 intro hx
 unfold jA at hx
 split at hx
 ·
  simp at hx
 rename_i h0
 rcases h with h1 | ⟨g',o,rfl,_,arr',h2,_⟩
 ·
  exact h0 h1
 simp at hx
 subst hx
 rw [hg] at h2
 simp at h2
 exact ht h2.2
end
structure rR (w:World) (base:Nat) (R:Rnd):Prop where
 q:VI w base R.aQ R.nQ R.q
 d:VI w base R.aD R.nD R.d
 s:VS w base R.aS R.nS fun i=>.slice (R.A i) (R.L i) (R.C i)
 z:∀ i,i<R.nS→VO w base (R.A i) (R.L i) (R.z i)
 qd:jH R.aQ R.nQ R.aD R.nD
 qz:∀ i,i<R.nS→jH R.aQ R.nQ (R.A i) (R.L i)
 dz:∀ i,i<R.nS→jH R.aD R.nD (R.A i) (R.L i)
 zz:∀ i j,i<R.nS→j<R.nS→i≠j→jH (R.A i) (R.L i) (R.A j) (R.L j)
theorem jx.o (h:jx w base R):rR w base R:=⟨h.q,h.d,h.s,fun i hi=>(h.z i hi).o,h.qd,h.qz,h.dz,h.zz⟩
theorem rR.rd (h:rR w base R):mo w R:=⟨h.q.read,h.d.read,h.s.read,fun i hi=>(h.z i hi).read⟩
theorem rR.up (h:rR w base R) (hb:Below w.heap.size w w'):rR w' base R :=
 ⟨h.q.up hb,h.d.up hb,h.s.up hb,fun i hi=>(h.z i hi).up hb,h.qd,h.qz,h.dz,h.zz⟩
theorem rR.zh (h:rR w base R) (ht:Touch S w w') (hS:∀ g∈S,∀ arr,w.heap[g]?≠some (.cells arr 2 (0,0))∧w.heap[g]?≠some (.cells arr 27 (0,0))):rR w' base R:=by
 have FM:∀ {a:Option Addr} {n:Nat} {f:Nat→Int},VI w base a n f→VI w' base a n f:=fun hv=>by
  rcases hv with hv | ⟨g,e,hg,arr,h1,h2⟩
  ·
   exact .inl hv
  exact .inr ⟨g,e,hg,arr,(ht.block g (iw h1) (fun hx=>(hS g hx arr).1 h1)).trans h1,h2⟩
 have keyO:∀ {a:Option Addr} {n:Nat} {f:Nat→Int},VO w base a n f→VO w' base a n f:=fun hv=>by
  rcases hv with hv | ⟨g,o,e,hg,arr,h1,h2⟩
  ·
   exact .inl hv
  exact .inr ⟨g,o,e,hg,arr,(ht.block g (iw h1) (fun hx=>(hS g hx arr).1 h1)).trans h1,h2⟩
 refine ⟨FM h.q,FM h.d,?_,fun i hi=>keyO (h.z i hi),h.qd,h.qz,h.dz,h.zz⟩
 rcases h.s with hv | ⟨g,e,hg,arr,h1,h2⟩
 ·
  exact .inl hv
 exact .inr ⟨g,e,hg,arr,(ht.block g (iw h1) (fun hx=>(hS g hx arr).2 h1)).trans h1,h2⟩
theorem lM {cs:Array Value} {o:Nat} (h:o+cs.size≤cur.size) (j:Nat) (hj:o+cs.size≤j):(lay cur o cs)[j]?=cur[j]?:=by
 unfold lay
 simp only [List.getElem?_toArray]
 rw [List.append_assoc,List.getElem?_append_right (by simp;omega),List.getElem?_append_right (by simp;omega),List.getElem?_drop]
 simp only [List.length_take,Array.length_toList,Array.getElem?_toList]
 congr 1
 omega
structure so where
 g:Nat
 o:Nat
 cur:Array Value
 t:TypeId
 fit:o+5≤cur.size
 n2:t≠2
 n3:t≠27
 B:Nat→Nat→Prop
theorem BM {cs:Array Value} {o:Nat} (h:o+cs.size≤cur.size) (hi:i<cs.size) (v:Value):lay cur o (cs.setIfInBounds i v)=(lay cur o cs).setIfInBounds (o+i) v:=by
 have hs:(cs.setIfInBounds i v).size=cs.size:=by simp
 refine Array.ext_getElem? fun j=>?_
 rw [Array.getElem?_setIfInBounds,jJ h]
 by_cases h1:j<o
 ·
  rw [kh (by omega) j h1,if_neg (by omega),kh h j h1]
 by_cases h2:j<o+cs.size
 ·
  have e1:=jC (cs:=cs.setIfInBounds i v) (cur:=cur) (o:=o) (by omega) (j-o) (by omega)
  have e2:=jC h (j-o) (by omega)
  rw [show o+(j-o)=j by omega] at e1 e2
  rw [e1,Array.getElem?_setIfInBounds]
  by_cases h3:i=j-o
  ·
   rw [if_pos h3,if_pos (by omega),if_pos (by omega),if_pos (by omega)]
  rw [if_neg h3,if_neg (by omega),e2]
 rw [lM (by omega) j (by omega),if_neg (by omega),lM h j (by omega)]
structure jQ (w:World) (base top:Nat) (gb:so) (gD gS:Nat) (X:Rnd):Prop where
 box:w.heap[gb.g]?=some (.cells (lay gb.cur gb.o X.cells) gb.t (0,0))
 own:rR w base X
 ad:X.aD=some ⟨gD,0,none⟩
 as_:X.aS=some ⟨gS,0,none⟩
 cap:∀ i,i<X.nS→X.L i≤X.C i
 pos:1≤X.nQ∧X.nD=X.nQ∧X.nS=X.nQ
 hi:(∀ x∈jA X.aQ X.nQ,x<top)∧gD<top∧gS<top∧gb.g<top∧∀ i,i<X.nS→∀ x∈jA (X.A i) (X.L i),x<top
 inn:(∀ x∈jA X.aQ X.nQ,gb.B 0 x)∧∀ i,i<X.nS→∀ x∈jA (X.A i) (X.L i),gb.B (i+1) x
section
variable {w w' : World} {base top : Nat} {gb : so} {gD gS : Nat} {X : Rnd}
theorem jQ.up (h:jQ w base top gb gD gS X) (hb:Below w.heap.size w w'):jQ w' base top gb gD gS X :=
 ⟨(hb.block _ (iw h.box)).trans h.box,h.own.up hb,h.ad,h.as_,h.cap,h.pos,h.hi,h.inn⟩
theorem jQ.CT (h:jQ w base top gb gD gS X):ja gD 2 X.nQ (fun i=>.int .i64 (X.d i)) X.nQ w∧base≤gD:=by
 have hp:=h.pos
 rcases h.own.d with h0 | ⟨g,e,hb,hr⟩
 ·
  omega
 rw [h.ad] at e
 cases e
 rw [hp.2.1] at hr
 exact ⟨hr,hb⟩
theorem jQ.ET (h:jQ w base top gb gD gS X):ja gS 27 X.nQ (fun i=>.slice (X.A i) (X.L i) (X.C i)) X.nQ w∧base≤gS:=by
 have hp:=h.pos
 rcases h.own.s with h0 | ⟨g,e,hb,hr⟩
 ·
  omega
 rw [h.as_] at e
 cases e
 rw [hp.2.2] at hr
 exact ⟨hr,hb⟩
theorem jQ.ne (h:jQ w base top gb gD gS X):gb.g≠gD∧gb.g≠gS∧gD≠gS:=by
 obtain ⟨⟨a1,k1,_⟩,_⟩:=h.CT
 obtain ⟨⟨a2,k2,_⟩,_⟩:=h.ET
 have k0:=h.box
 refine ⟨fun e=>?_,fun e=>?_,fun e=>?_⟩
 ·
  rw [e,k1] at k0;simp at k0;exact gb.n2 k0.2.symm
 ·
  rw [e,k2] at k0;simp at k0;exact gb.n3 k0.2.symm
 rw [e,k2] at k1;simp at k1
theorem jQ.CI (h:jQ w base top gb gD gS X) {Y:Rnd} (i:Nat) (v:Value) (hi:i<5) (hc:Y.cells=X.cells.setIfInBounds i v) (hY:Y={ X with turn:=Y.turn,fresh:=Y.fresh }):jQ (w.setCell ⟨gb.g,gb.o+i,none⟩ v) base top gb gD gS Y:=by
 have ht:Touch [gb.g] w (w.setCell ⟨gb.g,gb.o+i,none⟩ v):=(Touch.refl _ _).set (by simp) (gb.o+i) v
 have ho:=h.own.zh ht (fun g hg arr=>by
  simp at hg
  subst hg
  rw [h.box]
  exact ⟨fun e=>gb.n2 (by simp at e;exact e.2),fun e=>gb.n3 (by simp at e;exact e.2)⟩)
 have hbx:(w.setCell ⟨gb.g,gb.o+i,none⟩ v).heap[gb.g]?=some (.cells (lay gb.cur gb.o Y.cells) gb.t (0,0)):=by rw [hc,BM (cs:=X.cells) gb.fit hi];exact iO h.box v
 rw [hY] at hbx ⊢
 exact ⟨hbx,⟨ho.q,ho.d,ho.s,ho.z,ho.qd,ho.qz,ho.dz,ho.zz⟩,h.ad,h.as_,h.cap,h.pos,h.hi,h.inn⟩
theorem jQ.def (h:jQ w base top gb gD gS X) (hc:c<X.nQ) (v:Int):jQ (w.setCell ⟨gD,c,none⟩ (.int .i64 v)) base top gb gD gS (X.iV c v):=by
 obtain ⟨n1,n2,n3⟩:=h.ne
 obtain ⟨hrow,hbd⟩:=h.CT
 obtain ⟨hrowS,_⟩:=h.ET
 have hp:=h.pos
 have ht:Touch [gD] w (w.setCell ⟨gD,c,none⟩ (.int .i64 v)):=(Touch.refl _ _).set (by simp) c _
 have hin:gD∈jA X.aD X.nD:=by rw [h.ad];exact oL (by omega)
 have nin:∀ {a:Option Addr} {n:Nat},jH X.aD X.nD a n→∀ x∈jA a n,x∉[gD]:=fun ha x hx hx2=>by
  simp at hx2
  subst hx2
  exact ha _ hin hx
 refine ⟨(iJ n1 _).trans h.box,⟨h.own.q.iB ht (nin h.own.qd.symm),?_,?_,fun i hi=>(h.own.z i hi).iB ht (nin (h.own.dz i hi)),h.own.qd,h.own.qz,h.own.dz,h.own.zz⟩,h.ad,h.as_,h.cap,h.pos,h.hi,h.inn⟩
 ·
  show VI _ base X.aD X.nD (rl X.d c v)
  have hd:=h.own.d
  rw [h.ad] at hd ⊢
  exact hd.set (by omega) v
 show VS _ base X.aS X.nS _
 rcases h.own.s with h0 | ⟨g,e,hb,hr⟩
 ·
  exact .inl h0
 refine .inr ⟨g,e,hb,hr.jR (iJ (fun e2=>?_) _)⟩
 rw [h.as_] at e
 cases e
 exact n3 e2.symm
theorem D6 {o n':Nat} (h:n'≠0→n≠0):∀ x∈jA (some ⟨g,o',none⟩) n',x∈jA (some ⟨g,o,none⟩) n:=fun x hx=>by
 unfold jA at hx ⊢
 split at hx
 ·
  simp at hx
 rename_i h0
 rw [if_neg (h h0)]
 exact hx
theorem jQ.cut (h:jQ w base top gb gD gS X) (hc:c<X.nQ) (hA:X.A c=some ⟨gz,oz,none⟩) (hL:X.L c≠0) (ho:X.C c≠1→o'=oz+1) :
  jQ (w.setCell ⟨gS,c,none⟩ (.slice (some ⟨gz,o',none⟩) (X.L c-1) (X.C c-1))) base top gb gD gS (X.cut c (some ⟨gz,o',none⟩) (X.C c-1)):=by
 obtain ⟨n1,n2,n3⟩:=h.ne
 obtain ⟨hrowS,hbS⟩:=h.ET
 obtain ⟨hrow,hbd⟩:=h.CT
 have hp:=h.pos
 have hcs:c<X.nS:=by omega
 have hcap:=h.cap c hcs
 have ht:Touch [gS] w (w.setCell ⟨gS,c,none⟩ (.slice (some ⟨gz,o',none⟩) (X.L c-1) (X.C c-1))):=(Touch.refl _ _).set (by simp) c _
 obtain ⟨arrS,hkS,_⟩:=hrowS
 have FM:∀ {a:Option Addr} {n:Nat} {f:Nat→Int},VI w base a n f→VI (w.setCell ⟨gS,c,none⟩ (.slice (some ⟨gz,o',none⟩) (X.L c-1) (X.C c-1))) base a n f:=fun hv=>hv.iB ht (fun x hx hx2=>by
  simp at hx2
  subst hx2
  exact sY hv (by decide) hkS hx)
 have keyO:∀ {a:Option Addr} {n:Nat} {f:Nat→Int},VO w base a n f→VO (w.setCell ⟨gS,c,none⟩ (.slice (some ⟨gz,o',none⟩) (X.L c-1) (X.C c-1))) base a n f:=fun hv=>hv.iB ht (fun x hx hx2=>by
  simp at hx2
  subst hx2
  exact F5 hv (by decide) hkS hx)
 have hLc:mj X.L c (X.L c-1) c=X.L c-1:=jD _ _ _
 have hZc:sj X.z c (fun j=>X.z c (j+1)) c=fun j=>X.z c (j+1):=mg _ _ _
 have hsub:∀ x∈jA (some (⟨gz,o',none⟩:Addr)) (X.L c-1),x∈jA (X.A c) (X.L c):=fun x hx=>by rw [hA];exact D6 (fun _=>hL) x hx
 have hz:VO w base (some ⟨gz,o',none⟩) (X.L c-1) (fun j=>X.z c (j+1)):=by
  by_cases h1:X.L c-1=0
  ·
   exact .inl h1
  rcases h.own.z c hcs with h0 | ⟨g,o,e,hb,hr⟩
  ·
   exact absurd h0 hL
  rw [hA] at e
  cases e
  rw [ho (by omega)]
  have e2:X.L c=X.L c-1+1:=by omega
  rw [e2] at hr
  exact .inr ⟨_,_,rfl,hb,hr.drop⟩
 refine ⟨(iJ n2 _).trans h.box,⟨FM h.own.q,FM h.own.d,?_,fun i hi=>?_,h.own.qd,fun i hi=>?_,fun i hi=>?_,fun i j hi hj hne=>?_⟩,h.ad,h.as_,fun i hi=>?_,h.pos,⟨h.hi.1,h.hi.2.1,h.hi.2.2.1,h.hi.2.2.2.1,fun i hi x hx=>?_⟩,h.inn.1,fun i hi x hx=>?_⟩
 ·
  rcases h.own.s with h0 | ⟨g,e,hb,arr,k1,k2,k3⟩
  ·
   omega
  have e0:=e
  rw [h.as_] at e0
  cases e0
  refine .inr ⟨gS,e,hb,_,iO k1 _,by simpa [Rnd.cut] using k2,fun i hi=>?_⟩
  show _=some (Value.slice (if i=c then _ else X.A i) (mj X.L c (X.L c-1) i) (if i=c then _ else X.C i))
  by_cases e1:i=c
  ·
   subst e1
   rw [hLc]
   simp only [if_true]
   exact Array.getElem?_setIfInBounds_self_of_lt (by omega)
  rw [Array.getElem?_setIfInBounds_ne (by omega),k3 i hi,if_neg e1,if_neg e1,js e1]
 ·
  show VO _ base (if i=c then _ else X.A i) (mj X.L c (X.L c-1) i) (sj X.z c (fun j=>X.z c (j+1)) i)
  by_cases e:i=c
  ·
   subst e
   rw [hLc,hZc]
   simp only [if_true]
   exact keyO hz
  rw [js e,pd e]
  simp only [if_neg e]
  exact keyO (h.own.z i hi)
 ·
  show jH X.aQ X.nQ (if i=c then _ else X.A i) (mj X.L c (X.L c-1) i)
  by_cases e:i=c
  ·
   subst e
   rw [hLc]
   simp only [if_true]
   exact fun x hx hy=>h.own.qz i hi x hx (hsub x hy)
  rw [js e]
  simp only [if_neg e]
  exact h.own.qz i hi
 ·
  show jH X.aD X.nD (if i=c then _ else X.A i) (mj X.L c (X.L c-1) i)
  by_cases e:i=c
  ·
   subst e
   rw [hLc]
   simp only [if_true]
   exact fun x hx hy=>h.own.dz i hi x hx (hsub x hy)
  rw [js e]
  simp only [if_neg e]
  exact h.own.dz i hi
 ·
  show jH (if i=c then _ else X.A i) (mj X.L c (X.L c-1) i) (if j=c then _ else X.A j) (mj X.L c (X.L c-1) j)
  by_cases e:i=c
  ·
   subst e
   rw [hLc,js (Ne.symm hne)]
   simp only [if_true,if_neg (Ne.symm hne)]
   exact fun x hx hy=>h.own.zz i j hi hj hne x (hsub x hx) hy
  by_cases e2:j=c
  ·
   subst e2
   rw [hLc,js e]
   simp only [if_true,if_neg e]
   exact fun x hx hy=>h.own.zz i j hi hj hne x hx (hsub x hy)
  rw [js e,js e2]
  simp only [if_neg e,if_neg e2]
  exact h.own.zz i j hi hj hne
 ·
  show mj X.L c (X.L c-1) i≤(if i=c then X.C c-1 else X.C i)
  by_cases e:i=c
  ·
   subst e
   rw [hLc,if_pos rfl]
   omega
  rw [js e,if_neg e]
  exact h.cap i hi
 ·
  change x∈jA (if i=c then _ else X.A i) (mj X.L c (X.L c-1) i) at hx
  by_cases e:i=c
  ·
   subst e
   rw [hLc,if_pos rfl] at hx
   exact h.hi.2.2.2.2 i hi x (hsub x hx)
  rw [js e,if_neg e] at hx
  exact h.hi.2.2.2.2 i hi x hx
 change x∈jA (if i=c then _ else X.A i) (mj X.L c (X.L c-1) i) at hx
 by_cases e:i=c
 ·
  subst e
  rw [hLc,if_pos rfl] at hx
  exact h.inn.2 i hi x (hsub x hx)
 rw [js e,if_neg e] at hx
 exact h.inn.2 i hi x hx
theorem jQ.Db (h:jQ w base top gb gD gS X) (ht:Touch S w w') (hS:∀ x∈S,top≤x):jQ w' base top gb gD gS X:=by
 obtain ⟨h1,h2,h3,h4,h5⟩:=h.hi
 have hp:=h.pos
 refine ⟨(ht.block _ (iw h.box) (fun hx=>by have:=hS _ hx;omega)).trans h.box,⟨h.own.q.iB ht (fun x hx hx2=>by have:=hS x hx2;have:=h1 x hx;omega),h.own.d.iB ht (fun x hx hx2=>?_),?_,fun i hi=>(h.own.z i hi).iB ht (fun x hx hx2=>by have:=hS x hx2;have:=h5 i hi x hx;omega),h.own.qd,h.own.qz,h.own.dz,h.own.zz⟩,h.ad,h.as_,h.cap,h.pos,h.hi,h.inn⟩
 ·
  rw [h.ad] at hx
  have:x=gD:=by
   unfold jA at hx
   split at hx
   ·
    simp at hx
   simpa using hx
  have:=hS x hx2
  omega
 rcases h.own.s with h0 | ⟨g,e,hb,hr⟩
 ·
  exact .inl h0
 refine .inr ⟨g,e,hb,hr.jR (ht.block g hr.lt (fun hx=>?_))⟩
 have:=hS g hx
 rw [h.as_] at e
 cases e
 omega
theorem jQ.cb (h:jQ w base top gb gD gS X):w.cell? ⟨gb.g,gb.o,none⟩=some (.slice X.aQ X.nQ X.cQ)∧w.cell? ⟨gb.g,gb.o+1,none⟩=some (.slice (some ⟨gD,0,none⟩) X.nQ X.cD)∧w.cell? ⟨gb.g,gb.o+2,none⟩=some (.int .i64 X.turn)∧w.cell? ⟨gb.g,gb.o+3,none⟩=some (.bool X.fresh)∧w.cell? ⟨gb.g,gb.o+4,none⟩=some (.slice (some ⟨gS,0,none⟩) X.nQ X.cS):=by
 have k:∀ j,j<5→w.cell? ⟨gb.g,gb.o+j,none⟩=X.cells[j]?:=fun j hj=>(iv h.box _).trans (jC (cs:=X.cells) gb.fit j hj)
 have e:X.cells=#[.slice X.aQ X.nQ X.cQ,.slice (some ⟨gD,0,none⟩) X.nQ X.cD,.int .i64 X.turn,.bool X.fresh,.slice (some ⟨gS,0,none⟩) X.nQ X.cS]:=by rw [Rnd.cells,h.ad,h.as_,h.pos.2.1,h.pos.2.2]
 rw [e] at k
 exact gj
theorem jQ.cx (h:jQ w base top gb gD gS X):w.cell? ⟨gb.g,gb.o,none⟩=some (.slice X.aQ X.nQ X.cQ)∧w.cell? ⟨gb.g,gb.o+1,none⟩=some (.slice X.aD X.nD X.cD)∧w.cell? ⟨gb.g,gb.o+2,none⟩=some (.int .i64 X.turn)∧w.cell? ⟨gb.g,gb.o+3,none⟩=some (.bool X.fresh)∧w.cell? ⟨gb.g,gb.o+4,none⟩=some (.slice X.aS X.nS X.cS):=by
 have k:∀ j,j<5→w.cell? ⟨gb.g,gb.o+j,none⟩=X.cells[j]?:=fun j hj=>(iv h.box _).trans (jC (cs:=X.cells) gb.fit j hj)
 exact gj
theorem jQ.cd (h:jQ w base top gb gD gS X) (hc:c<X.nQ):w.cell? ⟨gD,c,none⟩=some (.int .i64 (X.d c)):=h.CT.1.at c hc
theorem jQ.cs (h:jQ w base top gb gD gS X) (hc:c<X.nQ):w.cell? ⟨gS,c,none⟩=some (.slice (X.A c) (X.L c) (X.C c)):=h.ET.1.at c hc
end
theorem C9 {gb:so} (h:jQ w base top gb gD gS X):jQ ((w.setCell ⟨gb.g,gb.o+2,none⟩ (.int .i64 (((X.now+1) % X.nQ:Nat):Int))).setCell ⟨gb.g,gb.o+3,none⟩ (.bool true)) base top gb gD gS (iY X) :=
 (h.CI (Y:={ X with turn:=(((X.now+1) % X.nQ:Nat):Int) }) 2 _ (by omega) rfl rfl).CI 3 _ (by omega) rfl rfl
theorem qX (X:Rnd) (base top:Nat) (gb:so) (gD gS:Nat) (w:World) (h:jQ w base top gb gD gS X) (hn:X.nQ≤4) (ht:0≤X.turn∧X.turn<X.nQ) :
  Calls Tryz.prog 160 #[.pointer (some ⟨gb.g,gb.o,none⟩)] w fun e w'=>(∃ v,e=.returned v)∧jQ w' base top gb gD gS (iY X)∧Touch [gb.g] w w':=by
 have hrt:=zp ht
 have HD:Hid (jQ w.drew base top gb gD gS X):=h.up ((Below.refl _ _).drew)
 have HTu:Hid (Touch [gb.g] w w.drew):=Touch.ji ((Below.refl _ _).drew)
 have hp:=h.pos.1
 obtain ⟨T,hT⟩:∃ T:Int,T=(((X.now+1) % X.nQ:Nat):Int):=⟨_,rfl⟩
 have HTT:=aa hT
 rw [←hT] at hrt
 have hrt2:(X.turn+1) % (X.nQ:Int)=T:=by rw [←hrt,Int.tmod_eq_emod_of_nonneg (by omega)]
 clear hT h
 have cb:=HD.cb
 have fr:=iF HD.box
 have hbx:=HD.box
 have HF:Hid (∀ V,jQ V base top gb gD gS X→jQ ((V.setCell ⟨gb.g,gb.o+2,none⟩ (.int .i64 T)).setCell ⟨gb.g,gb.o+3,none⟩ (.bool true)) base top gb gD gS (iY X)):=fun V hV=>by rw [HTT.out];exact C9 hV
 obtain ⟨aQ,nQ,cQ,q,aD,nD,cD,d,turn,fresh,aS,nS,cS,A,L,C,z⟩:=X
 dsimp only at cb hrt hrt2 hn ht hp
 have ht2:turn≤4:=by omega
 have ht1:0≤turn:=ht.1
 have hnz:((nQ:Int) == 0)=false:=by simp;omega
 have hwr:IntKind.i64.wrap (turn+1)=turn+1:=re _ (by omega) (by omega)
 have hnz2:¬ nQ=0:=by omega
 have c0:w.drew.cell? ⟨gb.g,gb.o,none⟩=some (.slice aQ nQ cQ):=cb.1
 go_enter Tryz.func160,Tryz.ntmps160
 go_wp2_with fail
 refine wp_region_held_drew (S:=fun w'=>w'.cell? ⟨gb.g,gb.o,none⟩=some (.slice aQ nQ cQ)) (by kernel_rfl) c0 (fun hHeld=>?_)
 generalize w.drew=V at *
 refine t0 ?_
 iterate 3 refine tN ?_
 refine tQ 6 8 ?_
 refine tQ 7 9 ?_
 refine tQ 8 10 ?_
 refine tQ 9 11 ?_
 refine tQ 10 12 ?_
 refine rq1 4 (fun K hK=>?_)
 go_simp
 refine ah (hK _ _ c0) ?_
 intro hHeld
 clear hK K
 refine tQ 5 7 ?_
 refine tC 11 13 (v:=.int .i64 T) ?_ ?_
 ·
  intro wx hSw
  go_simp
 try simp only [Act.put,PZ]
 refine tQ 12 14 ?_
 refine tQ 13 15 ?_
 have c0s:(V.setCell ⟨gb.g,gb.o+2,none⟩ (.int .i64 T)).cell? ⟨gb.g,gb.o,none⟩=some (.slice aQ nQ cQ):=(World.cell?_setCell_other _ _ _ _ (by simp)).trans c0
 refine rq1 14 (fun K hK=>?_)
 go_simp
 refine ah (hK _ _ c0s) ?_
 intro hHeld
 clear hK K
 refine dnq ?_
 have cb2:(V.setCell ⟨gb.g,gb.o+2,none⟩ (.int .i64 T)).cell? ⟨gb.g,gb.o+3,none⟩=some (.bool fresh):=(World.cell?_setCell_other _ _ _ _ (by simp)).trans cb.2.2.2.1
 have fr2:(V.setCell ⟨gb.g,gb.o+2,none⟩ (.int .i64 T)).frozen? ⟨gb.g,gb.o+3,none⟩=false:=iF (iO (i:=gb.o+2) hbx _) (gb.o+3)
 clear hHeld c0 c0s cb fr hbx
 go_wp2_with fail
 go_end0
 exact ⟨⟨_,rfl⟩,HF V HD,(HTu.set (by simp) (gb.o+2) _).set (by simp) (gb.o+3) _⟩
theorem jQ.cq {gb:so} (h:jQ w base top gb gD gS X) (hc:c<X.nQ):∃ g o,X.aQ=some ⟨g,o,none⟩∧w.cell? ⟨g,o+c,none⟩=some (.int .i64 (X.q c)):=h.own.rd.q c hc
theorem jQ.cz {gb:so} (h:jQ w base top gb gD gS X) (hc:c<X.nQ) (hA:X.A c=some ⟨gz,oz,none⟩) (hL:X.L c≠0):w.cell? ⟨gz,oz,none⟩=some (.int .i64 (X.z c 0)):=by
 have:=h.pos
 obtain ⟨g,o,e,hz⟩:=h.own.rd.z c (by omega) 0 (by omega)
 rw [hA] at e
 cases e
 exact hz
theorem jQ.az {gb:so} (h:jQ w base top gb gD gS X) (hc:c<X.nQ) (hL:X.L c≠0):∃ gz oz,X.A c=some ⟨gz,oz,none⟩:=by
 have:=h.pos
 obtain ⟨g,o,e,hz⟩:=h.own.rd.z c (by omega) 0 (by omega)
 exact ⟨g,o,e⟩
theorem qF (gz oz o' L C:Nat) (w:World) (hL:L≠0) (ho:o'=if C=1 then oz else oz+1) :
  (Instr.slice 27 (.slice (some ⟨gz,oz,none⟩) L C) (some (.int .i64 1)) none none).run Tryz.prog w=.ok (.slice (some ⟨gz,o',none⟩) (L-1) (C-1)) w:=by
 have h1:(1:Int)≤(L:Int):=by omega
 subst ho
 by_cases hC:C=1
 ·
  simp [go_sem,h1,hC]
 simp [go_sem,h1,hC]
theorem yF (X:Rnd) (base top:Nat) (gb:so) (gD gS c:Nat) (w:World) (h:jQ w base top gb gD gS X) (hc:c<X.nQ) (hn:X.nQ≤4) (hL:X.L c=0) :
  Calls Tryz.prog 139 #[.pointer (some ⟨gb.g,gb.o,none⟩),.int .i64 (c:Int)] w fun e w'=>e=.returned (.tuple #[.int .i64 0,.bool false])∧w=w':=by
 have cb:=h.cb
 have cs:=h.cs hc
 rw [hL] at cs
 have hc':(c:Int)<X.nQ:=by omega
 clear hL h
 go_enter Tryz.func139,Tryz.ntmps139
 go_wp2_with fail
 go_ret2
 exact ⟨rfl,rfl⟩
def qZ (X:Rnd) (base top:Nat) (gb:so) (gD gS c:Nat) (w:World) (e:Ending) (w':World):Prop :=
 ((iH X).d c<X.z c 0∧e=.returned (.tuple #[.int .i64 0,.bool false])∧jQ w' base top gb gD gS (iH X) ∨
  X.z c 0≤(iH X).d c∧e=.returned (.tuple #[.int .i64 (X.z c 0),.bool true])∧∃ X',Alike (ml (iH X)) X'∧jQ w' base top gb gD gS X')∧Touch [gb.g,gD,gS] w w'
theorem Ae (X:Rnd) (base top:Nat) (gb:so) (gD gS c:Nat) (w:World) (h:jQ w base top gb gD gS X) (hok:X.Ok) (hc:X.now=c) (ht:X.turn=(c:Int)) (hL:X.L c≠0) (hf:X.fresh=false) :
  Calls Tryz.prog 139 #[.pointer (some ⟨gb.g,gb.o,none⟩),.int .i64 (c:Int)] w (qZ X base top gb gD gS c w):=by
 have hg:iH X=X:=by unfold iH;rw [if_neg (by rw [hf];simp)]
 have hcq:c<X.nQ:=by rw [←hc];exact hok.oV
 have HC:=hok.c c hcq
 have hn:=hok.n
 unfold qZ
 rw [hg]
 obtain ⟨gz,oz,hA⟩:=h.az hcq hL
 obtain ⟨gq,oq,hQ,cq⟩:=h.cq hcq
 have HR:=aa h
 have cb:=h.cb
 have cs:=h.cs hcq
 have cd:=h.cd hcq
 have cz:=h.cz hcq hA hL
 have fd:=h.CT.1.free c
 rw [hA] at cs
 rw [hQ,hf,ht] at cb
 have hc':(c:Int)<X.nQ:=by omega
 have hLn:((X.L c:Int) == 0)=false:=by simp;exact hL
 have hLp:(0:Int)<X.L c:=by omega
 have hsz:=HC.2.1.2 0 (by omega)
 have hdd:=HC.2.2
 unfold qU at hdd
 rw [if_neg hL] at hdd
 have hd0:0≤X.d c:=hdd.1
 have hd1:X.d c≤20:=by
  have h1:=hdd.2
  have h2:=HC.1.2
  split at h1 <;> omega
 have HL:=aa hL
 have HOk:=aa hok
 have HA:=aa hA
 have HF:=aa hf
 have HTu:=aa ht
 have HNo:=aa hc
 have HQ:=aa hQ
 clear hdd HC hok hL hA hf ht hc hQ h hg
 by_cases hsh:X.d c<X.z c 0
 ·
  go_enter Tryz.func139,Tryz.ntmps139
  go_wp2_with fail
  go_ret2
  exact ⟨.inl ⟨hsh,rfl,HR⟩,Touch.refl _ _⟩
 have hsh':X.z c 0≤X.d c:=by omega
 have hwr:IntKind.i64.wrap (X.d c-X.z c 0)=X.d c-X.z c 0:=re _ (by omega) (by omega)
 obtain ⟨W2,eW2⟩:∃ W2,w.setCell ⟨gD,c,none⟩ (.int .i64 (X.d c-X.z c 0))=W2:=⟨_,rfl⟩
 have HR2:Hid (jQ W2 base top gb gD gS (X.iV c (X.d c-X.z c 0))):=by rw [Hid,←eW2];exact HR.def hcq _
 have HT2:Hid (Touch [gb.g,gD,gS] w W2):=by rw [Hid,←eW2];exact (Touch.refl _ _).set (by simp) c _
 have HV:Hid (jQ W2.drew base top gb gD gS (X.iV c (X.d c-X.z c 0))):=HR2.up ((Below.refl _ _).drew)
 have HTV:Hid (Touch [gb.g,gD,gS] w W2.drew):=HT2.trans (Touch.ji ((Below.refl _ _).drew))
 have cbV:(W2.drew.cell? ⟨gb.g,gb.o,none⟩=some (.slice (some ⟨gq,oq,none⟩) X.nQ X.cQ)∧W2.drew.cell? ⟨gb.g,gb.o+1,none⟩=some (.slice (some ⟨gD,0,none⟩) X.nQ X.cD)∧W2.drew.cell? ⟨gb.g,gb.o+2,none⟩=some (.int .i64 (c:Int))∧W2.drew.cell? ⟨gb.g,gb.o+3,none⟩=some (.bool false)∧W2.drew.cell? ⟨gb.g,gb.o+4,none⟩=some (.slice (some ⟨gS,0,none⟩) X.nQ X.cS)):=by
  have h9:=HV.cb
  exact fV
 have csV:W2.drew.cell? ⟨gS,c,none⟩=some (.slice (some ⟨gz,oz,none⟩) (X.L c) (X.C c)):=gv
 have fsV:=HV.ET.1.free c
 obtain ⟨o',ho'⟩:∃ o':Nat,o'=if X.C c=1 then oz else oz+1:=⟨_,rfl⟩
 have HRC:Hid (∀ wx,(Instr.slice 27 (.slice (some ⟨gz,oz,none⟩) (X.L c) (X.C c)) (some (.int .i64 1)) none none).run Tryz.prog wx=.ok (.slice (some ⟨gz,o',none⟩) (X.L c-1) (X.C c-1)) wx):=fun wx=>qF gz oz o' (X.L c) (X.C c) wx HL ho'
 have HR3:Hid (jQ (W2.drew.setCell ⟨gS,c,none⟩ (.slice (some ⟨gz,o',none⟩) (X.L c-1) (X.C c-1))) base top gb gD gS ((X.iV c (X.d c-X.z c 0)).cut c (some ⟨gz,o',none⟩) (X.C c-1))):=HV.cut hcq HA HL (fun hC=>by rw [ho'];exact if_neg hC)
 clear ho'
 go_enter Tryz.func139,Tryz.ntmps139
 go_wp2_with fail
 clear eW2 cb cs cd cz fd cq hwr
 refine wp_region_held_drew (S:=fun w'=>(w'.cell? ⟨gb.g,gb.o,none⟩=some (.slice (some ⟨gq,oq,none⟩) X.nQ X.cQ)∧w'.cell? ⟨gb.g,gb.o+1,none⟩=some (.slice (some ⟨gD,0,none⟩) X.nQ X.cD)∧w'.cell? ⟨gb.g,gb.o+2,none⟩=some (.int .i64 (c:Int))∧w'.cell? ⟨gb.g,gb.o+3,none⟩=some (.bool false)∧w'.cell? ⟨gb.g,gb.o+4,none⟩=some (.slice (some ⟨gS,0,none⟩) X.nQ X.cS))) (by kernel_rfl) cbV (fun hHeld=>?_)
 generalize W2.drew=V at *
 refine t0 ?_
 iterate 10 refine tN ?_
 refine rq1 11 (fun K hK=>?_)
 go_simp
 refine ah (hK _ _ cbV) ?_
 intro hHeld
 clear hK K
 refine tC 12 79 (v:=.slice (some ⟨gz,o',none⟩) (X.L c-1) (X.C c-1)) ?_ ?_
 ·
  intro wx hSw
  have hrc:=HRC wx
  go_simp
 try simp only [Act.put,PZ]
 refine tN ?_
 obtain ⟨V3,eV3⟩:∃ V3,V.setCell ⟨gS,c,none⟩ (.slice (some ⟨gz,o',none⟩) (X.L c-1) (X.C c-1))=V3:=⟨_,rfl⟩
 rw [eV3] at HR3
 have HT3:Hid (Touch [gb.g,gD,gS] w V3):=by rw [Hid,←eV3];exact HTV.set (by simp) c _
 have cbS:(V3.cell? ⟨gb.g,gb.o,none⟩=some (.slice (some ⟨gq,oq,none⟩) X.nQ X.cQ)∧V3.cell? ⟨gb.g,gb.o+1,none⟩=some (.slice (some ⟨gD,0,none⟩) X.nQ X.cD)∧V3.cell? ⟨gb.g,gb.o+2,none⟩=some (.int .i64 (c:Int))∧V3.cell? ⟨gb.g,gb.o+3,none⟩=some (.bool false)∧V3.cell? ⟨gb.g,gb.o+4,none⟩=some (.slice (some ⟨gS,0,none⟩) X.nQ X.cS)):=by
  have h9:=HR3.cb
  exact fV
 have csS:V3.cell? ⟨gS,c,none⟩=some (.slice (some ⟨gz,o',none⟩) (X.L c-1) (X.C c-1)):=gi
 have fdS:=HR3.CT.1.free c
 have cdS:=HR3.cd hcq
 refine rq1 14 (fun K hK=>?_)
 go_simp
 refine ah (hK _ _ cbS) ?_
 intro hHeld
 clear hK K
 refine dnq ?_
 clear hHeld csV fsV eV3
 by_cases h1:X.L c=1
 ·
  have h1':(((X.L c-1:Nat):Int) == 0)=true:=by simp;omega
  obtain ⟨V4,eV4⟩:∃ V4,V3.setCell ⟨gD,c,none⟩ (.int .i64 0)=V4:=⟨_,rfl⟩
  have HR4:Hid (jQ V4 base top gb gD gS (((X.iV c (X.d c-X.z c 0)).cut c (some ⟨gz,o',none⟩) (X.C c-1)).iV c 0)):=by rw [Hid,←eV4];exact HR3.def hcq _
  have HT4:Hid (Touch [gb.g,gD,gS] w V4):=by rw [Hid,←eV4];exact HT3.set (by simp) c _
  exact fW
 exact fZ
theorem xp (X0:Rnd) (base top:Nat) (gb:so) (gD gS c:Nat) (w0:World) (h0:jQ w0 base top gb gD gS X0) (hok0:X0.Ok) (hc0:X0.now=c) (ht0:X0.turn=(c:Int)) (hL0:X0.L c≠0) (hf0:X0.fresh=true) :
  Calls Tryz.prog 139 #[.pointer (some ⟨gb.g,gb.o,none⟩),.int .i64 (c:Int)] w0 (qZ X0 base top gb gD gS c w0):=by
 have hcq0:c<X0.nQ:=by rw [←hc0];exact hok0.oV
 have hg:iH X0={ X0.iV c (X0.d c+X0.q c) with fresh:=false }:=by
  unfold iH
  rw [if_pos hf0,hc0]
  rfl
 have hok:(iH X0).Ok:=oB hok0 (by rw [hc0];exact hL0)
 have hV0:=h0.up (w':=w0.drew) ((Below.refl _ _).drew)
 obtain ⟨V1,eV1⟩:∃ V1,w0.drew.setCell ⟨gD,c,none⟩ (.int .i64 (X0.d c+X0.q c))=V1:=⟨_,rfl⟩
 have hV1:jQ V1 base top gb gD gS (X0.iV c (X0.d c+X0.q c)):=by rw [←eV1];exact hV0.def hcq0 _
 obtain ⟨w,ew⟩:∃ w,V1.setCell ⟨gb.g,gb.o+3,none⟩ (.bool false)=w:=⟨_,rfl⟩
 have h:jQ w base top gb gD gS (iH X0):=by
  rw [←ew,hg]
  exact hV1.CI 3 _ (by omega) rfl rfl
 have HT0:Hid (Touch [gb.g,gD,gS] w0 w):=by
  rw [Hid,←ew,←eV1]
  exact ((Touch.ji ((Below.refl _ _).drew)).set (by simp) c _).set (by simp) (gb.o+3) _
 have HC0:=hok0.c c hcq0
 have hdd0:=HC0.2.2
 unfold qU at hdd0
 rw [if_neg hL0,oN hf0] at hdd0
 simp only [Bool.false_eq_true,if_false] at hdd0
 have hq0:=HC0.1
 obtain ⟨gq0,oq0,hQ0,cq0⟩:=hV0.cq hcq0
 have cb0:=hV0.cb
 have cs0:=h0.cs hcq0
 have cbw:=h0.cb
 have cd0:=hV0.cd hcq0
 have fd0:=hV0.CT.1.free c
 have fb1:=iF hV1.box (gb.o+3)
 have cb1:V1.cell? ⟨gb.g,gb.o+3,none⟩=some (.bool X0.fresh):=hV1.cb.2.2.2.1
 rw [hQ0,hf0,ht0] at cb0 cbw
 have hLn0:((X0.L c:Int) == 0)=false:=by simp;exact hL0
 have hc':(c:Int)<X0.nQ:=by omega
 have hwr0:IntKind.i64.wrap (X0.d c+X0.q c)=X0.d c+X0.q c:=re _ (by omega) (by omega)
 have HP:Hid (qZ X0 base top gb gD gS c w0=fun e w'=>((iH X0).d c<(iH X0).z c 0∧e=.returned (.tuple #[.int .i64 0,.bool false])∧jQ w' base top gb gD gS (iH X0) ∨
  (iH X0).z c 0≤(iH X0).d c∧e=.returned (.tuple #[.int .i64 ((iH X0).z c 0),.bool true])∧∃ X',Alike (ml (iH X0)) X'∧jQ w' base top gb gD gS X')∧Touch [gb.g,gD,gS] w0 w'):=by
  rw [Hid,sy];rfl
 rw [HP.out]
 have ht:(iH X0).turn=(c:Int):=by rw [qt];exact ht0
 have hc:(iH X0).now=c:=by rw [jL];exact hc0
 have hL:(iH X0).L c≠0:=by rw [oC];exact hL0
 have hf:(iH X0).fresh=false:=se X0
 have hAA:(iH X0).A=X0.A:=by rw [hg];rfl
 have hnn:(iH X0).nQ=X0.nQ:=jP X0
 have HX0:Hid (X0.L c=(iH X0).L c):=by rw [Hid,oC]
 have HCQ:Hid (V1.cell? ⟨gq0,oq0+c,none⟩=some (.int .i64 (X0.q c))):=by
  obtain ⟨g9,o9,e9,c9⟩:=hV1.cq hcq0
  have e8:X0.aQ=some ⟨g9,o9,none⟩:=e9
  rw [hQ0] at e8
  cases e8
  exact c9
 have hne:=h0.ne
 generalize iH X0=X at *
 clear hg hAA HP h0 hV0 hV1 hok0 hL0 HC0
 have hcq:c<X.nQ:=by rw [hnn];exact hcq0
 have HC:=hok.c c hcq
 have hn:=hok.n
 obtain ⟨gz,oz,hA⟩:=h.az hcq hL
 obtain ⟨gq,oq,hQ,cq⟩:=h.cq hcq
 have HR:=aa h
 have cb:=h.cb
 have cs:=h.cs hcq
 have cd:=h.cd hcq
 have cz:=h.cz hcq hA hL
 have fd:=h.CT.1.free c
 rw [hA] at cs
 rw [hQ,hf,ht] at cb
 have hc'':(c:Int)<X.nQ:=by omega
 have hLn:((X.L c:Int) == 0)=false:=by simp;exact hL
 have hLp:(0:Int)<X.L c:=by omega
 have hsz:=HC.2.1.2 0 (by omega)
 have hdd:=HC.2.2
 unfold qU at hdd
 rw [if_neg hL] at hdd
 have hd0:0≤X.d c:=hdd.1
 have hd1:X.d c≤20:=by
  have h1:=hdd.2
  have h2:=HC.1.2
  split at h1 <;> omega
 have HL:=aa hL
 have HOk:=aa hok
 have HA:=aa hA
 have HF:=aa hf
 have HTu:=aa ht
 have HNo:=aa hc
 have HQ:=aa hQ
 clear hdd HC hok hL hA hf ht hc hQ h
 by_cases hsh:X.d c<X.z c 0
 ·
  go_enter Tryz.func139,Tryz.ntmps139
  go_wp2_with fail
  clear cs0 cbw hLn0
  refine wp_region_held_drew (S:=fun w'=>(w'.cell? ⟨gb.g,gb.o,none⟩=some (.slice (some ⟨gq0,oq0,none⟩) X0.nQ X0.cQ)∧w'.cell? ⟨gb.g,gb.o+1,none⟩=some (.slice (some ⟨gD,0,none⟩) X0.nQ X0.cD)∧w'.cell? ⟨gb.g,gb.o+2,none⟩=some (.int .i64 (c:Int))∧w'.cell? ⟨gb.g,gb.o+3,none⟩=some (.bool true)∧w'.cell? ⟨gb.g,gb.o+4,none⟩=some (.slice (some ⟨gS,0,none⟩) X0.nQ X0.cS))∧w'.cell? ⟨gq0,oq0+c,none⟩=some (.int .i64 (X0.q c))) (by kernel_rfl) ⟨cb0,cq0⟩ (fun hHeld=>?_)
  generalize w0.drew=V0 at *
  refine t0 ?_
  iterate 5 refine tN ?_
  refine tQ 7 27 ?_
  refine tQ 8 28 ?_
  refine tQ 9 29 ?_
  refine tQ 10 30 ?_
  refine tQ 11 31 ?_
  refine tQ 12 32 ?_
  refine tQ 13 33 ?_
  refine rq1 6 (fun K hK=>?_)
  go_simp
  refine ah (hK _ _ ⟨cb0,cq0⟩) ?_
  intro hHeld
  clear hK K
  refine tQ 14 34 ?_
  refine tQ 15 35 ?_
  have cb2:(V1.cell? ⟨gb.g,gb.o,none⟩=some (.slice (some ⟨gq0,oq0,none⟩) X0.nQ X0.cQ)∧V1.cell? ⟨gb.g,gb.o+1,none⟩=some (.slice (some ⟨gD,0,none⟩) X0.nQ X0.cD)∧V1.cell? ⟨gb.g,gb.o+2,none⟩=some (.int .i64 (c:Int))∧V1.cell? ⟨gb.g,gb.o+3,none⟩=some (.bool true)∧V1.cell? ⟨gb.g,gb.o+4,none⟩=some (.slice (some ⟨gS,0,none⟩) X0.nQ X0.cS)):=fY
  have cq2:V1.cell? ⟨gq0,oq0+c,none⟩=some (.int .i64 (X0.q c)):=HCQ.out
  refine rq1 16 (fun K hK=>?_)
  go_simp
  refine ah (hK _ _ ⟨cb2,cq2⟩) ?_
  intro hHeld
  clear hK K
  refine dnq ?_
  clear hHeld cb0 cq0 cd0 fd0 eV1
  go_wp2_with fail
  clear ew cb1 fb1 cb2 cq2
  go_ret2
  exact ⟨.inl ⟨hsh,rfl,HR⟩,HT0⟩
 have hsh':X.z c 0≤X.d c:=by omega
 have hwr:IntKind.i64.wrap (X.d c-X.z c 0)=X.d c-X.z c 0:=re _ (by omega) (by omega)
 obtain ⟨W2,eW2⟩:∃ W2,w.setCell ⟨gD,c,none⟩ (.int .i64 (X.d c-X.z c 0))=W2:=⟨_,rfl⟩
 have HR2:Hid (jQ W2 base top gb gD gS (X.iV c (X.d c-X.z c 0))):=by rw [Hid,←eW2];exact HR.def hcq _
 have HT2:Hid (Touch [gb.g,gD,gS] w0 W2):=by rw [Hid,←eW2];exact HT0.set (by simp) c _
 have HV:Hid (jQ W2.drew base top gb gD gS (X.iV c (X.d c-X.z c 0))):=HR2.up ((Below.refl _ _).drew)
 have HTV:Hid (Touch [gb.g,gD,gS] w0 W2.drew):=HT2.trans (Touch.ji ((Below.refl _ _).drew))
 have cbV:(W2.drew.cell? ⟨gb.g,gb.o,none⟩=some (.slice (some ⟨gq,oq,none⟩) X.nQ X.cQ)∧W2.drew.cell? ⟨gb.g,gb.o+1,none⟩=some (.slice (some ⟨gD,0,none⟩) X.nQ X.cD)∧W2.drew.cell? ⟨gb.g,gb.o+2,none⟩=some (.int .i64 (c:Int))∧W2.drew.cell? ⟨gb.g,gb.o+3,none⟩=some (.bool false)∧W2.drew.cell? ⟨gb.g,gb.o+4,none⟩=some (.slice (some ⟨gS,0,none⟩) X.nQ X.cS)):=by
  have h9:=HV.cb
  exact fV
 have csV:W2.drew.cell? ⟨gS,c,none⟩=some (.slice (some ⟨gz,oz,none⟩) (X.L c) (X.C c)):=gv
 have fsV:=HV.ET.1.free c
 obtain ⟨o',ho'⟩:∃ o':Nat,o'=if X.C c=1 then oz else oz+1:=⟨_,rfl⟩
 have HRC:Hid (∀ wx,(Instr.slice 27 (.slice (some ⟨gz,oz,none⟩) (X.L c) (X.C c)) (some (.int .i64 1)) none none).run Tryz.prog wx=.ok (.slice (some ⟨gz,o',none⟩) (X.L c-1) (X.C c-1)) wx):=fun wx=>qF gz oz o' (X.L c) (X.C c) wx HL ho'
 have HR3:Hid (jQ (W2.drew.setCell ⟨gS,c,none⟩ (.slice (some ⟨gz,o',none⟩) (X.L c-1) (X.C c-1))) base top gb gD gS ((X.iV c (X.d c-X.z c 0)).cut c (some ⟨gz,o',none⟩) (X.C c-1))):=HV.cut hcq HA HL (fun hC=>by rw [ho'];exact if_neg hC)
 clear ho'
 go_enter Tryz.func139,Tryz.ntmps139
 go_wp2_with fail
 clear cs0 cbw hLn0
 refine wp_region_held_drew (S:=fun w'=>(w'.cell? ⟨gb.g,gb.o,none⟩=some (.slice (some ⟨gq0,oq0,none⟩) X0.nQ X0.cQ)∧w'.cell? ⟨gb.g,gb.o+1,none⟩=some (.slice (some ⟨gD,0,none⟩) X0.nQ X0.cD)∧w'.cell? ⟨gb.g,gb.o+2,none⟩=some (.int .i64 (c:Int))∧w'.cell? ⟨gb.g,gb.o+3,none⟩=some (.bool true)∧w'.cell? ⟨gb.g,gb.o+4,none⟩=some (.slice (some ⟨gS,0,none⟩) X0.nQ X0.cS))∧w'.cell? ⟨gq0,oq0+c,none⟩=some (.int .i64 (X0.q c))) (by kernel_rfl) ⟨cb0,cq0⟩ (fun hHeld=>?_)
 generalize w0.drew=V0 at *
 refine t0 ?_
 iterate 5 refine tN ?_
 refine tQ 7 27 ?_
 refine tQ 8 28 ?_
 refine tQ 9 29 ?_
 refine tQ 10 30 ?_
 refine tQ 11 31 ?_
 refine tQ 12 32 ?_
 refine tQ 13 33 ?_
 refine rq1 6 (fun K hK=>?_)
 go_simp
 refine ah (hK _ _ ⟨cb0,cq0⟩) ?_
 intro hHeld
 clear hK K
 refine tQ 14 34 ?_
 refine tQ 15 35 ?_
 have cb2:(V1.cell? ⟨gb.g,gb.o,none⟩=some (.slice (some ⟨gq0,oq0,none⟩) X0.nQ X0.cQ)∧V1.cell? ⟨gb.g,gb.o+1,none⟩=some (.slice (some ⟨gD,0,none⟩) X0.nQ X0.cD)∧V1.cell? ⟨gb.g,gb.o+2,none⟩=some (.int .i64 (c:Int))∧V1.cell? ⟨gb.g,gb.o+3,none⟩=some (.bool true)∧V1.cell? ⟨gb.g,gb.o+4,none⟩=some (.slice (some ⟨gS,0,none⟩) X0.nQ X0.cS)):=fY
 have cq2:V1.cell? ⟨gq0,oq0+c,none⟩=some (.int .i64 (X0.q c)):=HCQ.out
 refine rq1 16 (fun K hK=>?_)
 go_simp
 refine ah (hK _ _ ⟨cb2,cq2⟩) ?_
 intro hHeld
 clear hK K
 refine dnq ?_
 clear hHeld cb0 cq0 cd0 fd0 eV1
 go_wp2_with fail
 clear ew cb1 fb1 cb2 cq2
 clear eW2 cb cs cd cz fd cq hwr
 refine wp_region_held_drew (S:=fun w'=>(w'.cell? ⟨gb.g,gb.o,none⟩=some (.slice (some ⟨gq,oq,none⟩) X.nQ X.cQ)∧w'.cell? ⟨gb.g,gb.o+1,none⟩=some (.slice (some ⟨gD,0,none⟩) X.nQ X.cD)∧w'.cell? ⟨gb.g,gb.o+2,none⟩=some (.int .i64 (c:Int))∧w'.cell? ⟨gb.g,gb.o+3,none⟩=some (.bool false)∧w'.cell? ⟨gb.g,gb.o+4,none⟩=some (.slice (some ⟨gS,0,none⟩) X.nQ X.cS))) (by kernel_rfl) cbV (fun hHeld=>?_)
 generalize W2.drew=V at *
 refine t0 ?_
 iterate 10 refine tN ?_
 refine rq1 11 (fun K hK=>?_)
 go_simp
 refine ah (hK _ _ cbV) ?_
 intro hHeld
 clear hK K
 refine tC 12 79 (v:=.slice (some ⟨gz,o',none⟩) (X.L c-1) (X.C c-1)) ?_ ?_
 ·
  intro wx hSw
  have hrc:=HRC wx
  go_simp
 try simp only [Act.put,PZ]
 refine tN ?_
 obtain ⟨V3,eV3⟩:∃ V3,V.setCell ⟨gS,c,none⟩ (.slice (some ⟨gz,o',none⟩) (X.L c-1) (X.C c-1))=V3:=⟨_,rfl⟩
 rw [eV3] at HR3
 have HT3:Hid (Touch [gb.g,gD,gS] w0 V3):=by rw [Hid,←eV3];exact HTV.set (by simp) c _
 have cbS:(V3.cell? ⟨gb.g,gb.o,none⟩=some (.slice (some ⟨gq,oq,none⟩) X.nQ X.cQ)∧V3.cell? ⟨gb.g,gb.o+1,none⟩=some (.slice (some ⟨gD,0,none⟩) X.nQ X.cD)∧V3.cell? ⟨gb.g,gb.o+2,none⟩=some (.int .i64 (c:Int))∧V3.cell? ⟨gb.g,gb.o+3,none⟩=some (.bool false)∧V3.cell? ⟨gb.g,gb.o+4,none⟩=some (.slice (some ⟨gS,0,none⟩) X.nQ X.cS)):=by
  have h9:=HR3.cb
  exact fV
 have csS:V3.cell? ⟨gS,c,none⟩=some (.slice (some ⟨gz,o',none⟩) (X.L c-1) (X.C c-1)):=gi
 have fdS:=HR3.CT.1.free c
 have cdS:=HR3.cd hcq
 refine rq1 14 (fun K hK=>?_)
 go_simp
 refine ah (hK _ _ cbS) ?_
 intro hHeld
 clear hK K
 refine dnq ?_
 clear hHeld csV fsV eV3
 by_cases h1:X.L c=1
 ·
  have h1':(((X.L c-1:Nat):Int) == 0)=true:=by simp;omega
  obtain ⟨V4,eV4⟩:∃ V4,V3.setCell ⟨gD,c,none⟩ (.int .i64 0)=V4:=⟨_,rfl⟩
  have HR4:Hid (jQ V4 base top gb gD gS (((X.iV c (X.d c-X.z c 0)).cut c (some ⟨gz,o',none⟩) (X.C c-1)).iV c 0)):=by rw [Hid,←eV4];exact HR3.def hcq _
  have HT4:Hid (Touch [gb.g,gD,gS] w0 V4):=by rw [Hid,←eV4];exact HT3.set (by simp) c _
  exact fW
 exact fZ
theorem uM (X:Rnd) (base top:Nat) (gb:so) (gD gS c:Nat) (w:World) (h:jQ w base top gb gD gS X) (hok:X.Ok) (hc:X.now=c) (ht:X.turn=(c:Int)) (hL:X.L c≠0) :
  Calls Tryz.prog 139 #[.pointer (some ⟨gb.g,gb.o,none⟩),.int .i64 (c:Int)] w (qZ X base top gb gD gS c w):=by
 cases hf:X.fresh
 ·
  exact Ae X base top gb gD gS c w h hok hc ht hL hf
 exact xp X base top gb gD gS c w h hok hc ht hL hf
open Go.RowKit Go.Shelf
attribute [local go_sem] Oper.semAt_some
theorem mQ (R:Rnd) (w:World) (hf:R.Fit) (h:mo w R) (hpD:R.nQ≤R.nD) (hpS:R.nQ≤R.nS) (b:Bool) (hb:b=true↔∃ i,i<R.nQ∧R.L i≠0) :
  Calls Tryz.prog 159 #[.agg R.cells] w fun e w'=>e=.returned (.bool b)∧Below w.heap.size w w':=by
 have HR:=aa h
 have HB:=aa hb
 have HFit:=aa hf
 have HD:=aa hpD
 have HS:=aa hpS
 clear h hb hf hpD hpS
 refine (callsIn_wide (n:=8)).1 ?_
 refine callsIn_of_wp_marks Tryz.func159 rfl trivial ?_ rfl
 simp only [Tryz.ntmps159,List.size_toArray,List.length_cons,List.length_nil,Nat.reduceAdd,Nat.reduceSub,Array.replicate_succ,Array.replicate_zero,List.push_toArray,List.append_toArray,List.nil_append,List.cons_append]
 have f33:Fence.wide.fn 133:=trivial
 unfold Rnd.cells
 have B1:Below w.heap.size w ((w.alloc (.cells #[.slice R.aQ R.nQ R.cQ,.slice R.aD R.nD R.cD,.int .i64 R.turn,.bool R.fresh,.slice R.aS R.nS R.cS] 46)).alloc (.cells #[.bool false] 4)):=((Below.refl _ _).alloc (Nat.le_refl _) _).alloc (by simp) _
 have HK:Hid (((w.alloc (.cells #[.slice R.aQ R.nQ R.cQ,.slice R.aD R.nD R.cD,.int .i64 R.turn,.bool R.fresh,.slice R.aS R.nS R.cS] 46)).alloc (.cells #[.bool false] 4)).heap[w.heap.size+1]?=some (.cells #[.bool false] 4 (0,0))):=by
  have:=iy (w.alloc (.cells #[.slice R.aQ R.nQ R.cQ,.slice R.aD R.nD R.cD,.int .i64 R.turn,.bool R.fresh,.slice R.aS R.nS R.cS] 46)) (.cells #[.bool false] 4)
  simpa [Hid] using this
 gi_wp2_with (gi_at_call 133;refine (callsIn_wide.2 (tr R _)).mono ?_;rintro e w2 ⟨rfl,rfl⟩)
 have eS:((w.alloc (.cells #[.slice R.aQ R.nQ R.cQ,.slice R.aD R.nD R.cD,.int .i64 R.turn,.bool R.fresh,.slice R.aS R.nS R.cS] 46)).alloc (.cells #[.bool false] 4)).heap.size=w.heap.size+1+1:=by simp
 generalize (w.alloc (.cells #[.slice R.aQ R.nQ R.cQ,.slice R.aD R.nD R.cD,.int .i64 R.turn,.bool R.fresh,.slice R.aS R.nS R.cS] 46)).alloc (.cells #[.bool false] 4)=w1 at *
 rw [←eS]
 clear eS
 have kR1:=HK.out
 have hBt:AR (w1.alloc (.cells R.cells 46)) w1.heap.size R:=⟨fun o=>iv (iy w1 (.cells R.cells 46)) o,HR.up (B1.alloc B1.size _)⟩
 have hcBx:w1.heap.size<(w1.alloc (.cells R.cells 46)).heap.size:=by simp
 have hTl:∀ W,Below (w1.alloc (.cells R.cells 46)).heap.size (w1.alloc (.cells R.cells 46)) W→AR W w1.heap.size R:=fun W hW =>
  ⟨fun o=>(hW.cell (p:=⟨w1.heap.size,o,none⟩) hcBx).trans (hBt.box o),hBt.rd.up hW⟩
 have hw1:=B1.size
 have hlR:=iw kR1
 have hsW:w.heap.size≤(w1.alloc (.cells R.cells 46)).heap.size:=by simp;omega
 have hcr:w1.cell? ⟨w.heap.size+1,0,none⟩=some (.bool false):=iv kR1 0
 have hfr:w1.frozen? ⟨w.heap.size+1,0,none⟩=false:=iF kR1 0
 have hold:∀ (j:Nat) o,j<w1.heap.size→(w1.alloc (.cells R.cells 46)).cell? ⟨j,o,none⟩=w1.cell? ⟨j,o,none⟩:=fun j o hj=>World.cell?_of_block (w:=w1) (a:=⟨j,o,none⟩) (iN _ hj)
 have holdf:(w1.alloc (.cells R.cells 46)).frozen? ⟨w.heap.size+1,0,none⟩=false:=(World.frozen?_of_block (w:=w1) (a:=⟨w.heap.size+1,0,none⟩) (iN _ hlR)).trans hfr
 refine wpIn_rangeFunc_ownH rfl (by omega) (gf:=144) (lb:=#[.pointer (some ⟨w1.heap.size,0,none⟩)]) rfl trivial (enters_of Tryz.func144 (by kernel_rfl) rfl)
  (qW Fence.wide _ trivial rfl (by omega) R HFit HD HS w1.heap.size (w1.alloc (.cells R.cells 46)) hBt hTl) belowK_t (belowK_b (Nat.le_refl _)) (Below.refl _ _) (fun _=>rfl)
  (fun pre W=>(∀ x∈pre,R.L x.1=0)∧W.cell? ⟨w.heap.size+1,0,none⟩=some (.bool false)∧W.frozen? ⟨w.heap.size+1,0,none⟩=false∧(w1.alloc (.cells R.cells 46)).heap.size≤W.heap.size∧Below w.heap.size w W)
  (fun c pre W=>c=.ret∧(∃ x∈pre,R.L x.1≠0)∧W.cell? ⟨w.heap.size+1,0,none⟩=some (.bool true)∧Below w.heap.size w W)
  (fun s A B row hs hg hr=>⟨hs.1,cell_kept hs.2.1 hg (fun r e=>(hr r e).2),(frozen_kept hs.2.1 hg (fun r e=>(hr r e).2)).trans hs.2.2.1,Nat.le_trans hs.2.2.2.1 hg.size,hs.2.2.2.2.grown hg hs.2.2.2.2.size (fun k e=>Nat.le_trans hsW (hr k e).1)⟩)
  (fun c s A B row hs hg hr=>⟨hs.1,hs.2.1,cell_kept hs.2.2.1 hg (fun r e=>(hr r e).2),hs.2.2.2.grown hg hs.2.2.2.size (fun k e=>Nat.le_trans hsW (hr k e).1)⟩)
  ⟨fun x hx=>by simp at hx,(hold _ _ hlR).trans hcr,holdf,Nat.le_refl _,B1.alloc hw1 _⟩
  (fun x a' W=>∃ Bx,w.heap.size+1<Bx∧W.cell? ⟨Bx,2,none⟩=some (.slice (R.A x.1) (R.L x.1) (R.C x.1))∧a'={ tmps:=#[.agg #[.slice R.aQ R.nQ R.cQ,.slice R.aD R.nD R.cD,.int .i64 R.turn,.bool R.fresh,.slice R.aS R.nS R.cS],.pointer (some ⟨w.heap.size,0,none⟩),.pointer (some ⟨w.heap.size+1,0,none⟩),undef,.pointer (some ⟨Bx,0,none⟩),.agg #[.slice R.aQ R.nQ R.cQ,.slice R.aD R.nD R.cD,.int .i64 R.turn,.bool R.fresh,.slice R.aS R.nS R.cS],.func (.func 144) #[] #[.pointer (some ⟨w1.heap.size,0,none⟩)],.int .i64 ((x.1:Nat):Int),.agg #[.int .i64 (R.q x.1),.int .i64 (R.d x.1),.slice (R.A x.1) (R.L x.1) (R.C x.1)],undef,undef,undef,undef],defers:=[] })
  (fun x a' s A B row hs hg hr=>by
   obtain ⟨Bx,b1,c3,e⟩:=hs
   exact ⟨Bx,b1,cell_kept c3 hg (fun r e=>(hr r e).2),e⟩)
  ?assign ?body ?done ?stop
 case assign =>
  rintro l pre x W K ⟨i1,i4,i5,i6,i7⟩ hK
  have hcn:=iv (iy W (.cells #[.int .i64 (R.q x.1),.int .i64 (R.d x.1),.slice (R.A x.1) (R.L x.1) (R.C x.1)] 182))
  have HI:Hid (∀ ob,(W.alloc ob).cell? ⟨w.heap.size+1,0,none⟩=some (.bool false)∧(W.alloc ob).frozen? ⟨w.heap.size+1,0,none⟩=false∧Below w.heap.size w (W.alloc ob)):=fun ob =>
   ⟨cell_kept i4 (World.grownBy_alloc W ob none) (fun r e=>by cases e),(frozen_kept i4 (World.grownBy_alloc W ob none) (fun r e=>by cases e)).trans i5,i7.alloc i7.size _⟩
  have hlt:w.heap.size+1<W.heap.size:=by simp at i6;omega
  unfold Gx
  gi_wp2
  exact hK _ _ ((KeepsOthers.alloc _ _).from _) ((Below.refl _ W).alloc i6 _) ⟨i1,(HI _).1,(HI _).2.1,by simp at i6 ⊢;omega,(HI _).2.2⟩ ⟨W.heap.size,hlt,hcn 2,rfl⟩
 case body =>
  rintro l pre x a' W hl ⟨r,hr⟩ ⟨i1,i4,i5,i6,i7⟩ ⟨Bx,hBx,x2,rfl⟩ hlt
  clear hTl hBt hold holdf hcr hfr
  by_cases h0:R.L x.1=0
  ·
   have h0':¬ (0:Int)<((R.L x.1:Nat):Int):=by omega
   have H0:=aa h0
   have HP:Hid (∀ y∈pre++[x],R.L y.1=0):=fun y hy=>by
    rcases List.mem_append.1 hy with hy | hy
    ·
     exact i1 y hy
    simp at hy;rw [hy];exact H0.out
   clear h0
   gi_wp2
   exact ⟨KeepsFrom.refl _ _,Below.refl _ _,by have hk:=HP.out;simpa using hk,i4,i5,by simpa using i6,i7⟩
  have h0':(0:Int)<((R.L x.1:Nat):Int):=by omega
  have H0:=aa h0
  clear h0
  gi_wp2
  exact ⟨(KeepsOthers.setCell _ _ _).from _,rfl,⟨x,by simp,H0⟩,World.cell?_setCell_same' _ _ _ (by rw [i4];rfl),i7.setCell (by show _≤_+1;omega) _⟩
 case done =>
  rintro D xs W hD rfl ⟨i1,i4,i5,i6,i7⟩ hK
  have HE:Hid (b=false):=by
   rw [Hid,Bool.eq_false_iff]
   intro e
   obtain ⟨i,hi,hne⟩:=HB.1 e
   exact hne (i1 ⟨i,hi⟩ (ve _ _ _ i hi))
  have hK':=(KeepsOthers.setCell W ⟨w.heap.size+1,0,none⟩ (.bool false)).same D _ hK rfl
  have hc5:=cell_kept (World.cell?_setCell_same' W ⟨w.heap.size+1,0,none⟩ (.bool false) (by rw [i4];rfl)) (grownBy_putObj' _ D (.deferred none)) (fun r e=>by cases e;exact ⟨_,hK',rfl⟩)
  have hBe:Below w.heap.size w ((W.setCell ⟨w.heap.size+1,0,none⟩ (.bool false)).putObj D (.deferred none)):=(i7.setCell (p:=⟨w.heap.size+1,0,none⟩) (by show _≤_+1;omega) _).trans (belowK_b (w:=w) (Nat.le_refl _) _ D _ _ (Nat.le_trans hsW hD) hK' rfl rfl)
  clear hTl hBt hold holdf hcr hfr
  gi_wp2
  refine ⟨by simp,.inl ⟨_,_,rfl,run_takeDeferred hK',?_⟩⟩
  exact ⟨.bool false,by simp [results,Tryz.results159,go_sem,hc5],iD HE.symm,hBe⟩
 rintro D c pre W hD hSp ⟨rfl,⟨x,hx,hn⟩,i4,i7⟩ hK
 have HE:Hid (b=true):=HB.2 ⟨x.1,x.2,hn⟩
 have hc5:=cell_kept i4 (grownBy_putObj' _ D (.deferred none)) (fun r e=>by cases e;exact ⟨_,hK,rfl⟩)
 have hBe:Below w.heap.size w (W.putObj D (.deferred none)):=i7.trans (belowK_b (w:=w) (Nat.le_refl _) _ D _ _ (Nat.le_trans hsW hD) hK rfl rfl)
 clear hTl hBt hold holdf hcr hfr
 gi_wp2
 refine ⟨by simp,.inl ⟨_,_,rfl,run_takeDeferred hK,?_⟩⟩
 exact ⟨.bool true,by simp [results,Tryz.results159,go_sem,hc5],iD HE.symm,hBe⟩
section
variable {F : Fence} {n : Nat} {P : Program}
def ue (fn:FuncId) (tmps:Array Value) (ps:Array Tmp) (assign body:Code) (D:Nat) (st:LoopState) (pe:Option Code):Loop :=
 { state:=st,pending:=pe,fn,tmps,params:=ps,assign,body,defers:=D }
theorem nu {g:Operand} {Q:Exit→Act→World→Prop} {a:Act} 
  (hro:F.round=none) (h1:1≤n) {gf:Nat} {lb:Array Value} (hg:a.eval g=.func (.func gf) #[] lb) (hFg:F.fn gf) (eg:∀ args w,(callFunc gf args).run P w=.ok (.enter gf args) w)
  (Dn:World→Prop) (Lf:Code→World→Prop)
  (hit:∀ fn,F.fn fn→∀ rc,rc=ue fn a.tmps ps assign body w.heap.size→CallsIn F (n-1) P gf (#[.func (.yield (w.heap.size+1)) #[] #[]]++lb) ((w.alloc (.deferred (some []))).alloc (.loop (rc .ready none)))
   fun e W2=>(∃ v,e=.returned v)∧((Dn W2∧W2.heap[w.heap.size+1]?=some (.loop (rc .ready none)))∨∃ c,Lf c W2∧W2.heap[w.heap.size+1]?=some (.loop (rc .done (some c)))))
  (hdone:∀ W o,Dn W→Q .normal { a with defers:={ target:=.collected w.heap.size,args:=#[] } :: a.defers } (W.putObj (w.heap.size+1) o))
  (hstop:∀ c W o,Lf c W→c.wpIn F n P Q { a with defers:={ target:=.collected w.heap.size,args:=#[] } :: a.defers } (W.putObj (w.heap.size+1) o)) :
  (Code.rangeFunc g ps assign body).wpIn F n P Q a w:=by
 refine wpIn_rangeFunc ?_
 intro fn hfn
 rw [hro]
 have hi:=hit fn hfn _ rfl
 refine ⟨w.heap.size+1,[{ target:=.collected w.heap.size,args:=#[] }],(w.alloc (.deferred (some []))).alloc (.loop (ue fn a.tmps ps assign body w.heap.size .ready none)),{ target:=.fn (.func gf) lb,args:=#[.func (.yield (w.heap.size+1)) #[] #[]] },(w.alloc (.deferred (some []))).alloc (.loop (ue fn a.tmps ps assign body w.heap.size .ready none)),gf,
  #[.func (.yield (w.heap.size+1)) #[] #[]]++lb,(w.alloc (.deferred (some []))).alloc (.loop (ue fn a.tmps ps assign body w.heap.size .ready none)),?_,?_,?_,?_,fun _=>h1,?_⟩
 ·
  exact run_enterLoop_outer _ _ _ _ _
 ·
  simp only [resolve,hg]
  simp [go_sem]
 ·
  intro f' hf';simp [Target.leads] at hf';subst hf';exact hFg
 ·
  simp [invoke,go_sem,eg]
 refine hi.mono ?_
 rintro e W2 ⟨⟨v,rfl⟩,(⟨hD,hl⟩ | ⟨c,hL,hl⟩)⟩
 ·
  exact ⟨none,_,run_endLoop (P:=P) hl (by simp [ue]),hdone _ _ hD⟩
 exact ⟨some c,_,run_endLoop (P:=P) hl (by simp [ue]),hstop c _ _ hL⟩
def EU (l:Nat) (rc:LoopState→Option Code→Loop) (R:Ending→World→Prop):Exit→Act→World→Prop
 | .normal,_,w=>w.heap[l]?=some (.loop (rc .busy none))∧R (.returned (.bool true)) (w.putObj l (.loop (rc .ready none)))
 | .ret,_,w=>w.heap[l]?=some (.loop (rc .busy none))∧R (.returned (.bool false)) (w.putObj l (.loop (rc .done (some .ret))))
 | _,_,_=>False
theorem CY {fn:FuncId} {tmps:Array Value} {args:Array Value} (hF:F.fn fn) (hl:W.heap[l]?=some (.loop (ue fn tmps ps assign body D .ready none))) (hs:args.size=ps.size) (R:Ending→World→Prop)
  (h:assign.wpIn (F.inRound l) n P (Exit.then (fun a₁ w₁=>w₁.heap[l]?=some (.loop (ue fn tmps ps assign body D .ready none))∧body.wpIn (F.inRound l) n P (EU l (ue fn tmps ps assign body D) R) a₁ (w₁.putObj l (.loop (ue fn tmps ps assign body D .busy none)))) (fun _ _ _=>False))
   { tmps:=(ps.zip args).foldl (fun t (p,v)=>t.setIfInBounds p v) tmps,defers:=[] } W) :
  (Instr.yield l args).run P W=.ok (.round l fn ((ps.zip args).foldl (fun t (p,v)=>t.setIfInBounds p v) tmps) assign body) W∧RoundIn F n P l fn ((ps.zip args).foldl (fun t (p,v)=>t.setIfInBounds p v) tmps) assign body W R:=by
 refine ⟨run_yield (P:=P) (args:=args) hl hs,roundIn_of_wpIn hF (wpIn_mono h ?_)⟩
 rintro e a1 w1 hp
 cases e with
 | normal =>
  obtain ⟨hl1,hb⟩:=hp
  refine ⟨_,run_beginRound hl1 rfl,wpIn_mono hb ?_⟩
  rintro e2 a2 w2 hp2
  cases e2 with
  | normal=>exact ⟨_,_,run_endRound (P:=P) none hp2.1,hp2.2⟩
  | ret=>exact ⟨_,_,run_endRound (P:=P) (some .ret) hp2.1,hp2.2⟩
  | exit id=>exact hp2.elim
  | goto t=>exact hp2.elim
  | panic ch=>exact hp2.elim
  | outgrown=>exact hp2.elim
 | exit id=>exact hp.elim
 | goto t=>exact hp.elim
 | ret=>exact hp.elim
 | panic ch=>exact hp.elim
 | outgrown=>exact hp.elim
end
attribute [local go_sem] Oper.semAt_some
def Fb (n:Nat) (gb:so) (gD c0:Nat) (wr:World):Nat :=
 (5-intOf ((wr.cell? ⟨gD,c0,none⟩).getD undef)).toNat*n +
  (if (intOf ((wr.cell? ⟨gb.g,gb.o+2,none⟩).getD undef)).toNat=c0 then (if Eu (wr.cell? ⟨gb.g,gb.o+3,none⟩)=true then 0 else n) else (c0+n-(intOf ((wr.cell? ⟨gb.g,gb.o+2,none⟩).getD undef)).toNat) % n)
structure PkI (w W1:World) (l base top:Nat) (gb:so) (gD gS:Nat) (X:Rnd) (wr:World):Prop where
 rep:jQ wr base top gb gD gS X
 new:∀ k,w.heap.size≤k→k<W1.heap.size→k≠l→wr.heap[k]?=W1.heap[k]?
 jE:Touch [gb.g,gD,gS] w wr
 size:W1.heap.size≤wr.heap.size
theorem jQ.lts {gb:so} (h:jQ w base top gb gD gS X):gb.g<w.heap.size∧gD<w.heap.size∧gS<w.heap.size:=⟨iw h.box,h.CT.1.lt,h.ET.1.lt⟩
section
variable {w W1 wr wr' : World} {l base top : Nat} {gb : so} {gD gS : Nat} {X X' : Rnd}
theorem PkI.up (h:PkI w W1 l base top gb gD gS X wr) (hb:Below wr.heap.size wr wr'):PkI w W1 l base top gb gD gS X wr' :=
 ⟨h.rep.up hb,fun k h1 h2 h3=>(hb.block k (by have:=h.size;omega)).trans (h.new k h1 h2 h3),h.jE.trans (Touch.ji hb),by have:=h.size;have:=hb.size;omega⟩
theorem E5 {k:Nat} (hl:gb.g<w.heap.size∧gD<w.heap.size∧gS<w.heap.size) (hk:w.heap.size≤k):k∉[gb.g,gD,gS]:=fun hx=>by
 simp at hx
 omega
theorem PkI.next (h:PkI w W1 l base top gb gD gS X wr) (hl:gb.g<w.heap.size∧gD<w.heap.size∧gS<w.heap.size) (hR:jQ wr' base top gb gD gS X') (ht:Touch [gb.g,gD,gS] wr wr'):PkI w W1 l base top gb gD gS X' wr' :=
 ⟨hR,fun k h1 h2 h3=>(ht.block k (by have:=h.size;omega) (E5 hl h1)).trans (h.new k h1 h2 h3),h.jE.trans ht,by have:=h.size;have:=ht.size;omega⟩
theorem pw (wr:World) (l:Nat) (o:Obj):Touch [l] wr (wr.putObj l o):=⟨rfl,rfl,rfl,by simp,fun k _ hn=>World.putObj_heap_other (fun e=>hn (by simp [e]))⟩
theorem jQ.put (h:jQ wr base top gb gD gS X) (hl:wr.heap[l]?=some lo) (hc:lo.isCells=false) (o:Obj):jQ (wr.putObj l o) base top gb gD gS X:=by
 have ht:=pw wr l o
 have hno:∀ arr t f,wr.heap[l]?≠some (.cells arr t f):=fun arr t f e=>by
  rw [hl] at e
  cases e
  simp [Obj.isCells] at hc
 exact ⟨(ht.block _ (iw h.box) (fun hx=>by simp at hx;subst hx;exact hno _ _ _ h.box)).trans h.box,h.own.zh ht (fun g hg arr=>by simp at hg;subst hg;exact ⟨hno _ _ _,hno _ _ _⟩),h.ad,h.as_,h.cap,h.pos,h.hi,h.inn⟩
theorem PkI.put (h:PkI w W1 l base top gb gD gS X wr) (hl:wr.heap[l]?=some lo) (hc:lo.isCells=false) (hw:w.heap.size≤l) (o:Obj):PkI w W1 l base top gb gD gS X (wr.putObj l o) :=
 ⟨h.rep.put hl hc o,fun k h1 h2 h3=>(World.putObj_heap_other h3).trans (h.new k h1 h2 h3),⟨h.jE.os,h.jE.tape,h.jE.output,by have:=h.jE.size;simpa using this,fun k hk hn=>(World.putObj_heap_other (by omega)).trans (h.jE.block k hk hn)⟩,by have:=h.size;simpa using this⟩
theorem jQ.left (h:jQ wr base top gb gD gS X) {c0:Nat} (hc:c0<X.nQ):Fb X.nQ gb gD c0 wr=rG X c0:=by
 have b:=h.cb
 have c2:wr.cell? ⟨gb.g,gb.o+2,none⟩=some (.int .i64 X.turn):=b.2.2.1
 have c3:wr.cell? ⟨gb.g,gb.o+3,none⟩=some (.bool X.fresh):=b.2.2.2.1
 unfold Fb rG zI Rnd.now
 rw [c2,c3,h.cd hc]
 rfl
theorem Ei (h:X.Ok):X.Fit:=by
 have hn:=h.n
 refine ⟨by unfold maxLen;omega,by rw [h.d];unfold maxLen;omega,by rw [h.s];unfold maxLen;omega,fun i hi=>?_⟩
 have:=(h.c i (by rw [h.s] at hi;exact hi)).2.1.1
 unfold maxLen
 omega
theorem om {o:Obj} {b:Nat} (h:b≠l):(wr.putObj l o).cell? ⟨b,i,none⟩=wr.cell? ⟨b,i,none⟩:=World.cell?_of_block (w:=wr) (a:=⟨b,i,none⟩) (World.putObj_heap_other h)
end
theorem zg (g o:Nat) (w:World) :
  Calls Tryz.prog 138 #[.pointer (some ⟨g,o,none⟩)] w fun e w'=>e=.returned (.func (.func 158) #[] #[.pointer (some ⟨w.heap.size,0,none⟩)])∧w'=w.alloc (.cells #[.pointer (some ⟨g,o,none⟩)] 169):=by
 go_enter Tryz.func138,Tryz.ntmps138
 go_wp2_with fail
 go_ret
 exact ⟨rfl,rfl⟩
structure PkL (w:World) (base top:Nat) (gb:so) (gD gS:Nat) (X1:Rnd) (c:Nat) (s:Int) (D:Nat) (W:World):Prop where
 ex:∃ X',Alike X1 X'∧jQ W base top gb gD gS X'
 jE:Touch [gb.g,gD,gS] w W
 r2:W.heap[w.heap.size+1]?=some (.cells #[.int .i64 (c:Int)] 2 (0,0))
 r3:W.heap[w.heap.size+2]?=some (.cells #[.int .i64 s] 2 (0,0))
 d:W.heap[D]?=some (.deferred (some []))
theorem PkL.put {gb:so} {X1:Rnd} {s:Int} (h:PkL w base top gb gD gS X1 c s D W) (hl:W.heap[l]?=some lo) (hc:lo.isCells=false) (hw:w.heap.size+2<l) (hD:l≠D) (o:Obj):PkL w base top gb gD gS X1 c s D (W.putObj l o):=by
 obtain ⟨X',ha,hr⟩:=h.ex
 exact ⟨⟨X',ha,hr.put hl hc o⟩,⟨h.jE.os,h.jE.tape,h.jE.output,by have:=h.jE.size;simpa using this,fun k hk hn=>(World.putObj_heap_other (by omega)).trans (h.jE.block k hk hn)⟩,(World.putObj_heap_other (by omega)).trans h.r2,(World.putObj_heap_other (by omega)).trans h.r3,(World.putObj_heap_other (fun e=>hD e.symm)).trans h.d⟩
theorem xm (X:Rnd) (base top:Nat) (gb:so) (gD gS c:Nat) (w:World) (h:jQ w base top gb gD gS X) (hok:X.Ok) (hc:X.now=c) (ht:X.turn=(c:Int)) (hL:X.L c≠0) (hd:(iH X).d c<X.z c 0) :
  Calls Tryz.prog 139 #[.pointer (some ⟨gb.g,gb.o,none⟩),.int .i64 (c:Int)] w fun e w'=>e=.returned (.tuple #[.int .i64 0,.bool false])∧jQ w' base top gb gD gS (iH X)∧Touch [gb.g,gD,gS] w w':=by
 refine (uM X base top gb gD gS c w h hok hc ht hL).mono ?_
 rintro e w' ⟨(⟨_,rfl,hR⟩ | ⟨h1,_⟩),hT⟩
 ·
  exact ⟨rfl,hR,hT⟩
 omega
theorem yE (X:Rnd) (base top:Nat) (gb:so) (gD gS c:Nat) (w:World) (h:jQ w base top gb gD gS X) (hok:X.Ok) (hc:X.now=c) (ht:X.turn=(c:Int)) (hL:X.L c≠0) (hd:X.z c 0≤(iH X).d c) :
  Calls Tryz.prog 139 #[.pointer (some ⟨gb.g,gb.o,none⟩),.int .i64 (c:Int)] w fun e w'=>e=.returned (.tuple #[.int .i64 (X.z c 0),.bool true])∧(∃ X',Alike (ml (iH X)) X'∧jQ w' base top gb gD gS X')∧Touch [gb.g,gD,gS] w w':=by
 refine (uM X base top gb gD gS c w h hok hc ht hL).mono ?_
 rintro e w' ⟨(⟨h1,_⟩ | ⟨_,rfl,hR⟩),hT⟩
 ·
  omega
 exact ⟨rfl,hR,hT⟩
theorem four {o1 o2 o3 o4:Obj}:((((w.alloc o1).alloc o2).alloc o3).alloc o4).heap[w.heap.size]?=some o1∧((((w.alloc o1).alloc o2).alloc o3).alloc o4).heap[w.heap.size+1]?=some o2∧((((w.alloc o1).alloc o2).alloc o3).alloc o4).heap[w.heap.size+1+1]?=some o3∧((((w.alloc o1).alloc o2).alloc o3).alloc o4).heap[w.heap.size+1+1+1]?=some o4 ∧
  ((((w.alloc o1).alloc o2).alloc o3).alloc o4).heap.size=w.heap.size+4∧Below w.heap.size w ((((w.alloc o1).alloc o2).alloc o3).alloc o4):=by
 have e1:(w.alloc o1).heap.size=w.heap.size+1:=by simp
 have e2:((w.alloc o1).alloc o2).heap.size=w.heap.size+1+1:=by simp
 have e3:(((w.alloc o1).alloc o2).alloc o3).heap.size=w.heap.size+1+1+1:=by simp
 refine ⟨?_,?_,?_,?_,by simp,((((Below.refl _ _).alloc (Nat.le_refl _) _).alloc (by omega) _).alloc (by omega) _).alloc (by omega) _⟩
 ·
  rw [iN _ (by omega),iN _ (by omega),iN _ (by omega),iy]
 ·
  rw [iN _ (by omega),iN _ (by omega),←e1,iy]
 ·
  rw [iN _ (by omega),←e2,iy]
 rw [←e3,iy]
def YR (w W1:World) (l base top:Nat) (gb:so) (gD gS c0:Nat) (rc:LoopState→Option Code→Loop) (X1:Rnd) (c:Nat) (s:Int) (D:Nat) (X:Rnd) (e:Ending) (W':World):Prop :=
 (e=.returned (.bool true)∧W'.heap[l]?=some (.loop (rc .ready none))∧∃ Y k2,PkI w W1 l base top gb gD gS Y W'∧Y.nQ=X.nQ∧Y.L=X.L∧(0≤Y.turn∧Y.turn<Y.nQ)∧(iY Y).Ok∧lj k2 (iY Y) X1 c s∧rG (iY Y) c0<rG X c0) ∨
 (e=.returned (.bool false)∧W'.heap[l]?=some (.loop (rc .done (some .ret)))∧PkL w base top gb gD gS X1 c s D W')
theorem DB (X0:Rnd) (base top:Nat) (gb:so) (gD gS c0:Nat) (w:World) (htop:top≤w.heap.size) (h:jQ w base top gb gD gS X0) (hok:X0.Ok) (hc0:c0<X0.nQ) (hl0:X0.L c0≠0) (k0:Nat) (X1:Rnd) (c:Nat) (s:Int) (hp:lj k0 X0 X1 c s) :
  Calls Tryz.prog 124 #[.pointer (some ⟨gb.g,gb.o,none⟩)] w fun e w'=>e=.returned (.tuple #[.int .i64 (c:Int),.int .i64 s])∧(∃ X',Alike X1 X'∧jQ w' base top gb gD gS X')∧Touch [gb.g,gD,gS] w w':=by
 have HR:=aa h
 have HOk:=aa hok
 have HP:=aa hp
 have HL0:=aa hl0
 have HC0:=aa hc0
 have HLt:=aa h.lts
 have HTop:=aa htop
 clear h hok hp hl0 hc0 htop
 refine (callsIn_wide (n:=8)).1 ?_
 refine callsIn_of_wp_marks Tryz.func124 rfl trivial ?_ rfl
 simp only [Tryz.ntmps124,List.size_toArray,List.length_cons,List.length_nil,Nat.reduceAdd,Nat.reduceSub,Array.replicate_succ,Array.replicate_zero,List.push_toArray,List.append_toArray,List.nil_append,List.cons_append]
 have f33:Fence.wide.fn 138:=trivial
 gi_wp2_with (gi_at_call 138;refine (callsIn_wide.2 (zg gb.g gb.o _)).mono ?_;rintro e w2 ⟨rfl,rfl⟩)
 obtain ⟨q1,q2,q3,q4,q5,qb⟩:=four (w:=w) (o1:=.cells #[.pointer (some ⟨gb.g,gb.o,none⟩)] 169) (o2:=.cells #[.int .i64 0] 2) (o3:=.cells #[.int .i64 0] 2) (o4:=.cells #[.pointer (some ⟨gb.g,gb.o,none⟩)] 169)
 generalize (((w.alloc (.cells #[.pointer (some ⟨gb.g,gb.o,none⟩)] 169)).alloc (.cells #[.int .i64 0] 2)).alloc (.cells #[.int .i64 0] 2)).alloc (.cells #[.pointer (some ⟨gb.g,gb.o,none⟩)] 169)=w0 at *
 have HQ:Hid (w0.heap[w.heap.size]?=some (.cells #[.pointer (some ⟨gb.g,gb.o,none⟩)] 169 (0,0))∧w0.heap[w.heap.size+1]?=some (.cells #[.int .i64 0] 2 (0,0))∧w0.heap[w.heap.size+1+1]?=some (.cells #[.int .i64 0] 2 (0,0))∧w0.heap[w.heap.size+1+1+1]?=some (.cells #[.pointer (some ⟨gb.g,gb.o,none⟩)] 169 (0,0))∧w0.heap.size=w.heap.size+4∧Below w.heap.size w w0):=⟨q1,q2,q3,q4,q5,qb⟩
 clear q1 q2 q3 q4 q5 qb
 refine nu rfl (by omega) (gf:=158) (lb:=#[.pointer (some ⟨w.heap.size+1+1+1,0,none⟩)]) rfl trivial (enters_of Tryz.func158 (by kernel_rfl) rfl) (fun _=>False) (fun c' W=>c'=.ret∧(∃ lo,W.heap[w0.heap.size+1]?=some lo∧lo.isCells=false)∧PkL w base top gb gD gS X1 c s w0.heap.size W) ?it (fun W o h=>h.elim) ?stop
 case stop =>
  rintro c' W o ⟨rfl,⟨lo,hlo,hlc⟩,hPL⟩
  have hq5:=HQ.2.2.2.2.1
  have hP2:=hPL.put hlo hlc (by omega) (by omega) o
  generalize W.putObj (w0.heap.size+1) o=W2 at *
  have hK:=hP2.d
  have hP3:=hP2
  obtain ⟨⟨X',hA,hR⟩,hT,hr2,hr3,_⟩:=hP3
  have hR3:=hR.put hK rfl (.deferred none)
  have hD2:w.heap.size+2<w0.heap.size:=by omega
  have hc2:(W2.putObj w0.heap.size (.deferred none)).cell? ⟨w.heap.size+1,0,none⟩=some (.int .i64 (c:Int)):=(om (by omega)).trans (iv hr2 0)
  have hc3:(W2.putObj w0.heap.size (.deferred none)).cell? ⟨w.heap.size+1+1,0,none⟩=some (.int .i64 s):=(om (by omega)).trans (iv hr3 0)
  have hT2:Touch [gb.g,gD,gS] w (W2.putObj w0.heap.size (.deferred none)):=⟨hT.os,hT.tape,hT.output,by have:=hT.size;simpa using this,fun k hk hn=>(World.putObj_heap_other (by omega)).trans (hT.block k hk hn)⟩
  gi_wp2
  refine ⟨by simp,.inl ⟨_,_,rfl,run_takeDeferred hK,?_⟩⟩
  exact ⟨.tuple #[.int .i64 (c:Int),.int .i64 s],by simp [results,Tryz.results124,go_sem,hc2,hc3],rfl,⟨X',hA,hR3⟩,hT2⟩
 intro fn hfn rc hrc
 obtain ⟨W1,hW1⟩:∃ W1,(w0.alloc (.deferred (some []))).alloc (.loop (rc .ready none))=W1:=⟨_,rfl⟩
 obtain ⟨l,hl⟩:∃ l,l=w0.heap.size+1:=⟨_,rfl⟩
 have hq5:=HQ.2.2.2.2.1
 have e1:(w0.alloc (.deferred (some []))).heap.size=w0.heap.size+1:=by simp
 have HW:Hid (W1.heap[l]?=some (.loop (rc .ready none))∧W1.heap[w0.heap.size]?=some (.deferred (some []))∧W1.heap.size=w0.heap.size+2∧(∀ k,k<w0.heap.size→W1.heap[k]?=w0.heap[k]?)):=by
  rw [Hid,←hW1,hl]
  refine ⟨?_,?_,by simp,fun k hk=>?_⟩
  ·
   rw [←e1,iy]
  ·
   rw [iN _ (by omega),iy]
  rw [iN _ (by omega),iN _ hk]
 have HI0:Hid (PkI w W1 l base top gb gD gS X0 W1):=by
  have hb:Below w0.heap.size w0 W1:=by rw [←hW1];exact ((Below.refl _ _).alloc (Nat.le_refl _) _).alloc (by omega) _
  have hbw:Below w.heap.size w W1:=HQ.2.2.2.2.2.trans (hb.mono (by omega))
  exact ⟨HR.up hbw,fun k _ _ _=>rfl,Touch.ji hbw,Nat.le_refl _⟩
 have HB:Hid (∀ X wr,PkI w W1 l base top gb gD gS X wr→wr.heap[w.heap.size]?=some (.cells #[.pointer (some ⟨gb.g,gb.o,none⟩)] 169 (0,0))∧wr.heap[w.heap.size+1]?=some (.cells #[.int .i64 0] 2 (0,0))∧wr.heap[w.heap.size+1+1]?=some (.cells #[.int .i64 0] 2 (0,0))∧wr.heap[w.heap.size+1+1+1]?=some (.cells #[.pointer (some ⟨gb.g,gb.o,none⟩)] 169 (0,0))∧wr.heap[w0.heap.size]?=some (.deferred (some []))):=fun X wr hI=>by
  obtain ⟨a1,a2,a3,a4⟩:=HW.out
  refine ⟨?_,?_,?_,?_,?_⟩
  ·
   rw [hI.new _ (by omega) (by omega) (by omega),a4 _ (by omega)];exact HQ.1
  ·
   rw [hI.new _ (by omega) (by omega) (by omega),a4 _ (by omega)];exact HQ.2.1
  ·
   rw [hI.new _ (by omega) (by omega) (by omega),a4 _ (by omega)];exact HQ.2.2.1
  ·
   rw [hI.new _ (by omega) (by omega) (by omega),a4 _ (by omega)];exact HQ.2.2.2.1
  rw [hI.new _ (by omega) (by omega) (by omega)];exact a2
 have HY:Hid (∀ (X:Rnd) (k:Nat) (W:World),PkI w W1 l base top gb gD gS X W→W.heap[l]?=some (.loop (rc .ready none))→X.Ok→lj k X X1 c s→c0<X.nQ→X.L c0≠0 →
   ∃ tm asg bod,(Instr.yield l #[.int .i64 X.turn]).run Tryz.prog W=.ok (.round l fn tm asg bod) W∧RoundIn Fence.wide 6 Tryz.prog l fn tm asg bod W (YR w W1 l base top gb gD gS c0 rc X1 c s w0.heap.size X)):=by
  intro X k W hI hlr hO hPk hcq hL
  refine ⟨_,_,_,CY (n:=6) trivial (by rw [←hrc];exact hlr) rfl _ ?_⟩
  rw [←hrc]
  obtain ⟨tn,htn⟩:=Int.eq_ofNat_of_zero_le hO.t.1
  have hnow:X.now=tn:=by unfold Rnd.now;omega
  rw [htn]
  have hn4:X.nQ≤4:=hO.n.2
  have hcn:tn<X.nQ:=by have:=hO.t.2;omega
  have hwl:w.heap.size+2<l:=by omega
  have hltl:l<W.heap.size:=(Array.getElem?_eq_some_iff.1 hlr).1
  have hIb:=hI.put hlr rfl (by omega) (.loop (rc .busy none))
  have hlb:(W.putObj l (.loop (rc .busy none))).heap[l]?=some (.loop (rc .busy none)):=World.putObj_heap_same hltl
  have HHl:=aa hlr
  have HD0:Hid (l≠w0.heap.size):=by rw [Hid];omega
  have f38:Fence.wide.fn 139:=trivial
  clear hrc hlr hI hl hq5 e1 hW1
  gi_wp2
  refine ⟨HHl,?_⟩
  clear HHl hltl
  generalize W.putObj l (.loop (rc .busy none))=Wb at *
  obtain ⟨kb1,kb2,kb3,kb4,kb5⟩:=HB X Wb hIb
  have HIb:=aa hIb
  have HLb:=aa hlb
  have HK2:=aa kb2
  have HK3:=aa kb3
  have HK5:=aa kb5
  have cbp:=iv kb1 0
  have HOx:=aa hO
  have HTn:=aa htn
  have HNow:=aa hnow
  have HLx:=aa hL
  have hltb:l<Wb.heap.size:=(Array.getElem?_eq_some_iff.1 hlb).1
  clear hIb hlb kb1 kb2 kb3 kb4 kb5 hO htn hnow hL
  by_cases hn0:X.L tn=0
  ·
   obtain ⟨k2,rfl,hPk2⟩:=hPk.Bi (by rw [HNow.out];exact hn0)
   have HE:Hid (YR w W1 l base top gb gD gS c0 rc X1 c s w0.heap.size X (.returned (.bool true)) (Wb.putObj l (.loop (rc .ready none)))) :=
    .inl ⟨rfl,World.putObj_heap_same hltb,X,k2,HIb.put HLb.out rfl (by omega) _,rfl,rfl,HOx.t,pf HOx (fun hne=>absurd (by rw [HNow.out];exact hn0) hne),hPk2,xz HOx hcq HLx (by rw [HNow.out];exact hn0)⟩
   have HN0:=aa hn0
   clear hn0 hPk hPk2
   gi_wp2_with (gi_at_call 139;refine (CallsIn.inRound l (callsIn_wide.2 (yF X base top gb gD gS tn Wb HIb.rep hcn hn4 HN0.out))).mono ?_;rintro e W2 ⟨rfl,rfl⟩)
   exact ⟨HLb,HE⟩
  by_cases hsh:(iH X).d tn<X.z tn 0
  ·
   obtain ⟨k2,rfl,hPk2⟩:=hPk.zm (by rw [HNow.out];exact hn0) (by rw [HNow.out];exact hsh)
   have HN0:=aa hn0
   have HSh:=aa hsh
   have HPk2:=aa hPk2
   clear hn0 hsh hPk hPk2
   gi_wp2_with (gi_at_call 139;refine (CallsIn.inRound l (callsIn_wide.2 (xm X base top gb gD gS tn Wb HIb.rep HOx HNow HTn HN0 HSh.out))).mono ?_;rintro e W2 ⟨rfl,hR2,hT2⟩)
   have hI2:=HIb.next HLt hR2 hT2
   have hl2:W2.heap[l]?=some (.loop (rc .busy none)):=(hT2.block l hltb (E5 HLt (by omega))).trans HLb.out
   have hz5:=(HOx.c tn hcn).2.1.2 0 (by have:=HN0.out;omega)
   refine ⟨hl2,.inl ⟨rfl,World.putObj_heap_same (Array.getElem?_eq_some_iff.1 hl2).1,iH X,k2,hI2.put hl2 rfl (by omega) _,jP X,oC X,by rw [qt,jP];exact HOx.t,pf (oB HOx (by rw [HNow.out];exact HN0)) (fun _=>?_),HPk2,uO HOx hcq (by rw [HNow.out];exact HN0) (by rw [HNow.out];exact HSh)⟩⟩
   rw [jL,HNow.out]
   have:=HSh.out
   omega
  have hle:X.z tn 0≤(iH X).d tn:=by omega
  obtain ⟨eX,ec,es⟩:=hPk.yo (by rw [HNow.out];exact hn0) (by rw [HNow.out];exact hle)
  rw [HNow.out] at ec es
  have HX1:=aa eX
  have Hc:=aa ec
  have Hs:=aa es
  have HN0:=aa hn0
  have HLe:=aa hle
  clear hn0 hsh hPk eX ec es hle
  gi_wp2_with (gi_at_call 139;refine (CallsIn.inRound l (callsIn_wide.2 (yE X base top gb gD gS tn Wb HIb.rep HOx HNow HTn HN0 HLe.out))).mono ?_;rintro e W2 ⟨rfl,hex,hT2⟩;have kk2:=(hT2.block _ (iw HK2.out) (E5 HLt (by omega))).trans HK2.out;have kk3:=(hT2.block _ (iw HK3.out) (E5 HLt (by omega))).trans HK3.out;have cc2:=iv kk2;have ff2:=iF kk2;have cc3:=iv kk3;have ff3:=iF kk3)
  have hl2:W2.heap[l]?=some (.loop (rc .busy none)):=(hT2.block l hltb (E5 HLt (by omega))).trans HLb.out
  have hd2:W2.heap[w0.heap.size]?=some (.deferred (some [])):=(hT2.block _ (Array.getElem?_eq_some_iff.1 HK5.out).1 (E5 HLt (by have:=HQ.2.2.2.2.1;omega))).trans HK5.out
  have hz0:w0.heap.size=w.heap.size+4:=HQ.2.2.2.2.1
  have hT3:Touch [w.heap.size+1,w.heap.size+1+1] W2 ((W2.setCell ⟨w.heap.size+1,0,none⟩ (.int .i64 (tn:Int))).setCell ⟨w.heap.size+1+1,0,none⟩ (.int .i64 (X.z tn 0))):=((Touch.refl _ _).set (by simp) 0 _).set (by simp) 0 _
  have hb2:=(iJ (i:=0) (show w.heap.size+1≠w.heap.size+1+1 by omega) (.int .i64 (X.z tn 0))).trans (iO (i:=0) kk2 (.int .i64 (tn:Int)))
  have hb3:=iO (i:=0) ((iJ (i:=0) (show w.heap.size+1+1≠w.heap.size+1 by omega) (.int .i64 (tn:Int))).trans kk3) (.int .i64 (X.z tn 0))
  have hT4:=HIb.jE.trans hT2
  generalize (W2.setCell ⟨w.heap.size+1,0,none⟩ (.int .i64 (tn:Int))).setCell ⟨w.heap.size+1+1,0,none⟩ (.int .i64 (X.z tn 0))=W3 at *
  have hl3:W3.heap[l]?=some (.loop (rc .busy none)):=(hT3.block l (Array.getElem?_eq_some_iff.1 hl2).1 (by simp;omega)).trans hl2
  have hd3:=(hT3.block w0.heap.size (Array.getElem?_eq_some_iff.1 hd2).1 (by simp;omega)).trans hd2
  obtain ⟨X',hA,hR'⟩:=hex
  have hR3:=hR'.Db hT3 (fun x hx=>by have:=HTop.out;simp at hx;omega)
  have hT5:Touch [gb.g,gD,gS] w W3:=⟨hT3.os.trans hT4.os,hT3.tape.trans hT4.tape,hT3.output.trans hT4.output,Nat.le_trans hT4.size hT3.size,fun k hk hn=>(hT3.block k (by have:=hT4.size;omega) (by simp;omega)).trans (hT4.block k hk hn)⟩
  have hPL:PkL w base top gb gD gS X1 c s w0.heap.size W3:=⟨⟨X',by rw [HX1.out];exact hA,hR3⟩,hT5,by rw [Hc.out];exact hb2,by rw [Hs.out];exact hb3,hd3⟩
  exact ⟨hl3,.inr ⟨rfl,World.putObj_heap_same (Array.getElem?_eq_some_iff.1 hl3).1,hPL.put hl3 rfl hwl HD0 _⟩⟩
 rw [hW1,←hl]
 have hwl:w.heap.size+2<l:=by omega
 have HHl:Hid (∃ lo,l=lo):=⟨_,rfl⟩
 have HD9:Hid (∀ W,PkL w base top gb gD gS X1 c s w0.heap.size W→W.heap[l]?=some (.loop (rc .done (some .ret)))→(fun c' W=>c'=.ret∧(∃ lo,W.heap[l]?=some lo∧lo.isCells=false)∧PkL w base top gb gD gS X1 c s w0.heap.size W) Code.ret W):=fun W hP hl9=>⟨rfl,⟨_,hl9,rfl⟩,hP⟩
 have HW1:=aa HW.1
 have f43:Fence.wide.fn 159:=trivial
 have f44:Fence.wide.fn 160:=trivial
 have HLx:Hid (w.heap.size≤l):=by rw [Hid];omega
 clear hrc hl hq5 e1 hW1 HHl HW f33
 refine callsIn_of_wp Tryz.func158 rfl trivial ?_ rfl
 simp only [Tryz.ntmps158,List.size_toArray,List.length_cons,List.length_nil,Nat.reduceAdd,Nat.reduceSub,Array.replicate_succ,Array.replicate_zero,List.push_toArray,List.append_toArray,List.nil_append,List.cons_append]
 gi_wp2
 gi_loopw [3] (fun _ wr=>∃ (X:Rnd) (k:Nat),PkI w W1 l base top gb gD gS X wr∧wr.heap[l]?=some (.loop (rc .ready none))∧X.Ok∧lj k X X1 c s∧X.nQ=X0.nQ∧X.L c0≠0) (fun _ wr=>Fb X0.nQ gb gD c0 wr)
 case atStart=>exact ⟨X0,k0,HI0.out,HW1.out,HOk.out,HP.out,rfl,HL0.out⟩
 obtain ⟨X,k,hI,hlr,hO,hPk,hnq,hL⟩:=hrel
 have HI:=aa hI
 have HLr:=aa hlr
 have HO:=aa hO
 have HPk:=aa hPk
 have HNq:=aa hnq
 have HL:=aa hL
 have HCq:Hid (c0<X.nQ):=by rw [Hid,hnq];exact HC0.out
 have cb:=hI.rep.cx
 have cc4:=iv (HB X wr hI).2.2.2.1 0
 have HBt:Hid (true=true↔∃ i,i<X.nQ∧X.L i≠0):=⟨fun _=>⟨c0,HCq.out,HL.out⟩,fun _=>rfl⟩
 clear hI hlr hO hPk hnq hL
 gi_wp2_with (gi_at_call 159;refine (callsIn_wide.2 (mQ X wr (Ei HO.out) HI.rep.own.rd (by rw [HO.d];exact Nat.le_refl _) (by rw [HO.s];exact Nat.le_refl _) true HBt.out)).mono ?_;rintro e w2 ⟨rfl,hb⟩;have hI2:=HI.up hb;have hl2:w2.heap[l]?=some (.loop (rc .ready none)):=(hb.block l (Array.getElem?_eq_some_iff.1 HLr.out).1).trans HLr.out;have cb2:=hI2.rep.cx;have cc42:=iv (HB X w2 hI2).2.2.2.1 0;obtain ⟨tm,asg,bod,hy,hR⟩:=HY X k w2 hI2 hl2 HO HPk HCq HL.out;clear hb hI2 hl2 cb cc4)
 refine hR.mono ?_
 clear hR hy cb2 cc42
 rintro e W' (⟨rfl,hlW,Y,k2,hIY,hYq,hYL,hYt,hTo,hPk2,hlt⟩ | ⟨rfl,hlW,hPL⟩)
 ·
  have cc5:=iv (HB Y W' hIY).2.2.2.1 0
  have HIY:=aa hIY
  have HlW:=aa hlW
  have HYq:=aa hYq
  have HYL:=aa hYL
  have HTo:=aa hTo
  have HPk2:=aa hPk2
  have Hlt:=aa hlt
  have HYt:=aa hYt
  clear hIY hlW hYq hYL hTo hPk2 hlt hYt
  gi_wp2_with (gi_at_call 160;refine (callsIn_wide.2 (qX Y base top gb gD gS W' HIY.rep (by rw [HYq.out];exact HO.n.2) HYt.out)).mono ?_;rintro e W5 ⟨⟨v,rfl⟩,hR5,hT5⟩)
  have hT6:Touch [gb.g,gD,gS] W' W5:=hT5.mono (fun x hx=>by simp at hx;simp [hx])
  have hI5:=HIY.next HLt hR5 hT6
  have hl5:W5.heap[l]?=some (.loop (rc .ready none)):=(hT6.block l (Array.getElem?_eq_some_iff.1 HlW.out).1 (E5 HLt HLx.out)).trans HlW.out
  have hq5:(iY Y).nQ=X0.nQ:=by show Y.nQ=_;rw [HYq.out,HNq.out]
  have hm1:=hI5.rep.left (c0:=c0) (by rw [hq5];exact HC0.out)
  have hm2:=HI.rep.left (c0:=c0) HCq.out
  rw [hq5] at hm1
  rw [HNq.out] at hm2
  have HQ5:=aa hq5
  have HM1:=aa hm1
  have HM2:=aa hm2
  clear hq5 hm1 hm2
  go_roundw
  case rel=>exact ⟨iY Y,k2,hI5,hl5,HTo.out,HPk2.out,HQ5.out,by show Y.L c0≠0;rw [HYL.out];exact HL.out⟩
  case measure=>rw [HM1.out,HM2.out];exact Hlt.out
 gi_wp2
 go_end0
 exact ⟨⟨_,rfl⟩,.inr ⟨.ret,⟨rfl,⟨_,hlW,rfl⟩,hPL⟩,hlW⟩⟩
