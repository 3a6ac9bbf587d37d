import Derived.Test.YthicmlolanifhaaGreatK27
namespace Go.Proofs.YthicmlolanifhaaGreat
set_option maxRecDepth 100000
set_option maxHeartbeats 9000000
open Go.RowKit
set_option linter.unusedVariables false
set_option linter.unusedSimpArgs false
theorem dt {p:Prop} (h:p:=by
 have HC:Hid (Fc w l (.pointer (some ⟨gB,0,none⟩)) X):=⟨gB,p,rfl,hgB,by rw [←ep],by rw [←ep],by rw [←ep],by
  rw [←ep] at hP ⊢
  exact Ed oT oR hTR kB hP,⟨(hP.to.block _ (gO HX.out.a) (by simp;omega)).trans HX.out.a,(hP.to.block _ (gO HX.out.b) (by simp;omega)).trans HX.out.b,HX.out.bel.trans (hP.to.below HX.out.bel.size (fun x hx=>by simp at hx;omega))⟩⟩
 clear hP oT oR kB hTR HX hT0 ep
 go_wp2_with fail
 go_meet
 case rel=>exact HC.out):p:=h
theorem du {p:Prop} (h:p:=by
 go_simp
 try with_reducible rfl):p:=h
theorem dv {p:Prop} (h:p:=by
 go_wp2_with fail
 go_roundw
 case rel=>exact ⟨k+1,_,by omega,by go_num,HN⟩
 case measure=>simp [intOf];omega):p:=h
theorem dw {p:Prop} (h:p:=by
 intro wx hSw
 obtain ⟨hS1,hS2,hS3⟩:=hSw
 exact du):p:=h
theorem qn {A:List Ent} (hl:A.length≤8) (hs:jD A) (ho:∀ y∈A,lZ y):jM A.length (fun i=>A.getD i default):=by
 have hg:∀ i (h:i<A.length),A.getD i default=A[i]:=fun i h=>by simp [List.getD_eq_getElem?_getD,h]
 refine ⟨hl,fun i hi=>⟨?_,fun h0=>?_⟩⟩
 ·
  show lZ (A.getD i default)
  rw [hg i hi]
  exact ho _ (List.getElem_mem hi)
 show (A.getD (i-1) default).m<(A.getD i default).m
 rw [hg i hi,hg (i-1) (by omega)]
 exact (List.pairwise_iff_getElem.1 hs) (i-1) i (by omega) hi (by omega)
theorem Cy {x:Pkt} (h:x.nq):1≤x.s∧x.s≤20∧(1≤x.d∧x.d≤20∨x.d=255):=by
 have h2:=h.2
 have h1:=h.1
 unfold l4 at h2
 simp only [decide_eq_true_eq] at h2
 omega
theorem Swg.Ok.lrn {S:Swg} (h:S.Ok) {i:Nat} (hi:i<S.nL) {x:Pkt} (hx:x.nq):lZ ⟨x.s,(i:Int),S.now⟩:=by
 have h1:=Cy hx
 have h2:=h.nl
 have h3:=h.n.c.num.p
 have h4:=h.nums.now
 exact ⟨⟨h1.1,h1.2.1⟩,⟨by show (0:Int)≤(i:Int);omega,by show (i:Int)≤3;omega⟩,h4⟩
theorem Swg.Ok.DO {S:Swg} (h:S.Ok) {i:Nat} (hi:i<S.nL) {x:Pkt} (hx:x.nq):jM (S.lrL i x).length (fun j=>(S.lrL i x).getD j default):=by
 obtain ⟨h1,h2,h3⟩:=mS h.seen.1 (h.lrn hi hx)
 exact qn h2 h1 h3
theorem Swg.Ok.toR {S:Swg} (h:S.Ok) {i:Nat} (hi:i<S.nL) {x:Pkt} (hx:x.nq):Em (S.lrL i x).length (fun j=>(S.lrL i x).getD j default) x.d S.now (S.toP i x):=by
 refine ⟨fun _ _=>?_,fun hn=>absurd ⟨h.DO hi hx,h.nums.now⟩ hn⟩
 rw [lQ]
 rfl
theorem Swg.Ok.FE {S:Swg} (h:S.Ok) {i:Nat} (hi:i<S.nL) {x:Pkt} (hx:x.nq):-1≤S.toP i x∧S.toP i x≤3:=by
 unfold Swg.toP vG
 obtain ⟨_,_,h3⟩:=mS h.seen.1 (h.lrn hi hx)
 split
 ·
  rename_i hc
  have h4:(0:Int)≤(atM x.d (S.lrL i x)).p∧(atM x.d (S.lrL i x)).p≤3:=(h3 _ (u7 hc.1).1).2.1
  omega
 omega
theorem mo.ogW {w:World} {base:Nat} {v:Value} {A:List Ent} (h:mo w base v A):∃ a c,v=.slice a A.length c∧OG 75 3 w base a A.length c (iM (ig A.length fun i=>A.getD i default)):=by
 rw [lQ]
 rcases h.2 with ⟨e1,e2⟩ | ⟨g,cap,cur,e1,_⟩
 ·
  refine ⟨none,0,by rw [e1,e2],?_⟩
  have h':w.ownsRow base 75 3 v A.length (iM A):=h
  rw [e1] at h'
  show w.ownsRow base 75 3 (.slice none A.length 0) A.length (iM A)
  rw [e2] at h' ⊢
  exact h'
 refine ⟨some ⟨g,0,none⟩,cap,e1,?_⟩
 have h':w.ownsRow base 75 3 v A.length (iM A):=h
 rw [e1] at h'
 exact h'
theorem ir.l3 {w:World} {base:Nat} {P:Swg} {port:Int} {x:Pkt} {aE:Option Addr} {cE:Nat} (h:ir w base P) (he:OG 75 3 w base aE (P.lrL port x).length cE (iM (ig (P.lrL port x).length fun i=>(P.lrL port x).getD i default))):ir w base (P.l3 port x aE cE):=⟨he,h.n,h.k,h.l,h.un⟩
theorem ir.counts {w W:World} {base m:Nat} {P:Swg} {M:Cnt} (h:ir w base P) (hb:Below w.heap.size w W) (hm:w.heap.size≤m) (hbs:base≤w.heap.size) (hM:iG W m M) (nx:Int):ir W base { P with N:=M,nx:=nx }:=by
 refine ⟨h.e.up hb,hM.mono (by omega),h.k.up hb,h.l.up hb,fun x hx hy=>?_⟩
 have h1:=(hM.u.blk x hx).1
 simp only [List.mem_flatMap,List.mem_range] at hy
 obtain ⟨i,hi,hy⟩:=hy
 have h2:=((h.l.ls i hi).blk x hy).2
 omega
theorem ir.lane {w w':World} {base gL gp i:Nat} {P:Swg} {l2:Lng} {cur cp:Array Value} (h:ir w base P) (hi:i<P.nL) (eL:P.aL=some ⟨gL,0,none⟩) (kL:w.heap[gL]?=some (.cells cur 48 (0,0))) (kP:w.heap[gp]?=some (.cells cp 50 (0,0))) (hgp:gp∉ix P.aK) (hn:Fb w w' base gL gp (i*8) cur (P.L i) l2) :
  ir w' base { P with L:=fun k=>if k=i then l2 else P.L k }:=by
 obtain ⟨T,hto,hT⟩:=hn.hit
 have oi:=h.l.ls i hi
 have far:∀ {x:Nat} {cs:Array Value} {t:TypeId},w.heap[x]?=some (.cells cs t (0,0))→t≠48→t≠50→t≠2→t≠27→x∉T:=by
  intro x cs t kx h1 h2 h3 h4 hx
  rcases hT x hx with e | e | e | e
  ·
   exact iK kx kL h1 e
  ·
   exact iK kx kP h2 e
  ·
   obtain ⟨c2,k2⟩:=oi.type2 x e
   exact iK kx k2 h3 rfl
  obtain ⟨c2,k2⟩:=oi.wU x e
  exact iK kx k2 h4 rfl
 refine ⟨h.e.gX hto (fun x hx=>?_),⟨h.n.u.gX hto (fun x hx hy=>?_),h.n.p.gX hto (fun x hx=>?_)⟩,h.k.gX hto (fun x hx hy=>?_),h.l.swap hi eL kL kP hn,fun x hx hy=>?_⟩
 ·
  obtain ⟨cs,k⟩:=h.e.type x hx
  exact far k (by decide) (by decide) (by decide) (by decide)
 ·
  obtain ⟨cs,k⟩:=h.n.u.type x hx
  rcases hT x hy with e | e | e | e
  ·
   exact iK k kL (by decide) e
  ·
   exact iK k kP (by decide) e
  ·
   exact h.un x hx (by simp only [List.mem_flatMap,List.mem_range];exact ⟨i,hi,e⟩)
  obtain ⟨c2,k2⟩:=oi.wU x e
  exact iK k k2 (by decide) rfl
 ·
  obtain ⟨cs,k⟩:=h.n.p.type x hx
  exact far k (by decide) (by decide) (by decide) (by decide)
 ·
  obtain ⟨cs,k⟩:=h.k.type x hx
  rcases hT x hy with e | e | e | e
  ·
   exact iK k kL (by decide) e
  ·
   exact hgp (e▸hx)
  ·
   obtain ⟨c2,k2⟩:=oi.type2 x e
   exact iK k k2 (by decide) rfl
  obtain ⟨c2,k2⟩:=oi.wU x e
  exact iK k k2 (by decide) rfl
 simp only [List.mem_flatMap,List.mem_range] at hy
 obtain ⟨k,hk,hy⟩:=hy
 have hy':x∈(if k=i then l2 else P.L k).jO:=hy
 by_cases e:k=i
 ·
  rw [if_pos e] at hy'
  rcases hn.z x hy' with e1 | e1
  ·
   exact h.un x hx (by simp only [List.mem_flatMap,List.mem_range];exact ⟨i,hi,e1⟩)
  have:=(h.n.u.blk x hx).2
  omega
 rw [if_neg e] at hy'
 exact h.un x hx (by simp only [List.mem_flatMap,List.mem_range];exact ⟨k,hk,hy'⟩)
theorem sY {nx p:Int} {K:Nat→Pkt} {m:Nat} (h:jS nx p m K):∀ {a b:Nat},a≤b→b≤m→iB K a≤iB K b:=by
 intro a b
 induction b with
 | zero =>
  intro h1 _
  have e:a=0:=by omega
  rw [e]
  exact Int.le_refl _
 | succ b ih =>
  intro h1 h2
  by_cases e:a=b+1
  ·
   subst e;exact Int.le_refl _
  have:=ih (by omega) (by omega)
  have hc:=(h.one b (by omega)).2.2.cl
  show iB K a≤iB K b+_
  split <;> omega
theorem nj.lo {n:Nat} {z:Nat→Int} {prio nx p:Int} {m:Nat} {K:Nat→Pkt} (h:nj n z prio m K) (hK:jS nx p m K) (hp:prio≠2):(n:Int)≤iB K m:=by
 have key:∀ k,k≤n→∀ j,j<m→(0<k→(K j).id=z (k-1)∧(K j).p=prio)→(k:Int)≤iB K (j+1):=by
  intro k
  induction k with
  | zero=>intro _ j hj _;have:=(pf hK (j+1) (by omega)).1;omega
  | succ k ih =>
   intro hk j hj e
   obtain ⟨e1,e3⟩:=e (by omega)
   rw [Nat.add_sub_cancel] at e1
   have hc:=(hK.one j hj).2.2.cl
   have hs:iB K (j+1)=iB K j+(K j).cl:=by
    show iB K j+_=_
    rw [if_neg (by rw [e3];exact hp)]
   by_cases h0:k=0
   ·
    have:=(pf hK j (by omega)).1
    omega
   obtain ⟨⟨j',hj',e2,e4⟩,hr⟩:=h (k-1) (by omega)
   have hlt:=(h k (by omega)).2 (by omega)
   have:=ih (by omega) j' hj' (fun _=>⟨e2,e4⟩)
   have hjj:j'<j:=by
    have hu:=nA hK.up j' j
    by_cases c:j'<j
    ·
     exact c
    by_cases c2:j=j'
    ·
     subst c2;omega
    have:=hu (by omega) hj'
    omega
   have:=sY hK (show j'+1≤j by omega) (by omega)
   omega
 by_cases h0:n=0
 ·
  have:=(pf hK m (Nat.le_refl _)).1
  omega
 obtain ⟨⟨j,hj,e,e2⟩,_⟩:=h (n-1) (by omega)
 have h1:=key n (Nat.le_refl _) j hj (fun _=>⟨e,e2⟩)
 have:=sY hK (show j+1≤m by omega) (Nat.le_refl _)
 omega
theorem Swg.Ok.room {S:Swg} (h:S.Ok) {i:Nat} (hi:i<S.nL) {x:Pkt} (hx:x.nq) {k:Nat} (hk:x.p=(k:Int)) (h2:x.p≠2):k<2∧zD (S.L i).R (k:Int) x.cl∧(S.L i).uL k≤1000:=by
 have hl:=h.l i hi
 have hp:=hx.pr
 have hk2:k<2:=by omega
 obtain ⟨z1,z2,_⟩:=hl.z k hk2
 have hlo:=z1.lo h.k (by omega)
 have h5:=h.held.1
 have h6:=h.n.lo
 have h7:=h.n.c.sum
 have h8:=h.n.c.num
 have h9:=h8.c
 have h10:=h8.xo
 have h11:=h8.hd
 have h12:=h8.p
 have h13:1≤S.C.p*(S.C.xo+S.C.hd):=by
  have a1:(1:Int)≤S.C.p:=by omega
  have a2:(1:Int)≤S.C.xo+S.C.hd:=by omega
  calc (1:Int)=1*1:=rfl
   _≤S.C.p*(S.C.xo+S.C.hd):=Int.mul_le_mul a1 a2 (by omega) (by omega)
 have hn:(S.L i).uL k<1000:=by omega
 refine ⟨hk2,⟨hl.r,⟨by omega,by rw [hl.n];omega⟩,hx.cl,?_⟩,by omega⟩
 rw [Int.toNat_natCast,←z2]
 exact hn
theorem B8 {R:Rnd} {c:Nat} {s:Int} (h:zD R (c:Int) s) (a:Option Addr) (k:Nat):(R.push c s a k).Ok:=by
 obtain ⟨ho,hc,hs,hl⟩:=h
 rw [Int.toNat_natCast] at hl
 refine ⟨ho.n,ho.d,ho.s,ho.t,fun i hi=>?_⟩
 obtain ⟨h1,h2,h3⟩:=ho.c i hi
 show si (R.q i) (R.d i) (if i=c then R.L c+1 else R.L i) (fun j=>if i=c then jN (R.L c) s (R.z c) j else R.z i j) (R.begun i)
 by_cases e:i=c
 ·
  subst e
  simp only [if_true]
  refine ⟨h1,⟨by omega,fun j hj=>?_⟩,?_⟩
  ·
   show 1≤jN _ s _ j∧jN _ s _ j≤5
   unfold jN
   split
   ·
    exact hs
   exact h2.2 j (by omega)
  unfold o7 at h3 ⊢
  rw [if_neg (by omega)]
  split at h3
  ·
   rw [h3]
   refine ⟨Int.le_refl _,?_⟩
   split <;> omega
  exact h3
 simp only [if_neg e]
 exact ⟨h1,h2,h3⟩
def zv (K:Nat→Pkt) (n:Nat):Nat→Int
 | 0=>0
 | P+1=>zv K n P+jv K (P:Int) n
theorem vp (K:Nat→Pkt):∀ P,zv K 0 P=0
 | 0=>rfl
 | P+1=>by
  show zv K 0 P+0=0
  rw [vp K P]
  rfl
theorem vq (K:Nat→Pkt) (n:Nat):∀ P:Nat,zv K (n+1) P=zv K n P+if (K n).p=2∧0≤(K n).inn∧(K n).inn<(P:Int) then (K n).cl else 0
 | 0=>by
  show (0:Int)=0+_
  rw [if_neg (fun h=>by have h2:=h.2.1;have h3:=h.2.2;omega)]
  rfl
 | P+1=>by
  have ih:=vq K n P
  show zv K (n+1) P+(jv K (P:Int) n+if (K n).p=2∧(K n).inn=(P:Int) then (K n).cl else 0)=zv K n P+jv K (P:Int) n+_
  rw [ih]
  by_cases h2:(K n).p=2
  ·
   by_cases e:(K n).inn=(P:Int)
   ·
    rw [if_neg (fun h=>by omega),if_pos ⟨h2,e⟩,if_pos ⟨h2,by omega,by omega⟩]
    omega
   by_cases c:0≤(K n).inn∧(K n).inn<(P:Int)
   ·
    rw [if_pos ⟨h2,c⟩,if_neg (fun h=>e h.2),if_pos ⟨h2,c.1,by omega⟩]
    omega
   rw [if_neg (fun h=>c h.2),if_neg (fun h=>e h.2),if_neg (fun h=>c ⟨h.2.1,by omega⟩)]
   omega
  rw [if_neg (fun h=>h2 h.1),if_neg (fun h=>h2 h.1),if_neg (fun h=>h2 h.1)]
  omega
theorem yq {p:Int} {m:Nat} {K:Nat→Pkt} (h:∀ i,i<m→(0≤(K i).inn∧(K i).inn≤p-1)∧(K i).nq) {P:Nat} (hP:(P:Int)=p):∀ n,n≤m→(n:Int)≤zv K n P+iB K n
 | 0,_=>by rw [vp];exact Int.le_refl _
 | n+1,hn=>by
  have ih:=yq h hP n (by omega)
  obtain ⟨o2,o3⟩:=h n (by omega)
  have hc:=o3.cl
  rw [vq]
  show ((n+1:Nat):Int)≤zv K n P+(if (K n).p=2∧0≤(K n).inn∧(K n).inn<(P:Int) then (K n).cl else 0)+(iB K n+if (K n).p=2 then 0 else (K n).cl)
  by_cases e:(K n).p=2
  ·
   rw [if_pos ⟨e,o2.1,by omega⟩,if_pos e]
   omega
  rw [if_neg (fun h=>e h.1),if_neg e]
  omega
theorem Ca {C:Cfg} {N:Cnt} {K:Nat→Pkt} {n P:Nat} (hc:Cnt.Ok C N) (hp:(P:Int)=C.p) (h1:∀ j,j<n→(0≤(K j).inn∧(K j).inn≤C.p-1)∧(K j).nq) (hl:N.lo=iB K n) (hu:∀ q,q<N.nU→N.u q=jv K (q:Int) n):n≤1000:=by
 have h2:=yq h1 hp n (Nat.le_refl _)
 have hn:=hc.c.num.p
 have hs:=hc.c.sum
 have hcc:=hc.c.num.c
 have hlo:=hc.lo
 have hnU:=hc.nU
 have hq:∀ q,q<P→jv K (q:Int) n≤C.xo+C.hd:=fun q hq=>by rw [←hu q (by omega)];exact (hc.u q (by omega)).2
 have:P=2∨P=3∨P=4:=by omega
 rcases this with rfl | rfl | rfl
 ·
  have a:=hq 0 (by omega)
  have b:=hq 1 (by omega)
  have e:zv K n 2=0+jv K ((0:Nat):Int) n+jv K ((1:Nat):Int) n:=rfl
  have hp2:C.p=2:=by omega
  rw [hp2] at hs
  omega
 ·
  have a:=hq 0 (by omega)
  have b:=hq 1 (by omega)
  have c:=hq 2 (by omega)
  have e:zv K n 3=0+jv K ((0:Nat):Int) n+jv K ((1:Nat):Int) n+jv K ((2:Nat):Int) n:=rfl
  have hp2:C.p=3:=by omega
  rw [hp2] at hs
  omega
 have a:=hq 0 (by omega)
 have b:=hq 1 (by omega)
 have c:=hq 2 (by omega)
 have d:=hq 3 (by omega)
 have e:zv K n 4=0+jv K ((0:Nat):Int) n+jv K ((1:Nat):Int) n+jv K ((2:Nat):Int) n+jv K ((3:Nat):Int) n:=rfl
 have hp2:C.p=4:=by omega
 rw [hp2] at hs
 omega
theorem Ae {z z':Nat→Int} {y:Int}:∀ n,(∀ i,i<n→z i=z' i)→occ z y n=occ z' y n
 | 0,_=>rfl
 | n+1,h=>by
  show occ z y n+_=occ z' y n+_
  rw [Ae n (fun i hi=>h i (by omega)),h n (by omega)]
theorem pq {n j:Nat} {v:Int} {z:Nat→Int} (h:j<n):jN n v z j=z j:=if_neg (by omega)
theorem pV {n:Nat} {v:Int} {z:Nat→Int}:jN n v z n=v:=if_pos rfl
theorem uq (z:Nat→Int) (n:Nat) (v y:Int):occ (jN n v z) y (n+1)=occ z y n+if v=y then 1 else 0:=by
 show occ (jN n v z) y n+(if jN n v z n=y then 1 else 0)=_
 rw [Ae (z':=z) n (fun i hi=>pq hi),pV]
theorem pv {l:Lng} (h:l.nU=2) (y:Int):l.tf y=occ l.t y l.nT+(0+occ (l.uz 0) y (l.uL 0)+occ (l.uz 1) y (l.uL 1)):=by
 unfold Lng.tf
 rw [h]
 rfl
theorem Bw {l:Lng} (hu:l.nU=2) {p:Int} (hp:0≤p∧p≤2) (id cl y:Int):(l.wait p id cl).tf y=l.tf y+if id=y then 1 else 0:=by
 have hw:(l.wait p id cl).nU=2:=by unfold Lng.wait;split <;> exact hu
 rw [pv hw,pv hu]
 unfold Lng.wait
 by_cases e:p=2
 ·
  rw [if_pos e]
  show occ (jN l.nT id l.t) y (l.nT+1)+(0+occ (l.uz 0) y (l.uL 0)+occ (l.uz 1) y (l.uL 1))=_
  rw [uq]
  omega
 rw [if_neg e]
 have hk:p.toNat=0∨p.toNat=1:=by omega
 show occ l.t y l.nT+(0+occ (fun j=>if 0=p.toNat then jN (l.uL p.toNat) id (l.uz p.toNat) j else l.uz 0 j) y (if 0=p.toNat then l.uL p.toNat+1 else l.uL 0)+occ (fun j=>if 1=p.toNat then jN (l.uL p.toNat) id (l.uz p.toNat) j else l.uz 1 j) y (if 1=p.toNat then l.uL p.toNat+1 else l.uL 1))=_
 rcases hk with h | h
 ·
  rw [h]
  simp only [if_true,show ¬ (1=0) by omega,if_false]
  have:=uq (l.uz 0) (l.uL 0) id y
  show occ l.t y l.nT+(0+occ (jN (l.uL 0) id (l.uz 0)) y (l.uL 0+1)+occ (l.uz 1) y (l.uL 1))=_
  omega
 rw [h]
 simp only [if_true,show ¬ (0=1) by omega,if_false]
 have:=uq (l.uz 1) (l.uL 1) id y
 show occ l.t y l.nT+(0+occ (l.uz 0) y (l.uL 0)+occ (jN (l.uL 1) id (l.uz 1)) y (l.uL 1+1))=_
 omega
structure zr (m:Nat) (K K':Nat→Pkt) (id p cl:Int):Prop where
 same:∀ j,j<m→K' j=K j
 nid:(K' m).id=id
 np:(K' m).p=p
 ncl:(K' m).cl=cl
 lt:∀ j,j<m→(K j).id<id
theorem nj.more {n m:Nat} {z:Nat→Int} {prio id p cl:Int} {K K':Nat→Pkt} (h:nj n z prio m K) (hk:zr m K K' id p cl):nj n z prio (m+1) K':=fun i hi=>by
 obtain ⟨⟨j,j1,j2,j3⟩,h2⟩:=h i hi
 exact ⟨⟨j,by omega,by rw [hk.same j j1];exact j2,by rw [hk.same j j1];exact j3⟩,h2⟩
theorem nj.lt {n m:Nat} {z:Nat→Int} {prio id p cl:Int} {K K':Nat→Pkt} (h:nj n z prio m K) (hk:zr m K K' id p cl):∀ i,i<n→z i<id:=fun i hi=>by
 obtain ⟨⟨j,j1,j2,j3⟩,h2⟩:=h i hi
 rw [←j2]
 exact hk.lt j j1
theorem nj.push {n m:Nat} {z:Nat→Int} {id p cl:Int} {K K':Nat→Pkt} (h:nj n z p m K) (hk:zr m K K' id p cl):nj (n+1) (jN n id z) p (m+1) K':=fun i hi=>by
 by_cases e:i=n
 ·
  subst e
  rw [pV]
  refine ⟨⟨m,by omega,hk.nid,hk.np⟩,fun h0=>?_⟩
  rw [pq (by omega)]
  exact h.lt hk (i-1) (by omega)
 obtain ⟨h1,h2⟩:=h.more hk i (by omega)
 rw [pq (by omega)]
 exact ⟨h1,fun h0=>by rw [pq (by omega)];exact h2 h0⟩
theorem lB.more {m:Nat} {K K':Nat→Pkt} {l:Lng} {id p cl:Int} (h:lB m K l) (hk:zr m K K' id p cl):lB (m+1) K' l:=by
 refine ⟨h.r,h.n,h.q0,h.q1,h.u,fun c hc=>⟨(h.z c hc).1.more hk,(h.z c hc).2.1,fun i hi j hj e=>?_⟩,h.t.more hk⟩
 by_cases c2:j=m
 ·
  subst c2
  rw [hk.nid] at e
  have:=(h.z c hc).1.lt hk i hi
  omega
 rw [hk.same j (by omega)] at e ⊢
 exact (h.z c hc).2.2 i hi j (by omega) e
theorem lB.wait {m:Nat} {K K':Nat→Pkt} {l:Lng} {id p cl:Int} (h:lB m K l) (hk:zr m K K' id p cl) (hp:0≤p∧p≤2) (hr:∀ c:Nat,p=(c:Int)→p≠2→zD l.R (c:Int) cl):lB (m+1) K' (l.wait p id cl):=by
 have hm:=h.more hk
 unfold Lng.wait
 by_cases e:p=2
 ·
  rw [if_pos e]
  subst e
  exact ⟨h.r,h.n,h.q0,h.q1,h.u,hm.z,h.t.push hk⟩
 rw [if_neg e]
 obtain ⟨c,rfl⟩:∃ c:Nat,p=(c:Int):=⟨p.toNat,by omega⟩
 rw [Int.toNat_natCast]
 refine ⟨B8 (hr c rfl e) _ _,h.n,h.q0,h.q1,h.u,fun d hd=>?_,hm.t⟩
 obtain ⟨z1,z2,z3⟩:=h.z d hd
 show nj (if d=c then l.uL c+1 else l.uL d) (fun j=>if d=c then jN (l.uL c) id (l.uz c) j else l.uz d j) (d:Int) (m+1) K'∧(if d=c then l.uL c+1 else l.uL d)=(if d=c then l.R.L c+1 else l.R.L d)∧∀ i,i<(if d=c then l.uL c+1 else l.uL d)→∀ j,j<m+1→(K' j).id=(if d=c then jN (l.uL c) id (l.uz c) i else l.uz d i)→(if d=c then jN (l.R.L c) cl (l.R.z c) i else l.R.z d i)=(K' j).cl
 by_cases ed:d=c
 ·
  subst ed
  simp only [if_true]
  refine ⟨z1.push hk,by rw [z2],fun i hi j hj ej=>?_⟩
  rw [←z2]
  by_cases ei:i=l.uL d
  ·
   subst ei
   rw [pV] at ej ⊢
   by_cases c2:j=m
   ·
    subst c2
    exact hk.ncl.symm
   rw [hk.same j (by omega)] at ej
   have:=hk.lt j (by omega)
   omega
  rw [pq (by omega)] at ej ⊢
  exact (hm.z d hd).2.2 i (by omega) j hj ej
 simp only [if_neg ed]
 exact ⟨z1.more hk,z2,(hm.z d hd).2.2⟩
theorem te {S:Swg} {port dst:Int} {x:Pkt} (hx:0≤x.p∧x.p≤2) (hu:∀ i,i<S.nL→(S.L i).nU=2) (y:Int):∀ n,n≤S.nL→lr (S.jG port dst x S.nL) y n=lr S.L y n+if S.nx=y then mH dst port n else 0
 | 0,_=>by
  show 0=0+_
  split <;> rfl
 | n+1,hn=>by
  have ih:=te (port:=port) (dst:=dst) hx hu y n (by omega)
  show lr (S.jG port dst x S.nL) y n+(S.jG port dst x S.nL n).tf y=lr S.L y n+(S.L n).tf y+if S.nx=y then mH dst port n+(if jx n dst port=true then 1 else 0) else 0
  rw [ih]
  have e:(S.jG port dst x S.nL n).tf y=(S.L n).tf y+if jx (n:Int) dst port=true then (if S.nx=y then 1 else 0) else 0:=by
   unfold Swg.jG
   by_cases hb:jx (n:Int) dst port=true
   ·
    rw [if_pos (show n<S.nL∧jx (n:Int) dst port=true from ⟨by omega,hb⟩),Bw (hu n (by omega)) hx,if_pos hb]
   rw [if_neg (fun h:n<S.nL∧jx (n:Int) dst port=true=>hb h.2),if_neg hb]
   rfl
  rw [e]
  by_cases h1:S.nx=y
  ·
   simp only [if_pos h1]
   omega
  simp only [if_neg h1]
  split <;> omega
theorem ur {z:Nat→Int} {y:Int} {n:Nat} (h:∀ i,i<n→z i<y):occ z y n=0:=by
 by_cases h0:0<occ z y n
 ·
  obtain ⟨i,hi,e⟩:=rz.1 h0
  have:=h i hi
  omega
 omega
theorem vO {L:Nat→Lng} {y:Int}:∀ n,(∀ i,i<n→(L i).tf y=0)→lr L y n=0
 | 0,_=>rfl
 | n+1,h=>by
  show lr L y n+(L n).tf y=0
  rw [vO n (fun i hi=>h i (by omega)),h n (by omega)]
theorem Cz {dst src:Int} {n:Nat} (hs:0≤src∧src<n) (hn:2≤n) (hd:dst≠src) (hr:dst=-1∨0≤dst∧dst<n):1≤mH dst src n:=by
 have key:∀ m k:Nat,k<m→jx (k:Int) dst src=true→1≤mH dst src m:=by
  intro m
  induction m with
  | zero=>intro k hk;omega
  | succ m ih =>
   intro k hk hb
   show 1≤mH dst src m+_
   by_cases e:k=m
   ·
    subst e
    rw [if_pos hb]
    omega
   have:=ih k (by omega) hb
   omega
 rcases hr with h | h
 ·
  by_cases c:src=0
  ·
   exact key n 1 (by omega) (by unfold jx;rw [if_pos h];simp;omega)
  exact key n 0 (by omega) (by unfold jx;rw [if_pos h];simp;omega)
 exact key n dst.toNat (by omega) (by unfold jx;rw [if_neg (by omega)];simp;omega)
theorem DP {S:Swg} {port:Int} {x:Pkt} {y:Ent} (h:y∈S.lrL port x):y=⟨x.s,port,S.now⟩∨y∈ig S.nE S.e:=by
 unfold Swg.lrL jr at h
 split at h
 ·
  rcases oa.1 h with e | e
  ·
   exact .inl e
  exact .inr ((jY _ _).subset ((jY _ _).subset e))
 rcases oa.1 h with e | e
 ·
  exact .inl e
 exact .inr ((jY _ _).subset e)
theorem uW {n:Nat} {f:Nat→Ent} {y:Ent} (h:y∈ig n f):∃ i,i<n∧f i=y:=by
 unfold ig at h
 simpa using h
theorem Swg.Ok.FJ {S:Swg} (h:S.Ok) {i:Nat} (hi:i<S.nL) {x:Pkt}:∀ y∈S.lrL i x,y.p<S.C.p∧y.t≤S.now:=fun y hy=>by
 rcases DP hy with rfl | hy
 ·
  have:=h.nl
  exact ⟨by show (i:Int)<_;omega,Int.le_refl _⟩
 obtain ⟨j,hj,rfl⟩:=uW hy
 exact h.seen.2 j hj
theorem Swg.Ok.toLt {S:Swg} (h:S.Ok) {i:Nat} (hi:i<S.nL) {x:Pkt} (hx:x.nq):S.toP i x=-1∨0≤S.toP i x∧S.toP i x<S.C.p:=by
 have h0:=(h.FE hi hx).1
 unfold Swg.toP vG at h0 ⊢
 split
 ·
  rename_i hc
  have:=(h.FJ hi _ (u7 hc.1).1).1
  rw [if_pos hc] at h0
  by_cases e:(atM x.d (S.lrL i x)).p=-1
  ·
   exact .inl e
  exact .inr ⟨by omega,this⟩
 exact .inl rfl
theorem Swg.Ok.l3 {S:Swg} (h:S.Ok) {i:Nat} (hi:i<S.nL) {x:Pkt} (hx:x.nq) (a:Option Addr) (c:Nat):(S.l3 i x a c).Ok:=by
 refine ⟨h.n,⟨h.nums.now,h.nums.nx,h.nums.dr,h.nums.lst⟩,⟨h.DO hi hx,fun j hj=>?_⟩,h.k,h.nl,h.l,h.refs,h.held⟩
 have hj':j<(S.lrL i x).length:=hj
 show ((S.lrL i x).getD j default).p<S.C.p∧((S.lrL i x).getD j default).t≤S.now
 have e:(S.lrL i x).getD j default=(S.lrL i x)[j]:=by simp [List.getD_eq_getElem?_getD,hj']
 rw [e]
 exact h.FJ hi _ (List.getElem_mem hj')
theorem Swg.Ok.oK {S:Swg} (h:S.Ok) (p:Int):(S.oK p).Ok:=by
 have h1:=h.nums.lst
 have h2:=h.nums.dr
 unfold Swg.oK
 split
 ·
  exact ⟨h.n,⟨h.nums.now,h.nums.nx,h.nums.dr,by show 0≤min (S.lst+1) 1000000000∧min (S.lst+1) 1000000000≤1000000000;omega⟩,h.seen,h.k,h.nl,h.l,h.refs,h.held⟩
 exact ⟨h.n,⟨h.nums.now,h.nums.nx,by show 0≤min (S.dr+1) 1000000000∧min (S.dr+1) 1000000000≤1000000000;omega,h.nums.lst⟩,h.seen,h.k,h.nl,h.l,h.refs,h.held⟩
theorem Swg.Ok.stop {S:Swg} (h:S.Ok) {i:Nat} (hi:i<S.nL) (b:Bool):(S.stop i b).Ok:=by
 refine ⟨h.n,⟨h.nums.now,h.nums.nx,h.nums.dr,h.nums.lst⟩,h.seen,h.k,h.nl,fun k hk=>?_,fun j hj=>?_,h.held⟩
 ·
  show lB S.nK S.K (if k=i then ({ S.L i with st:=b }:Lng) else S.L k)
  have hl:=h.l i hi
  split
  ·
   exact ⟨hl.r,hl.n,hl.q0,hl.q1,hl.u,hl.z,hl.t⟩
  exact h.l k hk
 have h1:=h.refs j hj
 have hu:=(h.l i hi).u
 have h2:=rA S.L i { S.L i with st:=b } (S.K j).id 0 (by rw [Nat.add_zero,pv (l:={ S.L i with st:=b }) hu,pv hu]) S.nL
 show 1≤(S.K j).refs∧(S.K j).refs=((lr (fun k=>if k=i then ({ S.L i with st:=b }:Lng) else S.L k) (S.K j).id S.nL:Nat):Int)
 rw [show lr (fun k=>if k=i then ({ S.L i with st:=b }:Lng) else S.L k) (S.K j).id S.nL=lr S.L (S.K j).id S.nL by
  have e:(if i<S.nL then 0 else 0)=0:=by split <;> rfl
  rw [e] at h2
  exact h2]
 exact h1
theorem Swg.Ok.waits {S:Swg} (h:S.Ok) {i:Nat} (hi:i<S.nL) {x:Pkt} (hx:x.nq) {dst:Int} (hd:dst≠i) (hr:dst=-1∨0≤dst∧dst<S.C.p) (hn:Cnt.Ok S.C (kW S.N i x.p x.cl)) (hnx:S.nx≠1000000000):(S.waits i x dst).Ok:=by
 have hpr:=hx.pr
 have hnl:=h.nl
 have hp4:=h.n.c.num.p
 have hnx1:=h.nums.nx
 obtain ⟨K',eK⟩:∃ K',(fun j=>if j=S.nK then S.pkt i x (mH dst i S.nL) else S.K j)=K':=⟨_,rfl⟩
 have hK:zr S.nK S.K K' S.nx x.p x.cl:=by
  subst eK
  refine ⟨fun j hj=>if_neg (by omega),?_,?_,?_,fun j hj=>?_⟩
  ·
   show (if S.nK=S.nK then S.pkt i x (mH dst i S.nL) else S.K S.nK).id=S.nx
   rw [if_pos rfl];rfl
  ·
   show (if S.nK=S.nK then S.pkt i x (mH dst i S.nL) else S.K S.nK).p=x.p
   rw [if_pos rfl];rfl
  ·
   show (if S.nK=S.nK then S.pkt i x (mH dst i S.nL) else S.K S.nK).cl=x.cl
   rw [if_pos rfl];rfl
  have:=(h.k.one j hj).1.2
  omega
 have hKi:(K' S.nK).inn=(i:Int)∧(K' S.nK).nq∧(K' S.nK).refs=((mH dst i S.nL:Nat):Int):=by
  subst eK
  show (if S.nK=S.nK then S.pkt i x (mH dst i S.nL) else S.K S.nK).inn=_∧(if S.nK=S.nK then S.pkt i x (mH dst i S.nL) else S.K S.nK).nq∧(if S.nK=S.nK then S.pkt i x (mH dst i S.nL) else S.K S.nK).refs=_
  rw [if_pos rfl]
  exact ⟨rfl,hx,rfl⟩
 have hone:∀ j,j<S.nK+1→(1≤(K' j).id∧(K' j).id≤S.nx+1-1)∧(0≤(K' j).inn∧(K' j).inn≤S.C.p-1)∧(K' j).nq:=fun j hj=>by
  by_cases e:j=S.nK
  ·
   subst e
   rw [hK.nid,hKi.1]
   exact ⟨by omega,by omega,hKi.2.1⟩
  rw [hK.same j (by omega)]
  obtain ⟨a,b,c⟩:=h.k.one j (by omega)
  exact ⟨by omega,b,c⟩
 have hsl:iB K' (S.nK+1)=iB S.K S.nK+if x.p=2 then 0 else x.cl:=by
  show iB K' S.nK+(if (K' S.nK).p=2 then 0 else (K' S.nK).cl)=_
  rw [pT (K':=S.K) S.nK (fun j hj=>hK.same j hj),hK.np,hK.ncl]
 have hsu:∀ q:Int,jv K' q (S.nK+1)=jv S.K q S.nK+if x.p=2∧(i:Int)=q then x.cl else 0:=fun q=>by
  show jv K' q S.nK+(if (K' S.nK).p=2∧(K' S.nK).inn=q then (K' S.nK).cl else 0)=_
  rw [ri (K':=S.K) S.nK (fun j hj=>hK.same j hj),hK.np,hK.ncl,hKi.1]
 have hN:(kW S.N (i:Int) x.p x.cl).lo=iB K' (S.nK+1)∧∀ q,q<(kW S.N (i:Int) x.p x.cl).nU→(kW S.N (i:Int) x.p x.cl).u q=jv K' (q:Int) (S.nK+1):=by
  rw [hsl]
  by_cases e:x.p=2
  ·
   rw [e,nX]
   refine ⟨by rw [if_pos rfl,Int.add_zero];exact h.held.1,fun q hq=>?_⟩
   have hq':q<S.N.nU:=hq
   rw [hsu,e]
   show (if q=i then S.N.u q+x.cl else S.N.u q)=_
   have:=h.held.2 q hq'
   by_cases c:q=i
   ·
    rw [if_pos c,if_pos ⟨rfl,by omega⟩];omega
   rw [if_neg c,if_neg (fun hh=>c (by omega))];omega
  rw [mF e,if_neg e]
  refine ⟨by show S.N.lo+x.cl=_;have:=h.held.1;omega,fun q hq=>?_⟩
  rw [hsu,if_neg (fun hh=>e hh.1),Int.add_zero]
  exact h.held.2 q hq
 have hle:=Ca hn hnl (fun j hj=>(hone j hj).2) hN.1 hN.2
 have hlw:∀ k,k<S.nL→lB (S.nK+1) K' (S.jG i dst x S.nL k):=fun k hk=>by
  unfold Swg.jG
  split
  ·
   exact (h.l k hk).wait hK hpr (fun c hc h2=>(h.room hk hx hc h2).2.1)
  exact (h.l k hk).more hK
 have hshow:(S.waits i x dst)={ S with N:=kW S.N i x.p x.cl,nx:=S.nx+1,nK:=S.nK+1,K:=K',L:=S.jG i dst x S.nL }:=by rw [←eK];rfl
 rw [hshow]
 refine ⟨hn,⟨h.nums.now,by show 1≤S.nx+1∧S.nx+1≤1000000000;omega,h.nums.dr,h.nums.lst⟩,h.seen,⟨hle,hone,fun j hj h0=>?_⟩,h.nl,hlw,fun j hj=>?_,hN⟩
 ·
  show (K' (j-1)).id<(K' j).id
  have hj':j<S.nK+1:=hj
  rw [hK.same (j-1) (by omega)]
  by_cases e:j=S.nK
  ·
   subst e
   rw [hK.nid]
   exact hK.lt _ (by omega)
  rw [hK.same j (by omega)]
  exact h.k.up j (by omega) h0
 have hj':j<S.nK+1:=hj
 show 1≤(K' j).refs∧(K' j).refs=((lr (S.jG i dst x S.nL) (K' j).id S.nL:Nat):Int)
 rw [te hpr (fun k hk=>(h.l k hk).u) _ S.nL (Nat.le_refl _)]
 by_cases e:j=S.nK
 ·
  subst e
  have hno:lr S.L S.nx S.nL=0:=vO S.nL (fun k hk=>by
   have hl:=h.l k hk
   rw [pv hl.u,ur (hl.t.lt hK),ur ((hl.z 0 (by omega)).1.lt hK),ur ((hl.z 1 (by omega)).1.lt hK)])
  have h1:=Cz (dst:=dst) (src:=(i:Int)) (n:=S.nL) (by omega) (by omega) hd (by omega)
  rw [hKi.2.2,hK.nid,hno,if_pos rfl]
  omega
 rw [hK.same j (by omega),if_neg (by have:=hK.lt j (by omega);omega)]
 exact h.refs j (by omega)
theorem zu.ok {S S':Swg} {port:Int} {x:Pkt} {code:Int} (h:S.Ok) (hm:zu S S' port x code):S'.Ok:=by
 rcases hm with ⟨hn,_⟩ | ⟨_,_,rfl,_⟩ | ⟨_,hfr,i,rfl,hi,hm⟩
 ·
  exact absurd h hn
 ·
  exact h
 rcases hm with ⟨_,rfl,_⟩ | ⟨hk,hm⟩
 ·
  exact h.stop hi _
 have hx:x.nq:=⟨hk,hfr⟩
 have hL:=h.l3 hi hx none 0
 rcases hm with ⟨_,rfl,_⟩ | ⟨_,_,rfl,_⟩ | ⟨h1,h2,h3,rfl,_⟩
 ·
  exact hL
 ·
  exact hL.oK _
 exact hL.waits (S:=S.l3 i x none 0) hi hx h1 (h.toLt hi hx) h2 h3
theorem zi {R:Rnd} {aq ad av:Option Addr} {cq cd cv:Nat} {A:Nat→Option Addr} {C:Nat→Nat}:Alike R (R.cp2 aq cq ad cd av cv A C):=⟨rfl,rfl,rfl,rfl,rfl,rfl,rfl,rfl,rfl⟩
theorem Be {V:World} {a:Option Addr} {n c:Nat} {f:Nat→Int} (hn:n≤1048576) (hr:iq V a n fun i=>.int .i64 (f i)) :
  ∃ a' c' W',(Builtin.append_ #[27,27] 27 #[.slice (some ⟨V.heap.size,0,none⟩) 0 0,.slice a n c]).run Tryz.prog (V.alloc (.cells #[] 2))=.ok (.slice a' n c') W'∧OI W' V.heap.size a' n c' f∧Below V.heap.size V W':=by
 have hA:Below V.heap.size V (V.alloc (.cells #[] 2)):=(Below.refl _ _).alloc (Nat.le_refl _) _
 have hm:(V.alloc (.cells #[] 2)).ownsRow V.heap.size 2 1 (.slice (some ⟨V.heap.size,0,none⟩) 0 0) 0 []:=World.ownsRow_made V #[] 0 (Nat.le_refl _) (Nat.zero_le _) rfl
 obtain ⟨a',c',W',h1,h2,h3,_⟩:=nW (c:=c) hm (by simp) hn (hr.up hA)
 exact ⟨a',c',W',h1,h2,hA.grown h3 (by simp) (fun k e=>by simp [Value.ownBlock] at e;omega)⟩
theorem Ed {V X:World} {base gB:Nat} {l:Lng} {aT aq ad av:Option Addr} {cT cq cd cv:Nat} {A:Nat→Option Addr} {C:Nat→Nat} {cur:Array Value} (oT:OI V base aT l.nT cT l.t) (oR:jw V base (l.R.cp2 aq cq ad cd av cv A C)) (hTR:∀ x∈ix aT,x∉(l.R.cp2 aq cq ad cd av cv A C).jO)
  (kB:V.heap[gB]?=some (.cells cur 48 (0,0))) (hP:Put V X gB (Lng.cells ⟨l.st,aT,l.nT,cT,l.t,none,0,0,fun _=>none,l.uL,fun _=>0,l.uz,l.R.cp2 aq cq ad cd av cv A C⟩) 48):CpL base gB l ⟨l.st,aT,l.nT,cT,l.t,none,0,0,fun _=>none,l.uL,fun _=>0,l.uz,l.R.cp2 aq cq ad cd av cv A C⟩ X:=by
 have h1:iw V base ⟨l.st,aT,l.nT,cT,l.t,none,0,0,fun _=>none,l.uL,fun _=>0,l.uz,l.R.cp2 aq cq ad cd av cv A C⟩:=by
  refine ⟨oT,OG.nil _ _ _ _,fun i hi=>absurd hi (Nat.not_lt_zero _),oR,?_,fun x hx hy=>by simp [ix] at hy⟩
  show ((ix aT++_)++[]).Nodup
  rw [List.append_nil]
  exact List.nodup_append.2 ⟨lj _,oR.nd,fun x hx y hy e=>hTR x hx (e▸hy)⟩
 exact ⟨h1.box kB (by decide) (by decide) hP.to,hP.blk,rfl,rfl,rfl,rfl,rfl,zi⟩
theorem sI (l:Lng) (w:World) (hs:l.Small) (h:tH w l) :
  Calls Tryz.prog 100 #[.agg l.cells] w fun e w'=>∃ l2,e=.returned (.agg l2.cells)∧iC l l2∧iw w' w.heap.size l2∧Below w.heap.size w w':=by
 have HR:Hid (tH w l):=h
 have HS:Hid l.Small:=hs
 obtain ⟨W,eW⟩:∃ W,(w.alloc (.cells l.cells 48)).alloc (.cells #[.bool false,.slice none 0 0,.slice none 0 0,.slice none 0 0,.slice none 0 0,.int .i64 0,.bool false,.slice none 0 0] 48)=W:=⟨_,rfl⟩
 have HX:Hid (Two w l.cells jJ 48 W):=by rw [←eW];exact Two.start _ _ _ _
 clear h hs
 go_enter Tryz.func100,Tryz.ntmps100
 go_wp2_with fail
 clear eW
 go_cut [3] (fun v wc=>Fc w l v wc)
 case first =>
  replace HX:Hid (Two w l.cells jJ 48 W.drew):=HX.out.up ((Below.refl _ _).drew)
  have hz0:w.heap.size+1<W.drew.heap.size:=gO HX.out.b
  refine iV (fun w'=>w'.heap[w.heap.size]?=some (.cells l.cells 48 (0,0))) 11 (by kernel_rfl) ?_
  generalize W.drew=V at *
  have hT0:=HX.out.a
  refine tE 0 5 hT0 ?_
  refine ka (i:=1) (some 6) (v:=?_) ?_ hT0 ?_
  rotate_left
  ·
   intro wx hSw
   have c0:wx.cell? ⟨w.heap.size,0,none⟩=some (.bool l.st):=gM hSw 0
   exact du
  try simp only [Act.put,PZ]
  refine tE 3 8 hT0 ?_
  refine ka (i:=4) (some 9) (v:=?_) ?_ hT0 ?_
  rotate_left
  ·
   intro wx hSw
   have c1:wx.cell? ⟨w.heap.size,1,none⟩=some (.slice l.aT l.nT l.cT):=gM hSw 1
   exact du
  try simp only [Act.put,PZ]
  refine tE 6 11 hT0 ?_
  refine ka (i:=7) (some 12) (v:=.agg l.R.cells) ?_ hT0 ?_
  ·
   intro wx hSw
   exact jn 46 5 _ Tryz.underlying46 rfl AF (.tmp 11) rfl w.heap.size 3 rfl l.R.cells rfl (fun j hj=>rdR hSw j hj)
  try simp only [Act.put,PZ]
  refine gT (rs:=[2,10]) (by kernel_rfl) (by simp) ?_
  refine gR.cons rfl (fun K hK=>?_) (gR.cons rfl (fun K hK=>?_) gR.nil)
  ·
   obtain ⟨X1,eV⟩:∃ X,V.alloc (.cells #[] 2)=X:=⟨_,rfl⟩
   have hb:Below V.heap.size V X1:=by rw [←eV];exact (Below.refl _ _).alloc (Nat.le_refl _) _
   have oE:OG 2 1 X1 w.heap.size (some ⟨V.heap.size,0,none⟩) 0 0 []:=by rw [←eV];exact World.ownsRow_made V #[] 0 HX.out.bel.size (Nat.zero_le _) rfl
   go_simp
   clear eV
   replace HX:Hid (Two w l.cells jJ 48 X1):=HX.out.up hb
   replace hT0:=HX.out.a
   clear hb
   obtain ⟨gE,eE⟩:∃ g,V.heap.size=g:=⟨_,rfl⟩
   rw [eE] at oE ⊢
   refine hK.out _ _ hT0 ?_
   clear hK K
   try simp only [Act.put,PZ]
   refine gT (rs:=[5,10]) (by kernel_rfl) (by simp) ?_
   refine gR.cons rfl (fun K hK=>?_) (gR.cons rfl (fun K hK=>?_) gR.nil)
   ·
    obtain ⟨aT,cT,X2,hr,oT,hgr,_⟩:=nW (c:=l.cT) oE HX.out.bel.size HS.out.t (HR.out.t.up HX.out.bel)
    have hgt:Touch [gE] X1 X2:=Touch.rv (v:=.slice (some ⟨gE,0,none⟩) 0 0) hgr
    have lE:=(OG.blk oE gE (by simp [ix])).1
    have hne:=OG.lF oE (by decide) HX.out.a
    have hne2:=OG.lF oE (by decide) HX.out.b
    refine k9 (by kernel_rfl) (some 10) rfl (.tmp 7) (.tmp 9) 27 _ _ _ rfl rfl rfl rfl hr ?_
    replace HX:Hid (Two w l.cells jJ 48 X2):=⟨(hgt.block _ (gO HX.out.a) (by simpa [ix] using hne)).trans HX.out.a,(hgt.block _ (gO HX.out.b) (by simpa [ix] using hne2)).trans HX.out.b,HX.out.bel.trans (hgt.below HX.out.bel.size (fun x hx=>by simp at hx;omega))⟩
    replace hT0:=HX.out.a
    clear hr hgr hgt hne hne2 lE oE
    refine hK.out _ _ hT0 ?_
    clear hK K
    try simp only [Act.put,PZ]
    refine gT (rs:=[8,10]) (by kernel_rfl) (by simp) ?_
    refine gR.cons rfl (fun K hK=>?_) (gR.cons rfl (fun K hK=>?_) gR.nil)
    ·
     go_simp
     refine (lg l.R _ HS.out.r (HR.out.r.up HX.out.bel)).mono ?_
     rintro e X3 ⟨aq,cq,ad,cd,av,cv,A,C,rfl,oR,hb⟩
     have hTR:∀ x∈ix aT,x∉(l.R.cp2 aq cq ad cd av cv A C).jO:=fun x hx hy=>by have:=(OI.blk oT x hx).2;have:=(oR.blk x hy).1;omega
     replace oR:=oR.uw (base':=w.heap.size) HX.out.bel.size
     replace HX:Hid (Two w l.cells jJ 48 X3):=HX.out.up hb
     replace hT0:=HX.out.a
     replace oT:=oT.up hb
     clear hb
     dsimp only [Rnd.cells,Rnd.cp2]
     go_wp2_with fail
     refine hK.out _ _ hT0 ?_
     clear hK K
     try simp only [Act.put,PZ]
     refine tE 9 14 hT0 ?_
     refine gT (rs:=[10]) (by kernel_rfl) (by simp) ?_
     refine gR.cons rfl (fun K hK=>?_) gR.nil
     obtain ⟨X4,eV⟩:∃ X,X3.alloc (.cells #[.bool false,.slice none 0 0,.slice none 0 0,.slice none 0 0,.slice none 0 0,.int .i64 0,.bool false,.slice none 0 0] 48)=X:=⟨_,rfl⟩
     have hb:Below X3.heap.size X3 X4:=by rw [←eV];exact (Below.refl _ _).alloc (Nat.le_refl _) _
     have kB:X4.heap[X3.heap.size]?=some (.cells #[.bool false,.slice none 0 0,.slice none 0 0,.slice none 0 0,.slice none 0 0,.int .i64 0,.bool false,.slice none 0 0] 48 (0,0)):=by rw [←eV];exact gV _ _
     have hgB:w.heap.size+1<X3.heap.size:=gO HX.out.b
     go_simp
     clear eV
     replace HX:Hid (Two w l.cells jJ 48 X4):=HX.out.up hb
     replace hT0:=HX.out.a
     replace oT:=oT.up hb
     replace oR:=oR.upZ hb
     clear hb
     obtain ⟨gB,eB⟩:∃ g,X3.heap.size=g:=⟨_,rfl⟩
     rw [eB] at kB hgB ⊢
     refine hK.out _ _ hT0 ?_
     clear hK K
     try simp only [Act.put,PZ]
     refine gT (rs:=[11]) (by kernel_rfl) (by simp) ?_
     refine gR.last rfl (fun K hK=>?_)
     refine jP (by kernel_rfl) none rfl 48 (.tmp 3) (.tmp 14) rfl gB 0 rfl (.agg #[.bool l.st,.slice aT l.nT cT,.slice none 0 0,.slice aq l.R.nQ cq,.slice ad l.R.nD cd,.int .i64 l.R.turn,.bool l.R.fresh,.slice av l.R.nS cv]) rfl 8 rfl 48 _ kB jR (Nat.le_of_ble_eq_true rfl) (by simp [Value.cells,Value.oneCell']) ?_
     intro X hP
     refine hK.out _ _ ?_
     clear hK K
     try simp only [Act.put,PZ]
     refine iH (by kernel_rfl) ?_ _
     obtain ⟨p,ep⟩:∃ p,(⟨l.st,aT,l.nT,cT,l.t,none,0,0,fun _=>none,l.uL,fun _=>0,l.uz,l.R.cp2 aq cq ad cd av cv A C⟩:Lng)=p:=⟨_,rfl⟩
     replace hP:Put X4 X gB p.cells 48:=hP.cast (by rw [←ep];rfl)
     exact dt
    obtain ⟨X5,eV⟩:∃ X,X2.alloc (.cells #[.bool false,.slice none 0 0,.slice none 0 0,.slice none 0 0,.slice none 0 0,.int .i64 0,.bool false,.slice none 0 0] 48)=X:=⟨_,rfl⟩
    have hb:Below X2.heap.size X2 X5:=by rw [←eV];exact (Below.refl _ _).alloc (Nat.le_refl _) _
    have kB:X5.heap[X2.heap.size]?=some (.cells #[.bool false,.slice none 0 0,.slice none 0 0,.slice none 0 0,.slice none 0 0,.int .i64 0,.bool false,.slice none 0 0] 48 (0,0)):=by rw [←eV];exact gV _ _
    have hgB:w.heap.size+1<X2.heap.size:=gO HX.out.b
    go_simp
    clear eV
    replace HX:Hid (Two w l.cells jJ 48 X5):=HX.out.up hb
    replace hT0:=HX.out.a
    replace oT:=oT.up hb
    clear hb
    obtain ⟨gB,eB⟩:∃ g,X2.heap.size=g:=⟨_,rfl⟩
    rw [eB] at kB hgB ⊢
    refine hK.out _ _ hT0 ?_
    clear hK K
    try simp only [Act.put,PZ]
    refine gT (rs:=[8]) (by kernel_rfl) (by simp) ?_
    refine gR.cons rfl (fun K hK=>?_) gR.nil
    go_simp
    refine (lg l.R _ HS.out.r (HR.out.r.up HX.out.bel)).mono ?_
    rintro e X6 ⟨aq,cq,ad,cd,av,cv,A,C,rfl,oR,hb⟩
    have hTR:∀ x∈ix aT,x∉(l.R.cp2 aq cq ad cd av cv A C).jO:=fun x hx hy=>by have:=(OI.blk oT x hx).2;have:=(oR.blk x hy).1;omega
    replace oR:=oR.uw (base':=w.heap.size) HX.out.bel.size
    replace HX:Hid (Two w l.cells jJ 48 X6):=HX.out.up hb
    replace hT0:=HX.out.a
    replace oT:=oT.up hb
    replace kB:=(hb.block _ (gO kB)).trans kB
    clear hb
    dsimp only [Rnd.cells,Rnd.cp2]
    go_wp2_with fail
    refine hK.out _ _ hT0 ?_
    clear hK K
    try simp only [Act.put,PZ]
    refine tE 9 14 hT0 ?_
    refine gT (rs:=[11]) (by kernel_rfl) (by simp) ?_
    refine gR.last rfl (fun K hK=>?_)
    refine jP (by kernel_rfl) none rfl 48 (.tmp 3) (.tmp 14) rfl gB 0 rfl (.agg #[.bool l.st,.slice aT l.nT cT,.slice none 0 0,.slice aq l.R.nQ cq,.slice ad l.R.nD cd,.int .i64 l.R.turn,.bool l.R.fresh,.slice av l.R.nS cv]) rfl 8 rfl 48 _ kB jR (Nat.le_of_ble_eq_true rfl) (by simp [Value.cells,Value.oneCell']) ?_
    intro X hP
    refine hK.out _ _ ?_
    clear hK K
    try simp only [Act.put,PZ]
    refine iH (by kernel_rfl) ?_ _
    obtain ⟨p,ep⟩:∃ p,(⟨l.st,aT,l.nT,cT,l.t,none,0,0,fun _=>none,l.uL,fun _=>0,l.uz,l.R.cp2 aq cq ad cd av cv A C⟩:Lng)=p:=⟨_,rfl⟩
    replace hP:Put X6 X gB p.cells 48:=hP.cast (by rw [←ep];rfl)
    exact dt
   obtain ⟨X7,eV⟩:∃ X,X1.alloc (.cells #[.bool false,.slice none 0 0,.slice none 0 0,.slice none 0 0,.slice none 0 0,.int .i64 0,.bool false,.slice none 0 0] 48)=X:=⟨_,rfl⟩
   have hb:Below X1.heap.size X1 X7:=by rw [←eV];exact (Below.refl _ _).alloc (Nat.le_refl _) _
   have kB:X7.heap[X1.heap.size]?=some (.cells #[.bool false,.slice none 0 0,.slice none 0 0,.slice none 0 0,.slice none 0 0,.int .i64 0,.bool false,.slice none 0 0] 48 (0,0)):=by rw [←eV];exact gV _ _
   have hgB:w.heap.size+1<X1.heap.size:=gO HX.out.b
   go_simp
   clear eV
   replace HX:Hid (Two w l.cells jJ 48 X7):=HX.out.up hb
   replace hT0:=HX.out.a
   replace oE:=OG.up oE hb
   clear hb
   obtain ⟨gB,eB⟩:∃ g,X1.heap.size=g:=⟨_,rfl⟩
   rw [eB] at kB hgB ⊢
   refine hK.out _ _ hT0 ?_
   clear hK K
   try simp only [Act.put,PZ]
   refine gT (rs:=[5]) (by kernel_rfl) (by simp) ?_
   refine gR.cons rfl (fun K hK=>?_) gR.nil
   obtain ⟨aT,cT,X8,hr,oT,hgr,_⟩:=nW (c:=l.cT) oE HX.out.bel.size HS.out.t (HR.out.t.up HX.out.bel)
   have hgt:Touch [gE] X7 X8:=Touch.rv (v:=.slice (some ⟨gE,0,none⟩) 0 0) hgr
   have lE:=(OG.blk oE gE (by simp [ix])).1
   have hne:=OG.lF oE (by decide) HX.out.a
   have hne2:=OG.lF oE (by decide) HX.out.b
   have hne3:=OG.lF oE (by decide) kB
   replace kB:=(hgt.block _ (gO kB) (by simpa [ix] using hne3)).trans kB
   clear hne3
   refine k9 (by kernel_rfl) (some 10) rfl (.tmp 7) (.tmp 9) 27 _ _ _ rfl rfl rfl rfl hr ?_
   replace HX:Hid (Two w l.cells jJ 48 X8):=⟨(hgt.block _ (gO HX.out.a) (by simpa [ix] using hne)).trans HX.out.a,(hgt.block _ (gO HX.out.b) (by simpa [ix] using hne2)).trans HX.out.b,HX.out.bel.trans (hgt.below HX.out.bel.size (fun x hx=>by simp at hx;omega))⟩
   replace hT0:=HX.out.a
   clear hr hgr hgt hne hne2 lE oE
   refine hK.out _ _ hT0 ?_
   clear hK K
   try simp only [Act.put,PZ]
   refine gT (rs:=[8]) (by kernel_rfl) (by simp) ?_
   refine gR.cons rfl (fun K hK=>?_) gR.nil
   go_simp
   refine (lg l.R _ HS.out.r (HR.out.r.up HX.out.bel)).mono ?_
   rintro e X9 ⟨aq,cq,ad,cd,av,cv,A,C,rfl,oR,hb⟩
   have hTR:∀ x∈ix aT,x∉(l.R.cp2 aq cq ad cd av cv A C).jO:=fun x hx hy=>by have:=(OI.blk oT x hx).2;have:=(oR.blk x hy).1;omega
   replace oR:=oR.uw (base':=w.heap.size) HX.out.bel.size
   replace HX:Hid (Two w l.cells jJ 48 X9):=HX.out.up hb
   replace hT0:=HX.out.a
   replace oT:=oT.up hb
   replace kB:=(hb.block _ (gO kB)).trans kB
   clear hb
   dsimp only [Rnd.cells,Rnd.cp2]
   go_wp2_with fail
   refine hK.out _ _ hT0 ?_
   clear hK K
   try simp only [Act.put,PZ]
   refine tE 9 14 hT0 ?_
   refine gT (rs:=[11]) (by kernel_rfl) (by simp) ?_
   refine gR.last rfl (fun K hK=>?_)
   refine jP (by kernel_rfl) none rfl 48 (.tmp 3) (.tmp 14) rfl gB 0 rfl (.agg #[.bool l.st,.slice aT l.nT cT,.slice none 0 0,.slice aq l.R.nQ cq,.slice ad l.R.nD cd,.int .i64 l.R.turn,.bool l.R.fresh,.slice av l.R.nS cv]) rfl 8 rfl 48 _ kB jR (Nat.le_of_ble_eq_true rfl) (by simp [Value.cells,Value.oneCell']) ?_
   intro X hP
   refine hK.out _ _ ?_
   clear hK K
   try simp only [Act.put,PZ]
   refine iH (by kernel_rfl) ?_ _
   obtain ⟨p,ep⟩:∃ p,(⟨l.st,aT,l.nT,cT,l.t,none,0,0,fun _=>none,l.uL,fun _=>0,l.uz,l.R.cp2 aq cq ad cd av cv A C⟩:Lng)=p:=⟨_,rfl⟩
   replace hP:Put X9 X gB p.cells 48:=hP.cast (by rw [←ep];rfl)
   exact dt
  obtain ⟨X10,eV⟩:∃ X,V.alloc (.cells #[.bool false,.slice none 0 0,.slice none 0 0,.slice none 0 0,.slice none 0 0,.int .i64 0,.bool false,.slice none 0 0] 48)=X:=⟨_,rfl⟩
  have hb:Below V.heap.size V X10:=by rw [←eV];exact (Below.refl _ _).alloc (Nat.le_refl _) _
  have kB:X10.heap[V.heap.size]?=some (.cells #[.bool false,.slice none 0 0,.slice none 0 0,.slice none 0 0,.slice none 0 0,.int .i64 0,.bool false,.slice none 0 0] 48 (0,0)):=by rw [←eV];exact gV _ _
  have hgB:w.heap.size+1<V.heap.size:=gO HX.out.b
  go_simp
  clear eV
  replace HX:Hid (Two w l.cells jJ 48 X10):=HX.out.up hb
  replace hT0:=HX.out.a
  clear hb
  obtain ⟨gB,eB⟩:∃ g,V.heap.size=g:=⟨_,rfl⟩
  rw [eB] at kB hgB ⊢
  refine hK.out _ _ hT0 ?_
  clear hK K
  try simp only [Act.put,PZ]
  refine gT (rs:=[2]) (by kernel_rfl) (by simp) ?_
  refine gR.cons rfl (fun K hK=>?_) gR.nil
  obtain ⟨X11,eV⟩:∃ X,X10.alloc (.cells #[] 2)=X:=⟨_,rfl⟩
  have hb:Below X10.heap.size X10 X11:=by rw [←eV];exact (Below.refl _ _).alloc (Nat.le_refl _) _
  have oE:OG 2 1 X11 w.heap.size (some ⟨X10.heap.size,0,none⟩) 0 0 []:=by rw [←eV];exact World.ownsRow_made X10 #[] 0 HX.out.bel.size (Nat.zero_le _) rfl
  go_simp
  clear eV
  replace HX:Hid (Two w l.cells jJ 48 X11):=HX.out.up hb
  replace hT0:=HX.out.a
  replace kB:=(hb.block _ (gO kB)).trans kB
  clear hb
  obtain ⟨gE,eE⟩:∃ g,X10.heap.size=g:=⟨_,rfl⟩
  rw [eE] at oE ⊢
  refine hK.out _ _ hT0 ?_
  clear hK K
  try simp only [Act.put,PZ]
  refine gT (rs:=[5]) (by kernel_rfl) (by simp) ?_
  refine gR.cons rfl (fun K hK=>?_) gR.nil
  obtain ⟨aT,cT,X12,hr,oT,hgr,_⟩:=nW (c:=l.cT) oE HX.out.bel.size HS.out.t (HR.out.t.up HX.out.bel)
  have hgt:Touch [gE] X11 X12:=Touch.rv (v:=.slice (some ⟨gE,0,none⟩) 0 0) hgr
  have lE:=(OG.blk oE gE (by simp [ix])).1
  have hne:=OG.lF oE (by decide) HX.out.a
  have hne2:=OG.lF oE (by decide) HX.out.b
  have hne3:=OG.lF oE (by decide) kB
  replace kB:=(hgt.block _ (gO kB) (by simpa [ix] using hne3)).trans kB
  clear hne3
  refine k9 (by kernel_rfl) (some 10) rfl (.tmp 7) (.tmp 9) 27 _ _ _ rfl rfl rfl rfl hr ?_
  replace HX:Hid (Two w l.cells jJ 48 X12):=⟨(hgt.block _ (gO HX.out.a) (by simpa [ix] using hne)).trans HX.out.a,(hgt.block _ (gO HX.out.b) (by simpa [ix] using hne2)).trans HX.out.b,HX.out.bel.trans (hgt.below HX.out.bel.size (fun x hx=>by simp at hx;omega))⟩
  replace hT0:=HX.out.a
  clear hr hgr hgt hne hne2 lE oE
  refine hK.out _ _ hT0 ?_
  clear hK K
  try simp only [Act.put,PZ]
  refine gT (rs:=[8]) (by kernel_rfl) (by simp) ?_
  refine gR.cons rfl (fun K hK=>?_) gR.nil
  go_simp
  refine (lg l.R _ HS.out.r (HR.out.r.up HX.out.bel)).mono ?_
  rintro e X13 ⟨aq,cq,ad,cd,av,cv,A,C,rfl,oR,hb⟩
  have hTR:∀ x∈ix aT,x∉(l.R.cp2 aq cq ad cd av cv A C).jO:=fun x hx hy=>by have:=(OI.blk oT x hx).2;have:=(oR.blk x hy).1;omega
  replace oR:=oR.uw (base':=w.heap.size) HX.out.bel.size
  replace HX:Hid (Two w l.cells jJ 48 X13):=HX.out.up hb
  replace hT0:=HX.out.a
  replace oT:=oT.up hb
  replace kB:=(hb.block _ (gO kB)).trans kB
  clear hb
  dsimp only [Rnd.cells,Rnd.cp2]
  go_wp2_with fail
  refine hK.out _ _ hT0 ?_
  clear hK K
  try simp only [Act.put,PZ]
  refine tE 9 14 hT0 ?_
  refine gT (rs:=[11]) (by kernel_rfl) (by simp) ?_
  refine gR.last rfl (fun K hK=>?_)
  refine jP (by kernel_rfl) none rfl 48 (.tmp 3) (.tmp 14) rfl gB 0 rfl (.agg #[.bool l.st,.slice aT l.nT cT,.slice none 0 0,.slice aq l.R.nQ cq,.slice ad l.R.nD cd,.int .i64 l.R.turn,.bool l.R.fresh,.slice av l.R.nS cv]) rfl 8 rfl 48 _ kB jR (Nat.le_of_ble_eq_true rfl) (by simp [Value.cells,Value.oneCell']) ?_
  intro X hP
  refine hK.out _ _ ?_
  clear hK K
  try simp only [Act.put,PZ]
  refine iH (by kernel_rfl) ?_ _
  obtain ⟨p,ep⟩:∃ p,(⟨l.st,aT,l.nT,cT,l.t,none,0,0,fun _=>none,l.uL,fun _=>0,l.uz,l.R.cp2 aq cq ad cd av cv A C⟩:Lng)=p:=⟨_,rfl⟩
  replace hP:Put X13 X gB p.cells 48:=hP.cast (by rw [←ep];rfl)
  exact dt
 obtain ⟨gB,p,rfl,hgB,hnU,haU,hcU,hC,hX⟩:=hcut
 have HC:Hid (CpL w.heap.size gB l p wc):=hC
 replace HX:Hid (Two w l.cells jJ 48 wc):=hX
 have HP0:Hid (p.nU=0):=hnU
 have HgB:Hid (w.heap.size+1<gB):=hgB
 clear hC hX hnU haU hcU hgB
 have HU:Hid (iq w l.aU l.nU fun i=>.slice (l.uA i) (l.uL i) (l.uC i)):=HR.out.u
 obtain ⟨aU,eU⟩:∃ a,l.aU=a:=⟨_,rfl⟩
 have HAU:Hid (l.aU=aU):=eU
 rw [eU] at HU
 clear eU
 have hnu:=HS.out.u
 go_wp2_with fail
 go_loopw [4] (fun i wr=>∃ (k:Nat) (q:Lng),k≤l.nU∧i=.int .i64 k∧Hid (q.nU=k∧CpL w.heap.size gB l q wr∧Two w l.cells jJ 48 wr)) (fun i _=>l.nU-(intOf i).toNat)
 case atStart=>exact ⟨0,p,Nat.zero_le _,rfl,⟨HP0.out,HC.out,HX.out⟩⟩
 clear HC HX
 obtain ⟨k,q,hk,rfl,HQ⟩:=hrel
 have c2:wr.cell? ⟨w.heap.size,2,none⟩=some (.slice aU l.nU l.cU):=by rw [←HAU.out];exact gM HQ.out.2.2.a 2
 by_cases hlt:k<l.nU
 ·
  have hlt':(k:Int)<l.nU:=by omega
  obtain ⟨g0,o0,ea,hc0⟩:=(HU.out.up HQ.out.2.2.bel) k hlt
  subst ea
  dsimp only at hc0
  go_wp2_with fail
  refine iV (fun w'=>w'.heap[gB]?=some (.cells q.cells 48 (0,0))∧w'.cell? ⟨w.heap.size,2,none⟩=some (.slice (some ⟨g0,o0,none⟩) l.nU l.cU)∧w'.cell? ⟨g0,o0+k,none⟩=some (.slice (l.uA k) (l.uL k) (l.uC k))) 12 (by kernel_rfl) ?_
  have hd:Below wr.heap.size wr wr.drew:=(Below.refl _ _).drew
  replace HQ:Hid (q.nU=k∧CpL w.heap.size gB l q wr.drew∧Two w l.cells jJ 48 wr.drew):=⟨HQ.out.1,HQ.out.2.1.up hd,HQ.out.2.2.up hd⟩
  replace c2:wr.drew.cell? ⟨w.heap.size,2,none⟩=some (.slice (some ⟨g0,o0,none⟩) l.nU l.cU):=c2
  replace hc0:wr.drew.cell? ⟨g0,o0+k,none⟩=some (.slice (l.uA k) (l.uL k) (l.uC k)):=hc0
  clear hd
  generalize wr.drew=V at *
  have hg0:g0<w.heap.size:=by obtain ⟨g9,o9,e9,h9⟩:=HU.out k hlt;cases e9;exact j7 h9
  have HTT:Hid (∀ X:World,X.heap[gB]?=some (.cells q.cells 48 (0,0))→Below w.heap.size w X→X.heap[w.heap.size]?=some (.cells l.cells 48 (0,0))→(fun w'=>w'.heap[gB]?=some (.cells q.cells 48 (0,0))∧w'.cell? ⟨w.heap.size,2,none⟩=some (.slice (some ⟨g0,o0,none⟩) l.nU l.cU)∧w'.cell? ⟨g0,o0+k,none⟩=some (.slice (l.uA k) (l.uL k) (l.uC k))) X):=fun X e1 e2 e3=>⟨e1,(gM e3 2).trans ((gM HQ.out.2.2.a 2).symm.trans c2),by
   obtain ⟨g9,o9,e9,h9⟩:=(HU.out.up e2) k hlt
   cases e9
   exact h9⟩
  have hT0:=HTT.out V HQ.out.2.1.box HQ.out.2.2.bel HQ.out.2.2.a
  clear c2 hc0
  refine tE 0 22 hT0 ?_
  refine ka (i:=1) (some 23) (v:=?_) ?_ hT0 ?_
  rotate_left
  ·
   intro wx hSw
   obtain ⟨hS1,hS2,hS3⟩:=hSw
   have c2:wx.cell? ⟨gB,2,none⟩=some (.slice q.aU k q.cU):=by rw [gM hS1 2,←HQ.out.1];rfl
   exact du
  try simp only [Act.put,PZ]
  refine tE 3 25 hT0 ?_
  refine ka (i:=4) (some 26) (v:=?_) ?_ hT0 ?_
  rotate_left
  · exact dw
  try simp only [Act.put,PZ]
  refine tE 5 27 hT0 ?_
  refine ka (i:=6) (some 28) (v:=?_) ?_ hT0 ?_
  rotate_left
  · exact dw
  try simp only [Act.put,PZ]
  refine ka (i:=7) (some 29) (v:=?_) ?_ hT0 ?_
  rotate_left
  · exact dw
  try simp only [Act.put,PZ]
  obtain ⟨a1,c1,X1,hr1,oA,hb⟩:=Be (c:=l.uC k) (HS.out.z k hlt) ((HR.out.z k hlt).up HQ.out.2.2.bel)
  have HA1:Hid (OI X1 V.heap.size a1 (l.uL k) c1 (l.uz k)∧Below V.heap.size V X1):=⟨oA,hb⟩
  have HR1:Hid ((Builtin.append_ #[27,27] 27 #[.slice (some ⟨V.heap.size,0,none⟩) 0 0,.slice (l.uA k) (l.uL k) (l.uC k)]).run Tryz.prog (V.alloc (.cells #[] 2))=.ok (.slice a1 (l.uL k) c1) X1):=hr1
  have hA:Below V.heap.size V (V.alloc (.cells #[] 2)):=(Below.refl _ _).alloc (Nat.le_refl _) _
  have hTa:=HTT.out _ (HQ.out.2.1.up hA).box (HQ.out.2.2.up hA).bel (HQ.out.2.2.up hA).a
  have Q1:=HQ.out.2.1.up hb
  have hu0:OG 27 1 X1 w.heap.size q.aU k q.cU (qG k q.uA q.uL q.uC):=by have:=Q1.own.u;rw [HQ.out.1] at this;exact this
  obtain ⟨g1,c3,X3,hr,hu,ht,hg⟩:=lI 44 27 (.slice none 0 0) 1 24 wb Tryz.underlying44 rfl (by decide) (by decide) hu0 (by omega) (Nat.le_trans HQ.out.2.2.bel.size hb.size) #[.slice a1 (l.uL k) c1] rfl (by simp [Value.oneCell'])
  have hX1:=HQ.out.2.2.up hb
  have hT1:=HTT.out X1 Q1.box hX1.bel hX1.a
  have hB2:Below X1.heap.size X1 (X1.alloc (.cells #[.slice a1 (l.uL k) c1] 27)):=(Below.refl _ _).alloc (Nat.le_refl _) _
  have hT2:=HTT.out _ (Q1.up hB2).box (hX1.up hB2).bel (hX1.up hB2).a
  have hX3:=hX1.far ht (fun hg=>hu0.lF (by decide) hg) (fun x hx=>(hu0.blk x hx).1)
  have hb3:X3.heap[gB]?=some (.cells q.cells 48 (0,0)):=(ht.block gB (gO Q1.box) (hu0.lF (by decide) Q1.box)).trans Q1.box
  have hT3:=HTT.out X3 hb3 hX3.bel hX3.a
  have HX3:Hid (Two w l.cells jJ 48 X3):=hX3
  have HN3:Hid (OG 27 1 X3 w.heap.size (some ⟨g1,0,none⟩) (k+1) c3 (qG k q.uA q.uL q.uC++[.slice a1 (l.uL k) c1])∧Touch (ix q.aU) X1 X3∧(g1∈ix q.aU∨X1.heap.size≤g1)):=⟨hu,ht,hg⟩
  have HR3:Hid ((Builtin.append_ #[44,44] 44 #[.slice q.aU k q.cU,.slice (some ⟨X1.heap.size,0,none⟩) 1 1]).run Tryz.prog (X1.alloc (.cells #[.slice a1 (l.uL k) c1] 27))=.ok (.slice (some ⟨g1,0,none⟩) (k+1) c3) X3):=hr
  clear oA hb Q1 hu0 hr hr1 hu ht hg hT0 hA hX1 hB2 hX3
  refine gT (rs:=[2]) (by kernel_rfl) (by simp) ?_
  refine gR.cons rfl (fun K hK=>?_) gR.nil
  go_simp
  refine hK.out _ _ hTa ?_
  clear hK K
  try simp only [Act.put,PZ]
  refine gT (rs:=[8]) (by kernel_rfl) (by simp) ?_
  refine gR.cons rfl (fun K hK=>?_) gR.nil
  refine k9 (by kernel_rfl) (some 30) rfl (.tmp 24) (.tmp 29) 27 _ _ _ rfl rfl rfl rfl HR1.out ?_
  refine hK.out _ _ hT1 ?_
  clear hK K
  try simp only [Act.put,PZ]
  refine gT (rs:=[9]) (by kernel_rfl) (by simp) ?_
  refine gR.cons rfl (fun K hK=>?_) gR.nil
  go_simp
  refine hK.out _ _ hT2 ?_
  clear hK K
  try simp only [Act.put,PZ]
  refine gT (rs:=[10]) (by kernel_rfl) (by simp) ?_
  refine gR.cons rfl (fun K hK=>?_) gR.nil
  refine k9 (by kernel_rfl) (some 32) rfl (.tmp 23) (.tmp 31) 44 _ _ _ rfl rfl rfl rfl HR3.out ?_
  refine hK.out _ _ hT3 ?_
  clear hK K hT2 HR3 hTa HR1 hT1
  try simp only [Act.put,PZ]
  have hT0:=hT3
  refine tE 11 33 hT0 ?_
  refine gT (rs:=[12]) (by kernel_rfl) (by simp) ?_
  refine gR.last rfl (fun K hK=>?_)
  refine jP (by kernel_rfl) none rfl 44 (.tmp 33) (.tmp 32) rfl gB 2 rfl (.slice (some ⟨g1,0,none⟩) (k+1) c3) rfl 1 rfl 48 _ hb3 AL (Nat.le_of_ble_eq_true rfl) (by simp [Value.cells,Value.oneCell']) ?_
  intro X4 hP
  refine hK.out _ _ ?_
  clear hK K
  try simp only [Act.put,PZ]
  refine iH (by kernel_rfl) ?_ _
  have HN:Hid ((q.more k (some ⟨g1,0,none⟩) c3 a1 c1).nU=k+1∧CpL w.heap.size gB l (q.more k (some ⟨g1,0,none⟩) c3 a1 c1) X4∧Two w l.cells jJ 48 X4):=⟨rfl,HQ.out.2.1.more HQ.out.1 HA1.out.2 HQ.out.2.2.bel.size HA1.out.1 HN3.out.1 HN3.out.2.1 HN3.out.2.2 hP,HX3.out.put hP HgB.out⟩
  clear hP hT0 hT3 hb3 HN3 HA1 HQ HX3 HTT hg0
  exact dv
 obtain rfl:k=l.nU:=by omega
 obtain ⟨hq1,hq2,hq3⟩:=HQ.out
 have HL:Hid (∀ j,j<8→wr.cell? ⟨gB,0+j,none⟩=q.cells[j]?):=fun j _=>by rw [Nat.zero_add];exact gM hq2.box j
 have HD:Hid (wr.heap[w.heap.size+1]?=some (.cells jJ 48 (0,0))):=hq3.b
 clear hq1 hq2 hq3
 go_wp2_with (first | refine gY rfl 48 8 _ Tryz.underlying48 rfl jR (.tmp 3) rfl gB 0 rfl q.cells rfl HL.out ?_ | refine gW rfl 48 (.tmp 2) (.tmp 34) rfl (w.heap.size+1) 0 rfl (.agg q.cells) rfl 8 rfl 48 _ HD.out jR (Nat.le_of_ble_eq_true rfl) (Lng.lx _) ?_)
 intro X hP
 replace hP:Put wr X (w.heap.size+1) q.cells 48:=hP.cast rfl
 have HK:Hid (X.heap[w.heap.size+1]?=some (.cells q.cells 48 (0,0))):=hP.blk
 have HF:Hid (iC l q∧iw X w.heap.size q∧Below w.heap.size w X):=⟨⟨HQ.out.2.1.st,HQ.out.2.1.nT,HQ.out.2.1.t,HQ.out.1,HQ.out.2.1.ul,HQ.out.2.1.uz,HQ.out.2.1.r⟩,HQ.out.2.1.own.box HD.out (by decide) (by decide) hP.to,HQ.out.2.2.bel.trans (hP.to.below HQ.out.2.2.bel.size (fun x hx=>by simp at hx;omega))⟩
 clear hP HL HD HQ
 go_wp2_with fail
 exact bodyPost_ret (kI Tryz.results100 8 _ Tryz.underlying48 rfl jR _ _ (w.heap.size+1) q.cells rfl 48 HK.out rfl) rfl ⟨q,rfl,HF.out.1,HF.out.2.1,HF.out.2.2⟩
theorem p8 (S:Swg) (w:World) (hs:S.Small) (hU:0<S.N.nU) (hPp:0<S.N.nP) (h:jK w S) :
  Calls Tryz.prog 66 #[.agg S.cells] w fun e w'=>∃ S2,e=.returned (.agg S2.cells)∧hG S S2∧ir w' w.heap.size S2∧Below w.heap.size w w':=by
 have HR:Hid (jK w S):=h
 have HS:Hid S.Small:=hs
 have HU0:Hid (0<S.N.nU∧0<S.N.nP):=⟨hU,hPp⟩
 clear h hs hU hPp
 obtain ⟨W0,eW⟩:∃ W,(((w.alloc (.cells S.cells 34)).alloc (.cells #[.int .i64 0,.int .i64 0,.int .i64 0,.int .i64 0,.int .i64 0,.int .i64 0,.int .i64 0,.int .i64 0,.int .i64 0,.slice none 0 0,.slice none 0 0,.int .i64 0,.slice none 0 0,.slice none 0 0,.slice none 0 0,.int .i64 0,.int .i64 0] 34)).alloc (.cells #[.int .i64 0,.int .i64 0,.int .i64 0,.int .i64 0,.int .i64 0,.int .i64 0,.int .i64 0,.int .i64 0,.int .i64 0,.slice none 0 0,.slice none 0 0,.int .i64 0,.slice none 0 0,.slice none 0 0,.slice none 0 0,.int .i64 0,.int .i64 0] 34))=W:=⟨_,rfl⟩
 have HX:Hid (j5 w S.cells #[.int .i64 0,.int .i64 0,.int .i64 0,.int .i64 0,.int .i64 0,.int .i64 0,.int .i64 0,.int .i64 0,.int .i64 0,.slice none 0 0,.slice none 0 0,.int .i64 0,.slice none 0 0,.slice none 0 0,.slice none 0 0,.int .i64 0,.int .i64 0] #[.int .i64 0,.int .i64 0,.int .i64 0,.int .i64 0,.int .i64 0,.int .i64 0,.int .i64 0,.int .i64 0,.int .i64 0,.slice none 0 0,.slice none 0 0,.int .i64 0,.slice none 0 0,.slice none 0 0,.slice none 0 0,.int .i64 0,.int .i64 0] 34 34 W0):=by rw [←eW];exact j5.start _ _ _ _ _ _
 have HL0:Hid (∀ j,j<17→((w.alloc (.cells S.cells 34)).alloc (.cells #[.int .i64 0,.int .i64 0,.int .i64 0,.int .i64 0,.int .i64 0,.int .i64 0,.int .i64 0,.int .i64 0,.int .i64 0,.slice none 0 0,.slice none 0 0,.int .i64 0,.slice none 0 0,.slice none 0 0,.slice none 0 0,.int .i64 0,.int .i64 0] 34)).cell? ⟨w.heap.size,0+j,none⟩=S.cells[j]?):=fun j _=>by rw [Nat.zero_add];exact gM (Two.start w S.cells #[.int .i64 0,.int .i64 0,.int .i64 0,.int .i64 0,.int .i64 0,.int .i64 0,.int .i64 0,.int .i64 0,.int .i64 0,.slice none 0 0,.slice none 0 0,.int .i64 0,.slice none 0 0,.slice none 0 0,.slice none 0 0,.int .i64 0,.int .i64 0] 34).a j
 have HC:Hid (W0.heap[w.heap.size+1+1]?=some (.cells #[.int .i64 0,.int .i64 0,.int .i64 0,.int .i64 0,.int .i64 0,.int .i64 0,.int .i64 0,.int .i64 0,.int .i64 0,.slice none 0 0,.slice none 0 0,.int .i64 0,.slice none 0 0,.slice none 0 0,.slice none 0 0,.int .i64 0,.int .i64 0] 34 (0,0))):=HX.out.c
 go_enter Tryz.func66,Tryz.ntmps66
 go_wp2_with (first | refine gY rfl 34 17 _ Tryz.underlying34 rfl ij (.tmp 1) rfl w.heap.size 0 rfl S.cells rfl HL0.out ?_ | refine gW rfl 34 (.tmp 3) (.tmp 5) rfl (w.heap.size+1+1) 0 rfl (.agg S.cells) rfl 17 rfl 34 _ HC.out ij (Nat.le_of_ble_eq_true rfl) (Swg.lx _) ?_)
 clear HL0
 intro W1 hP
 clear eW
 replace hP:=hP.cast (cs':=#[.int .i64 S.C.p,.int .i64 S.C.c,.int .i64 S.C.xo,.int .i64 S.C.xn,.int .i64 S.C.hd,.int .i64 S.C.lo,.int .i64 S.C.dl,.int .i64 S.now,.int .i64 S.nx,.slice S.aE S.nE S.cE,.slice S.N.aU S.N.nU S.N.cU,.int .i64 S.N.lo,.slice S.N.aP S.N.nP S.N.cP,.slice S.aK S.nK S.cK,.slice S.aL S.nL S.cL,.int .i64 S.dr,.int .i64 S.lst]) rfl
 replace HX:Hid (j5 w S.cells #[.int .i64 0,.int .i64 0,.int .i64 0,.int .i64 0,.int .i64 0,.int .i64 0,.int .i64 0,.int .i64 0,.int .i64 0,.slice none 0 0,.slice none 0 0,.int .i64 0,.slice none 0 0,.slice none 0 0,.slice none 0 0,.int .i64 0,.int .i64 0] #[.int .i64 S.C.p,.int .i64 S.C.c,.int .i64 S.C.xo,.int .i64 S.C.xn,.int .i64 S.C.hd,.int .i64 S.C.lo,.int .i64 S.C.dl,.int .i64 S.now,.int .i64 S.nx,.slice S.aE S.nE S.cE,.slice S.N.aU S.N.nU S.N.cU,.int .i64 S.N.lo,.slice S.N.aP S.N.nP S.N.cP,.slice S.aK S.nK S.cK,.slice S.aL S.nL S.cL,.int .i64 S.dr,.int .i64 S.lst] 34 34 W1):=HX.out.put hP
 have T1:Touch [w.heap.size+1,w.heap.size+1+1] W0 W1:=hP.to.mono (fun x hx=>by simp at hx;simp [hx])
 clear hP HC 
 obtain ⟨aE,cE,we,hr,rE,hb⟩:=mi (V:=W1) (c:=S.cE) 26 75 _ 3 24 AN Tryz.underlying26 rfl (by decide) (by decide) HS.out.e (by rw [mB,jc]) ((HR.out.e.up HX.out.bel).cs) (wz _)
 have srE:=HX.out.sz
 have c9:(W1.alloc (.cells #[] 75)).cell? ⟨w.heap.size,9,none⟩=some (.slice S.aE S.nE S.cE):=(gM ((iv _ (gO HX.out.a)).trans HX.out.a) 9)
 replace HX:Hid (j5 w S.cells #[.int .i64 0,.int .i64 0,.int .i64 0,.int .i64 0,.int .i64 0,.int .i64 0,.int .i64 0,.int .i64 0,.int .i64 0,.slice none 0 0,.slice none 0 0,.int .i64 0,.slice none 0 0,.slice none 0 0,.slice none 0 0,.int .i64 0,.int .i64 0] #[.int .i64 S.C.p,.int .i64 S.C.c,.int .i64 S.C.xo,.int .i64 S.C.xn,.int .i64 S.C.hd,.int .i64 S.C.lo,.int .i64 S.C.dl,.int .i64 S.now,.int .i64 S.nx,.slice S.aE S.nE S.cE,.slice S.N.aU S.N.nU S.N.cU,.int .i64 S.N.lo,.slice S.N.aP S.N.nP S.N.cP,.slice S.aK S.nK S.cK,.slice S.aL S.nL S.cL,.int .i64 S.dr,.int .i64 S.lst] 34 34 we):=HX.out.up hb
 have T2:Touch [w.heap.size+1,w.heap.size+1+1] W1 we:=Touch.iT hb
 clear hb
 have HC:=HX.out.c
 replace HC:Hid (we.heap[w.heap.size+1+1]?=some (.cells #[.int .i64 S.C.p,.int .i64 S.C.c,.int .i64 S.C.xo,.int .i64 S.C.xn,.int .i64 S.C.hd,.int .i64 S.C.lo,.int .i64 S.C.dl,.int .i64 S.now,.int .i64 S.nx,.slice S.aE S.nE S.cE,.slice S.N.aU S.N.nU S.N.cU,.int .i64 S.N.lo,.slice S.N.aP S.N.nP S.N.cP,.slice S.aK S.nK S.cK,.slice S.aL S.nL S.cL,.int .i64 S.dr,.int .i64 S.lst] 34 (0,0))):=HC
 have HRn:Hid ((Builtin.append_ #[26,26] 26 #[.slice (some ⟨W1.heap.size,0,none⟩) 0 0,.slice S.aE S.nE S.cE]).run Tryz.prog (W1.alloc (.cells #[] 75))=.ok (.slice aE S.nE cE) we):=hr
 clear hr
 go_wp2_with (first | (at_builtin;refine Lib.wpList_append_run _ rfl _ _ _ _ rfl _ _ rfl rfl _ _ HRn.out ?_) | refine gW rfl 26 (.tmp 10) (.tmp 9) rfl (w.heap.size+1+1) 9 rfl (.slice aE S.nE cE) rfl 1 rfl 34 _ HC.out wa (Nat.le_of_ble_eq_true rfl) (by simp [Value.cells,Value.oneCell',Rnd.cells,Cfg.cells,Cnt.cells]) ?_)
 clear HRn c9
 intro W3 hP
 replace hP:=hP.cast (cs':=#[.int .i64 S.C.p,.int .i64 S.C.c,.int .i64 S.C.xo,.int .i64 S.C.xn,.int .i64 S.C.hd,.int .i64 S.C.lo,.int .i64 S.C.dl,.int .i64 S.now,.int .i64 S.nx,.slice aE S.nE cE,.slice S.N.aU S.N.nU S.N.cU,.int .i64 S.N.lo,.slice S.N.aP S.N.nP S.N.cP,.slice S.aK S.nK S.cK,.slice S.aL S.nL S.cL,.int .i64 S.dr,.int .i64 S.lst]) rfl
 replace HX:Hid (j5 w S.cells #[.int .i64 0,.int .i64 0,.int .i64 0,.int .i64 0,.int .i64 0,.int .i64 0,.int .i64 0,.int .i64 0,.int .i64 0,.slice none 0 0,.slice none 0 0,.int .i64 0,.slice none 0 0,.slice none 0 0,.slice none 0 0,.int .i64 0,.int .i64 0] #[.int .i64 S.C.p,.int .i64 S.C.c,.int .i64 S.C.xo,.int .i64 S.C.xn,.int .i64 S.C.hd,.int .i64 S.C.lo,.int .i64 S.C.dl,.int .i64 S.now,.int .i64 S.nx,.slice aE S.nE cE,.slice S.N.aU S.N.nU S.N.cU,.int .i64 S.N.lo,.slice S.N.aP S.N.nP S.N.cP,.slice S.aK S.nK S.cK,.slice S.aL S.nL S.cL,.int .i64 S.dr,.int .i64 S.lst] 34 34 W3):=HX.out.put hP
 have T3:Touch [w.heap.size+1,w.heap.size+1+1] we W3:=hP.to.mono (fun x hx=>by simp at hx;simp [hx])
 clear hP HC 
 have c10:W3.cell? ⟨w.heap.size,10,none⟩=some (.slice S.N.aU S.N.nU S.N.cU):=gM HX.out.a 10
 have c11:W3.cell? ⟨w.heap.size,11,none⟩=some (.int .i64 S.N.lo):=gM HX.out.a 11
 have c12:W3.cell? ⟨w.heap.size,12,none⟩=some (.slice S.N.aP S.N.nP S.N.cP):=gM HX.out.a 12
 go_wp2_with fail
 refine (oc S.N _ HU0.out.1 HU0.out.2 HS.out.n (HR.out.n.up HX.out.bel)).mono ?_
 rintro e wn ⟨M,rfl,rN,hb,aN⟩
 clear c10 c11 c12
 have sN:=HX.out.sz
 replace HX:Hid (j5 w S.cells #[.int .i64 0,.int .i64 0,.int .i64 0,.int .i64 0,.int .i64 0,.int .i64 0,.int .i64 0,.int .i64 0,.int .i64 0,.slice none 0 0,.slice none 0 0,.int .i64 0,.slice none 0 0,.slice none 0 0,.slice none 0 0,.int .i64 0,.int .i64 0] #[.int .i64 S.C.p,.int .i64 S.C.c,.int .i64 S.C.xo,.int .i64 S.C.xn,.int .i64 S.C.hd,.int .i64 S.C.lo,.int .i64 S.C.dl,.int .i64 S.now,.int .i64 S.nx,.slice aE S.nE cE,.slice S.N.aU S.N.nU S.N.cU,.int .i64 S.N.lo,.slice S.N.aP S.N.nP S.N.cP,.slice S.aK S.nK S.cK,.slice S.aL S.nL S.cL,.int .i64 S.dr,.int .i64 S.lst] 34 34 wn):=HX.out.up hb
 have T4:Touch [w.heap.size+1,w.heap.size+1+1] W3 wn:=Touch.iT hb
 clear hb
 have HC:=HX.out.c
 replace HC:Hid (wn.heap[w.heap.size+1+1]?=some (.cells #[.int .i64 S.C.p,.int .i64 S.C.c,.int .i64 S.C.xo,.int .i64 S.C.xn,.int .i64 S.C.hd,.int .i64 S.C.lo,.int .i64 S.C.dl,.int .i64 S.now,.int .i64 S.nx,.slice aE S.nE cE,.slice S.N.aU S.N.nU S.N.cU,.int .i64 S.N.lo,.slice S.N.aP S.N.nP S.N.cP,.slice S.aK S.nK S.cK,.slice S.aL S.nL S.cL,.int .i64 S.dr,.int .i64 S.lst] 34 (0,0))):=HC
 go_wp2_with (refine gW rfl 30 (.tmp 14) (.tmp 13) rfl (w.heap.size+1+1) 10 rfl (.agg M.cells) rfl 3 rfl 34 _ HC.out CZ (Nat.le_of_ble_eq_true rfl) (by simp [Value.cells,Value.oneCell',Rnd.cells,Cfg.cells,Cnt.cells]) ?_)
 intro W5 hP
 replace hP:=hP.cast (cs':=#[.int .i64 S.C.p,.int .i64 S.C.c,.int .i64 S.C.xo,.int .i64 S.C.xn,.int .i64 S.C.hd,.int .i64 S.C.lo,.int .i64 S.C.dl,.int .i64 S.now,.int .i64 S.nx,.slice aE S.nE cE,.slice M.aU M.nU M.cU,.int .i64 M.lo,.slice M.aP M.nP M.cP,.slice S.aK S.nK S.cK,.slice S.aL S.nL S.cL,.int .i64 S.dr,.int .i64 S.lst]) rfl
 replace HX:Hid (j5 w S.cells #[.int .i64 0,.int .i64 0,.int .i64 0,.int .i64 0,.int .i64 0,.int .i64 0,.int .i64 0,.int .i64 0,.int .i64 0,.slice none 0 0,.slice none 0 0,.int .i64 0,.slice none 0 0,.slice none 0 0,.slice none 0 0,.int .i64 0,.int .i64 0] #[.int .i64 S.C.p,.int .i64 S.C.c,.int .i64 S.C.xo,.int .i64 S.C.xn,.int .i64 S.C.hd,.int .i64 S.C.lo,.int .i64 S.C.dl,.int .i64 S.now,.int .i64 S.nx,.slice aE S.nE cE,.slice M.aU M.nU M.cU,.int .i64 M.lo,.slice M.aP M.nP M.cP,.slice S.aK S.nK S.cK,.slice S.aL S.nL S.cL,.int .i64 S.dr,.int .i64 S.lst] 34 34 W5):=HX.out.put hP
 have T5:Touch [w.heap.size+1,w.heap.size+1+1] wn W5:=hP.to.mono (fun x hx=>by simp at hx;simp [hx])
 clear hP HC 
 obtain ⟨aK,cK,wk,hr,rK,hb⟩:=mi (V:=W5) (c:=S.cK) 31 50 _ 8 72 xx Tryz.underlying31 rfl (by decide) (by decide) HS.out.k (l9 _ _) ((HR.out.k.up HX.out.bel).cs) (qM _ _)
 have srK:=HX.out.sz
 have c13:(W5.alloc (.cells #[] 50)).cell? ⟨w.heap.size,13,none⟩=some (.slice S.aK S.nK S.cK):=(gM ((iv _ (gO HX.out.a)).trans HX.out.a) 13)
 replace HX:Hid (j5 w S.cells #[.int .i64 0,.int .i64 0,.int .i64 0,.int .i64 0,.int .i64 0,.int .i64 0,.int .i64 0,.int .i64 0,.int .i64 0,.slice none 0 0,.slice none 0 0,.int .i64 0,.slice none 0 0,.slice none 0 0,.slice none 0 0,.int .i64 0,.int .i64 0] #[.int .i64 S.C.p,.int .i64 S.C.c,.int .i64 S.C.xo,.int .i64 S.C.xn,.int .i64 S.C.hd,.int .i64 S.C.lo,.int .i64 S.C.dl,.int .i64 S.now,.int .i64 S.nx,.slice aE S.nE cE,.slice M.aU M.nU M.cU,.int .i64 M.lo,.slice M.aP M.nP M.cP,.slice S.aK S.nK S.cK,.slice S.aL S.nL S.cL,.int .i64 S.dr,.int .i64 S.lst] 34 34 wk):=HX.out.up hb
 have T6:Touch [w.heap.size+1,w.heap.size+1+1] W5 wk:=Touch.iT hb
 clear hb
 have HC:=HX.out.c
 replace HC:Hid (wk.heap[w.heap.size+1+1]?=some (.cells #[.int .i64 S.C.p,.int .i64 S.C.c,.int .i64 S.C.xo,.int .i64 S.C.xn,.int .i64 S.C.hd,.int .i64 S.C.lo,.int .i64 S.C.dl,.int .i64 S.now,.int .i64 S.nx,.slice aE S.nE cE,.slice M.aU M.nU M.cU,.int .i64 M.lo,.slice M.aP M.nP M.cP,.slice S.aK S.nK S.cK,.slice S.aL S.nL S.cL,.int .i64 S.dr,.int .i64 S.lst] 34 (0,0))):=HC
 have HRn:Hid ((Builtin.append_ #[31,31] 31 #[.slice (some ⟨W5.heap.size,0,none⟩) 0 0,.slice S.aK S.nK S.cK]).run Tryz.prog (W5.alloc (.cells #[] 50))=.ok (.slice aK S.nK cK) wk):=hr
 clear hr
 go_wp2_with (first | (at_builtin;refine Lib.wpList_append_run _ rfl _ _ _ _ rfl _ _ rfl rfl _ _ HRn.out ?_) | refine gW rfl 31 (.tmp 19) (.tmp 18) rfl (w.heap.size+1+1) 13 rfl (.slice aK S.nK cK) rfl 1 rfl 34 _ HC.out CX (Nat.le_of_ble_eq_true rfl) (by simp [Value.cells,Value.oneCell',Rnd.cells,Cfg.cells,Cnt.cells]) ?_)
 clear HRn c13
 intro W7 hP
 replace hP:=hP.cast (cs':=#[.int .i64 S.C.p,.int .i64 S.C.c,.int .i64 S.C.xo,.int .i64 S.C.xn,.int .i64 S.C.hd,.int .i64 S.C.lo,.int .i64 S.C.dl,.int .i64 S.now,.int .i64 S.nx,.slice aE S.nE cE,.slice M.aU M.nU M.cU,.int .i64 M.lo,.slice M.aP M.nP M.cP,.slice aK S.nK cK,.slice S.aL S.nL S.cL,.int .i64 S.dr,.int .i64 S.lst]) rfl
 replace HX:Hid (j5 w S.cells #[.int .i64 0,.int .i64 0,.int .i64 0,.int .i64 0,.int .i64 0,.int .i64 0,.int .i64 0,.int .i64 0,.int .i64 0,.slice none 0 0,.slice none 0 0,.int .i64 0,.slice none 0 0,.slice none 0 0,.slice none 0 0,.int .i64 0,.int .i64 0] #[.int .i64 S.C.p,.int .i64 S.C.c,.int .i64 S.C.xo,.int .i64 S.C.xn,.int .i64 S.C.hd,.int .i64 S.C.lo,.int .i64 S.C.dl,.int .i64 S.now,.int .i64 S.nx,.slice aE S.nE cE,.slice M.aU M.nU M.cU,.int .i64 M.lo,.slice M.aP M.nP M.cP,.slice aK S.nK cK,.slice S.aL S.nL S.cL,.int .i64 S.dr,.int .i64 S.lst] 34 34 W7):=HX.out.put hP
 have T7:Touch [w.heap.size+1,w.heap.size+1+1] wk W7:=hP.to.mono (fun x hx=>by simp at hx;simp [hx])
 clear hP HC 
 obtain ⟨P,eP⟩:∃ P,(⟨S.C,S.now,S.nx,aE,S.nE,cE,S.e,M,aK,S.nK,cK,S.K,S.aL,S.nL,S.cL,S.L,S.dr,S.lst⟩:Swg)=P:=⟨_,rfl⟩
 have e3:#[.int .i64 S.C.p,.int .i64 S.C.c,.int .i64 S.C.xo,.int .i64 S.C.xn,.int .i64 S.C.hd,.int .i64 S.C.lo,.int .i64 S.C.dl,.int .i64 S.now,.int .i64 S.nx,.slice aE S.nE cE,.slice M.aU M.nU M.cU,.int .i64 M.lo,.slice M.aP M.nP M.cP,.slice aK S.nK cK,.slice S.aL S.nL S.cL,.int .i64 S.dr,.int .i64 S.lst]=P.cells:=by rw [←eP];rfl
 rw [e3] at HX
 clear e3
 have hlow:∀ x∈[w.heap.size+1,w.heap.size+1+1],x<w.heap.size+1+1+1:=by intro x hx;simp at hx;omega
 have HA:Hid (CpA S P):=by rw [←eP];exact ⟨rfl,rfl,rfl,rfl,rfl,aN,rfl,rfl,rfl,rfl⟩
 have HP:Hid (CpS w S P W7):=by
  rw [←eP] at HX ⊢
  exact ⟨HX.out,OG.mono (rE.low ((((T3.trans T4).trans T5).trans T6).trans T7) (fun x hx=>by have:=hlow x hx;omega)) (by omega),iG.mono (rN.jm ((T5.trans T6).trans T7) (fun x hx=>by have:=hlow x hx;omega)) (by omega),OG.mono (rK.low T7 (fun x hx=>by have:=hlow x hx;omega)) (by omega)⟩
 clear HX eP rE rN rK aN srE sN srK hlow T1 T2 T3 T4 T5 T6 T7
 have HC:Hid (W7.heap[w.heap.size+1+1]?=some (.cells P.cells 34 (0,0))):=HP.out.x.c
 go_wp2_with (refine gW rfl 32 (.tmp 20) (.const (.slice none 0 0)) rfl (w.heap.size+1+1) 14 rfl (.slice none 0 0) rfl 1 rfl 34 _ HC.out yf (Nat.le_of_ble_eq_true rfl) (by simp [Value.cells,Value.oneCell']) ?_)
 intro Y0 hP
 obtain ⟨P1,eP1⟩:∃ P1,({ P with aL:=none,nL:=0,cL:=0 }:Swg)=P1:=⟨_,rfl⟩
 replace hP:Put W7 Y0 (w.heap.size+1+1) P1.cells 34:=hP.cast (by rw [←eP1];rfl)
 have HP1:Hid (u9 w S P1 0 Y0):=by
  have q:=HP.out
  rw [←eP1] at hP ⊢
  exact ⟨⟨q.x.put hP,q.e.gX hP.to (fun x hx hy=>q.e.lF (by decide) q.x.c ((List.mem_singleton.1 hy)▸hx)),q.n.E9 q.x.c (by decide) (by decide) hP.to,q.k.gX hP.to (fun x hx hy=>q.k.lF (by decide) q.x.c ((List.mem_singleton.1 hy)▸hx))⟩,⟨HA.out.c,HA.out.now,HA.out.nx,HA.out.nE,HA.out.e,HA.out.n,HA.out.nK,HA.out.k,HA.out.dr,HA.out.lst⟩,ke.nil _ _ _,fun x hx hy=>by simp at hy,rfl,fun i hi=>absurd hi (Nat.not_lt_zero _)⟩
 clear hP HC HP eP1 HA
 have HU:Hid (Bl w S.aL S.nL S.L):=HR.out.l
 obtain ⟨aL0,eU⟩:∃ a,S.aL=a:=⟨_,rfl⟩
 have HAL:Hid (S.aL=aL0):=eU
 rw [eU] at HU
 clear eU
 have hnl:=HS.out.l
 go_wp2_with fail
 go_loopw [4] (fun i wr=>∃ (k:Nat) (P:Swg),k≤S.nL∧i=.int .i64 k∧Hid (u9 w S P k wr)) (fun i _=>S.nL-(intOf i).toNat)
 case atStart=>exact ⟨0,P1,Nat.zero_le _,rfl,HP1⟩
 clear HP1
 obtain ⟨k,P,hk,rfl,HP⟩:=hrel
 have c14:wr.cell? ⟨w.heap.size,14,none⟩=some (.slice aL0 S.nL S.cL):=by rw [←HAL.out];exact gM HP.out.s.x.a 14
 by_cases hlt:k<S.nL
 ·
  have hlt':(k:Int)<S.nL:=by omega
  obtain ⟨g0,o0,ea,hc⟩:=(HU.out.up HP.out.s.x.bel) k hlt
  subst ea
  go_wp2_with fail
  refine iV (fun w'=>w'.heap[w.heap.size+1+1]?=some (.cells P.cells 34 (0,0))∧w'.cell? ⟨w.heap.size,14,none⟩=some (.slice (some ⟨g0,o0,none⟩) S.nL S.cL)∧∀ j,j<8→w'.cell? ⟨g0,o0+k*8+j,none⟩=(S.L k).cells[j]?) 11 (by kernel_rfl) ?_
  have hd:Below wr.heap.size wr wr.drew:=(Below.refl _ _).drew
  replace HP:Hid (u9 w S P k wr.drew):=HP.out.up hd
  replace c14:wr.drew.cell? ⟨w.heap.size,14,none⟩=some (.slice (some ⟨g0,o0,none⟩) S.nL S.cL):=c14
  clear hd hc
  generalize wr.drew=V at *
  have HTT:Hid (∀ X:World,X.heap[w.heap.size+1+1]?=some (.cells P.cells 34 (0,0))→Below w.heap.size w X→X.heap[w.heap.size]?=some (.cells S.cells 34 (0,0))→(fun w'=>w'.heap[w.heap.size+1+1]?=some (.cells P.cells 34 (0,0))∧w'.cell? ⟨w.heap.size,14,none⟩=some (.slice (some ⟨g0,o0,none⟩) S.nL S.cL)∧∀ j,j<8→w'.cell? ⟨g0,o0+k*8+j,none⟩=(S.L k).cells[j]?) X):=fun X e1 e2 e3=>⟨e1,(gM e3 14).trans ((gM HP.out.s.x.a 14).symm.trans c14),by
   obtain ⟨g9,o9,e9,h9⟩:=(HU.out.up e2) k hlt
   cases e9
   exact h9⟩
  have hT0:=HTT.out V HP.out.s.x.c HP.out.s.x.bel HP.out.s.x.a
  clear c14
  refine tE 0 28 hT0 ?_
  refine ka (i:=1) (some 29) (v:=?_) ?_ hT0 ?_
  rotate_left
  ·
   intro wx hSw
   obtain ⟨hS1,hS2,hS3⟩:=hSw
   have c14:wx.cell? ⟨w.heap.size+1+1,14,none⟩=some (.slice P.aL k P.cL):=by rw [gM hS1 14,←HP.out.nL];rfl
   exact du
  try simp only [Act.put,PZ]
  refine tE 2 30 hT0 ?_
  refine ka (i:=3) (some 31) (v:=?_) ?_ hT0 ?_
  rotate_left
  ·
   intro wx hSw
   obtain ⟨hS1,hS2,hS3⟩:=hSw
   clear hS3
   exact du
  try simp only [Act.put,PZ]
  refine tE 4 32 hT0 ?_
  refine tE 5 33 hT0 ?_
  refine ka (i:=6) (some 34) (v:=.agg (S.L k).cells) ?_ hT0 ?_
  ·
   intro wx hSw
   exact jn 48 8 _ Tryz.underlying48 rfl jR (.tmp 33) rfl g0 (o0+k*8) rfl _ rfl hSw.2.2
  try simp only [Act.put,PZ]
  refine gT (rs:=[7]) (by kernel_rfl) (by simp) ?_
  refine gR.cons rfl (fun K hK=>?_) gR.nil
  go_simp
  refine (sI (S.L k) _ (HS.out.ls k hlt) ((HR.out.ls k hlt).up HP.out.s.x.bel)).mono ?_
  rintro e X1 ⟨l2,rfl,al2,ol2,hb⟩
  have HA1:Hid (iC (S.L k) l2∧iw X1 V.heap.size l2∧Below V.heap.size V X1):=⟨al2,ol2,hb⟩
  have Q1:=HP.out.up hb
  have hu0:OG 48 8 X1 w.heap.size P.aL k P.cL (vc k P.L):=by have:=Q1.l.l;rw [HP.out.nL] at this;exact this
  obtain ⟨g1,c3,X3,hr,hu,ht,hg⟩:=lI 32 48 _ 8 144 AK Tryz.underlying32 rfl (by decide) (by decide) hu0 (by omega) (Nat.le_trans HP.out.s.x.bel.size hb.size) l2.cells rfl (Lng.lx _)
  have LN:l2.cells=#[.bool l2.st,.slice l2.aT l2.nT l2.cT,.slice l2.aU l2.nU l2.cU,.slice l2.R.aQ l2.R.nQ l2.R.cQ,.slice l2.R.aD l2.R.nD l2.R.cD,.int .i64 l2.R.turn,.bool l2.R.fresh,.slice l2.R.aS l2.R.nS l2.R.cS]:=rfl
  rw [LN] at hr ⊢
  have hT1:=HTT.out X1 Q1.s.x.c Q1.s.x.bel Q1.s.x.a
  have hB2:Below X1.heap.size X1 (X1.alloc (.cells #[.bool l2.st,.slice l2.aT l2.nT l2.cT,.slice l2.aU l2.nU l2.cU,.slice l2.R.aQ l2.R.nQ l2.R.cQ,.slice l2.R.aD l2.R.nD l2.R.cD,.int .i64 l2.R.turn,.bool l2.R.fresh,.slice l2.R.aS l2.R.nS l2.R.cS] 48)):=(Below.refl _ _).alloc (Nat.le_refl _) _
  have hT2:=HTT.out _ (Q1.up hB2).s.x.c (Q1.up hB2).s.x.bel (Q1.up hB2).s.x.a
  have hc3:X3.heap[w.heap.size+1+1]?=some (.cells P.cells 34 (0,0)):=(ht.block _ (gO Q1.s.x.c) (hu0.lF (by decide) Q1.s.x.c)).trans Q1.s.x.c
  have hT3:=HTT.out X3 hc3 (Q1.s.x.bel.trans (ht.below Q1.s.x.bel.size (fun x hx=>(hu0.blk x hx).1))) ((ht.block _ (gO Q1.s.x.a) (hu0.lF (by decide) Q1.s.x.a)).trans Q1.s.x.a)
  have HN3:Hid (OG 48 8 X3 w.heap.size (some ⟨g1,0,none⟩) (k+1) c3 (vc k P.L++l2.cells.toList)∧Touch (ix P.aL) X1 X3):=⟨hu,ht⟩
  have HR3:Hid ((Builtin.append_ #[32,32] 32 #[.slice P.aL k P.cL,.slice (some ⟨X1.heap.size,0,none⟩) 1 1]).run Tryz.prog (X1.alloc (.cells #[.bool l2.st,.slice l2.aT l2.nT l2.cT,.slice l2.aU l2.nU l2.cU,.slice l2.R.aQ l2.R.nQ l2.R.cQ,.slice l2.R.aD l2.R.nD l2.R.cD,.int .i64 l2.R.turn,.bool l2.R.fresh,.slice l2.R.aS l2.R.nS l2.R.cS] 48))=.ok (.slice (some ⟨g1,0,none⟩) (k+1) c3) X3):=hr
  clear al2 ol2 hb Q1 hu0 hr hu ht hg hT0 LN hB2
  go_wp2_with fail
  refine hK.out _ _ hT1 ?_
  clear hK K
  try simp only [Act.put,PZ]
  refine gT (rs:=[8]) (by kernel_rfl) (by simp) ?_
  refine gR.cons rfl (fun K hK=>?_) gR.nil
  go_simp
  refine hK.out _ _ hT2 ?_
  clear hK K
  try simp only [Act.put,PZ]
  refine gT (rs:=[9]) (by kernel_rfl) (by simp) ?_
  refine gR.cons rfl (fun K hK=>?_) gR.nil
  refine k9 (by kernel_rfl) (some 37) rfl (.tmp 29) (.tmp 36) 32 _ _ _ rfl rfl rfl rfl HR3.out ?_
  refine hK.out _ _ hT3 ?_
  clear hK K hT2 HR3 hT1
  try simp only [Act.put,PZ]
  have hT0:=hT3
  refine tE 10 38 hT0 ?_
  refine gT (rs:=[11]) (by kernel_rfl) (by simp) ?_
  refine gR.last rfl (fun K hK=>?_)
  refine jP (by kernel_rfl) none rfl 32 (.tmp 38) (.tmp 37) rfl (w.heap.size+1+1) 14 rfl (.slice (some ⟨g1,0,none⟩) (k+1) c3) rfl 1 rfl 34 _ hc3 yf (Nat.le_of_ble_eq_true rfl) (by simp [Value.cells,Value.oneCell']) ?_
  intro X4 hP
  refine hK.out _ _ ?_
  clear hK K
  try simp only [Act.put,PZ]
  refine iH (by kernel_rfl) ?_ _
  have HN:Hid (u9 w S (P.more k (some ⟨g1,0,none⟩) c3 l2) (k+1) X4):=HP.out.more HA1.out.2.2 HA1.out.2.1 HA1.out.1 HN3.out.1 HN3.out.2 hP
  clear hP hT0 hT3 hc3 HN3 HA1 HP HTT
  exact dv
 obtain rfl:k=S.nL:=by omega
 have HL:Hid (∀ j,j<17→wr.cell? ⟨w.heap.size+1+1,0+j,none⟩=P.cells[j]?):=fun j _=>by rw [Nat.zero_add];exact gM HP.out.s.x.c j
 have HD:Hid (wr.heap[w.heap.size+1]?=some (.cells zSw 34 (0,0))):=HP.out.s.x.b
 go_wp2_with (first | refine gY rfl 34 17 _ Tryz.underlying34 rfl ij (.tmp 3) rfl (w.heap.size+1+1) 0 rfl P.cells rfl HL.out ?_ | refine gW rfl 34 (.tmp 2) (.tmp 39) rfl (w.heap.size+1) 0 rfl (.agg P.cells) rfl 17 rfl 34 _ HD.out ij (Nat.le_of_ble_eq_true rfl) (Swg.lx _) ?_)
 intro X hP
 replace hP:Put wr X (w.heap.size+1) P.cells 34:=hP.cast rfl
 have HK:Hid (X.heap[w.heap.size+1]?=some (.cells P.cells 34 (0,0))):=hP.blk
 have HF:Hid (hG S P∧ir X w.heap.size P∧Below w.heap.size w X):=⟨HP.out.alike rfl,HP.out.own.off HD.out hP.to,(HP.out.s.x.out hP).bel⟩
 clear hP HL HD HP
 go_wp2_with fail
 exact bodyPost_ret (kI Tryz.results66 17 _ Tryz.underlying34 rfl ij _ _ (w.heap.size+1) P.cells rfl 34 HK.out rfl) rfl ⟨P,rfl,HF.out.1,HF.out.2.1,HF.out.2.2⟩
theorem mo.empty (w:World) (base:Nat) (hb:base≤w.heap.size):mo (w.alloc (.cells #[] 75)) base (.slice (some ⟨w.heap.size,0,none⟩) 0 0) [] :=
 ⟨rfl,.inr ⟨w.heap.size,0,#[],rfl,hb,gV w _,Nat.le_refl _,Nat.zero_le _,rfl,rfl⟩⟩
theorem yW (a:Option Addr) (n cap:Nat) (f:Nat→Ent) (now:Int) (w:World) (hok:jM n f) (ht:ra now) (h:jA w a n f) :
  Calls Tryz.prog 79 #[.slice a n cap,.int .i64 now] w fun e w'=>∃ v,e=.returned v∧mo w' w.heap.size v (kd (ig n f) now)∧Below w.heap.size w w':=by
 have HR:Hid (jA w a n f):=h
 have HO:Hid (ju n f):=hok.2
 have h8:=hok.1
 obtain ⟨t0,t1⟩:=ht
 clear h hok
 obtain ⟨i0,hi,hz0,hz1,hz2⟩:=info_parts Cv
 go_enter Tryz.func79,Tryz.ntmps79
 go_wp2_with fail
 go_loopw [5,6] (fun v i wr=>∃ k:Nat,k≤n∧i=.int .i64 k∧mo wr w.heap.size v (kd (ig k f) now)∧Below w.heap.size w wr) (fun _ i _=>n-(intOf i).toNat)
 case atStart=>exact ⟨0,Nat.zero_le _,rfl,mo.empty w _ (Nat.le_refl _),(Below.refl _ _).alloc (Nat.le_refl _) _⟩
 obtain ⟨k,hk,rfl,hO,hB⟩:=hrel
 by_cases hlt:k<n
 ·
  have hlt':(k:Int)<n:=by omega
  obtain ⟨g,o,rfl,c1,c2,c3⟩:=(HR.out.up hB) k hlt
  have hx3:=(HO.out k hlt).1.2.2
  have HE:Hid (kd (ig (k+1) f) now=if now-(f k).t≤20 then kd (ig k f) now++[f k] else kd (ig k f) now):=by
   rw [Hid,jq]
   by_cases hs:now-(f k).t≤20
   ·
    simp [kd,hs]
   simp [kd,hs]
  have hll:(kd (ig k f) now).length≤k:=by
   have:=List.length_filter_le (fun y:Ent=>decide (now-y.t≤20)) (ig k f)
   rw [jc] at this
   exact this
  generalize hq:kd (ig k f) now=A at *
  generalize f k=x at *
  obtain ⟨m,p,t⟩:=x
  dsimp only at c1 c2 c3 hx3 HE
  have hw:IntKind.i64.wrap (now-t)=now-t:=kY _ (by omega) (by omega)
  have hz:=hB.size
  by_cases hs:now-t≤20
  ·
   have HE2:Hid (kd (ig (k+1) f) now=A++[⟨m,p,t⟩]):=by rw [Hid,HE.out,if_pos hs]
   clear HE hx3
   go_wp2_with (at_builtin;refine wpList_append_own _ rfl (.tmp 22) (.tmp 27) 26 rfl w.heap.size 75 i0 (.agg #[.int .i64 0,.int .i64 0,.int .i64 0]) 3 24 Tryz.underlying26 hi hz0 hz1 hz2 rfl (by decide) _ A.length _ rfl (World.ownsRow.alloc hO _) ⟨wr.heap.size,0,none⟩ 1 1 (j6 ⟨m,p,t⟩) rfl rfl (iR wr ⟨m,p,t⟩ _) (Ac _) (by unfold maxLen;omega) (by omega) (by simp;omega) ?_;intro v' w' hown' hgrow' hnil')
   have hO2:mo w' w.heap.size v' (A++[⟨m,p,t⟩]):=by
    unfold mo
    rw [tr,List.length_append]
    exact hown'
   have B2:Below w.heap.size w w':=hB.grown ((World.grownBy_alloc wr _ _).trans hgrow') hz (fun j hj=>(World.ownsRow.lt hO j hj).1)
   clear hown' hgrow' hnil' hO hB
   go_roundw
   case rel=>exact ⟨k+1,by omega,by go_num,by rw [HE2.out];exact hO2,B2⟩
   case measure=>simp [intOf];omega
  have HE2:Hid (kd (ig (k+1) f) now=A):=by rw [Hid,HE.out,if_neg hs]
  clear HE hx3
  go_wp2_with fail
  go_roundw
  case rel=>exact ⟨k+1,by omega,by go_num,by rw [HE2.out];exact hO,hB⟩
  case measure=>simp [intOf];omega
 obtain rfl:k=n:=by omega
 go_wp2_with fail
 go_ret
 exact ⟨_,rfl,hO,hB⟩
end Go.Proofs.YthicmlolanifhaaGreat
