import Derived.Test.YtjaobmbcmjgjgaaGreatDoorA25
import Derived.LaidEql
import Derived.RowKitTokens
import Derived.Stop.Asserts
import Derived.WalkKit
namespace Go.Proofs.YtjaobmbcmjgjgaaGreatDoor
set_option maxRecDepth 1000000
set_option maxHeartbeats 8000000
open Go.RowKit
set_option linter.unusedVariables false
set_option linter.unusedSimpArgs false
theorem dx {p:Prop} (h:p:=by
 refine gR (rs:=[17]) (by kernel_rfl) (by simp) ?_
 refine ga.last rfl (fun K hK=>?_)
 refine iz (by kernel_rfl) none rfl 97 (.tmp 67) (.tmp 64) rfl g (o+3) rfl (.agg R5.cells) rfl 5 rfl 99 _ hT5.1 pn (by omega) (by simp [Value.cells,Value.oneCell',Rnd.cells]) ?_
 intro X6 hP
 exact dE):p:=h
theorem dA {p:Prop} (h:p:=by
 go_wp2_with fail
 refine (yN g a _ H1.out).mono ?_
 rintro e w' ⟨rfl,rfl⟩
 go_wp2_with fail
 exact dF):p:=h
theorem dB {p:Prop} (h:p:=by
 show (S.lrL i x).length+(S.N.nU+S.N.nP)+S.nK+(S.nL+iy (fun k=>(S.L k).tot) S.nL)≤S.nE+(S.N.nU+S.N.nP)+S.nK+(S.nL+iy (fun k=>(S.L k).tot) S.nL)+100
 omega):p:=h
theorem dC {p:Prop} (h:p:=by
 go_enter Tryz.func76,Tryz.ntmps76
 go_wp2
 refine wp_loop_rounds 2 ?_
 rw [rounds_succ]
 go_wp2
 rw [rounds_succ]
 go_wp2
 exact dF):p:=h
theorem dD {p:Prop} (h:p:=by
 rintro e w' ⟨rfl,rfl⟩
 go_wp2_with fail
 refine bodyPost_ret (results_none rfl _ _ _) rfl ?_
 exact ⟨⟨_,rfl⟩,HB.out⟩):p:=h
theorem dE {p:Prop} (h:p:=by
 refine hK.out _ _ ?_
 clear hK K
 try simp only [Act.put,PZ]
 refine oN (by kernel_rfl) ?_ _
 exact Co):p:=h
theorem dF {p:Prop} (h:p:=by
 go_ret
 exact ⟨rfl,rfl⟩):p:=h
theorem sy {A:List Ent} (hl:A.length≤8) (hs:iA A) (ho:∀ y∈A,jK y):jr A.length (fun i=>A.getD i default):=by
 have hg:∀ i (h:i<A.length),A.getD i default=A[i]:=fun i h=>by simp [List.getD_eq_getElem?_getD,h]
 refine ⟨hl,fun i hi=>⟨?_,fun h0=>?_⟩⟩
 ·
  show jK (A.getD i default)
  rw [hg i hi]
  exact ho _ (List.getElem_mem hi)
 show (A.getD (i-1) default).m<(A.getD i default).m
 rw [hg i hi,hg (i-1) (by omega)]
 exact (List.pairwise_iff_getElem.1 hs) (i-1) i (by omega) hi (by omega)
theorem nc {x:Pkt} (h:x.nr):1≤x.s∧x.s≤20∧(1≤x.d∧x.d≤20∨x.d=255):=by
 have h2:=h.2
 have h1:=h.1
 unfold jT at h2
 simp only [decide_eq_true_eq] at h2
 omega
theorem Swg.Ok.lrn {S:Swg} (h:S.Ok) {i:Nat} (hi:i<S.nL) {x:Pkt} (hx:x.nr):jK ⟨x.s,(i:Int),S.now⟩:=by
 have h1:=nc hx
 have h2:=h.nl
 have h3:=h.n.c.num.p
 have h4:=h.oy.now
 exact ⟨⟨h1.1,h1.2.1⟩,⟨by show (0:Int)≤(i:Int);omega,by show (i:Int)≤3;omega⟩,h4⟩
theorem Swg.Ok.AA {S:Swg} (h:S.Ok) {i:Nat} (hi:i<S.nL) {x:Pkt} (hx:x.nr):jr (S.lrL i x).length (fun j=>(S.lrL i x).getD j default):=by
 obtain ⟨h1,h2,h3⟩:=jQ h.seen.1 (h.lrn hi hx)
 exact sy h2 h1 h3
theorem Swg.Ok.toR {S:Swg} (h:S.Ok) {i:Nat} (hi:i<S.nL) {x:Pkt} (hx:x.nr):zT (S.lrL i x).length (fun j=>(S.lrL i x).getD j default) x.d S.now (S.toP i x):=by
 refine ⟨fun _ _=>?_,fun hn=>absurd ⟨h.AA hi hx,h.oy.now⟩ hn⟩
 rw [lq]
 rfl
theorem Swg.Ok.toGe {S:Swg} (h:S.Ok) {i:Nat} (hi:i<S.nL) {x:Pkt} (hx:x.nr):-1≤S.toP i x∧S.toP i x≤3:=by
 unfold Swg.toP qL
 obtain ⟨_,_,h3⟩:=jQ h.seen.1 (h.lrn hi hx)
 split
 ·
  rename_i hc
  have h4:(0:Int)≤(atM x.d (S.lrL i x)).p∧(atM x.d (S.lrL i x)).p≤3:=(h3 _ (rX hc.1).1).2.1
  omega
 omega
theorem ks.ogW {w:World} {base:Nat} {v:Value} {A:List Ent} (h:ks w base v A):∃ a c,v=.slice a A.length c∧OG 92 3 w base a A.length c (hF (gb A.length fun i=>A.getD i default)):=by
 rw [lq]
 rcases h.2 with ⟨e1,e2⟩ | ⟨g,cap,cur,e1,_⟩
 ·
  refine ⟨none,0,by rw [e1,e2],?_⟩
  have h':w.ownsRow base 92 3 v A.length (hF A):=h
  rw [e1] at h'
  show w.ownsRow base 92 3 (.slice none A.length 0) A.length (hF A)
  rw [e2] at h' ⊢
  exact h'
 refine ⟨some ⟨g,0,none⟩,cap,e1,?_⟩
 have h':w.ownsRow base 92 3 v A.length (hF A):=h
 rw [e1] at h'
 exact h'
theorem gy.hI {w:World} {base:Nat} {P:Swg} {port:Int} {x:Pkt} {aE:Option Addr} {cE:Nat} (h:gy w base P) (he:OG 92 3 w base aE (P.lrL port x).length cE (hF (gb (P.lrL port x).length fun i=>(P.lrL port x).getD i default))):gy w base (P.hI port x aE cE):=⟨he,h.n,h.k,h.l,h.un⟩
theorem gy.lane {w w':World} {base gL gp i:Nat} {P:Swg} {l2:Lng} {cur cp:Array Value} (h:gy w base P) (hi:i<P.nL) (eL:P.aL=some ⟨gL,0,none⟩) (kL:w.heap[gL]?=some (.cells cur 99 (0,0))) (kP:w.heap[gp]?=some (.cells cp 94 (0,0))) (hgp:gp∉gi P.aK) (hn:Bv w w' base gL gp (i*8) cur (P.L i) l2) :
  gy w' base { P with L:=fun k=>if k=i then l2 else P.L k }:=by
 obtain ⟨T,hto,hT⟩:=hn.hit
 have oi:=h.l.ls i hi
 have far:∀ {x:Nat} {cs:Array Value} {t:TypeId},w.heap[x]?=some (.cells cs t (0,0))→t≠99→t≠94→t≠2→t≠25→x∉T:=by
  intro x cs t kx h1 h2 h3 h4 hx
  rcases hT x hx with e | e | e | e
  ·
   exact gj kx kL h1 e
  ·
   exact gj kx kP h2 e
  ·
   obtain ⟨c2,k2⟩:=oi.type2 x e
   exact gj kx k2 h3 rfl
  obtain ⟨c2,k2⟩:=oi.ux x e
  exact gj kx k2 h4 rfl
 refine ⟨h.e.fL hto (fun x hx=>?_),⟨h.n.u.fL hto (fun x hx hy=>?_),h.n.p.fL hto (fun x hx=>?_)⟩,h.k.fL hto (fun x hx hy=>?_),h.l.swap hi eL kL kP hn,fun x hx hy=>?_⟩
 ·
  obtain ⟨cs,k⟩:=h.e.type x hx
  exact far k (by decide) (by decide) (by decide) (by decide)
 ·
  obtain ⟨cs,k⟩:=h.n.u.type x hx
  rcases hT x hy with e | e | e | e
  ·
   exact gj k kL (by decide) e
  ·
   exact gj k kP (by decide) e
  ·
   exact h.un x hx (by simp only [List.mem_flatMap,List.mem_range];exact ⟨i,hi,e⟩)
  obtain ⟨c2,k2⟩:=oi.ux x e
  exact gj k k2 (by decide) rfl
 ·
  obtain ⟨cs,k⟩:=h.n.p.type x hx
  exact far k (by decide) (by decide) (by decide) (by decide)
 ·
  obtain ⟨cs,k⟩:=h.k.type x hx
  rcases hT x hy with e | e | e | e
  ·
   exact gj k kL (by decide) e
  ·
   exact hgp (e▸hx)
  ·
   obtain ⟨c2,k2⟩:=oi.type2 x e
   exact gj k k2 (by decide) rfl
  obtain ⟨c2,k2⟩:=oi.ux x e
  exact gj k k2 (by decide) rfl
 simp only [List.mem_flatMap,List.mem_range] at hy
 obtain ⟨k,hk,hy⟩:=hy
 have hy':x∈(if k=i then l2 else P.L k).iJ:=hy
 by_cases e:k=i
 ·
  rw [if_pos e] at hy'
  rcases hn.z x hy' with e1 | e1
  ·
   exact h.un x hx (by simp only [List.mem_flatMap,List.mem_range];exact ⟨i,hi,e1⟩)
  have:=(h.n.u.blk x hx).2
  omega
 rw [if_neg e] at hy'
 exact h.un x hx (by simp only [List.mem_flatMap,List.mem_range];exact ⟨k,hk,hy'⟩)
theorem pV {nx p:Int} {K:Nat→Pkt} {m:Nat} (h:jE nx p m K):∀ {a b:Nat},a≤b→b≤m→gM K a≤gM K b:=by
 intro a b
 induction b with
 | zero =>
  intro h1 _
  have e:a=0:=by omega
  rw [e]
  exact Int.le_refl _
 | succ b ih =>
  intro h1 h2
  by_cases e:a=b+1
  ·
   subst e;exact Int.le_refl _
  have:=ih (by omega) (by omega)
  have hc:=(h.one b (by omega)).2.2.cl
  show gM K a≤gM K b+_
  split <;> omega
theorem pq.lo {n:Nat} {z:Nat→Int} {prio nx p:Int} {m:Nat} {K:Nat→Pkt} (h:pq n z prio m K) (hK:jE nx p m K) (hp:prio≠2):(n:Int)≤gM K m:=by
 have key:∀ k,k≤n→∀ j,j<m→(0<k→(K j).id=z (k-1)∧(K j).p=prio)→(k:Int)≤gM K (j+1):=by
  intro k
  induction k with
  | zero=>intro _ j hj _;have:=(mM hK (j+1) (by omega)).1;omega
  | succ k ih =>
   intro hk j hj e
   obtain ⟨e1,e3⟩:=e (by omega)
   rw [Nat.add_sub_cancel] at e1
   have hc:=(hK.one j hj).2.2.cl
   have hs:gM K (j+1)=gM K j+(K j).cl:=by
    show gM K j+_=_
    rw [if_neg (by rw [e3];exact hp)]
   by_cases h0:k=0
   ·
    have:=(mM hK j (by omega)).1
    omega
   obtain ⟨⟨j',hj',e2,e4⟩,hr⟩:=h (k-1) (by omega)
   have hlt:=(h k (by omega)).2 (by omega)
   have:=ih (by omega) j' hj' (fun _=>⟨e2,e4⟩)
   have hjj:j'<j:=by
    have hu:=mv hK.up j' j
    by_cases c:j'<j
    ·
     exact c
    by_cases c2:j=j'
    ·
     subst c2;omega
    have:=hu (by omega) hj'
    omega
   have:=pV hK (show j'+1≤j by omega) (by omega)
   omega
 by_cases h0:n=0
 ·
  have:=(mM hK m (Nat.le_refl _)).1
  omega
 obtain ⟨⟨j,hj,e,e2⟩,_⟩:=h (n-1) (by omega)
 have h1:=key n (Nat.le_refl _) j hj (fun _=>⟨e,e2⟩)
 have:=pV hK (show j+1≤m by omega) (Nat.le_refl _)
 omega
theorem Swg.Ok.room {S:Swg} (h:S.Ok) {i:Nat} (hi:i<S.nL) {x:Pkt} (hx:x.nr) {k:Nat} (hk:x.p=(k:Int)) (h2:x.p≠2):k<2∧mJ (S.L i).R (k:Int) x.cl∧(S.L i).uL k≤1000:=by
 have hl:=h.l i hi
 have hp:=hx.pr
 have hk2:k<2:=by omega
 obtain ⟨z1,z2,_⟩:=hl.z k hk2
 have hlo:=z1.lo h.k (by omega)
 have h5:=h.held.1
 have h6:=h.n.lo
 have h7:=h.n.c.sum
 have h8:=h.n.c.num
 have h9:=h8.c
 have h10:=h8.xo
 have h11:=h8.hd
 have h12:=h8.p
 have h13:1≤S.C.p*(S.C.xo+S.C.hd):=by
  have a1:(1:Int)≤S.C.p:=by omega
  have a2:(1:Int)≤S.C.xo+S.C.hd:=by omega
  calc (1:Int)=1*1:=rfl
   _≤S.C.p*(S.C.xo+S.C.hd):=Int.mul_le_mul a1 a2 (by omega) (by omega)
 have hn:(S.L i).uL k<1000:=by omega
 refine ⟨hk2,⟨hl.r,⟨by omega,by rw [hl.n];omega⟩,hx.cl,?_⟩,by omega⟩
 rw [Int.toNat_natCast,←z2]
 exact hn
theorem qC {f g:Nat→Nat} {d:Nat}:∀ {n:Nat},(∀ i,i<n→f i≤g i+d)→iy f n≤iy g n+n*d:=by
 intro n
 induction n with
 | zero=>intro _;exact Nat.zero_le _
 | succ n ih =>
  intro h
  show iy f n+f n≤iy g n+g n+(n+1)*d
  have:=ih (fun i hi=>h i (by omega))
  have:=h n (by omega)
  rw [Nat.add_mul]
  omega
theorem Swg.Ok.Bw {S:Swg} (h:S.Ok) (hs:S.Small) {i:Nat} (hi:i<S.nL) (p id cl:Int):((S.L i).wait p id cl).Small∧((S.L i).wait p id cl).tot≤(S.L i).tot+4:=by
 have hl:=h.l i hi
 have hm:=hs.ls i hi
 have hk:=h.k.le
 have ht:=hl.t.le h.k
 unfold Lng.wait
 split
 ·
  refine ⟨⟨by show (S.L i).nT+1≤_;omega,hm.u,hm.z,hm.r⟩,?_⟩
  show (S.L i).nT+1+iy (S.L i).uL (S.L i).nU+(S.L i).R.tot≤(S.L i).nT+iy (S.L i).uL (S.L i).nU+(S.L i).R.tot+4
  omega
 have hz:∀ c,c<2→(S.L i).uL c≤1000∧(S.L i).R.L c=(S.L i).uL c:=fun c hc=>⟨Nat.le_trans ((hl.z c hc).1.le h.k) hk,(hl.z c hc).2.1.symm⟩
 have hu:=hl.u
 have hS:(S.L i).R.nS=2:=by rw [hl.r.s,hl.n]
 have up:∀ (f:Nat→Nat) (c:Nat),(if c=p.toNat then f p.toNat+1 else f c)≤f c+1:=fun f c=>by
  split
  ·
   rename_i e;rw [e];omega
  omega
 refine ⟨⟨hm.t,hm.u,fun c hc=>?_,⟨hm.r.q,hm.r.d,hm.r.s,fun c hc=>?_⟩⟩,?_⟩
 ·
  show (if c=p.toNat then (S.L i).uL p.toNat+1 else (S.L i).uL c)≤1048576
  have hc2:c<(S.L i).nU:=hc
  have h1:=(hz c (by omega)).1
  have h2:=up (S.L i).uL c
  omega
 ·
  show (if c=p.toNat then (S.L i).R.L p.toNat+1 else (S.L i).R.L c)≤1048576
  have hc2:c<(S.L i).R.nS:=hc
  have h1:=hz c (by omega)
  have h2:=up (S.L i).R.L c
  omega
 have h1:=qC (n:=(S.L i).nU) (fun c _=>up (S.L i).uL c)
 have h2:=qC (n:=(S.L i).R.nS) (fun c _=>up (S.L i).R.L c)
 show (S.L i).nT+iy (fun c=>if c=p.toNat then (S.L i).uL p.toNat+1 else (S.L i).uL c) (S.L i).nU+((S.L i).R.nQ+(S.L i).R.nD+iy (fun c=>if c=p.toNat then (S.L i).R.L p.toNat+1 else (S.L i).R.L c) (S.L i).R.nS)≤(S.L i).nT+iy (S.L i).uL (S.L i).nU+((S.L i).R.nQ+(S.L i).R.nD+iy (S.L i).R.L (S.L i).R.nS)+4
 omega
theorem pQ.le {S S':Swg} {port:Int} {x:Pkt} {code:Int} (hs:S.Small) (hx:x.b.size≤1048576) (h:pQ S S' port x code):S'.Small∧S'.tot≤S.tot+100:=by
 rcases h with ⟨_,rfl,_⟩ | ⟨_,_,rfl,_⟩ | ⟨hok,hfr,i,rfl,hi,h⟩
 ·
  exact ⟨⟨Nat.zero_le _,⟨Nat.zero_le _,Nat.zero_le _⟩,Nat.zero_le _,fun i hi=>absurd hi (Nat.not_lt_zero _),Nat.zero_le _,fun i hi=>absurd hi (Nat.not_lt_zero _)⟩,Nat.zero_le _⟩
 ·
  exact ⟨hs,by omega⟩
 have hnl:S.nL≤4:=by have:=hok.nl;have:=hok.n.c.num.p;omega
 rcases h with ⟨_,rfl,_⟩ | ⟨hk,h⟩
 ·
  refine ⟨⟨hs.e,hs.n,hs.k,hs.b,hs.l,fun k hk=>?_⟩,?_⟩
  ·
   show (if k=i then ({ S.L i with st:=decide (x.k=2) }:Lng) else S.L k).Small
   split
   ·
    exact ⟨(hs.ls i hi).t,(hs.ls i hi).u,(hs.ls i hi).z,(hs.ls i hi).r⟩
   exact hs.ls k hk
  have h1:=qC (f:=fun k=>(if k=i then ({ S.L i with st:=decide (x.k=2) }:Lng) else S.L k).tot) (g:=fun k=>(S.L k).tot) (d:=0) (n:=S.nL) (fun k _=>by
   dsimp only
   split
   ·
    rename_i e;rw [e];exact Nat.le_refl _
   ·
    exact Nat.le_refl _)
  show S.nE+(S.N.nU+S.N.nP)+S.nK+(S.nL+iy (fun k=>(if k=i then ({ S.L i with st:=decide (x.k=2) }:Lng) else S.L k).tot) S.nL)≤S.nE+(S.N.nU+S.N.nP)+S.nK+(S.nL+iy (fun k=>(S.L k).tot) S.nL)+100
  omega
 have he:=(hok.AA hi ⟨hk,hfr⟩).1
 rcases h with ⟨_,rfl,_⟩ | ⟨_,_,rfl,_⟩ | ⟨_,_,_,rfl,_⟩
 ·
  refine ⟨⟨by show (S.lrL i x).length≤_;omega,hs.n,hs.k,hs.b,hs.l,hs.ls⟩,?_⟩
  exact dB
 ·
  have e:∀ (P:Swg) (p:Int),(P.lf p).tot=P.tot∧(P.Small→(P.lf p).Small):=fun P p=>by
   unfold Swg.lf
   split
   ·
    exact ⟨rfl,fun h=>⟨h.e,h.n,h.k,h.b,h.l,h.ls⟩⟩
   exact ⟨rfl,fun h=>⟨h.e,h.n,h.k,h.b,h.l,h.ls⟩⟩
  refine ⟨(e _ _).2 ⟨by show (S.lrL i x).length≤_;omega,hs.n,hs.k,hs.b,hs.l,hs.ls⟩,?_⟩
  rw [(e _ _).1]
  exact dB
 have hn:(lr S.N (i:Int) x.p x.cl).nU=S.N.nU∧(lr S.N (i:Int) x.p x.cl).nP=S.N.nP:=by unfold lr;split <;> exact ⟨rfl,rfl⟩
 have hkl:=hok.k.le
 have hw:∀ k,k<S.nL→(S.iO i (S.toP i x) x S.nL k).Small∧(S.iO i (S.toP i x) x S.nL k).tot≤(S.L k).tot+4:=fun k hk=>by
  unfold Swg.iO
  split
  ·
   exact hok.Bw hs hk _ _ _
  exact ⟨hs.ls k hk,by omega⟩
 refine ⟨⟨by show (S.lrL i x).length≤_;omega,⟨by show (lr S.N (i:Int) x.p x.cl).nU≤_;rw [hn.1];exact hs.n.u,by show (lr S.N (i:Int) x.p x.cl).nP≤_;rw [hn.2];exact hs.n.p⟩,by show S.nK+1≤_;omega,fun k hk=>?_,hs.l,fun k hk=>(hw k hk).1⟩,?_⟩
 ·
  have hk':k<S.nK+1:=hk
  show (if k=S.nK then S.pkt i x (kE (S.toP i x) i S.nL) else S.K k).b.size≤_
  split
  ·
   exact hx
  exact hs.b k (by omega)
 have h1:=qC (n:=S.nL) (fun k hk=>(hw k hk).2)
 show (S.lrL i x).length+((lr S.N (i:Int) x.p x.cl).nU+(lr S.N (i:Int) x.p x.cl).nP)+(S.nK+1)+(S.nL+iy (fun k=>(S.iO i (S.toP i x) x S.nL k).tot) S.nL)≤S.nE+(S.N.nU+S.N.nP)+S.nK+(S.nL+iy (fun k=>(S.L k).tot) S.nL)+100
 rw [hn.1,hn.2]
 omega
section
variable {P : Program} {ops : Array Oper} {Q : Exit → Act → World → Prop} {md : Region.Mode} {T : World → Prop} {d : Nat}
def jG (P:Program) (md:Region.Mode) (ops:Array Oper) (Q:Exit→Act→World→Prop) (T:World→Prop) (d:Nat):Nat→Array Bool→Act→World→Prop
 | 0,listed,a,w=>Region.ready md ops listed=[]∧Q .normal a w
 | fuel+1,listed,a,w =>
  (Region.ready md ops listed=[]→Q .normal a w) ∧
  ∀ i∈Region.ready md ops listed,wpOp P ops Q i (fun a' w'=>(i=d∨listed[d]?=some true∨T w')∧jG P md ops Q T d fuel (listed.setIfInBounds i true) a' w') a w
theorem pR:∀ (fuel:Nat) (listed:Array Bool) (a:Act) (w:World),jG P md ops Q T d fuel listed a w→wpAny P md ops Q fuel listed a w
 | 0,_,_,_,h=>h
 | fuel+1,_,_,_,h=>⟨h.1,fun i hi=>wpOp_mono (fun a' w' h'=>pR fuel _ a' w' h'.2) (h.2 i hi)⟩
theorem sg {i:Nat} {oi:Oper} {v:Value} (hi:ops[i]?=some oi) (hsel:∀ (j:Nat) (o:Oper) cs b,ops[j]?=some o→o.op≠.select cs b)
  (hQ:∀ c a w,Q (.panic c) (a.put oi.dst v) w→Q (.panic c) a w) (hd:jq md ops d i=true) :
  ∀ (fuel:Nat) (listed:Array Bool) (a:Act) (w:World),
   (∀ j oj,ops[j]?=some oj→j≠i→listed.getD j true=false→(∀ e∈oj.after,Region.binds md e=true→e.on≠i)→oi.apart ops oj=true) →
   listed[d]?≠some true→i∈Region.ready md ops listed→YieldsIf P ops T oi v a→T w →
   jG P md ops Q T d fuel (listed.setIfInBounds i true) (a.put oi.dst v) w→jG P md ops Q T d (fuel+1) listed a w:=by
 intro fuel
 induction fuel with
 | zero =>
  intro listed a w _ hdu hr hy hS H
  refine ⟨fun h=>(by rw [h] at hr;cases hr),fun j hj=>?_⟩
  by_cases hji:j=i
  ·
   subst hji;exact hy.wpOp hi hS ⟨.inr (.inr hS),H⟩
  have:=ready_mono hj hji
  rw [H.1] at this
  cases this
 | succ fuel ih =>
  intro listed a w hfree hdu hr hy hS H
  have hid:i≠d:=fun e=>o5 hd hr (e▸hr)
  refine ⟨fun h=>(by rw [h] at hr;cases hr),fun j hj=>?_⟩
  by_cases hji:j=i
  ·
   subst hji;exact hy.wpOp hi hS ⟨.inr (.inr hS),H⟩
  have h1:=H.2 j (ready_mono hj hji)
  have hjd:j≠d:=fun e=>o5 hd hr (e▸hj)
  obtain ⟨hjun,oj,hoj,hall⟩:=mem_ready.1 hj
  have hnot:∀ e∈oj.after,Region.binds md e=true→e.on≠i:=fun e he hb heq=>by
   have h1:=hall e he hb
   have h0:=(mem_ready.1 hr).1
   rw [heq] at h1
   rcases Nat.lt_or_ge i listed.size with h' | h'
   ·
    simp [h'] at h0 h1;rw [h0] at h1;cases h1
   simp [Array.getElem?_eq_none h'] at h1
  have h2:=wpOp_putIf hoj (hfree j oj hoj hji hjun hnot) (fun cs b=>hsel i oi cs b hi) (fun cs b=>hsel j oj cs b hoj) hQ hy h1
  have hfree':∀ k ok,ops[k]?=some ok→k≠i→(listed.setIfInBounds j true).getD k true=false →
    (∀ e∈ok.after,Region.binds md e=true→e.on≠i)→oi.apart ops ok=true:=fun k ok hk hki hun hno=>by
   refine hfree k ok hk hki ?_ hno
   by_cases hjk:j=k
   ·
    subst hjk;exact hjun
   rw [getD_set_ne true hjk] at hun;exact hun
  refine wpOp_mono (fun a' w' h3=>?_) h2
  have hT:T w':=by
   rcases h3.2.1 with e | e | e
   ·
    exact absurd e hjd
   ·
    rw [Array.getElem?_setIfInBounds_ne hid] at e
    exact absurd e hdu
   exact e
  have hdu':(listed.setIfInBounds j true)[d]?≠some true:=by rw [Array.getElem?_setIfInBounds_ne hjd];exact hdu
  refine ⟨.inr (.inr hT),ih (listed.setIfInBounds j true) a' w' hfree' hdu' (ready_mono hr (Ne.symm hji)) h3.1 hT ?_⟩
  rw [Array.setIfInBounds_comm _ _ hji]
  exact h3.2.2
theorem Ac {i:Nat} (dd:Option Tmp) {oi:Oper} {v:Value} {fuel:Nat} {listed:Array Bool} {a:Act} {w:World} (hy:∀ w,T w→(execOp a.eval oi).run P w=.ok (.value v) w) (hS:T w)
  (h:jG P md ops Q T d fuel (listed.setIfInBounds i true) (a.put dd v) w) (hi:ops[i]?=some oi:=by rfl) (hd:oi.dst=dd:=by rfl) (hwt:jq md ops d i=true:=by kernel_rfl)
  (hs:Region.noSelect ops=true:=by kernel_rfl) (hf:Region.free md ops listed i=true:=by kernel_rfl) (hr:(Region.ready md ops listed).contains i=true:=by kernel_rfl)
  (hQ:∀ c a w,Q (.panic c) (a.put dd v) w→Q (.panic c) a w:=by exact fun _ _ _ h=>h) (hdu:(listed[d]? == some true)=false:=by kernel_rfl) (hw:Region.wanted oi (yielded ops a.tmps)=true:=by kernel_rfl):jG P md ops Q T d (fuel+1) listed a w:=by
 subst hd
 exact sg hi (Region.noSelect_spec hs) hQ hwt fuel listed a w (Region.free_spec hi hf) (fun e=>by rw [e] at hdu;simp at hdu) (by simpa using hr) (Or.inl ⟨hw,hy⟩) hS h
theorem tG (i k:Nat) {oi:Oper} {v:Value} {fuel:Nat} {listed:Array Bool} {a a':Act} {w:World} (hS:T w)
  (h:jG P md ops Q T d fuel (listed.setIfInBounds i true) a' w) (hi:ops[i]?=some oi:=by rfl) (hd:oi.dst=some k:=by rfl)
  (hy:∀ w,T w→(execOp a.eval oi).run P w=.ok (.value v) w:=by intro wx hSw;go_simp;try with_reducible rfl)
  (ha:a.put (some k) v=a':=by (try simp only [Act.put,PZ]);try exact rfl) (hwt:jq md ops d i=true:=by kernel_rfl)
  (hs:Region.noSelect ops=true:=by kernel_rfl) (hf:Region.free md ops listed i=true:=by kernel_rfl) (hr:(Region.ready md ops listed).contains i=true:=by kernel_rfl)
  (hQ:∀ c a w,Q (.panic c) (a.put (some k) v) w→Q (.panic c) a w:=by exact fun _ _ _ h=>h) (hdu:(listed[d]? == some true)=false:=by kernel_rfl) (hw:Region.wanted oi (yielded ops a.tmps)=true:=by kernel_rfl):jG P md ops Q T d (fuel+1) listed a w :=
 Ac (some k) hy hS (by rw [ha];exact h) hi hd hwt hs hf hr hQ hdu hw
def ga (P:Program) (md:Region.Mode) (ops:Array Oper) (Q:Exit→Act→World→Prop) (T:World→Prop) (d fuel:Nat) (listed:Array Bool) (a:Act) (w:World) (rs:List Nat):Prop :=
 ∀ i∈rs,wpOp P ops Q i (fun a' w'=>(i=d∨listed[d]?=some true∨T w')∧jG P md ops Q T d fuel (listed.setIfInBounds i true) a' w') a w
theorem ga.nil {fuel:Nat} {listed:Array Bool} {a:Act} {w:World}:ga P md ops Q T d fuel listed a w []:=fun _ h=>by cases h
theorem ga.cons {fuel:Nat} {listed:Array Bool} {a:Act} {w:World} {i:Nat} {o:Oper} {rs:List Nat} (ho:ops[i]?=some o)
  (h:∀ K':Act→World→Prop,Shut (∀ a w,T w→jG P md ops Q T d fuel (listed.setIfInBounds i true) a w→K' a w)→if Region.wanted o (yielded ops a.tmps)=true then Oper.wp P o a w K' Q else K' (a.put o.dst undef) w)
  (hs:ga P md ops Q T d fuel listed a w rs):ga P md ops Q T d fuel listed a w (i :: rs):=fun j hj=>by
 rcases List.mem_cons.1 hj with rfl | hj
 ·
  exact wpOp_step ho (fun K' hK=>h K' (fun a w hS hW=>hK a w ⟨.inr (.inr hS),hW⟩))
 exact hs j hj
theorem ga.last {fuel:Nat} {listed:Array Bool} {a:Act} {w:World} {o:Oper} (ho:ops[d]?=some o)
  (h:∀ K':Act→World→Prop,Shut (∀ a w,jG P md ops Q T d fuel (listed.setIfInBounds d true) a w→K' a w)→if Region.wanted o (yielded ops a.tmps)=true then Oper.wp P o a w K' Q else K' (a.put o.dst undef) w):ga P md ops Q T d fuel listed a w [d]:=fun j hj=>by
 obtain rfl:=List.mem_singleton.1 hj
 exact wpOp_step ho (fun K' hK=>h K' (fun a w hW=>hK a w ⟨.inl rfl,hW⟩))
theorem ga.late {fuel:Nat} {listed:Array Bool} {a:Act} {w:World} {i:Nat} {o:Oper} (ho:ops[i]?=some o) (hl:listed[d]?=some true)
  (h:∀ K':Act→World→Prop,Shut (∀ a w,jG P md ops Q T d fuel (listed.setIfInBounds i true) a w→K' a w)→if Region.wanted o (yielded ops a.tmps)=true then Oper.wp P o a w K' Q else K' (a.put o.dst undef) w):ga P md ops Q T d fuel listed a w [i]:=fun j hj=>by
 obtain rfl:=List.mem_singleton.1 hj
 exact wpOp_step ho (fun K' hK=>h K' (fun a w hW=>hK a w ⟨.inr (.inl hl),hW⟩))
theorem gR {rs:List Nat} {fuel:Nat} {listed:Array Bool} {a:Act} {w:World} (hr:Region.ready md ops listed=rs) (hne:rs≠[])
  (h:ga P md ops Q T d fuel listed a w rs):jG P md ops Q T d (fuel+1) listed a w :=
 ⟨fun h0=>absurd (hr▸h0) hne,hr▸h⟩
theorem oN {listed:Array Bool} {a:Act} {w:World} (hr:Region.ready md ops listed=[]) (h:Q .normal a w) :
  ∀ fuel,jG P md ops Q T d fuel listed a w
 | 0=>⟨hr,h⟩
 | _+1=>⟨fun _=>h,by rw [hr];simp⟩
theorem oK {id:Nat} {a:Act} {w:World} (T:World→Prop) (d:Nat) (hm:P.follows .mixedOrders=true)
  (h:jG P .any ops Q T d ops.size (Array.replicate ops.size false) a w.drew):(Code.region id ops true).wp P Q a w :=
 wp_region_any hm (pR _ _ _ _ h)
end
section
variable {P : Program} {ops : Array Oper} {Q : Exit → Act → World → Prop} {md : Region.Mode} {T : World → Prop} {d : Nat}
theorem tEX (i k:Nat) {oi:Oper} {v:Value} {fuel:Nat} {listed:Array Bool} {a a':Act} {w:World} (hS:T w)
  (h:jP P md ops Q T d fuel (listed.setIfInBounds i true) a' w) (hi:ops[i]?=some oi:=by rfl) (hd:oi.dst=some k:=by rfl)
  (hy:∀ w,T w→(execOp a.eval oi).run P w=.ok (.value v) w:=by intro wx hSw;have hCw:=Hcs.out wx hSw;(repeat (have hL:=And.left hCw;replace hCw:=And.right hCw));go_simp;try with_reducible rfl)
  (ha:a.put (some k) v=a':=by (try simp only [Act.put,PZ]);try exact rfl) (hwt:jq md ops d i=true:=by kernel_rfl)
  (hs:Region.noSelect ops=true:=by kernel_rfl) (hf:Region.free md ops listed i=true:=by kernel_rfl) (hr:(Region.ready md ops listed).contains i=true:=by kernel_rfl)
  (hQ:∀ c a w,Q (.panic c) (a.put (some k) v) w→Q (.panic c) a w:=by exact fun _ _ _ h=>h) (hw:Region.wanted oi (yielded ops a.tmps)=true:=by kernel_rfl):jP P md ops Q T d (fuel+1) listed a w :=
 j3 (some k) hy hS (by rw [ha];exact h) hi hd hwt hs hf hr hQ hw
theorem tGX (i k:Nat) {oi:Oper} {v:Value} {fuel:Nat} {listed:Array Bool} {a a':Act} {w:World} (hS:T w)
  (h:jG P md ops Q T d fuel (listed.setIfInBounds i true) a' w) (hi:ops[i]?=some oi:=by rfl) (hd:oi.dst=some k:=by rfl)
  (hy:∀ w,T w→(execOp a.eval oi).run P w=.ok (.value v) w:=by intro wx hSw;have hCw:=Hcs.out wx hSw;(repeat (have hL:=And.left hCw;replace hCw:=And.right hCw));go_simp;try with_reducible rfl)
  (ha:a.put (some k) v=a':=by (try simp only [Act.put,PZ]);try exact rfl) (hwt:jq md ops d i=true:=by kernel_rfl)
  (hs:Region.noSelect ops=true:=by kernel_rfl) (hf:Region.free md ops listed i=true:=by kernel_rfl) (hr:(Region.ready md ops listed).contains i=true:=by kernel_rfl)
  (hQ:∀ c a w,Q (.panic c) (a.put (some k) v) w→Q (.panic c) a w:=by exact fun _ _ _ h=>h) (hdu:(listed[d]? == some true)=false:=by kernel_rfl) (hw:Region.wanted oi (yielded ops a.tmps)=true:=by kernel_rfl):jG P md ops Q T d (fuel+1) listed a w :=
 Ac (some k) hy hS (by rw [ha];exact h) hi hd hwt hs hf hr hQ hdu hw
end
def Pkt.more (y:Pkt):Pkt:={ y with refs:=y.refs+1 }
theorem Dz (l:Lng) (id:Int) (a:Option Addr) (c:Nat):lay l.cells 1 #[.slice a (l.nT+1) c]=(l.lP id a c).cells:=by simp [lay,Lng.cells,Lng.lP]
theorem DA (l:Lng) (X:Rnd):lay l.cells 3 X.cells=({ l with R:=X }:Lng).cells:=by simp [lay,Lng.cells,Rnd.cells]
theorem wh:(Tryz.prog.info? 25).map (·.size)=some 1:=by kernel_rfl
theorem pn:(Tryz.prog.info? 97).map (·.size)=some 5:=by kernel_rfl
theorem Cg {y:Pkt} (h:y.nr):nk y.k y.d y.s y.p y.b.size=y.cl:=by
 unfold nk Pkt.cl
 rw [if_pos h.2]
theorem vM {l:Lng} {p id cl:Int} (h:p=2) (a:Option Addr) (c:Nat):gk (l.wait p id cl) (l.lP id a c):=by
 unfold Lng.wait
 rw [if_pos h]
 exact ⟨rfl,rfl,rfl,rfl,rfl,rfl,Alike.refl _⟩
theorem vN {l:Lng} {p id cl:Int} {k:Nat} (h:p=(k:Int)) (h2:p≠2) (a:Option Addr) (c:Nat) {R:Rnd} (hR:Alike (l.R.push k cl none 0) R):gk (l.wait p id cl) { l.jH k id a c with R:=R }:=by
 unfold Lng.wait
 rw [if_neg h2,h,Int.toNat_natCast]
 exact ⟨rfl,rfl,rfl,rfl,rfl,rfl,hR⟩
theorem qs (l:Lng) (y:Pkt) (g o gp base:Nat) (cur:Array Value) (w:World) (hf:o+8≤cur.size) (kL:w.heap[g]?=some (.cells (lay cur o l.cells) 99 (0,0))) (kP:w.heap[gp]?=some (.cells y.cells 94 (0,0))) (hp:y.p=2) (hr:0≤y.refs∧y.refs≤1000) (ho:gg w base l) (hb:base≤w.heap.size) (hn:l.nT≤1048576) :
  Calls Tryz.prog 143 #[.pointer (some ⟨g,o,none⟩),.pointer (some ⟨gp,0,none⟩)] w fun e w'=>(∃ v,e=.returned v)∧w'.heap[gp]?=some (.cells y.more.cells 94 (0,0))∧∃ l2,gk (l.wait y.p y.id y.cl) l2∧Bv w w' base g gp o cur l l2:=by
 have hne:g≠gp:=gj kL kP (by decide)
 have c2:w.cell? ⟨gp,2,none⟩=some (.int .i64 y.refs):=fF kP 2
 have hw1:IntKind.i64.wrap (y.refs+1)=y.refs+1:=j0 _ (by omega) (by omega)
 have HP:Hid (w.heap[gp]?=some (.cells y.cells 94 (0,0))):=kP
 have HL:Hid (w.heap[g]?=some (.cells (lay cur o l.cells) 99 (0,0))):=kL
 have HO:Hid (gg w base l):=ho
 clear kL kP ho
 go_enter Tryz.func143,Tryz.ntmps143
 go_wp2_with (refine fJ rfl 2 (.tmp 11) (.tmp 9) rfl gp 2 rfl (.int .i64 (y.refs+1)) rfl 1 rfl 94 _ HP.out iP (Nat.le_of_ble_eq_true rfl) (by simp [Value.cells,Value.oneCell']) ?_)
 intro X0 hP
 replace hP:Put w X0 gp y.more.cells 94:=hP.cast rfl
 have c6:X0.cell? ⟨gp,6,none⟩=some (.int .i64 2):=by rw [←hp];exact fF hP.blk 6
 have HX:Hid (X0.heap[g]?=some (.cells (lay cur o l.cells) 99 (0,0))∧X0.heap[gp]?=some (.cells y.more.cells 94 (0,0))∧gg X0 base l∧Touch [gp] w X0∧X0.heap.size=w.heap.size) :=
  ⟨(hP.to.block g (fG HL.out) (by simpa using hne)).trans HL.out,hP.blk,HO.out.box HP.out (by decide) (by decide) hP.to,hP.to,hP.size⟩
 clear hP c2 hw1 HL HO HP
 go_wp2_with fail
 clear c6
 refine ia (fun w'=>w'.heap[g]?=some (.cells (lay cur o l.cells) 99 (0,0))∧w'.heap[gp]?=some (.cells y.more.cells 94 (0,0))) 13 (by kernel_rfl) ?_
 have hd:Below X0.heap.size X0 X0.drew:=(Below.refl _ _).drew
 replace HX:Hid (X0.drew.heap[g]?=some (.cells (lay cur o l.cells) 99 (0,0))∧X0.drew.heap[gp]?=some (.cells y.more.cells 94 (0,0))∧gg X0.drew base l∧Touch [gp] w X0.drew∧X0.drew.heap.size=w.heap.size) :=
  ⟨(hd.block _ (fG HX.out.1)).trans HX.out.1,(hd.block _ (fG HX.out.2.1)).trans HX.out.2.1,HX.out.2.2.1.up hd,HX.out.2.2.2.1.trans (Touch.gY hd),HX.out.2.2.2.2⟩
 clear hd
 generalize X0.drew=V at *
 have Hcs:Hid (∀ wx:World,wx.heap[g]?=some (.cells (lay cur o l.cells) 99 (0,0))∧wx.heap[gp]?=some (.cells y.more.cells 94 (0,0))→wx.cell? ⟨g,o+1,none⟩=some (.slice l.aT l.nT l.cT)∧wx.cell? ⟨gp,0,none⟩=some (.int .i64 y.id)) :=
  fun wx h=>⟨(fF h.1 _).trans (jx (cs:=l.cells) hf 1 (by show 1<8;omega)),fF h.2 0⟩
 have hT0:=And.intro HX.out.1 HX.out.2.1
 refine tE 0 19 hT0 ?_
 refine tE 1 20 hT0 ?_
 refine tE 2 21 hT0 ?_
 refine tE 3 22 hT0 ?_
 refine tEX 4 23 hT0 ?_
 refine tE 5 24 hT0 ?_
 refine tE 6 25 hT0 ?_
 refine tE 7 26 hT0 ?_
 refine tEX 8 27 hT0 ?_
 obtain ⟨g1,c1,X2,hr1,hoi,ht,hg⟩:=rY HX.out.2.2.1.t hn (by rw [HX.out.2.2.2.2];exact hb) y.id
 have hT1:(V.alloc (.cells #[.int .i64 y.id] 2)).heap[g]?=some (.cells (lay cur o l.cells) 99 (0,0))∧(V.alloc (.cells #[.int .i64 y.id] 2)).heap[gp]?=some (.cells y.more.cells 94 (0,0)):=⟨(fY _ (fG hT0.1)).trans hT0.1,(fY _ (fG hT0.2)).trans hT0.2⟩
 have hT2:X2.heap[g]?=some (.cells (lay cur o l.cells) 99 (0,0))∧X2.heap[gp]?=some (.cells y.more.cells 94 (0,0)):=⟨(ht.block g (fG hT0.1) (OG.k8 (t:=2) (sz:=1) HX.out.2.2.1.t (by decide) hT0.1)).trans hT0.1,(ht.block gp (fG hT0.2) (OG.k8 (t:=2) (sz:=1) HX.out.2.2.1.t (by decide) hT0.2)).trans hT0.2⟩
 have HA:Hid (OI X2 base (some ⟨g1,0,none⟩) (l.nT+1) c1 (kY l.nT y.id l.t)∧Touch (gi l.aT) V X2∧(g1∈gi l.aT∨V.heap.size≤g1)):=⟨hoi,ht,hg⟩
 have HR1:Hid ((Builtin.append_ #[25,25] 25 #[.slice l.aT l.nT l.cT,.slice (some ⟨V.heap.size,0,none⟩) 1 1]).run Tryz.prog (V.alloc (.cells #[.int .i64 y.id] 2))=.ok (.slice (some ⟨g1,0,none⟩) (l.nT+1) c1) X2):=hr1
 clear hoi ht hg hr1
 refine fI (rs:=[9]) (by kernel_rfl) (by simp) ?_
 refine fH.cons rfl (fun K hK=>?_) fH.nil
 go_simp
 refine hK.out _ _ hT1 ?_
 clear hK K
 try simp only [Act.put,PZ]
 clear hT1
 refine fI (rs:=[10]) (by kernel_rfl) (by simp) ?_
 refine fH.cons rfl (fun K hK=>?_) fH.nil
 refine jz (by kernel_rfl) (some 29) rfl (.tmp 23) (.tmp 28) 25 _ _ _ rfl rfl rfl rfl HR1.out ?_
 refine hK.out _ _ hT2 ?_
 clear hK K
 try simp only [Act.put,PZ]
 clear HR1 hT0
 refine fI (rs:=[11]) (by kernel_rfl) (by simp) ?_
 refine fH.cons rfl (fun K hK=>?_) fH.nil
 go_simp
 refine hK.out _ _ hT2 ?_
 clear hK K
 try simp only [Act.put,PZ]
 refine tE 12 31 hT2 ?_
 refine fI (rs:=[13]) (by kernel_rfl) (by simp) ?_
 refine fH.last rfl (fun K hK=>?_)
 have hz:(lay cur o l.cells).size=cur.size:=jc (cs:=l.cells) hf
 refine iz (by kernel_rfl) none rfl 25 (.tmp 31) (.tmp 29) rfl g (o+1) rfl (.slice (some ⟨g1,0,none⟩) (l.nT+1) c1) rfl 1 rfl 99 _ hT2.1 wh (by omega) (by simp [Value.cells,Value.oneCell']) ?_
 intro X3 hP
 refine hK.out _ _ ?_
 clear hK K
 try simp only [Act.put,PZ]
 refine gx (by kernel_rfl) ?_ _
 have eL:lay (lay cur o l.cells) (o+1) #[.slice (some ⟨g1,0,none⟩) (l.nT+1) c1]=lay cur o (l.lP y.id (some ⟨g1,0,none⟩) c1).cells:=by
  rw [←Dz l y.id]
  exact mW (a:=l.cells) hf (by show 1+1≤8;omega)
 replace hP:Put X2 X3 g (lay cur o (l.lP y.id (some ⟨g1,0,none⟩) c1).cells) 99:=hP.cast eL
 have HF:Hid (X3.heap[gp]?=some (.cells y.more.cells 94 (0,0))∧Bv w X3 base g gp o cur l (l.lP y.id (some ⟨g1,0,none⟩) c1)):=by
  have zV:=HX.out.2.2.2.2
  have q1:=HX.out.2.2.1.lP HA.out.1 HA.out.2.1 HA.out.2.2
  refine ⟨(hP.to.block gp (fG hT2.2) (by simpa using fun e=>hne e.symm)).trans hT2.2,hP.blk,q1.box hT2.1 (by decide) (by decide) hP.to,?_,fun x hx=>.inl hx,gp :: g :: gi l.aT,?_,fun x hx=>?_⟩
  ·
   have q2:=x6 (l:=l) (id:=y.id) (c:=c1) HA.out.2.2
   rw [zV] at q2
   exact q2
  ·
   exact ((HX.out.2.2.2.1.mono (fun x hx=>by simp at hx;simp [hx])).trans (HA.out.2.1.mono (fun x hx=>by simp [hx]))).trans (hP.to.mono (fun x hx=>by simp at hx;simp [hx]))
  simp only [List.mem_cons] at hx
  rcases hx with e | e | e
  ·
   exact .inr (.inl e)
  ·
   exact .inl e
  exact .inr (.inr (.inl (gg.inT e)))
 clear hP eL hT2 HA HX hz
 go_wp2_with fail
 refine bodyPost_ret (results_none rfl _ _ _) rfl ?_
 exact ⟨⟨_,rfl⟩,HF.out.1,_,vM hp _ _,HF.out.2⟩
theorem Co {p:Prop} (h:p:=by
  have eL:lay (lay cur o l.cells) (o+3) R5.cells=lay cur o ({ l.jH k y.id (some ⟨g1,0,none⟩) c1 with R:=R5 }:Lng).cells:=by
   rw [←DA]
   exact mW (a:=l.cells) hf (by show 3+5≤8;omega)
  replace hP:Put X5 X6 g (lay cur o ({ l.jH k y.id (some ⟨g1,0,none⟩) c1 with R:=R5 }:Lng).cells) 99:=hP.cast eL
  have HF:Hid (X6.heap[gp]?=some (.cells y.more.cells 94 (0,0))∧Bv w X6 base g gp o cur l { l.jH k y.id (some ⟨g1,0,none⟩) c1 with R:=R5 }):=by
   obtain ⟨q1,q2,q3,q4,q5⟩:=HW5.out
   refine ⟨(hP.to.block gp (fG hT5.2) (by simpa using fun e=>hne e.symm)).trans hT5.2,hP.blk,q1.box hT5.1 (by decide) (by decide) hP.to,q2,q3,gp :: g :: gu :: gi (l.uA k),(q4.mono (fun x hx=>?_)).trans (hP.to.mono (fun x hx=>by simp at hx;simp [hx])),q5⟩
   simp only [List.mem_cons] at hx ⊢
   rcases hx with e | e | e
   ·
    exact .inl e
   ·
    exact .inr (.inr (.inl e))
   exact .inr (.inr (.inr e))
  clear hP eL hT5 HW5
  go_wp2_with fail
  go_end0
  exact ⟨⟨_,rfl⟩,HF.out.1,_,by have q:=vN (l:=l) (id:=y.id) hp h2 (some ⟨g1,0,none⟩) c1 HAl.out;rw [hp] at q;exact q,HF.out.2⟩):p:=h
theorem sj (l:Lng) (y:Pkt) (g o gp base k:Nat) (cur:Array Value) (w:World) (hf:o+8≤cur.size) (kL:w.heap[g]?=some (.cells (lay cur o l.cells) 99 (0,0))) (kP:w.heap[gp]?=some (.cells y.cells 94 (0,0))) (hp:y.p=(k:Int)) (h2:y.p≠2) (hk:k<l.nU) (hnu:l.nU≤1048576) (hr:0≤y.refs∧y.refs≤1000) (hfr:y.nr) (ho:gg w base l) (hb:base≤w.heap.size) (hn:l.uL k≤1048576) (hRs:l.R.Small) (hwp:mJ l.R (k:Int) y.cl) :
  Calls Tryz.prog 143 #[.pointer (some ⟨g,o,none⟩),.pointer (some ⟨gp,0,none⟩)] w fun e w'=>(∃ v,e=.returned v)∧w'.heap[gp]?=some (.cells y.more.cells 94 (0,0))∧∃ l2,gk (l.wait y.p y.id y.cl) l2∧Bv w w' base g gp o cur l l2:=by
 have hne:g≠gp:=gj kL kP (by decide)
 have c2:w.cell? ⟨gp,2,none⟩=some (.int .i64 y.refs):=fF kP 2
 have hw1:IntKind.i64.wrap (y.refs+1)=y.refs+1:=j0 _ (by omega) (by omega)
 have HP:Hid (w.heap[gp]?=some (.cells y.cells 94 (0,0))):=kP
 have HL:Hid (w.heap[g]?=some (.cells (lay cur o l.cells) 99 (0,0))):=kL
 have HO:Hid (gg w base l):=ho
 have HFr:Hid y.nr:=hfr
 have HRs:Hid l.R.Small:=hRs
 have HWp:Hid (mJ l.R (k:Int) y.cl):=hwp
 have hk1:(k:Int)<(l.nU:Int):=by omega
 have hk0:((k:Int) == 2)=false:=by simp;omega
 clear kL kP ho hfr hRs hwp
 go_enter Tryz.func143,Tryz.ntmps143
 go_wp2_with (refine fJ rfl 2 (.tmp 11) (.tmp 9) rfl gp 2 rfl (.int .i64 (y.refs+1)) rfl 1 rfl 94 _ HP.out iP (Nat.le_of_ble_eq_true rfl) (by simp [Value.cells,Value.oneCell']) ?_)
 intro X0 hP
 replace hP:Put w X0 gp y.more.cells 94:=hP.cast rfl
 have c6:X0.cell? ⟨gp,6,none⟩=some (.int .i64 (k:Int)):=by rw [←hp];exact fF hP.blk 6
 have HX:Hid (X0.heap[g]?=some (.cells (lay cur o l.cells) 99 (0,0))∧X0.heap[gp]?=some (.cells y.more.cells 94 (0,0))∧gg X0 base l∧Touch [gp] w X0∧X0.heap.size=w.heap.size) :=
  ⟨(hP.to.block g (fG HL.out) (by simpa using hne)).trans HL.out,hP.blk,HO.out.box HP.out (by decide) (by decide) hP.to,hP.to,hP.size⟩
 clear hP c2 hw1 HL HO HP
 go_wp2_with fail
 clear c6
 obtain ⟨gu,ucur,eU,kU,zU,cU⟩:=HX.out.2.2.1.u.at0 (by omega)
 refine ia (fun w'=>w'.heap[g]?=some (.cells (lay cur o l.cells) 99 (0,0))∧w'.heap[gu]?=some (.cells ucur 25 (0,0))∧w'.heap[gp]?=some (.cells y.more.cells 94 (0,0))) 19 (by kernel_rfl) ?_
 have hd:Below X0.heap.size X0 X0.drew:=(Below.refl _ _).drew
 replace HX:Hid (X0.drew.heap[g]?=some (.cells (lay cur o l.cells) 99 (0,0))∧X0.drew.heap[gp]?=some (.cells y.more.cells 94 (0,0))∧gg X0.drew base l∧Touch [gp] w X0.drew∧X0.drew.heap.size=w.heap.size∧X0.drew.heap[gu]?=some (.cells ucur 25 (0,0))) :=
  ⟨(hd.block _ (fG HX.out.1)).trans HX.out.1,(hd.block _ (fG HX.out.2.1)).trans HX.out.2.1,HX.out.2.2.1.up hd,HX.out.2.2.2.1.trans (Touch.gY hd),HX.out.2.2.2.2,(hd.block _ (fG kU)).trans kU⟩
 clear hd kU
 generalize X0.drew=V at *
 have Hcs:Hid (∀ wx:World,wx.heap[g]?=some (.cells (lay cur o l.cells) 99 (0,0))∧wx.heap[gu]?=some (.cells ucur 25 (0,0))∧wx.heap[gp]?=some (.cells y.more.cells 94 (0,0))→wx.cell? ⟨g,o+2,none⟩=some (.slice (some ⟨gu,0,none⟩) l.nU l.cU)∧wx.cell? ⟨gu,k,none⟩=some (.slice (l.uA k) (l.uL k) (l.uC k))∧wx.cell? ⟨gp,0,none⟩=some (.int .i64 y.id)) :=
  fun wx h=>⟨by rw [←eU];exact (fF h.1 _).trans (jx (cs:=l.cells) hf 2 (by show 2<8;omega)),(fF h.2.1 _).trans ((cU k (by omega)).trans (mN _ _ _ _ _ hk)),fF h.2.2 0⟩
 have HU:Hid (l.aU=some ⟨gu,0,none⟩∧l.nU*1≤ucur.size):=⟨eU,zU⟩
 clear eU zU cU
 have hT0:=And.intro HX.out.1 (And.intro HX.out.2.2.2.2.2 HX.out.2.1)
 refine tE 0 32 hT0 ?_
 refine tE 1 33 hT0 ?_
 refine tE 2 34 hT0 ?_
 refine tEX 3 35 hT0 ?_
 refine tE 4 36 hT0 ?_
 refine tE 5 37 hT0 ?_
 refine tE 6 38 hT0 ?_
 refine tE 7 39 hT0 ?_
 refine tEX 8 40 hT0 ?_
 refine tE 9 41 hT0 ?_
 refine tE 10 42 hT0 ?_
 refine tEX 11 43 hT0 ?_
 refine tE 12 44 hT0 ?_
 refine tE 13 45 hT0 ?_
 refine tE 14 46 hT0 ?_
 refine tEX 15 47 hT0 ?_
 obtain ⟨g1,c1,X2,hr1,hoi,ht,hg⟩:=rY (HX.out.2.2.1.z k hk) hn (by rw [HX.out.2.2.2.2.1];exact hb) y.id
 have nt:∀ {b:Nat} {cs:Array Value} {t:TypeId},2≠t→V.heap[b]?=some (.cells cs t (0,0))→b∉gi (l.uA k):=fun hne hb=>OG.k8 (t:=2) (sz:=1) (HX.out.2.2.1.z k hk) hne hb
 have hT1:(V.alloc (.cells #[.int .i64 y.id] 2)).heap[g]?=some (.cells (lay cur o l.cells) 99 (0,0))∧(V.alloc (.cells #[.int .i64 y.id] 2)).heap[gu]?=some (.cells ucur 25 (0,0))∧(V.alloc (.cells #[.int .i64 y.id] 2)).heap[gp]?=some (.cells y.more.cells 94 (0,0)):=⟨(fY _ (fG hT0.1)).trans hT0.1,(fY _ (fG hT0.2.1)).trans hT0.2.1,(fY _ (fG hT0.2.2)).trans hT0.2.2⟩
 have hT2:X2.heap[g]?=some (.cells (lay cur o l.cells) 99 (0,0))∧X2.heap[gu]?=some (.cells ucur 25 (0,0))∧X2.heap[gp]?=some (.cells y.more.cells 94 (0,0)):=⟨(ht.block g (fG hT0.1) (nt (by decide) hT0.1)).trans hT0.1,(ht.block gu (fG hT0.2.1) (nt (by decide) hT0.2.1)).trans hT0.2.1,(ht.block gp (fG hT0.2.2) (nt (by decide) hT0.2.2)).trans hT0.2.2⟩
 have HA:Hid (OI X2 base (some ⟨g1,0,none⟩) (l.uL k+1) c1 (kY (l.uL k) y.id (l.uz k))∧Touch (gi (l.uA k)) V X2∧(g1∈gi (l.uA k)∨V.heap.size≤g1)):=⟨hoi,ht,hg⟩
 have HR1:Hid ((Builtin.append_ #[25,25] 25 #[.slice (l.uA k) (l.uL k) (l.uC k),.slice (some ⟨V.heap.size,0,none⟩) 1 1]).run Tryz.prog (V.alloc (.cells #[.int .i64 y.id] 2))=.ok (.slice (some ⟨g1,0,none⟩) (l.uL k+1) c1) X2):=hr1
 clear hoi ht hg hr1 nt
 refine fI (rs:=[16]) (by kernel_rfl) (by simp) ?_
 refine fH.cons rfl (fun K hK=>?_) fH.nil
 go_simp
 refine hK.out _ _ hT1 ?_
 clear hK K
 try simp only [Act.put,PZ]
 clear hT1
 refine fI (rs:=[17]) (by kernel_rfl) (by simp) ?_
 refine fH.cons rfl (fun K hK=>?_) fH.nil
 refine jz (by kernel_rfl) (some 49) rfl (.tmp 43) (.tmp 48) 25 _ _ _ rfl rfl rfl rfl HR1.out ?_
 refine hK.out _ _ hT2 ?_
 clear hK K
 try simp only [Act.put,PZ]
 clear HR1 hT0
 refine tE 18 50 hT2 ?_
 refine fI (rs:=[19]) (by kernel_rfl) (by simp) ?_
 refine fH.last rfl (fun K hK=>?_)
 refine iz (by kernel_rfl) none rfl 25 (.tmp 50) (.tmp 49) rfl gu k rfl (.slice (some ⟨g1,0,none⟩) (l.uL k+1) c1) rfl 1 rfl 25 _ hT2.2.1 wh (by have:=HU.out.2;omega) (by simp [Value.cells,Value.oneCell']) ?_
 intro X3 hP
 refine hK.out _ _ ?_
 clear hK K
 try simp only [Act.put,PZ]
 refine gx (by kernel_rfl) ?_ _
 have hgu:g≠gu:=gj hT2.1 hT2.2.1 (by decide)
 have hgup:gp≠gu:=gj hT2.2.2 hT2.2.1 (by decide)
 have HW3:Hid (X3.heap[g]?=some (.cells (lay cur o l.cells) 99 (0,0))∧X3.heap[gp]?=some (.cells y.more.cells 94 (0,0))∧gg X3 base (l.jH k y.id (some ⟨g1,0,none⟩) c1)∧Touch (gp :: gu :: gi (l.uA k)) w X3∧w.heap.size≤X3.heap.size∧(∀ x∈(l.jH k y.id (some ⟨g1,0,none⟩) c1).iJ,x∈l.iJ∨w.heap.size≤x)∧gu∈l.mL):=by
  have zV:=HX.out.2.2.2.2.1
  have tt:Touch (gp :: gu :: gi (l.uA k)) w X3:=((HX.out.2.2.2.1.mono (fun x hx=>by simp at hx;simp [hx])).trans (HA.out.2.1.mono (fun x hx=>by simp [hx]))).trans (hP.to.mono (fun x hx=>by simp at hx;simp [hx]))
  refine ⟨(hP.to.block g (fG hT2.1) (by simpa using hgu)).trans hT2.1,(hP.to.block gp (fG hT2.2.2) (by simpa using hgup)).trans hT2.2.2,HX.out.2.2.1.jH hk HU.out.1 HA.out.1 HA.out.2.1 HA.out.2.2 hT2.2.1 hP,tt,tt.size,?_,?_⟩
  ·
   have q2:=yi (l:=l) (id:=y.id) (c:=c1) hk HA.out.2.2
   rw [zV] at q2
   exact q2
  exact List.mem_append_left _ (by rw [HU.out.1];simp [gi])
 clear hP hT2 HA HX HU Hcs hgu hgup
 go_wp2_with fail
 refine oK (fun w'=>w'.heap[g]?=some (.cells (lay cur o l.cells) 99 (0,0))∧w'.heap[gp]?=some (.cells y.more.cells 94 (0,0))) 17 (by kernel_rfl) ?_
 have hd:Below X3.heap.size X3 X3.drew:=(Below.refl _ _).drew
 replace HW3:Hid (X3.drew.heap[g]?=some (.cells (lay cur o l.cells) 99 (0,0))∧X3.drew.heap[gp]?=some (.cells y.more.cells 94 (0,0))∧gg X3.drew base (l.jH k y.id (some ⟨g1,0,none⟩) c1)∧Touch (gp :: gu :: gi (l.uA k)) w X3.drew∧w.heap.size≤X3.drew.heap.size∧(∀ x∈(l.jH k y.id (some ⟨g1,0,none⟩) c1).iJ,x∈l.iJ∨w.heap.size≤x)∧gu∈l.mL) :=
  ⟨(hd.block _ (fG HW3.out.1)).trans HW3.out.1,(hd.block _ (fG HW3.out.2.1)).trans HW3.out.2.1,HW3.out.2.2.1.up hd,HW3.out.2.2.2.1.trans (Touch.gY hd),Nat.le_trans HW3.out.2.2.2.2.1 hd.size,HW3.out.2.2.2.2.2⟩
 clear hd
 generalize X3.drew=V3 at *
 have hT0:=And.intro HW3.out.1 HW3.out.2.1
 refine tG 0 52 hT0 ?_
 refine tG 1 53 hT0 ?_
 refine tG 2 54 hT0 ?_
 refine tG 3 55 hT0 ?_
 refine Ac (i:=4) (some 56) (v:=.agg l.R.cells) (fun wx hSw=>gO 97 5 _ Tryz.underlying97 rfl pn (.tmp 55) rfl g (o+3) rfl l.R.cells rfl (fun j hj=>by
  rw [Nat.add_assoc,fF hSw.1]
  rw [jx (cs:=l.cells) hf (3+j) (by show 3+j<8;omega)]
  rcases j with _ | _ | _ | _ | _ | j
  ·
   rfl
  ·
   rfl
  ·
   rfl
  ·
   rfl
  ·
   rfl
  ·
   omega)) hT0 ?_
 try simp only [Act.put,PZ]
 refine tG 5 57 hT0 ?_
 refine tG 6 58 hT0 ?_
 refine tG 7 59 hT0 ?_
 refine tG 8 60 hT0 ?_
 refine Ac (i:=9) (some 61) (v:=.agg #[.int .i64 y.k,.int .i64 y.d,.int .i64 y.s,.int .i64 y.p,.string y.b]) (fun wx hSw=>gO 47 5 _ Tryz.underlying47 rfl ix (.tmp 60) rfl gp 3 rfl _ rfl (fun j hj=>Dv (x:=y.more) hSw.2 j hj)) hT0 ?_
 try simp only [Act.put,PZ]
 refine gR (rs:=[10]) (by kernel_rfl) (by simp) ?_
 refine ga.cons rfl (fun K hK=>?_) ga.nil
 go_simp
 refine (jl y.k y.d y.s (k:Int) y.b _ (by have:=HFr.out.le;unfold maxLen;omega)).mono ?_
 rintro e X4 ⟨rfl,hb4⟩
 have eC:=Cg HFr.out
 rw [hp] at eC
 rw [eC]
 clear eC
 have HB4:Hid (Below V3.heap.size V3 X4):=hb4
 have hT4:X4.heap[g]?=some (.cells (lay cur o l.cells) 99 (0,0))∧X4.heap[gp]?=some (.cells y.more.cells 94 (0,0)):=⟨(hb4.block _ (fG hT0.1)).trans hT0.1,(hb4.block _ (fG hT0.2)).trans hT0.2⟩
 clear hb4 hT0
 go_wp2_with fail
 refine hK.out _ _ hT4 ?_
 clear hK K
 try simp only [Act.put,PZ]
 refine gR (rs:=[11]) (by kernel_rfl) (by simp) ?_
 refine ga.cons rfl (fun K hK=>?_) ga.nil
 go_simp
 refine (AL l.R (k:Int) y.cl _ HRs.out (HW3.out.2.2.1.g.rd.r.up HB4.out) true ⟨fun _=>HWp.out,fun _=>rfl⟩).mono ?_
 rintro e X5 ⟨R5,rfl,oR,hb5,aR⟩
 have HAl:Hid (Alike (l.R.push k y.cl none 0) R5):=by
  have q:Alike (l.R.push (k:Int).toNat y.cl none 0) R5:=aR
  rw [Int.toNat_natCast] at q
  exact q
 have hT5:X5.heap[g]?=some (.cells (lay cur o l.cells) 99 (0,0))∧X5.heap[gp]?=some (.cells y.more.cells 94 (0,0)):=⟨(hb5.block _ (fG hT4.1)).trans hT4.1,(hb5.block _ (fG hT4.2)).trans hT4.2⟩
 have HW5:Hid (gg X5 base { l.jH k y.id (some ⟨g1,0,none⟩) c1 with R:=R5 }∧(∀ x∈({ l.jH k y.id (some ⟨g1,0,none⟩) c1 with R:=R5 }:Lng).iJ,x∈l.iJ∨w.heap.size≤x)∧(∀ x∈({ l.jH k y.id (some ⟨g1,0,none⟩) c1 with R:=R5 }:Lng).mL,x∈l.mL∨w.heap.size≤x)∧Touch (gp :: gu :: gi (l.uA k)) w X5∧∀ x∈gp :: g :: gu :: gi (l.uA k),x=g∨x=gp∨x∈l.iJ∨x∈l.mL):=by
  obtain ⟨_,_,q3,q4,q5,q6,q7⟩:=HW3.out
  have bb:=HB4.out.trans (hb5.mono HB4.out.size)
  have z4:V3.heap.size≤X4.heap.size:=HB4.out.size
  refine ⟨q3.BN bb z4 (Nat.le_trans hb q5) oR,fun x hx=>?_,fun x hx=>?_,q4.trans (Touch.gY bb),fun x hx=>?_⟩
  ·
   rcases A9 (w:=V3) (base:=base) oR z4 x hx with e | e
   ·
    exact q6 x e
   exact .inr (Nat.le_trans q5 e)
  ·
   rcases Ba (w:=V3) (base:=base) oR z4 x hx with e | e
   ·
    exact .inl e
   exact .inr (Nat.le_trans q5 e)
  simp only [List.mem_cons] at hx
  rcases hx with e | e | e | e
  ·
   exact .inr (.inl e)
  ·
   exact .inl e
  ·
   exact .inr (.inr (.inr (e▸q7)))
  exact .inr (.inr (.inl (gg.inU hk e)))
 clear oR aR hb5 hT4 HB4 HW3
 go_wp2_with fail
 refine hK.out _ _ hT5 ?_
 clear hK K
 try simp only [Act.put,PZ]
 have hz:(lay cur o l.cells).size=cur.size:=jc (cs:=l.cells) hf
 refine tG 12 51 hT5 ?_
 refine tG 13 64 hT5 ?_
 refine gR (rs:=[14,15]) (by kernel_rfl) (by simp) ?_
 refine ga.cons rfl (fun K hK=>?_) (ga.cons rfl (fun K hK=>?_) ga.nil)
 ·
  go_simp
  refine hK.out _ _ hT5 ?_
  clear hK K
  try simp only [Act.put,PZ]
  refine gR (rs:=[15]) (by kernel_rfl) (by simp) ?_
  refine ga.cons rfl (fun K hK=>?_) ga.nil
  go_simp
  refine hK.out _ _ hT5 ?_
  clear hK K
  try simp only [Act.put,PZ]
  refine tG 16 67 hT5 ?_
  exact dx
 go_simp
 refine hK.out _ _ hT5 ?_
 clear hK K
 try simp only [Act.put,PZ]
 refine tG 16 67 hT5 ?_
 refine gR (rs:=[14,17]) (by kernel_rfl) (by simp) ?_
 refine ga.cons rfl (fun K hK=>?_) (ga.last rfl (fun K hK=>?_))
 ·
  go_simp
  refine hK.out _ _ hT5 ?_
  clear hK K
  try simp only [Act.put,PZ]
  exact dx
 refine iz (by kernel_rfl) none rfl 97 (.tmp 67) (.tmp 64) rfl g (o+3) rfl (.agg R5.cells) rfl 5 rfl 99 _ hT5.1 pn (by omega) (by simp [Value.cells,Value.oneCell',Rnd.cells]) ?_
 intro X6 hP
 refine hK.out _ _ ?_
 clear hK K
 try simp only [Act.put,PZ]
 refine gR (rs:=[14]) (by kernel_rfl) (by simp) ?_
 refine ga.late rfl (by kernel_rfl) (fun K hK=>?_)
 go_simp
 exact dE
open Go.RowKit Go.Extern.Stop Go.Stop Go.Extern
theorem tH (v:Value) (w:World):(Extern.ReflectliteType.typeOf #[.iface 267 v]).run Tryz.prog w=.ok (.iface 198 (.agg #[.pointer (some ⟨4,267,none⟩)])) w:=by kernel_rfl
theorem ni (w : World) : ((Extern.ReflectliteType.method fun t => do Rtype.noPackHeld "Comparable" t; (fun a => Value.bool a.comparable) <$> typeInfo t) #[.agg #[.pointer (some ⟨4, 267, none⟩)]]).run Tryz.prog w = .ok (.bool true) w := by kernel_rfl
theorem j7 (v : Value) (w : World) : (Go.method 399 198 v "Comparable").run Tryz.prog w = .ok (227, v) w := by kernel_rfl
theorem zu:(Tryz.prog.info? 267).map (·.comparable)=some true:=by kernel_rfl
theorem zt:(Tryz.prog.info? 287).map (·.size)=some 1:=by kernel_rfl
theorem wA (v:Value) (xT:TypeId) (w:World):(Instr.typeAssert (.iface 267 v) xT 200 true).run Tryz.prog w=.ok (.tuple #[.nilIface,.bool false]) w:=run_typeAssert_lacksB Tryz.underlying200 (by kernel_rfl) (by kernel_rfl) v xT w
theorem n4 (v:Value) (xT:TypeId) (w:World):(Instr.typeAssert (.iface 267 v) xT 203 true).run Tryz.prog w=.ok (.tuple #[.nilIface,.bool false]) w:=run_typeAssert_lacksB Tryz.underlying203 (by kernel_rfl) (by kernel_rfl) v xT w
theorem nf (v:Value) (xT:TypeId) (w:World):(Instr.typeAssert (.iface 267 v) xT 205 true).run Tryz.prog w=.ok (.tuple #[.nilIface,.bool false]) w:=run_typeAssert_lacksB Tryz.underlying205 (by kernel_rfl) (by kernel_rfl) v xT w
theorem wz (v:Value) (xT:TypeId) (w:World):(Instr.typeAssert (.iface 149 v) xT 200 true).run Tryz.prog w=.ok (.tuple #[.nilIface,.bool false]) w:=run_typeAssert_lacksB Tryz.underlying200 (by kernel_rfl) (by kernel_rfl) v xT w
theorem nh (v:Value) (xT:TypeId) (w:World):(Instr.typeAssert (.iface 149 v) xT 203 true).run Tryz.prog w=.ok (.tuple #[.iface 149 v,.bool true]) w:=run_typeAssert_hasB Tryz.underlying203 (by kernel_rfl) v xT w
theorem l4 (v : Value) (w : World) : (Go.method 399 149 v "Unwrap").run Tryz.prog w = .ok (213, v) w := by kernel_rfl
theorem vZ (b:Addr) (w:World) :
  Calls Tryz.prog 76 #[.nilIface,.iface 267 (.pointer (some b))] w fun e w'=>e=.returned (.bool false)∧w=w':=by
 have hn:=run_eql_iface_nil_left (P:=Tryz.prog) w 267 (.pointer (some b)) Tryz.underlying64
 go_enter Tryz.func76,Tryz.ntmps76
 go_wp2
 exact dF
theorem yN (g:Nat) (b:Addr) (w:World) (h1:w.cell? ⟨g,1,none⟩=some (.iface 267 (.pointer (some b)))) :
  Calls Tryz.prog 76 #[.iface 149 (.pointer (some ⟨g,0,none⟩)),.iface 267 (.pointer (some b))] w fun e w'=>e=.returned (.bool true)∧w=w':=by
 obtain ⟨i,hi,hcmp⟩:=Option.map_eq_some_iff.1 zu
 obtain ⟨j,hj,hjs⟩:=Option.map_eq_some_iff.1 zt
 have hA:=@run_callFunc_extern Tryz.prog 120 _ Extern.ReflectliteType.typeOf Tryz.func120 (by kernel_rfl) (by kernel_rfl) (by kernel_rfl) (by kernel_rfl)
 have hB := @run_callFunc_extern Tryz.prog 227 _ (Extern.ReflectliteType.method fun t => do Rtype.noPackHeld "Comparable" t; pure (.bool (← typeInfo t).comparable)) Tryz.func227 (by kernel_rfl) (by kernel_rfl) (by kernel_rfl) (by kernel_rfl)
 have tT:=tH
 have cT:=ni
 have mR:=j7
 have nE:=wA
 have uE:=n4
 have vE:=nf
 have nW:=wz
 have uW:=nh
 have mU:=l4
 have heq:=run_eql_iface_ptr_same (P:=Tryz.prog) w b Tryz.underlying64 Tryz.underlying267 hi hcmp hj
 have hty:=run_eql_iface_types (P:=Tryz.prog) 149 267 (.pointer (some ⟨g,0,none⟩)) (.pointer (some b)) Tryz.underlying64 (by decide) w
 exact dC
theorem oD (g:Nat) (a b:Addr) (ca cb:Array Value) (ta tb:TypeId) (w:World) (h1:w.cell? ⟨g,1,none⟩=some (.iface 267 (.pointer (some a)))) (hne:a≠b) (ha:w.heap[a.block]?=some (.cells ca ta (0,0))) (hb:w.heap[b.block]?=some (.cells cb tb (0,0))) :
  Calls Tryz.prog 76 #[.iface 149 (.pointer (some ⟨g,0,none⟩)),.iface 267 (.pointer (some b))] w fun e w'=>e=.returned (.bool false)∧w=w':=by
 obtain ⟨i,hi,hcmp⟩:=Option.map_eq_some_iff.1 zu
 obtain ⟨j,hj,hjs⟩:=Option.map_eq_some_iff.1 zt
 have hA:=@run_callFunc_extern Tryz.prog 120 _ Extern.ReflectliteType.typeOf Tryz.func120 (by kernel_rfl) (by kernel_rfl) (by kernel_rfl) (by kernel_rfl)
 have hB := @run_callFunc_extern Tryz.prog 227 _ (Extern.ReflectliteType.method fun t => do Rtype.noPackHeld "Comparable" t; pure (.bool (← typeInfo t).comparable)) Tryz.func227 (by kernel_rfl) (by kernel_rfl) (by kernel_rfl) (by kernel_rfl)
 have tT:=tH
 have cT:=ni
 have mR:=j7
 have nE:=wA
 have uE:=n4
 have vE:=nf
 have nW:=wz
 have uW:=nh
 have mU:=l4
 have heq:=run_eql_iface_ptr_other (P:=Tryz.prog) w Tryz.underlying64 Tryz.underlying267 hi hcmp hj (by rw [hjs];decide) hne ha hb
 have hty:=run_eql_iface_types (P:=Tryz.prog) 149 267 (.pointer (some ⟨g,0,none⟩)) (.pointer (some b)) Tryz.underlying64 (by decide) w
 clear ha hb
 exact dC
theorem vy (t:Addr) (w:World):(ReflectliteValue.unpack (.iface 162 (.pointer (some t)))).run Tryz.prog w
  = .ok (.agg #[.pointer (some ⟨4,162,none⟩),.pointer (some ⟨w.heap.size,0,none⟩),.int .u64 150]) (w.alloc (.cells #[.pointer (some t)] 162)):=by kernel_rfl
theorem AQ (a : Addr) (w : World) : (ReflectliteValue.methodAny (ReflectliteValue.valueError "reflectlite.Value.Type" 0) (fun t _ _ _ => ReflectliteType.toType t) #[.agg #[.pointer (some ⟨4, 162, none⟩), .pointer (some a), .int .u64 150]]).run Tryz.prog w
  = .ok (.iface 198 (.agg #[.pointer (some ⟨4,162,none⟩)])) w:=by kernel_rfl
theorem rG (h : Value) (w : World) : (Go.method 399 198 (.agg #[h]) "Kind").run Tryz.prog w = .ok (209, h) w := by kernel_rfl
theorem AU (w:World):((ReflectliteType.abiMethod fun t=>(fun a:Nat=>Value.int IntKind.u8 (a:Int)) <$> Rtype.kind t) #[.pointer (some ⟨4,162,none⟩)]).run Tryz.prog w=.ok (.int .u8 22) w:=by kernel_rfl
theorem AR (w:World):((ReflectliteType.abiMethod fun t=>(fun a:Nat=>Value.int IntKind.u8 (a:Int)) <$> Rtype.kind t) #[.pointer (some ⟨4,149,none⟩)]).run Tryz.prog w=.ok (.int .u8 22) w:=by kernel_rfl
theorem Bi {z : Sem Value} {f : TypeId → Addr → Nat → Nat → Sem Value} {v : Value} {t : TypeId} {a : Addr} {fl : Nat} {W : World} (h : (ReflectliteValue.parts v).run Tryz.prog W = .ok (some (t, a, fl)) W) :
  (ReflectliteValue.method z f #[v]).run Tryz.prog W = (f t a fl (fl % 32)).run Tryz.prog W := by
 change Sem.run Tryz.prog (ReflectliteValue.parts v >>= _) W = _
 simp only [Sem.run_bind, h, Result.andThen]
theorem tV (a:Addr) (w:World):(ReflectliteValue.parts (.agg #[.pointer (some ⟨4,162,none⟩),.pointer (some a),.int .u64 150])).run Tryz.prog w=.ok (some (162,a,150)) w:=by kernel_rfl
theorem zx (a p:Addr) (W:World) (ha:W.cell? a=some (.pointer (some p))) :
  (ReflectliteValue.method (ReflectliteValue.valueError "reflectlite.Value.IsNil" 0) ReflectliteValue.isNil #[.agg #[.pointer (some ⟨4, 162, none⟩), .pointer (some a), .int .u64 150]]).run Tryz.prog W = .ok (.bool false) W := by
 rw [Bi (tV a W)]
 simp [ReflectliteValue.isNil,loadVar,isAgg,underlying,Tryz.underlying162,ha,Result.andThen]
theorem rH (h : Value) (w : World) : (Go.method 399 198 (.agg #[h]) "Elem").run Tryz.prog w = .ok (228, .agg #[h]) w := by kernel_rfl
theorem mC (h : Value) (w : World) : (Go.method 399 198 (.agg #[h]) "Implements").run Tryz.prog w = .ok (229, .agg #[h]) w := by kernel_rfl
theorem l6 (h : Value) (w : World) : (Go.method 399 198 (.agg #[h]) "AssignableTo").run Tryz.prog w = .ok (226, .agg #[h]) w := by kernel_rfl
theorem AW (w:World):(ReflectliteType.method ReflectliteType.elem #[.agg #[.pointer (some ⟨4,162,none⟩)]]).run Tryz.prog w=.ok (.iface 198 (.agg #[.pointer (some ⟨4,149,none⟩)])) w:=by kernel_rfl
theorem pJ (w : World) : (ReflectliteType.relation "Implements" ReflectliteType.implements_ #[.agg #[.pointer (some ⟨4, 149, none⟩)], .iface 198 (.agg #[.pointer (some ⟨4, 64, none⟩)])]).run Tryz.prog w = .ok (.bool true) w := by kernel_rfl
theorem xI (v:Value) (w:World):(ReflectliteType.typeOf #[.iface 149 v]).run Tryz.prog w=.ok (.iface 198 (.agg #[.pointer (some ⟨4,149,none⟩)])) w:=by kernel_rfl
theorem pK (w : World) : (ReflectliteType.relation "AssignableTo" ReflectliteType.assignableTo #[.agg #[.pointer (some ⟨4, 149, none⟩)], .iface 198 (.agg #[.pointer (some ⟨4, 149, none⟩)])]).run Tryz.prog w = .ok (.bool true) w := by kernel_rfl
theorem vw (e:Addr) (w:World):(ReflectliteValue.unpack (.iface 149 (.pointer (some e)))).run Tryz.prog w
  = .ok (.agg #[.pointer (some ⟨4,149,none⟩),.pointer (some ⟨w.heap.size,0,none⟩),.int .u64 150]) (w.alloc (.cells #[.pointer (some e)] 149)):=by kernel_rfl
theorem xJ (w:World):(Rtype.elem? 162).run Tryz.prog w=.ok (some 149) w:=by kernel_rfl
theorem CQ (p:Addr) (w:World):(ReflectliteValue.mk 149 p ReflectliteValue.flagAddr).run Tryz.prog w=.ok (.agg #[.pointer (some ⟨4,149,none⟩),.pointer (some p),.int .u64 406]) w:=by kernel_rfl
theorem AV (a p:Addr) (W:World) (ha:W.cell? a=some (.pointer (some p))) :
  (ReflectliteValue.method (ReflectliteValue.valueError "reflectlite.Value.Elem" 0) ReflectliteValue.elem #[.agg #[.pointer (some ⟨4, 162, none⟩), .pointer (some a), .int .u64 150]]).run Tryz.prog W
   = .ok (.agg #[.pointer (some ⟨4,149,none⟩),.pointer (some p),.int .u64 406]) W:=by
 rw [Bi (tV a W)]
 simp [ReflectliteValue.elem,loadVar,isAgg,underlying,Tryz.underlying162,ha,Result.andThen,xJ,CQ]
theorem zw (a:Addr) (w:World):(ReflectliteValue.parts (.agg #[.pointer (some ⟨4,149,none⟩),.pointer (some a),.int .u64 406])).run Tryz.prog w=.ok (some (149,a,406)) w:=by kernel_rfl
theorem zv (a:Addr) (w:World):(ReflectliteValue.parts (.agg #[.pointer (some ⟨4,149,none⟩),.pointer (some a),.int .u64 150])).run Tryz.prog w=.ok (some (149,a,150)) w:=by kernel_rfl
theorem zy (w:World):(Rtype.directlyAssignable 149 149).run Tryz.prog w=.ok true w:=by kernel_rfl
theorem CP (v x : Value) (ta b e : Addr) (old : Value) (W : World) (h1 : (ReflectliteValue.parts v).run Tryz.prog W = .ok (some (149, ta, 406)) W) (h2 : (ReflectliteValue.parts x).run Tryz.prog W = .ok (some (149, b, 150)) W) (hb:W.cell? b=some (.pointer (some e))) (ht:W.cell? ta=some old) (hf:W.frozen? ta=false) :
  (ReflectliteValue.set #[v, x]).run Tryz.prog W = .ok (.tuple #[]) (W.setCell ta (.pointer (some e))) := by
 change Sem.run Tryz.prog (ReflectliteValue.parts v >>= fun o => ReflectliteValue.parts x >>= _) W = _
 simp only [Sem.run_bind, h1, h2, Result.andThen]
 simp [ReflectliteValue.flagAddr,loadVar,isAgg,underlying,Tryz.underlying149,hb,Result.andThen,zy,storeVar,Value.cells,storeCells,Addr.add]
 rw [run_store Tryz.prog W ta _ _ (by rfl)]
 simp [ht,hf]
theorem CO (ta b e : Addr) (old : Value) (W : World) (hb:W.cell? b=some (.pointer (some e))) (ht:W.cell? ta=some old) (hf:W.frozen? ta=false) :
  (ReflectliteValue.set #[.agg #[.pointer (some ⟨4,149,none⟩),.pointer (some ta),.int .u64 406],.agg #[.pointer (some ⟨4,149,none⟩),.pointer (some b),.int .u64 150]]).run Tryz.prog W
   = .ok (.tuple #[]) (W.setCell ta (.pointer (some e))) :=
 CP _ _ ta b e old W (zw ta W) (zv b W) hb ht hf
theorem CT (e t:Addr) (old:Value) (w:World) (hg:w.cell? ⟨3,0,none⟩=some (.iface 198 (.agg #[.pointer (some ⟨4,64,none⟩)]))) (ht0:w.cell? t=some old) (hf0:w.frozen? t=false) :
  Calls Tryz.prog 119 #[.iface 149 (.pointer (some e)),.iface 162 (.pointer (some t))] w fun ev w'=>ev=.returned (.bool true)∧w'=((((w.alloc (.cells #[.pointer (some t)] 162)).alloc (.cells #[.pointer (some ⟨4,162,none⟩),.pointer (some ⟨w.heap.size,0,none⟩),.int .u64 150] 190)).alloc (.cells #[.pointer (some ⟨4,162,none⟩),.pointer (some ⟨w.heap.size,0,none⟩),.int .u64 150] 190)).alloc (.cells #[.pointer (some e)] 149)).setCell t (.pointer (some e)):=by
 have h6:=@run_callFunc_extern Tryz.prog 144 _ (fun args=>ReflectliteValue.unpack (args.getD 0 (.tuple #[]))) Tryz.func144 (by kernel_rfl) (by kernel_rfl) (by kernel_rfl) (by kernel_rfl)
 have h7 := @run_callFunc_extern Tryz.prog 145 _ (ReflectliteValue.methodAny (ReflectliteValue.valueError "reflectlite.Value.Type" 0) (fun t _ _ _ => ReflectliteType.toType t)) Tryz.func145 (by kernel_rfl) (by kernel_rfl) (by kernel_rfl) (by kernel_rfl)
 have h8 := @run_callFunc_extern Tryz.prog 146 _ (ReflectliteValue.method (ReflectliteValue.valueError "reflectlite.Value.IsNil" 0) ReflectliteValue.isNil) Tryz.func146 (by kernel_rfl) (by kernel_rfl) (by kernel_rfl) (by kernel_rfl)
 have h27:=@run_callFunc_extern Tryz.prog 209 _ (ReflectliteType.abiMethod fun t=>do pure (.int .u8 (←Rtype.kind t))) Tryz.func209 (by kernel_rfl) (by kernel_rfl) (by kernel_rfl) (by kernel_rfl)
 have h37:=@run_callFunc_extern Tryz.prog 228 _ (ReflectliteType.method ReflectliteType.elem) Tryz.func228 (by kernel_rfl) (by kernel_rfl) (by kernel_rfl) (by kernel_rfl)
 have h38 := @run_callFunc_extern Tryz.prog 229 _ (ReflectliteType.relation "Implements" ReflectliteType.implements_) Tryz.func229 (by kernel_rfl) (by kernel_rfl) (by kernel_rfl) (by kernel_rfl)
 have h10:=@run_callFunc_extern Tryz.prog 120 _ ReflectliteType.typeOf Tryz.func120 (by kernel_rfl) (by kernel_rfl) (by kernel_rfl) (by kernel_rfl)
 have h35 := @run_callFunc_extern Tryz.prog 226 _ (ReflectliteType.relation "AssignableTo" ReflectliteType.assignableTo) Tryz.func226 (by kernel_rfl) (by kernel_rfl) (by kernel_rfl) (by kernel_rfl)
 have h11 := @run_callFunc_extern Tryz.prog 160 _ (ReflectliteValue.method (ReflectliteValue.valueError "reflectlite.Value.Elem" 0) ReflectliteValue.elem) Tryz.func160 (by kernel_rfl) (by kernel_rfl) (by kernel_rfl) (by kernel_rfl)
 have h12:=@run_callFunc_extern Tryz.prog 161 _ ReflectliteValue.set Tryz.func161 (by kernel_rfl) (by kernel_rfl) (by kernel_rfl) (by kernel_rfl)
 have q0:=xI
 have q1:=l6
 have q2:=pK
 have q3:=vw
 have q4:=vy
 have q5:=AQ
 have q6:=rG
 have q7:=rH
 have q8:=mC
 have q9:=AU
 have q10:=AR
 have q11:=AW
 have q12:=pJ
 have n8:=zx ⟨w.heap.size,0,none⟩ t ((w.alloc (.cells #[.pointer (some t)] 162)).alloc (.cells #[.pointer (some ⟨4,162,none⟩),.pointer (some ⟨w.heap.size,0,none⟩),.int .u64 150] 190)) (by simp)
 have hlt:3<w.heap.size:=by
  rcases Nat.lt_or_ge 3 w.heap.size with h | h
  ·
   exact h
  simp [World.cell?,Array.getElem?_eq_none h] at hg
 have hg2:((w.alloc (.cells #[.pointer (some t)] 162)).alloc (.cells #[.pointer (some ⟨4,162,none⟩),.pointer (some ⟨w.heap.size,0,none⟩),.int .u64 150] 190)).cell? ⟨3,0,none⟩=some (.iface 198 (.agg #[.pointer (some ⟨4,64,none⟩)])):=by
  rw [World.cell?_alloc_lt _ _ ⟨3,0,none⟩ (by simp;omega),World.cell?_alloc_lt _ _ ⟨3,0,none⟩ hlt];exact hg
 have htl:t.block<w.heap.size:=by
  rcases Nat.lt_or_ge t.block w.heap.size with h | h
  ·
   exact h
  simp [World.cell?,Array.getElem?_eq_none h] at ht0
 have el:=AV ⟨w.heap.size,0,none⟩ t (((w.alloc (.cells #[.pointer (some t)] 162)).alloc (.cells #[.pointer (some ⟨4,162,none⟩),.pointer (some ⟨w.heap.size,0,none⟩),.int .u64 150] 190)).alloc (.cells #[.pointer (some ⟨4,162,none⟩),.pointer (some ⟨w.heap.size,0,none⟩),.int .u64 150] 190)) (by rw [World.cell?_alloc_lt _ _ ⟨w.heap.size,0,none⟩ (by simp;omega)];simp)
 have st:=CO t ⟨w.heap.size+1+1+1,0,none⟩ e old ((((w.alloc (.cells #[.pointer (some t)] 162)).alloc (.cells #[.pointer (some ⟨4,162,none⟩),.pointer (some ⟨w.heap.size,0,none⟩),.int .u64 150] 190)).alloc (.cells #[.pointer (some ⟨4,162,none⟩),.pointer (some ⟨w.heap.size,0,none⟩),.int .u64 150] 190)).alloc (.cells #[.pointer (some e)] 149))
  (by rw [World.cell?_alloc_at _ _ _ _ (by simp)];rfl)
  (by rw [World.cell?_alloc_lt _ _ t (by simp;omega),World.cell?_alloc_lt _ _ t (by simp;omega),World.cell?_alloc_lt _ _ t (by simp;omega),World.cell?_alloc_lt _ _ t htl];exact ht0)
  (by rw [World.frozen?_alloc_old _ _ t (by simp;omega),World.frozen?_alloc_old _ _ t (by simp;omega),World.frozen?_alloc_old _ _ t (by simp;omega),World.frozen?_alloc_old _ _ t (Nat.ne_of_lt htl)];exact hf0)
 go_enter Tryz.func119,Tryz.ntmps119
 go_wp2
 refine wp_loop_rounds 1 ?_
 rw [rounds_succ]
 go_wp2
 exact dF
structure om (w:World) (base:Nat) (aF aD aL:Addr):Prop where
 f:w.cell? ⟨0,0,none⟩=some (.iface 267 (.pointer (some aF)))
 d:w.cell? ⟨1,0,none⟩=some (.iface 267 (.pointer (some aD)))
 l:w.cell? ⟨2,0,none⟩=some (.iface 267 (.pointer (some aL)))
 t:w.cell? ⟨3,0,none⟩=some (.iface 198 (.agg #[.pointer (some ⟨4,64,none⟩)]))
 kf:∃ c t,w.heap[aF.block]?=some (.cells c t (0,0))
 kd:∃ c t,w.heap[aD.block]?=some (.cells c t (0,0))
 kl:∃ c t,w.heap[aL.block]?=some (.cells c t (0,0))
 fd:aF≠aD
 fl:aF≠aL
 dl:aD≠aL
 b:4≤base∧aF.block<base∧aD.block<base∧aL.block<base
theorem om.up {w w':World} {base:Nat} {aF aD aL:Addr} (h:om w base aF aD aL) (hb:Below base w w'):om w' base aF aD aL:=by
 have hb1:=h.b
 exact ⟨(hb.cell (by show 0<base;omega)).trans h.f,(hb.cell (by show 1<base;omega)).trans h.d,(hb.cell (by show 2<base;omega)).trans h.l,(hb.cell (by show 3<base;omega)).trans h.t,
  by obtain ⟨c,t,k⟩:=h.kf;exact ⟨c,t,(hb.block _ hb1.2.1).trans k⟩,by obtain ⟨c,t,k⟩:=h.kd;exact ⟨c,t,(hb.block _ hb1.2.2.1).trans k⟩,by obtain ⟨c,t,k⟩:=h.kl;exact ⟨c,t,(hb.block _ hb1.2.2.2).trans k⟩,h.fd,h.fl,h.dl,h.b⟩
theorem om.mono {w:World} {base base':Nat} {aF aD aL:Addr} (h:om w base aF aD aL) (hb:base≤base'):om w base' aF aD aL :=
 ⟨h.f,h.d,h.l,h.t,h.kf,h.kd,h.kl,h.fd,h.fl,h.dl,by have:=h.b;omega⟩
def vG (w:World) (aF aD aL:Addr) (p code:Int) (v:Value):Prop :=
 (code=0∧v=.nilIface)∨∃ g a,v=.iface 149 (.pointer (some ⟨g,0,none⟩))∧w.heap[g]?=some (.cells #[.int .i64 p,.iface 267 (.pointer (some a))] 151 (0,0))∧((code=2∧a=aF)∨(code=3∧a=aD)∨(code=4∧a=aL))
theorem vG.iB {w w':World} {aF aD aL:Addr} {p code:Int} {v:Value} (h:vG w aF aD aL p code v) (hk:∀ (g:Nat) (cs:Array Value),w.heap[g]?=some (.cells cs 151 (0,0))→w'.heap[g]?=w.heap[g]?):vG w' aF aD aL p code v:=by
 rcases h with h | ⟨g,a,h1,h2,h3⟩
 ·
  exact .inl h
 exact .inr ⟨g,a,h1,(hk g _ h2).trans h2,h3⟩
theorem xM (w:World) (base:Nat) (aF aD aL:Addr) (p code:Int) (v:Value) (hv:om w base aF aD aL) (he:vG w aF aD aL p code v) :
  Calls Tryz.prog 27 #[v] w fun e w'=>e=.returned (.int .i64 code)∧w=w':=by
 have gf:=hv.f
 have gd:=hv.d
 have gl:=hv.l
 obtain ⟨c1,t1,k1⟩:=hv.kf
 obtain ⟨c2,t2,k2⟩:=hv.kd
 obtain ⟨c3,t3,k3⟩:=hv.kl
 have K1:Hid (w.heap[aF.block]?=some (.cells c1 t1 (0,0))∧w.heap[aD.block]?=some (.cells c2 t2 (0,0))∧w.heap[aL.block]?=some (.cells c3 t3 (0,0))):=⟨k1,k2,k3⟩
 have HN:Hid (aF≠aD∧aF≠aL∧aD≠aL):=⟨hv.fd,hv.fl,hv.dl⟩
 clear k1 k2 k3 hv
 rcases he with ⟨rfl,rfl⟩ | ⟨g,a,rfl,hg,hc⟩
 ·
  go_enter Tryz.func27,Tryz.ntmps27
  go_wp2_with fail
  refine (vZ aF _).mono ?_
  rintro e w' ⟨rfl,rfl⟩
  go_wp2_with fail
  refine (vZ aD _).mono ?_
  rintro e w' ⟨rfl,rfl⟩
  go_wp2_with fail
  refine (vZ aL _).mono ?_
  rintro e w' ⟨rfl,rfl⟩
  go_wp2_with fail
  exact dF
 have h1:w.cell? ⟨g,1,none⟩=some (.iface 267 (.pointer (some a))):=fF hg 1
 have H1:Hid (w.cell? ⟨g,1,none⟩=some (.iface 267 (.pointer (some a)))):=h1
 clear h1 hg
 rcases hc with ⟨rfl,rfl⟩ | ⟨rfl,rfl⟩ | ⟨rfl,rfl⟩
 ·
  go_enter Tryz.func27,Tryz.ntmps27
  exact dA
 ·
  go_enter Tryz.func27,Tryz.ntmps27
  go_wp2_with fail
  refine (oD g a aF _ _ _ _ _ H1.out (fun e=>HN.out.1 e.symm) K1.out.2.1 K1.out.1).mono ?_
  rintro e w' ⟨rfl,rfl⟩
  exact dA
 go_enter Tryz.func27,Tryz.ntmps27
 go_wp2_with fail
 refine (oD g a aF _ _ _ _ _ H1.out (fun e=>HN.out.2.1 e.symm) K1.out.2.2 K1.out.1).mono ?_
 rintro e w' ⟨rfl,rfl⟩
 go_wp2_with fail
 refine (oD g a aD _ _ _ _ _ H1.out (fun e=>HN.out.2.2 e.symm) K1.out.2.2 K1.out.2.1).mono ?_
 rintro e w' ⟨rfl,rfl⟩
 exact dA
theorem CU (ge gt:Nat) (w:World) (hg:w.cell? ⟨3,0,none⟩=some (.iface 198 (.agg #[.pointer (some ⟨4,64,none⟩)]))) (kt:w.heap[gt]?=some (.cells #[.pointer none] 149 (0,0))) :
  Calls Tryz.prog 119 #[.iface 149 (.pointer (some ⟨ge,0,none⟩)),.iface 162 (.pointer (some ⟨gt,0,none⟩))] w fun ev w'=>ev=.returned (.bool true)∧w'.heap[gt]?=some (.cells #[.pointer (some ⟨ge,0,none⟩)] 149 (0,0))∧Touch [gt] w w':=by
 refine (CT ⟨ge,0,none⟩ ⟨gt,0,none⟩ (.pointer none) w hg (fF kt 0) (fZ kt 0)).mono ?_
 rintro ev w' ⟨rfl,rfl⟩
 have hlt:=fG kt
 have hB:=((((Below.refl w.heap.size w).alloc (Nat.le_refl _) (.cells #[.pointer (some ⟨gt,0,none⟩)] 162)).alloc (by simp) (.cells #[.pointer (some ⟨4,162,none⟩),.pointer (some ⟨w.heap.size,0,none⟩),.int .u64 150] 190)).alloc (by simp;omega) (.cells #[.pointer (some ⟨4,162,none⟩),.pointer (some ⟨w.heap.size,0,none⟩),.int .u64 150] 190)).alloc (by simp;omega) (.cells #[.pointer (some ⟨ge,0,none⟩)] 149)
 refine ⟨rfl,?_,(Touch.gY hB).set (by simp) 0 _⟩
 rw [gv ((hB.block gt hlt).trans kt)]
 rfl
theorem tW (S:Swg) (gS:Nat) (w:World) (base:Nat) (aF aD aL:Addr) (p code:Int) (v:Value) (hv:om w base aF aD aL) (he:vG w aF aD aL p code v) (hc:code≠3) (hbw:base≤w.heap.size) :
  Calls Tryz.prog 75 #[.pointer (some ⟨gS,0,none⟩),v] w fun e w'=>(∃ u,e=.returned u)∧Below w.heap.size w w':=by
 obtain ⟨W,eW⟩:∃ W,w.alloc (.cells #[.pointer none] 149)=W:=⟨_,rfl⟩
 have hB:Below w.heap.size w W:=by rw [←eW];exact (Below.refl _ _).alloc (Nat.le_refl _) _
 have HB:Hid (Below w.heap.size w W):=hB
 replace hv:om W base aF aD aL:=hv.up (hB.mono hbw)
 replace he:vG W aF aD aL p code v:=he.iB (fun g cs h=>hB.block g (fG h))
 have gd:=hv.d
 obtain ⟨c1,t1,k1⟩:=hv.kf
 obtain ⟨c2,t2,k2⟩:=hv.kd
 obtain ⟨c3,t3,k3⟩:=hv.kl
 have K1:Hid (W.heap[aF.block]?=some (.cells c1 t1 (0,0))∧W.heap[aD.block]?=some (.cells c2 t2 (0,0))∧W.heap[aL.block]?=some (.cells c3 t3 (0,0))):=⟨k1,k2,k3⟩
 have HN:Hid (aF≠aD∧aF≠aL∧aD≠aL):=⟨hv.fd,hv.fl,hv.dl⟩
 clear k1 k2 k3 hv hB
 rcases he with ⟨rfl,rfl⟩ | ⟨g,a,rfl,hg,hc2⟩
 ·
  go_enter Tryz.func75,Tryz.ntmps75
  go_wp2_with fail
  refine (vZ aD _).mono ?_
  exact dD
 have H1:Hid (W.cell? ⟨g,1,none⟩=some (.iface 267 (.pointer (some a)))):=fF hg 1
 have HA:Hid (a≠aD∧∃ c t,W.heap[a.block]?=some (.cells c t (0,0))):=by
  rcases hc2 with ⟨_,rfl⟩ | ⟨e,_⟩ | ⟨_,rfl⟩
  ·
   exact ⟨HN.out.1,_,_,K1.out.1⟩
  ·
   exact absurd e hc
  exact ⟨fun e=>HN.out.2.2 e.symm,_,_,K1.out.2.2⟩
 obtain ⟨hne,c4,t4,k4⟩:=HA.out
 have K4:Hid (W.heap[a.block]?=some (.cells c4 t4 (0,0))∧a≠aD):=⟨k4,hne⟩
 clear hg hc2 hne k4 HA
 go_enter Tryz.func75,Tryz.ntmps75
 go_wp2_with fail
 refine (oD g a aD _ _ _ _ _ H1.out K4.out.2 K4.out.1 K1.out.2.1).mono ?_
 exact dD
structure Ans (W0 wc:World) (M:Cnt) (gA:Nat) (R:Cnt):Prop where
 b:Below W0.heap.size W0 wc
 g:W0.heap.size≤gA
 k:wc.heap[gA]?=some (.cells R.cells 39 (0,0))
 o:gV wc W0.heap.size R
 a:gw M R
theorem Ans.of {W0 W:World} {M R:Cnt} {gA:Nat} {cs:Array Value} {x y z:Value} (hcs:cs=#[x,y,z]) (hb:Below W0.heap.size W0 W) (hg:W0.heap.size≤gA) (hk:W.heap[gA]?=some (.cells cs 39 (0,0))) (ho:gV W W0.heap.size R) (ha:gw M R) :
  Ans W0 (mc W gA (.slice R.aU R.nU R.cU) (.int .i64 R.lo) (.slice R.aP R.nP R.cP)) M gA R:=by
 subst hcs
 exact ⟨hb.trans ((ie _ _ _ _ _).below hb.size (fun k hk=>by simp at hk;omega)),hg,ja hk _ _ _,mK ho hk,ha⟩
def De (N:Cnt):List Nat:=ib N.aU N.nU++ib N.aP N.nP
theorem gV.mq {w:World} {base:Nat} {N:Cnt} (h:gV w base N) {g:Nat} {cs:Array Value} {t:TypeId} (h2:2≠t) (h4:4≠t) (hk:w.heap[g]?=some (.cells cs t (0,0))):g∉De N:=by
 intro hx
 rcases List.mem_append.1 hx with hx | hx
 ·
  exact VT.mq h.u h2 hk hx
 exact VT.mq h.p h4 hk hx
theorem gw.jt {A B:Cnt} (h:gw A B) (ok:Bool):gw (jt A ok) (Go.Proofs.YtjaobmbcmjgjgaaGreatDoor.jt B ok):=by
 cases ok
 ·
  exact gw.refl _
 exact h
end Go.Proofs.YtjaobmbcmjgjgaaGreatDoor
