import Derived.Test.YtfcfpkibceepgaaGreatS30
import Derived.Deep.Cut
import Derived.Deep.DeepCutAuto
namespace Go.Proofs.YtfcfpkibceepgaaGreat
set_option maxRecDepth 100000
set_option maxHeartbeats 4000000
open Go.RowKit
set_option linter.unusedVariables false
set_option linter.unusedSimpArgs false
theorem ff {p:Prop} (h:p:=by
 have HC:Hid (Dc w l (.pointer (some ⟨gB,0,none⟩)) X):=⟨gB,p,rfl,hgB,by rw [←ep],by rw [←ep],by rw [←ep],by
  rw [←ep] at hP ⊢
  exact Cr oT oR hTR kB hP,⟨(hP.to.block _ (fH HX.out.a) (by simp;omega)).trans HX.out.a,(hP.to.block _ (fH HX.out.b) (by simp;omega)).trans HX.out.b,HX.out.bel.trans (hP.to.below HX.out.bel.size (fun x hx=>by simp at hx;omega))⟩⟩
 clear hP oT oR kB hTR HX hT0 ep
 go_wp2_with fail
 go_meet
 case rel=>exact HC.out):p:=h
theorem fg {p:Prop} (h:p:=by
 have far:∀ x t,(∃ cs,w.heap[x]?=some (.cells cs t (0,0)))→t≠74→x∉[g]:=by
  rintro x t ⟨cs,hx⟩ hne hy
  exact iz hx hk hne (by simpa using hy)
 exact ⟨h.e.fK ht1 (fun x hx=>far x _ (h.e.type x hx) (by decide)),⟨h.n.u.fK ht1 (fun x hx=>far x _ (h.n.u.type x hx) (by decide)),h.n.p.fK ht1 (fun x hx=>far x _ (h.n.p.type x hx) (by decide))⟩,h.k.fK ht1 (fun x hx=>far x _ (h.k.type x hx) (by decide)),h.l.box hk (by decide) (by decide) (by decide) ht1,h.un⟩):p:=h
theorem fh {p:Prop} (h:p:=by
 show S.nE+(S.N.nU+S.N.nP)+S.nK+(S.nL+iD (fun k=>(if k=i then l' else S.L k).tot) S.nL)≤S.nE+(S.N.nU+S.N.nP)+S.nK+(S.nL+iD (fun k=>(S.L k).tot) S.nL)
 omega):p:=h
theorem fi {p:Prop} (h:p:=by
 go_wp2_with fail
 go_roundw
 case rel=>exact ⟨k+1,_,by omega,by go_num,HN⟩
 case measure=>simp [intOf];omega):p:=h
theorem fj {p:Prop} (h:p:=by
 rwa [show q / 8*8+q % 8=q by omega] at this):p:=h
theorem fm {p:Prop} (h:p:=by
 intro wx hSw
 obtain ⟨hS1,hS2,hS3⟩:=hSw
 exact dW):p:=h
theorem fo {p:Prop} (h:p:=by
 exact ⟨cs,_,e,by decide⟩):p:=h
theorem gI.allF {w:World} {base:Nat} {S:Swg} (h:gI w base S):∀ x∈S.all,∃ cs t,w.heap[x]?=some (.cells cs t (0,0))∧t≠74:=by
 intro x hx
 unfold Swg.all BD at hx
 simp only [List.mem_append,List.mem_flatMap,List.mem_range] at hx
 have two:∀ {a:Option Addr} {n:Nat} {f:Nat→Value},VG 2 w base a n f→x∈gF a n→∃ cs t,w.heap[x]?=some (.cells cs t (0,0))∧t≠74:=fun hv hx=>by
  obtain ⟨cs,e⟩:=hv.type x hx
  exact ⟨cs,_,e,by decide⟩
 rcases hx with hx | hx | hx | hx | hx | ⟨i,hi,hx⟩
 ·
  obtain ⟨cs,e⟩:=h.e.type x hx
  exact fo
 ·
  obtain ⟨cs,e⟩:=h.u.type x hx
  exact fo
 ·
  obtain ⟨cs,e⟩:=h.p.type x hx
  exact fo
 ·
  obtain ⟨cs,e⟩:=h.k.type x hx
  exact fo
 ·
  obtain ⟨cs,e⟩:=h.l.type x hx
  exact fo
 have hl:=h.ls i hi
 unfold Lng.jh at hx
 simp only [List.mem_append,ib] at hx
 rcases hx with hx | ⟨j,hj,hx⟩ | hx | hx | ⟨j,hj,hx⟩
 ·
  exact two hl.t hx
 ·
  exact two (hl.z j hj) hx
 ·
  exact two hl.q hx
 ·
  exact two hl.d hx
 exact two (hl.y j hj) hx
theorem pn {f g:Nat→Nat}:∀ {n:Nat},(∀ i,i<n→f i≤g i)→iD f n≤iD g n:=by
 intro n
 induction n with
 | zero=>intro _;exact Nat.le_refl _
 | succ n ih =>
  intro h
  show iD f n+f n≤iD g n+g n
  have:=ih (fun i hi=>h i (by omega))
  have:=h n (by omega)
  omega
theorem mm.le {R M:Rnd} {x s:Int} (ho:R.Ok) (h:mm R M x s):M.nQ=R.nQ∧M.nD=R.nD∧M.nS=R.nS∧∀ i,M.L i≤R.L i:=by
 rcases h with ⟨hno,_⟩ | ⟨_,_,rfl,_⟩ | ⟨_,_,k,c,hp,_⟩
 ·
  exact absurd ho hno
 ·
  exact ⟨rfl,rfl,rfl,fun i=>Nat.le_refl _⟩
 obtain ⟨r1,r2,r3,r4,r5,r6⟩:=hp.rows
 obtain ⟨o1,o2,_⟩:=hp.ok ho
 refine ⟨r6,by rw [o1.d,ho.d,r6],by rw [o1.s,ho.s,r6],fun i=>?_⟩
 rw [r3]
 by_cases e:i=c
 ·
  subst e;rw [iH];omega
 rw [im e];exact Nat.le_refl _
theorem mz.le {l l':Lng} {id:Int} (ho:l.R.Ok) (hs:l.Small) (h:mz l l' id):l'.Small∧l'.tot≤l.tot:=by
 have rnd:∀ {M:Rnd} {x s:Int},mm l.R M x s→M.Small∧M.tot≤l.R.tot:=fun {M x s} hp=>by
  obtain ⟨q1,q2,q3,q4⟩:=hp.le ho
  refine ⟨⟨by rw [q1];exact hs.r.q,by rw [q2];exact hs.r.d,by rw [q3];exact hs.r.s,fun i hi=>Nat.le_trans (q4 i) (hs.r.l i (by rw [q3] at hi;exact hi))⟩,?_⟩
  unfold Rnd.tot
  have:=pn (n:=l.R.nS) (fun i _=>q4 i)
  rw [q1,q2,q3]
  omega
 rcases h with ⟨h1,h2,rfl,rfl⟩ | ⟨_,M,x,s,hp,⟨_,rfl,rfl⟩ | ⟨c,_,rfl,rfl⟩⟩
 ·
  refine ⟨⟨by show l.nT-1≤_;have:=hs.t;omega,hs.u,hs.z,hs.r⟩,?_⟩
  show l.nT-1+iD l.uL l.nU+l.R.tot≤l.nT+iD l.uL l.nU+l.R.tot
  omega
 ·
  obtain ⟨r1,r2⟩:=rnd hp
  refine ⟨⟨hs.t,hs.u,hs.z,r1⟩,?_⟩
  show l.nT+iD l.uL l.nU+M.tot≤l.nT+iD l.uL l.nU+l.R.tot
  omega
 obtain ⟨r1,r2⟩:=rnd hp
 have hu:∀ i,jT l.uL c (l.uL c-1) i≤l.uL i:=fun i=>by
  by_cases e:i=c
  ·
   subst e;rw [iH];omega
  rw [im e];exact Nat.le_refl _
 refine ⟨⟨hs.t,hs.u,fun i hi=>Nat.le_trans (hu i) (hs.z i hi),r1⟩,?_⟩
 have:=pn (n:=l.nU) (fun i _=>hu i)
 show l.nT+iD (jT l.uL c (l.uL c-1)) l.nU+M.tot≤l.nT+iD l.uL l.nU+l.R.tot
 omega
theorem lJ.le {S S':Swg} {i:Nat} {fs:List Pkt} (hok:S.Ok) (hi:i<S.nL) (hs:S.Small) (h:lJ S S' i fs):S'.Small∧S'.tot≤S.tot:=by
 obtain ⟨l',id,ht,h⟩:=h
 obtain ⟨l1,l2⟩:=ht.le (hok.l i hi).r (hs.ls i hi)
 have hls:∀ k,k<S.nL→(if k=i then l' else S.L k).Small:=fun k hk=>by
  split
  ·
   exact l1
  exact hs.ls k hk
 have hsum:iD (fun k=>(if k=i then l' else S.L k).tot) S.nL≤iD (fun k=>(S.L k).tot) S.nL:=pn (fun k hk=>by
  by_cases e:k=i
  ·
   subst e;rw [if_pos rfl];exact l2
  ·
   rw [if_neg e];exact Nat.le_refl _)
 rcases h with ⟨_,rfl,_⟩ | ⟨_,j,hj,_,_,⟨_,rfl⟩ | ⟨_,rfl⟩⟩
 ·
  refine ⟨⟨hs.e,⟨hs.n.u,hs.n.p⟩,hs.k,hs.b,hs.l,hls⟩,?_⟩
  exact fh
 ·
  refine ⟨⟨hs.e,⟨hs.n.u,hs.n.p⟩,hs.k,fun q hq=>?_,hs.l,hls⟩,?_⟩
  ·
   show (kq S.K j q).b.size≤_
   have:(kq S.K j q).b=(S.K q).b:=by unfold kq;split <;> rfl
   rw [this];exact hs.b q hq
  exact fh
 have hn:(kF (lW S.C S.N i) (S.K j).inn (S.K j).p (-(S.K j).cl)).nU=S.N.nU∧(kF (lW S.C S.N i) (S.K j).inn (S.K j).p (-(S.K j).cl)).nP=S.N.nP:=by unfold kF;split <;> exact ⟨rfl,rfl⟩
 refine ⟨⟨hs.e,⟨by rw [hn.1];exact hs.n.u,by rw [hn.2];exact hs.n.p⟩,by show S.nK-1≤_;have:=hs.k;omega,fun q hq=>?_,hs.l,hls⟩,?_⟩
 ·
  have hq':q<S.nK-1:=hq
  show (rmK S.K j q).b.size≤_
  by_cases c:q<j
  ·
   rw [oo c];exact hs.b q (by omega)
  rw [pq (by omega)];exact hs.b (q+1) (by omega)
 show S.nE+((kF (lW S.C S.N i) (S.K j).inn (S.K j).p (-(S.K j).cl)).nU+(kF (lW S.C S.N i) (S.K j).inn (S.K j).p (-(S.K j).cl)).nP)+(S.nK-1)+(S.nL+iD (fun k=>(if k=i then l' else S.L k).tot) S.nL)≤S.nE+(S.N.nU+S.N.nP)+S.nK+(S.nL+iD (fun k=>(S.L k).tot) S.nL)
 rw [hn.1,hn.2]
 omega
theorem oO.le {S S':Swg} {port:Int} {fs:List Pkt} {b:Bool} (hs:S.Small) (h:oO S S' port fs b):S'.Small∧S'.tot≤S.tot∧fs.length≤2:=by
 rcases h with ⟨_,hok,i,_,hi,hm⟩ | ⟨_,_,rfl,rfl⟩
 ·
  exact ⟨(hm.le hok hi hs).1,(hm.le hok hi hs).2,hm.len⟩
 exact ⟨⟨Nat.zero_le _,⟨Nat.zero_le _,Nat.zero_le _⟩,Nat.zero_le _,fun i hi=>absurd hi (Nat.not_lt_zero _),Nat.zero_le _,fun i hi=>absurd hi (Nat.not_lt_zero _)⟩,Nat.zero_le _,by simp⟩
theorem A0 {S:Swg} (h:S.tot≤2000000):S.py 1≤23000000:=by
 have h1:=Ab h
 unfold Swg.tot at h
 show 1+S.nE*3+S.N.nU+S.N.nP+S.nK*8+oL S.L S.nL≤23000000
 omega
structure qj (w:World) (base:Nat) (fs:List Pkt) (a:Option Addr) (c:Nat):Prop where
 og:OG 74 5 w base a fs.length c (tV fs.length fun i=>(fsF fs i).frame)
theorem qj.up {w w':World} {base:Nat} {fs:List Pkt} {a:Option Addr} {c:Nat} (h:qj w base fs a c) (hb:Below w.heap.size w w'):qj w' base fs a c:=⟨h.og.up hb⟩
theorem qj.rd {w:World} {base:Nat} {fs:List Pkt} {a:Option Addr} {c:Nat} (h:qj w base fs a c):RdF w a fs.length (fsF fs):=h.og.jA
theorem qj.vt {w:World} {base:Nat} {fs:List Pkt} {a:Option Addr} {c:Nat} (h:qj w base fs a c):VT 74 w base a (fs.length*5) (r9 5 fun i=>(fsF fs i).frame):=h.og.vt (wH (fun _ _=>rfl))
theorem qj.offS {w w':World} {base base':Nat} {fs:List Pkt} {a:Option Addr} {c:Nat} {S:Swg} (h:qj w base fs a c) (k:gI w base' S) (ht:Touch S.all w w'):qj w' base fs a c:=⟨h.og.fK ht (fun x hx hy=>by
 obtain ⟨cs,t,e,hne⟩:=k.allF x hy
 obtain ⟨c2,e2⟩:=h.og.type x hx
 exact iz e e2 hne rfl)⟩
theorem VT.CV {w:World} {base n:Nat} {a:Option Addr} {f:Nat→Value} (h:VT 74 w base a n f):∀ x∈gF a n,∃ cs,w.heap[x]?=some (.cells cs 74 (0,0)):=h.type
structure TyL (w:World) (base:Nat) (l:Lng):Prop where
 t:VG 2 w base l.aT l.nT fun i=>.int .i64 (l.t i)
 u:VG 25 w base l.aU l.nU fun i=>.slice (l.uA i) (l.uL i) (l.uC i)
 z:∀ i,i<l.nU→VG 2 w base (l.uA i) (l.uL i) fun j=>.int .i64 (l.uz i j)
 q:VG 2 w base l.R.aQ l.R.nQ fun i=>.int .i64 (l.R.q i)
 d:VG 2 w base l.R.aD l.R.nD fun i=>.int .i64 (l.R.d i)
 s:VG 25 w base l.R.aS l.R.nS fun i=>.slice (l.R.A i) (l.R.L i) (l.R.C i)
 y:∀ i,i<l.R.nS→VG 2 w base (l.R.A i) (l.R.L i) fun j=>.int .i64 (l.R.z i j)
theorem gO.ty {w:World} {base:Nat} {l:Lng} (h:gO w base l):TyL w base l:=⟨h.t,h.u,h.z,h.q,h.d,h.s,h.y⟩
theorem TyL.rd {w:World} {base:Nat} {l:Lng} (h:TyL w base l):ml w l:=⟨h.t.read,h.u.read,fun i hi=>(h.z i hi).read,⟨h.q.read,h.d.read,h.s.read,fun i hi=>(h.y i hi).read⟩⟩
theorem TyL.up {w w':World} {base:Nat} {l:Lng} (h:TyL w base l) (hb:Below w.heap.size w w'):TyL w' base l :=
 ⟨h.t.up hb,h.u.up hb,fun i hi=>(h.z i hi).up hb,h.q.up hb,h.d.up hb,h.s.up hb,fun i hi=>(h.y i hi).up hb⟩
def Bo (T:List Nat) (w:World):Prop:=∀ x∈T,∃ cs t,w.heap[x]?=some (.cells cs t (0,0))∧t≠2∧t≠25
theorem VG.vr {t:TypeId} {w w':World} {base n:Nat} {a:Option Addr} {f:Nat→Value} {T:List Nat} (h:VG t w base a n f) (ht:Touch T w w') (hT:Bo T w) (h2:t=2∨t=25):VG t w' base a n f :=
 h.fK ht (fun x hx hy=>by
  obtain ⟨c1,k1⟩:=h.type x hx
  obtain ⟨c2,t2,k2,n1,n2⟩:=hT x hy
  rw [k1] at k2
  simp at k2
  rcases h2 with rfl | rfl
  ·
   exact n1 k2.2.symm
  ·
   exact n2 k2.2.symm)
theorem TyL.far {w w':World} {base:Nat} {l:Lng} {T:List Nat} (h:TyL w base l) (ht:Touch T w w') (hT:Bo T w):TyL w' base l :=
 ⟨h.t.vr ht hT (.inl rfl),h.u.vr ht hT (.inr rfl),fun i hi=>(h.z i hi).vr ht hT (.inl rfl),h.q.vr ht hT (.inl rfl),h.d.vr ht hT (.inl rfl),h.s.vr ht hT (.inr rfl),fun i hi=>(h.y i hi).vr ht hT (.inl rfl)⟩
structure jd (w:World) (base:Nat) (X:Swg) (i:Nat):Prop where
 e:VT 95 w base X.aE (X.nE*3) (flat X.e)
 n:gR w base X.N
 k:VT 97 w base X.aK (X.nK*8) (my X.K)
 l:VT 102 w base X.aL (X.nL*8) (k6 X.L)
 ls:∀ k,k<X.nL→k≠i→TyL w base (X.L k)
theorem jd.up {w w':World} {base i:Nat} {X:Swg} (h:jd w base X i) (hb:Below w.heap.size w w'):jd w' base X i:=⟨h.e.up hb,h.n.up hb,h.k.up hb,h.l.up hb,fun k hk hi=>(h.ls k hk hi).up hb⟩
theorem TyL.mono {w:World} {base base':Nat} {l:Lng} (h:TyL w base l) (hb:base'≤base):TyL w base' l :=
 ⟨h.t.mono hb,h.u.mono hb,fun i hi=>(h.z i hi).mono hb,h.q.mono hb,h.d.mono hb,h.s.mono hb,fun i hi=>(h.y i hi).mono hb⟩
theorem TyL.low {w w':World} {base:Nat} {l:Lng} {T:List Nat} (h:TyL w base l) (ht:Touch T w w') (hT:∀ x∈T,x<base):TyL w' base l :=
 ⟨h.t.low ht hT,h.u.low ht hT,fun i hi=>(h.z i hi).low ht hT,h.q.low ht hT,h.d.low ht hT,h.s.low ht hT,fun i hi=>(h.y i hi).low ht hT⟩
theorem jd.mono {w:World} {base base' i:Nat} {X:Swg} (h:jd w base X i) (hb:base'≤base):jd w base' X i:=⟨h.e.mono hb,h.n.mono hb,h.k.mono hb,h.l.mono hb,fun k hk hi=>(h.ls k hk hi).mono hb⟩
theorem jd.low {w w':World} {base i:Nat} {X:Swg} {T:List Nat} (h:jd w base X i) (ht:Touch T w w') (hT:∀ x∈T,x<base):jd w' base X i:=⟨h.e.low ht hT,h.n.iU ht hT,h.k.low ht hT,h.l.low ht hT,fun k hk hi=>(h.ls k hk hi).low ht hT⟩
theorem jd.rd {w:World} {base:Nat} {X:Swg} (h:jd w base X X.nL):j4 w X:=⟨h.e.g.C8,h.n.rd,h.k.g.pks,h.l.g.lns,fun k hk=>(h.ls k hk (by omega)).rd⟩
theorem ic.half {w:World} {base:Nat} {X:Swg} (h:ic w base X) (i:Nat):jd w base X i:=⟨h.g.e,h.n,h.g.k,h.g.l,fun k hk _=>(h.g.ls k hk).ty⟩
structure DD (T:List Nat) (w:World) (X:Swg):Prop where
 i:∀ x∈T,∃ cs t,w.heap[x]?=some (.cells cs t (0,0))∧t≠2∧t≠25∧t≠4∧t≠95
 k:∀ x∈T,x∉gF X.aK (X.nK*8)
 l:∀ x∈T,x∉gF X.aL (X.nL*8)
theorem DD.vr {T:List Nat} {w:World} {X:Swg} (h:DD T w X):Bo T w:=fun x hx=>by
 obtain ⟨cs,t,k,n1,n2,_⟩:=h.i x hx
 exact ⟨cs,t,k,n1,n2⟩
theorem jd.far {w w':World} {base i:Nat} {X:Swg} {T:List Nat} (h:jd w base X i) (ht:Touch T w w') (hT:DD T w X):jd w' base X i:=by
 have far:∀ x t,(∃ cs,w.heap[x]?=some (.cells cs t (0,0)))→(t=2∨t=4∨t=95)→x∉T:=by
  rintro x t ⟨cs,hx⟩ ht hy
  obtain ⟨c2,t2,k2,n1,n2,n3,n4⟩:=hT.i x hy
  rw [hx] at k2
  simp at k2
  rcases ht with rfl | rfl | rfl
  ·
   exact n1 k2.2.symm
  ·
   exact n3 k2.2.symm
  exact n4 k2.2.symm
 exact ⟨h.e.fK ht (fun x hx=>far x _ (h.e.type x hx) (.inr (.inr rfl))),⟨h.n.u.fK ht (fun x hx=>far x _ (h.n.u.type x hx) (.inl rfl)),h.n.p.fK ht (fun x hx=>far x _ (h.n.p.type x hx) (.inr (.inl rfl)))⟩,h.k.fK ht (fun x hx hy=>hT.k x hy hx),h.l.fK ht (fun x hx hy=>hT.l x hy hx),fun k hk hi=>(h.ls k hk hi).far ht hT.vr⟩
theorem jd.box {w w':World} {base i g:Nat} {X:Swg} {cs:Array Value} {t:TypeId} (h:jd w base X i) (hg:w.heap[g]?=some (.cells cs t (0,0))) (ht:Touch [g] w w') (h2:t≠2∧t≠25∧t≠4∧t≠95) (hk:g∉gF X.aK (X.nK*8)) (hl:g∉gF X.aL (X.nL*8)):jd w' base X i :=
 h.far ht ⟨fun x hx=>(List.mem_singleton.1 hx)▸⟨cs,t,hg,h2.1,h2.2.1,h2.2.2.1,h2.2.2.2⟩,fun x hx=>(List.mem_singleton.1 hx)▸hk,fun x hx=>(List.mem_singleton.1 hx)▸hl⟩
theorem VT.nW {t t':TypeId} {w:World} {base n g:Nat} {a:Option Addr} {f:Nat→Value} {cs:Array Value} (h:VT t w base a n f) (hg:w.heap[g]?=some (.cells cs t' (0,0))) (hne:t≠t'):g∉gF a n:=fun hx=>by
 obtain ⟨c,k⟩:=h.type g hx
 exact iz k hg hne rfl
theorem vH {cur cs:Array Value} {o j:Nat} (hf:o+cs.size≤cur.size) (h:j<o∨o+cs.size≤j):(lay cur o cs)[j]?=cur[j]?:=by
 rcases h with h | h
 ·
  exact jI hf j h
 unfold lay
 simp only [List.getElem?_toArray]
 rw [List.append_assoc,List.getElem?_append_right (by simp;omega),List.getElem?_append_right (by simp;omega),List.getElem?_drop]
 exact di
theorem jd.BL {w W:World} {base gL i:Nat} {X:Swg} {l2:Lng} {cur:Array Value} (h:jd w base X i) (hi:i<X.nL) (eL:X.aL=some ⟨gL,0,none⟩) (kL:w.heap[gL]?=some (.cells cur 102 (0,0))) (hP:Put w W gL (lay cur (i*8) l2.cells) 102) (hl:TyL w base l2):jd W base (X.lane i l2) X.nL:=by
 have hoff:Bo [gL] w:=fun x hx=>by
  obtain rfl:x=gL:=by simpa using hx
  exact ⟨_,_,kL,by decide,by decide⟩
 have far:∀ x t,(∃ cs,w.heap[x]?=some (.cells cs t (0,0)))→t≠102→x∉[gL]:=by
  rintro x t ⟨cs,hx⟩ hne hy
  exact iz hx kL hne (by simpa using hy)
 refine ⟨h.e.fK hP.to (fun x hx=>far x _ (h.e.type x hx) (by decide)),⟨h.n.u.fK hP.to (fun x hx=>far x _ (h.n.u.type x hx) (by decide)),h.n.p.fK hP.to (fun x hx=>far x _ (h.n.p.type x hx) (by decide))⟩,h.k.fK hP.to (fun x hx=>far x _ (h.k.type x hx) (by decide)),?_,fun k hk hk2=>?_⟩
 ·
  show VT 102 W base X.aL (X.nL*8) (k6 (X.lane i l2).L)
  rcases h.l with e | ⟨g,e,hb,arr,k1,k2,k3⟩
  ·
   omega
  have hg:g=gL:=by rw [eL] at e;simp at e;exact e.symm
  subst hg
  rw [kL] at k1
  simp at k1
  subst k1
  have hs:l2.cells.size=8:=l2.ig
  have hf:i*8+l2.cells.size≤cur.size:=by omega
  refine .inr ⟨g,e,hb,_,hP.blk,by rw [jb hf];exact k2,fun q hq=>?_⟩
  have e1:some (k6 (X.lane i l2).L q)=((X.lane i l2).L (q / 8)).cells[q % 8]?:=by
   have:=jw (X.lane i l2).L (q / 8) (q % 8) (by omega)
   exact fj
  rw [e1]
  show _=(if q / 8=i then l2 else X.L (q / 8)).cells[q % 8]?
  by_cases c:q / 8=i
  ·
   rw [if_pos c]
   have:=iX hf (q % 8) (by omega)
   rwa [show i*8+q % 8=q by omega] at this
  rw [if_neg c,vH hf (by omega),k3 q hq]
  have:=jw X.L (q / 8) (q % 8) (by omega)
  exact fj
 show TyL W base (if k=i then l2 else X.L k)
 by_cases c:k=i
 ·
  rw [if_pos c];exact hl.far hP.to hoff
 rw [if_neg c];exact (h.ls k hk c).far hP.to hoff
theorem jd.setK {w W:World} {base gk j i:Nat} {X:Swg} {x:Pkt} {K':Nat→Pkt} {cur:Array Value} (h:jd w base X i) (hj:j<X.nK) (eK:X.aK=some ⟨gk,0,none⟩) (kK:w.heap[gk]?=some (.cells cur 97 (0,0))) (hP:Put w W gk (lay cur (j*8) x.cells) 97) (hK:∀ q,K' q=if q=j then x else X.K q):jd W base { X with K:=K' } i:=by
 have hoff:Bo [gk] w:=fun x hx=>by
  obtain rfl:x=gk:=by simpa using hx
  exact ⟨_,_,kK,by decide,by decide⟩
 have far:∀ x t,(∃ cs,w.heap[x]?=some (.cells cs t (0,0)))→t≠97→x∉[gk]:=by
  rintro x t ⟨cs,hx⟩ hne hy
  exact iz hx kK hne (by simpa using hy)
 refine ⟨h.e.fK hP.to (fun x hx=>far x _ (h.e.type x hx) (by decide)),⟨h.n.u.fK hP.to (fun x hx=>far x _ (h.n.u.type x hx) (by decide)),h.n.p.fK hP.to (fun x hx=>far x _ (h.n.p.type x hx) (by decide))⟩,?_,h.l.fK hP.to (fun x hx=>far x _ (h.l.type x hx) (by decide)),fun k hk hk2=>(h.ls k hk hk2).far hP.to hoff⟩
 show VT 97 W base X.aK (X.nK*8) (my K')
 rcases h.k with e | ⟨g,e,hb,arr,k1,k2,k3⟩
 ·
  omega
 have hg:g=gk:=by rw [eK] at e;simp at e;exact e.symm
 subst hg
 rw [kK] at k1
 simp at k1
 subst k1
 have hs:x.cells.size=8:=x.ig
 have hf:j*8+x.cells.size≤cur.size:=by omega
 refine .inr ⟨g,e,hb,_,hP.blk,by rw [jb hf];exact k2,fun q hq=>?_⟩
 have e1:some (my K' q)=(K' (q / 8)).cells[q % 8]?:=by
  have:=jQ K' (q / 8) (q % 8) (by omega)
  exact fj
 rw [e1,hK]
 by_cases c:q / 8=j
 ·
  rw [if_pos c]
  have:=iX hf (q % 8) (by omega)
  rwa [show j*8+q % 8=q by omega] at this
 rw [if_neg c,vH hf (by omega),k3 q hq]
 have:=jQ X.K (q / 8) (q % 8) (by omega)
 exact fj
theorem VT.at0 {t:TypeId} {w:World} {base n:Nat} {a:Option Addr} {f:Nat→Value} (h:VT t w base a n f) (h0:0<n):∃ g cur,a=some ⟨g,0,none⟩∧base≤g∧w.heap[g]?=some (.cells cur t (0,0))∧n≤cur.size∧∀ q,q<n→cur[q]?=some (f q):=by
 rcases h with e | ⟨g,e,hb,arr,k1,k2,k3⟩
 ·
  omega
 exact ⟨g,arr,e,hb,k1,k2,k3⟩
theorem x8 {R:Rnd} {aq ad av:Option Addr} {cq cd cv:Nat} {A:Nat→Option Addr} {C:Nat→Nat}:Alike R (R.cp2 aq cq ad cd av cv A C):=⟨rfl,rfl,rfl,rfl,rfl,rfl,rfl,rfl,rfl⟩
theorem Ai {V:World} {a:Option Addr} {n c:Nat} {f:Nat→Int} (hn:n≤1048576) (hr:fY V a n fun i=>.int .i64 (f i)) :
  ∃ a' c' W',(Builtin.append_ #[25,25] 25 #[.slice (some ⟨V.heap.size,0,none⟩) 0 0,.slice a n c]).run Tryz.prog (V.alloc (.cells #[] 2))=.ok (.slice a' n c') W'∧OI W' V.heap.size a' n c' f∧Below V.heap.size V W':=by
 have hA:Below V.heap.size V (V.alloc (.cells #[] 2)):=(Below.refl _ _).alloc (Nat.le_refl _) _
 have hm:(V.alloc (.cells #[] 2)).ownsRow V.heap.size 2 1 (.slice (some ⟨V.heap.size,0,none⟩) 0 0) 0 []:=World.ownsRow_made V #[] 0 (Nat.le_refl _) (Nat.zero_le _) rfl
 obtain ⟨a',c',W',h1,h2,h3,_⟩:=mj (c:=c) hm (by simp) hn (hr.up hA)
 exact ⟨a',c',W',h1,h2,hA.grown h3 (by simp) (fun k e=>by simp [Value.ownBlock] at e;omega)⟩
theorem Cr {V X:World} {base gB:Nat} {l:Lng} {aT aq ad av:Option Addr} {cT cq cd cv:Nat} {A:Nat→Option Addr} {C:Nat→Nat} {cur:Array Value} (oT:OI V base aT l.nT cT l.t) (oR:jc V base (l.R.cp2 aq cq ad cd av cv A C)) (hTR:∀ x∈ij aT,x∉(l.R.cp2 aq cq ad cd av cv A C).lh)
  (kB:V.heap[gB]?=some (.cells cur 102 (0,0))) (hP:Put V X gB (Lng.cells ⟨l.st,aT,l.nT,cT,l.t,none,0,0,fun _=>none,l.uL,fun _=>0,l.uz,l.R.cp2 aq cq ad cd av cv A C⟩) 102):CpL base gB l ⟨l.st,aT,l.nT,cT,l.t,none,0,0,fun _=>none,l.uL,fun _=>0,l.uz,l.R.cp2 aq cq ad cd av cv A C⟩ X:=by
 have h1:iq V base ⟨l.st,aT,l.nT,cT,l.t,none,0,0,fun _=>none,l.uL,fun _=>0,l.uz,l.R.cp2 aq cq ad cd av cv A C⟩:=by
  refine ⟨oT,OG.nil _ _ _ _,fun i hi=>absurd hi (Nat.not_lt_zero _),oR,?_,fun x hx hy=>by simp [ij] at hy⟩
  show ((ij aT++_)++[]).Nodup
  rw [List.append_nil]
  exact List.nodup_append.2 ⟨lf _,oR.nd,fun x hx y hy e=>hTR x hx (e▸hy)⟩
 exact ⟨h1.box kB (by decide) (by decide) hP.to,hP.blk,rfl,rfl,rfl,rfl,rfl,x8⟩
theorem pX (l:Lng) (w:World) (hs:l.Small) (h:ml w l) :
  Calls Tryz.prog 98 #[.agg l.cells] w fun e w'=>∃ l2,e=.returned (.agg l2.cells)∧gy l l2∧iq w' w.heap.size l2∧Below w.heap.size w w':=by
 have HR:Hid (ml w l):=h
 have HS:Hid l.Small:=hs
 obtain ⟨W,eW⟩:∃ W,(w.alloc (.cells l.cells 102)).alloc (.cells #[.bool false,.slice none 0 0,.slice none 0 0,.slice none 0 0,.slice none 0 0,.int .i64 0,.bool false,.slice none 0 0] 102)=W:=⟨_,rfl⟩
 have HX:Hid (Two w l.cells iO 102 W):=by rw [←eW];exact Two.start _ _ _ _
 clear h hs
 go_enter Tryz.func98,Tryz.ntmps98
 go_wp2_with fail
 clear eW
 go_cut [3] (fun v wc=>Dc w l v wc)
 case first =>
  replace HX:Hid (Two w l.cells iO 102 W.drew):=HX.out.up ((Below.refl _ _).drew)
  have hz0:w.heap.size+1<W.drew.heap.size:=fH HX.out.b
  refine iE (fun w'=>w'.heap[w.heap.size]?=some (.cells l.cells 102 (0,0))) 11 (by kernel_rfl) ?_
  generalize W.drew=V at *
  have hT0:=HX.out.a
  refine tE 0 5 hT0 ?_
  refine ji (i:=1) (some 6) (v:=?_) ?_ hT0 ?_
  rotate_left
  ·
   intro wx hSw
   have c0:wx.cell? ⟨w.heap.size,0,none⟩=some (.bool l.st):=fG hSw 0
   exact dW
  try simp only [Act.put,PZ]
  refine tE 3 8 hT0 ?_
  refine ji (i:=4) (some 9) (v:=?_) ?_ hT0 ?_
  rotate_left
  ·
   intro wx hSw
   have c1:wx.cell? ⟨w.heap.size,1,none⟩=some (.slice l.aT l.nT l.cT):=fG hSw 1
   exact dW
  try simp only [Act.put,PZ]
  refine tE 6 11 hT0 ?_
  refine ji (i:=7) (some 12) (v:=.agg l.R.cells) ?_ hT0 ?_
  ·
   intro wx hSw
   exact iV 100 5 _ Tryz.underlying100 rfl tO (.tmp 11) rfl w.heap.size 3 rfl l.R.cells rfl (fun j hj=>rdR hSw j hj)
  try simp only [Act.put,PZ]
  refine fM (rs:=[2,10]) (by kernel_rfl) (by simp) ?_
  refine fI.cons rfl (fun K hK=>?_) (fI.cons rfl (fun K hK=>?_) fI.nil)
  ·
   obtain ⟨X1,eV⟩:∃ X,V.alloc (.cells #[] 2)=X:=⟨_,rfl⟩
   have hb:Below V.heap.size V X1:=by rw [←eV];exact (Below.refl _ _).alloc (Nat.le_refl _) _
   have oE:OG 2 1 X1 w.heap.size (some ⟨V.heap.size,0,none⟩) 0 0 []:=by rw [←eV];exact World.ownsRow_made V #[] 0 HX.out.bel.size (Nat.zero_le _) rfl
   go_simp
   clear eV
   replace HX:Hid (Two w l.cells iO 102 X1):=HX.out.up hb
   replace hT0:=HX.out.a
   clear hb
   obtain ⟨gE,eE⟩:∃ g,V.heap.size=g:=⟨_,rfl⟩
   rw [eE] at oE ⊢
   refine hK.out _ _ hT0 ?_
   clear hK K
   try simp only [Act.put,PZ]
   refine fM (rs:=[5,10]) (by kernel_rfl) (by simp) ?_
   refine fI.cons rfl (fun K hK=>?_) (fI.cons rfl (fun K hK=>?_) fI.nil)
   ·
    obtain ⟨aT,cT,X2,hr,oT,hgr,_⟩:=mj (c:=l.cT) oE HX.out.bel.size HS.out.t (HR.out.t.up HX.out.bel)
    have hgt:Touch [gE] X1 X2:=Touch.pv (v:=.slice (some ⟨gE,0,none⟩) 0 0) hgr
    have lE:=(OG.blk oE gE (by simp [ij])).1
    have hne:=OG.j7 oE (by decide) HX.out.a
    have hne2:=OG.j7 oE (by decide) HX.out.b
    refine jX (by kernel_rfl) (some 10) rfl (.tmp 7) (.tmp 9) 25 _ _ _ rfl rfl rfl rfl hr ?_
    replace HX:Hid (Two w l.cells iO 102 X2):=⟨(hgt.block _ (fH HX.out.a) (by simpa [ij] using hne)).trans HX.out.a,(hgt.block _ (fH HX.out.b) (by simpa [ij] using hne2)).trans HX.out.b,HX.out.bel.trans (hgt.below HX.out.bel.size (fun x hx=>by simp at hx;omega))⟩
    replace hT0:=HX.out.a
    clear hr hgr hgt hne hne2 lE oE
    refine hK.out _ _ hT0 ?_
    clear hK K
    try simp only [Act.put,PZ]
    refine fM (rs:=[8,10]) (by kernel_rfl) (by simp) ?_
    refine fI.cons rfl (fun K hK=>?_) (fI.cons rfl (fun K hK=>?_) fI.nil)
    ·
     go_simp
     refine (jV l.R _ HS.out.r (HR.out.r.up HX.out.bel)).mono ?_
     rintro e X3 ⟨aq,cq,ad,cd,av,cv,A,C,rfl,oR,hb⟩
     have hTR:∀ x∈ij aT,x∉(l.R.cp2 aq cq ad cd av cv A C).lh:=fun x hx hy=>by have:=(OI.blk oT x hx).2;have:=(oR.blk x hy).1;omega
     replace oR:=oR.tj (base':=w.heap.size) HX.out.bel.size
     replace HX:Hid (Two w l.cells iO 102 X3):=HX.out.up hb
     replace hT0:=HX.out.a
     replace oT:=oT.up hb
     clear hb
     dsimp only [Rnd.cells,Rnd.cp2]
     go_wp2_with fail
     refine hK.out _ _ hT0 ?_
     clear hK K
     try simp only [Act.put,PZ]
     refine tE 9 14 hT0 ?_
     refine fM (rs:=[10]) (by kernel_rfl) (by simp) ?_
     refine fI.cons rfl (fun K hK=>?_) fI.nil
     obtain ⟨X4,eV⟩:∃ X,X3.alloc (.cells #[.bool false,.slice none 0 0,.slice none 0 0,.slice none 0 0,.slice none 0 0,.int .i64 0,.bool false,.slice none 0 0] 102)=X:=⟨_,rfl⟩
     have hb:Below X3.heap.size X3 X4:=by rw [←eV];exact (Below.refl _ _).alloc (Nat.le_refl _) _
     have kB:X4.heap[X3.heap.size]?=some (.cells #[.bool false,.slice none 0 0,.slice none 0 0,.slice none 0 0,.slice none 0 0,.int .i64 0,.bool false,.slice none 0 0] 102 (0,0)):=by rw [←eV];exact fL _ _
     have hgB:w.heap.size+1<X3.heap.size:=fH HX.out.b
     go_simp
     clear eV
     replace HX:Hid (Two w l.cells iO 102 X4):=HX.out.up hb
     replace hT0:=HX.out.a
     replace oT:=oT.up hb
     replace oR:=oR.upZ hb
     clear hb
     obtain ⟨gB,eB⟩:∃ g,X3.heap.size=g:=⟨_,rfl⟩
     rw [eB] at kB hgB ⊢
     refine hK.out _ _ hT0 ?_
     clear hK K
     try simp only [Act.put,PZ]
     refine fM (rs:=[11]) (by kernel_rfl) (by simp) ?_
     refine fI.last rfl (fun K hK=>?_)
     refine jz (by kernel_rfl) none rfl 102 (.tmp 3) (.tmp 14) rfl gB 0 rfl (.agg #[.bool l.st,.slice aT l.nT cT,.slice none 0 0,.slice aq l.R.nQ cq,.slice ad l.R.nD cd,.int .i64 l.R.turn,.bool l.R.fresh,.slice av l.R.nS cv]) rfl 8 rfl 102 _ kB ix (Nat.le_of_ble_eq_true rfl) (by simp [Value.cells,Value.oneCell']) ?_
     intro X hP
     refine hK.out _ _ ?_
     clear hK K
     try simp only [Act.put,PZ]
     refine ie (by kernel_rfl) ?_ _
     obtain ⟨p,ep⟩:∃ p,(⟨l.st,aT,l.nT,cT,l.t,none,0,0,fun _=>none,l.uL,fun _=>0,l.uz,l.R.cp2 aq cq ad cd av cv A C⟩:Lng)=p:=⟨_,rfl⟩
     replace hP:Put X4 X gB p.cells 102:=hP.cast (by rw [←ep];rfl)
     exact ff
    obtain ⟨X5,eV⟩:∃ X,X2.alloc (.cells #[.bool false,.slice none 0 0,.slice none 0 0,.slice none 0 0,.slice none 0 0,.int .i64 0,.bool false,.slice none 0 0] 102)=X:=⟨_,rfl⟩
    have hb:Below X2.heap.size X2 X5:=by rw [←eV];exact (Below.refl _ _).alloc (Nat.le_refl _) _
    have kB:X5.heap[X2.heap.size]?=some (.cells #[.bool false,.slice none 0 0,.slice none 0 0,.slice none 0 0,.slice none 0 0,.int .i64 0,.bool false,.slice none 0 0] 102 (0,0)):=by rw [←eV];exact fL _ _
    have hgB:w.heap.size+1<X2.heap.size:=fH HX.out.b
    go_simp
    clear eV
    replace HX:Hid (Two w l.cells iO 102 X5):=HX.out.up hb
    replace hT0:=HX.out.a
    replace oT:=oT.up hb
    clear hb
    obtain ⟨gB,eB⟩:∃ g,X2.heap.size=g:=⟨_,rfl⟩
    rw [eB] at kB hgB ⊢
    refine hK.out _ _ hT0 ?_
    clear hK K
    try simp only [Act.put,PZ]
    refine fM (rs:=[8]) (by kernel_rfl) (by simp) ?_
    refine fI.cons rfl (fun K hK=>?_) fI.nil
    go_simp
    refine (jV l.R _ HS.out.r (HR.out.r.up HX.out.bel)).mono ?_
    rintro e X6 ⟨aq,cq,ad,cd,av,cv,A,C,rfl,oR,hb⟩
    have hTR:∀ x∈ij aT,x∉(l.R.cp2 aq cq ad cd av cv A C).lh:=fun x hx hy=>by have:=(OI.blk oT x hx).2;have:=(oR.blk x hy).1;omega
    replace oR:=oR.tj (base':=w.heap.size) HX.out.bel.size
    replace HX:Hid (Two w l.cells iO 102 X6):=HX.out.up hb
    replace hT0:=HX.out.a
    replace oT:=oT.up hb
    replace kB:=(hb.block _ (fH kB)).trans kB
    clear hb
    dsimp only [Rnd.cells,Rnd.cp2]
    go_wp2_with fail
    refine hK.out _ _ hT0 ?_
    clear hK K
    try simp only [Act.put,PZ]
    refine tE 9 14 hT0 ?_
    refine fM (rs:=[11]) (by kernel_rfl) (by simp) ?_
    refine fI.last rfl (fun K hK=>?_)
    refine jz (by kernel_rfl) none rfl 102 (.tmp 3) (.tmp 14) rfl gB 0 rfl (.agg #[.bool l.st,.slice aT l.nT cT,.slice none 0 0,.slice aq l.R.nQ cq,.slice ad l.R.nD cd,.int .i64 l.R.turn,.bool l.R.fresh,.slice av l.R.nS cv]) rfl 8 rfl 102 _ kB ix (Nat.le_of_ble_eq_true rfl) (by simp [Value.cells,Value.oneCell']) ?_
    intro X hP
    refine hK.out _ _ ?_
    clear hK K
    try simp only [Act.put,PZ]
    refine ie (by kernel_rfl) ?_ _
    obtain ⟨p,ep⟩:∃ p,(⟨l.st,aT,l.nT,cT,l.t,none,0,0,fun _=>none,l.uL,fun _=>0,l.uz,l.R.cp2 aq cq ad cd av cv A C⟩:Lng)=p:=⟨_,rfl⟩
    replace hP:Put X6 X gB p.cells 102:=hP.cast (by rw [←ep];rfl)
    exact ff
   obtain ⟨X7,eV⟩:∃ X,X1.alloc (.cells #[.bool false,.slice none 0 0,.slice none 0 0,.slice none 0 0,.slice none 0 0,.int .i64 0,.bool false,.slice none 0 0] 102)=X:=⟨_,rfl⟩
   have hb:Below X1.heap.size X1 X7:=by rw [←eV];exact (Below.refl _ _).alloc (Nat.le_refl _) _
   have kB:X7.heap[X1.heap.size]?=some (.cells #[.bool false,.slice none 0 0,.slice none 0 0,.slice none 0 0,.slice none 0 0,.int .i64 0,.bool false,.slice none 0 0] 102 (0,0)):=by rw [←eV];exact fL _ _
   have hgB:w.heap.size+1<X1.heap.size:=fH HX.out.b
   go_simp
   clear eV
   replace HX:Hid (Two w l.cells iO 102 X7):=HX.out.up hb
   replace hT0:=HX.out.a
   replace oE:=OG.up oE hb
   clear hb
   obtain ⟨gB,eB⟩:∃ g,X1.heap.size=g:=⟨_,rfl⟩
   rw [eB] at kB hgB ⊢
   refine hK.out _ _ hT0 ?_
   clear hK K
   try simp only [Act.put,PZ]
   refine fM (rs:=[5]) (by kernel_rfl) (by simp) ?_
   refine fI.cons rfl (fun K hK=>?_) fI.nil
   obtain ⟨aT,cT,X8,hr,oT,hgr,_⟩:=mj (c:=l.cT) oE HX.out.bel.size HS.out.t (HR.out.t.up HX.out.bel)
   have hgt:Touch [gE] X7 X8:=Touch.pv (v:=.slice (some ⟨gE,0,none⟩) 0 0) hgr
   have lE:=(OG.blk oE gE (by simp [ij])).1
   have hne:=OG.j7 oE (by decide) HX.out.a
   have hne2:=OG.j7 oE (by decide) HX.out.b
   have hne3:=OG.j7 oE (by decide) kB
   replace kB:=(hgt.block _ (fH kB) (by simpa [ij] using hne3)).trans kB
   clear hne3
   refine jX (by kernel_rfl) (some 10) rfl (.tmp 7) (.tmp 9) 25 _ _ _ rfl rfl rfl rfl hr ?_
   replace HX:Hid (Two w l.cells iO 102 X8):=⟨(hgt.block _ (fH HX.out.a) (by simpa [ij] using hne)).trans HX.out.a,(hgt.block _ (fH HX.out.b) (by simpa [ij] using hne2)).trans HX.out.b,HX.out.bel.trans (hgt.below HX.out.bel.size (fun x hx=>by simp at hx;omega))⟩
   replace hT0:=HX.out.a
   clear hr hgr hgt hne hne2 lE oE
   refine hK.out _ _ hT0 ?_
   clear hK K
   try simp only [Act.put,PZ]
   refine fM (rs:=[8]) (by kernel_rfl) (by simp) ?_
   refine fI.cons rfl (fun K hK=>?_) fI.nil
   go_simp
   refine (jV l.R _ HS.out.r (HR.out.r.up HX.out.bel)).mono ?_
   rintro e X9 ⟨aq,cq,ad,cd,av,cv,A,C,rfl,oR,hb⟩
   have hTR:∀ x∈ij aT,x∉(l.R.cp2 aq cq ad cd av cv A C).lh:=fun x hx hy=>by have:=(OI.blk oT x hx).2;have:=(oR.blk x hy).1;omega
   replace oR:=oR.tj (base':=w.heap.size) HX.out.bel.size
   replace HX:Hid (Two w l.cells iO 102 X9):=HX.out.up hb
   replace hT0:=HX.out.a
   replace oT:=oT.up hb
   replace kB:=(hb.block _ (fH kB)).trans kB
   clear hb
   dsimp only [Rnd.cells,Rnd.cp2]
   go_wp2_with fail
   refine hK.out _ _ hT0 ?_
   clear hK K
   try simp only [Act.put,PZ]
   refine tE 9 14 hT0 ?_
   refine fM (rs:=[11]) (by kernel_rfl) (by simp) ?_
   refine fI.last rfl (fun K hK=>?_)
   refine jz (by kernel_rfl) none rfl 102 (.tmp 3) (.tmp 14) rfl gB 0 rfl (.agg #[.bool l.st,.slice aT l.nT cT,.slice none 0 0,.slice aq l.R.nQ cq,.slice ad l.R.nD cd,.int .i64 l.R.turn,.bool l.R.fresh,.slice av l.R.nS cv]) rfl 8 rfl 102 _ kB ix (Nat.le_of_ble_eq_true rfl) (by simp [Value.cells,Value.oneCell']) ?_
   intro X hP
   refine hK.out _ _ ?_
   clear hK K
   try simp only [Act.put,PZ]
   refine ie (by kernel_rfl) ?_ _
   obtain ⟨p,ep⟩:∃ p,(⟨l.st,aT,l.nT,cT,l.t,none,0,0,fun _=>none,l.uL,fun _=>0,l.uz,l.R.cp2 aq cq ad cd av cv A C⟩:Lng)=p:=⟨_,rfl⟩
   replace hP:Put X9 X gB p.cells 102:=hP.cast (by rw [←ep];rfl)
   exact ff
  obtain ⟨X10,eV⟩:∃ X,V.alloc (.cells #[.bool false,.slice none 0 0,.slice none 0 0,.slice none 0 0,.slice none 0 0,.int .i64 0,.bool false,.slice none 0 0] 102)=X:=⟨_,rfl⟩
  have hb:Below V.heap.size V X10:=by rw [←eV];exact (Below.refl _ _).alloc (Nat.le_refl _) _
  have kB:X10.heap[V.heap.size]?=some (.cells #[.bool false,.slice none 0 0,.slice none 0 0,.slice none 0 0,.slice none 0 0,.int .i64 0,.bool false,.slice none 0 0] 102 (0,0)):=by rw [←eV];exact fL _ _
  have hgB:w.heap.size+1<V.heap.size:=fH HX.out.b
  go_simp
  clear eV
  replace HX:Hid (Two w l.cells iO 102 X10):=HX.out.up hb
  replace hT0:=HX.out.a
  clear hb
  obtain ⟨gB,eB⟩:∃ g,V.heap.size=g:=⟨_,rfl⟩
  rw [eB] at kB hgB ⊢
  refine hK.out _ _ hT0 ?_
  clear hK K
  try simp only [Act.put,PZ]
  refine fM (rs:=[2]) (by kernel_rfl) (by simp) ?_
  refine fI.cons rfl (fun K hK=>?_) fI.nil
  obtain ⟨X11,eV⟩:∃ X,X10.alloc (.cells #[] 2)=X:=⟨_,rfl⟩
  have hb:Below X10.heap.size X10 X11:=by rw [←eV];exact (Below.refl _ _).alloc (Nat.le_refl _) _
  have oE:OG 2 1 X11 w.heap.size (some ⟨X10.heap.size,0,none⟩) 0 0 []:=by rw [←eV];exact World.ownsRow_made X10 #[] 0 HX.out.bel.size (Nat.zero_le _) rfl
  go_simp
  clear eV
  replace HX:Hid (Two w l.cells iO 102 X11):=HX.out.up hb
  replace hT0:=HX.out.a
  replace kB:=(hb.block _ (fH kB)).trans kB
  clear hb
  obtain ⟨gE,eE⟩:∃ g,X10.heap.size=g:=⟨_,rfl⟩
  rw [eE] at oE ⊢
  refine hK.out _ _ hT0 ?_
  clear hK K
  try simp only [Act.put,PZ]
  refine fM (rs:=[5]) (by kernel_rfl) (by simp) ?_
  refine fI.cons rfl (fun K hK=>?_) fI.nil
  obtain ⟨aT,cT,X12,hr,oT,hgr,_⟩:=mj (c:=l.cT) oE HX.out.bel.size HS.out.t (HR.out.t.up HX.out.bel)
  have hgt:Touch [gE] X11 X12:=Touch.pv (v:=.slice (some ⟨gE,0,none⟩) 0 0) hgr
  have lE:=(OG.blk oE gE (by simp [ij])).1
  have hne:=OG.j7 oE (by decide) HX.out.a
  have hne2:=OG.j7 oE (by decide) HX.out.b
  have hne3:=OG.j7 oE (by decide) kB
  replace kB:=(hgt.block _ (fH kB) (by simpa [ij] using hne3)).trans kB
  clear hne3
  refine jX (by kernel_rfl) (some 10) rfl (.tmp 7) (.tmp 9) 25 _ _ _ rfl rfl rfl rfl hr ?_
  replace HX:Hid (Two w l.cells iO 102 X12):=⟨(hgt.block _ (fH HX.out.a) (by simpa [ij] using hne)).trans HX.out.a,(hgt.block _ (fH HX.out.b) (by simpa [ij] using hne2)).trans HX.out.b,HX.out.bel.trans (hgt.below HX.out.bel.size (fun x hx=>by simp at hx;omega))⟩
  replace hT0:=HX.out.a
  clear hr hgr hgt hne hne2 lE oE
  refine hK.out _ _ hT0 ?_
  clear hK K
  try simp only [Act.put,PZ]
  refine fM (rs:=[8]) (by kernel_rfl) (by simp) ?_
  refine fI.cons rfl (fun K hK=>?_) fI.nil
  go_simp
  refine (jV l.R _ HS.out.r (HR.out.r.up HX.out.bel)).mono ?_
  rintro e X13 ⟨aq,cq,ad,cd,av,cv,A,C,rfl,oR,hb⟩
  have hTR:∀ x∈ij aT,x∉(l.R.cp2 aq cq ad cd av cv A C).lh:=fun x hx hy=>by have:=(OI.blk oT x hx).2;have:=(oR.blk x hy).1;omega
  replace oR:=oR.tj (base':=w.heap.size) HX.out.bel.size
  replace HX:Hid (Two w l.cells iO 102 X13):=HX.out.up hb
  replace hT0:=HX.out.a
  replace oT:=oT.up hb
  replace kB:=(hb.block _ (fH kB)).trans kB
  clear hb
  dsimp only [Rnd.cells,Rnd.cp2]
  go_wp2_with fail
  refine hK.out _ _ hT0 ?_
  clear hK K
  try simp only [Act.put,PZ]
  refine tE 9 14 hT0 ?_
  refine fM (rs:=[11]) (by kernel_rfl) (by simp) ?_
  refine fI.last rfl (fun K hK=>?_)
  refine jz (by kernel_rfl) none rfl 102 (.tmp 3) (.tmp 14) rfl gB 0 rfl (.agg #[.bool l.st,.slice aT l.nT cT,.slice none 0 0,.slice aq l.R.nQ cq,.slice ad l.R.nD cd,.int .i64 l.R.turn,.bool l.R.fresh,.slice av l.R.nS cv]) rfl 8 rfl 102 _ kB ix (Nat.le_of_ble_eq_true rfl) (by simp [Value.cells,Value.oneCell']) ?_
  intro X hP
  refine hK.out _ _ ?_
  clear hK K
  try simp only [Act.put,PZ]
  refine ie (by kernel_rfl) ?_ _
  obtain ⟨p,ep⟩:∃ p,(⟨l.st,aT,l.nT,cT,l.t,none,0,0,fun _=>none,l.uL,fun _=>0,l.uz,l.R.cp2 aq cq ad cd av cv A C⟩:Lng)=p:=⟨_,rfl⟩
  replace hP:Put X13 X gB p.cells 102:=hP.cast (by rw [←ep];rfl)
  exact ff
 obtain ⟨gB,p,rfl,hgB,hnU,haU,hcU,hC,hX⟩:=hcut
 have HC:Hid (CpL w.heap.size gB l p wc):=hC
 replace HX:Hid (Two w l.cells iO 102 wc):=hX
 have HP0:Hid (p.nU=0):=hnU
 have HgB:Hid (w.heap.size+1<gB):=hgB
 clear hC hX hnU haU hcU hgB
 have HU:Hid (fY w l.aU l.nU fun i=>.slice (l.uA i) (l.uL i) (l.uC i)):=HR.out.u
 obtain ⟨aU,eU⟩:∃ a,l.aU=a:=⟨_,rfl⟩
 have HAU:Hid (l.aU=aU):=eU
 rw [eU] at HU
 clear eU
 have hnu:=HS.out.u
 go_wp2_with fail
 go_loopw [4] (fun i wr=>∃ (k:Nat) (q:Lng),k≤l.nU∧i=.int .i64 k∧Hid (q.nU=k∧CpL w.heap.size gB l q wr∧Two w l.cells iO 102 wr)) (fun i _=>l.nU-(intOf i).toNat)
 case atStart=>exact ⟨0,p,Nat.zero_le _,rfl,⟨HP0.out,HC.out,HX.out⟩⟩
 clear HC HX
 obtain ⟨k,q,hk,rfl,HQ⟩:=hrel
 have c2:wr.cell? ⟨w.heap.size,2,none⟩=some (.slice aU l.nU l.cU):=by rw [←HAU.out];exact fG HQ.out.2.2.a 2
 by_cases hlt:k<l.nU
 ·
  have hlt':(k:Int)<l.nU:=by omega
  obtain ⟨g0,o0,ea,hc0⟩:=(HU.out.up HQ.out.2.2.bel) k hlt
  subst ea
  dsimp only at hc0
  go_wp2_with fail
  refine iE (fun w'=>w'.heap[gB]?=some (.cells q.cells 102 (0,0))∧w'.cell? ⟨w.heap.size,2,none⟩=some (.slice (some ⟨g0,o0,none⟩) l.nU l.cU)∧w'.cell? ⟨g0,o0+k,none⟩=some (.slice (l.uA k) (l.uL k) (l.uC k))) 12 (by kernel_rfl) ?_
  have hd:Below wr.heap.size wr wr.drew:=(Below.refl _ _).drew
  replace HQ:Hid (q.nU=k∧CpL w.heap.size gB l q wr.drew∧Two w l.cells iO 102 wr.drew):=⟨HQ.out.1,HQ.out.2.1.up hd,HQ.out.2.2.up hd⟩
  replace c2:wr.drew.cell? ⟨w.heap.size,2,none⟩=some (.slice (some ⟨g0,o0,none⟩) l.nU l.cU):=c2
  replace hc0:wr.drew.cell? ⟨g0,o0+k,none⟩=some (.slice (l.uA k) (l.uL k) (l.uC k)):=hc0
  clear hd
  generalize wr.drew=V at *
  have hg0:g0<w.heap.size:=by obtain ⟨g9,o9,e9,h9⟩:=HU.out k hlt;cases e9;exact iu h9
  have HTT:Hid (∀ X:World,X.heap[gB]?=some (.cells q.cells 102 (0,0))→Below w.heap.size w X→X.heap[w.heap.size]?=some (.cells l.cells 102 (0,0))→(fun w'=>w'.heap[gB]?=some (.cells q.cells 102 (0,0))∧w'.cell? ⟨w.heap.size,2,none⟩=some (.slice (some ⟨g0,o0,none⟩) l.nU l.cU)∧w'.cell? ⟨g0,o0+k,none⟩=some (.slice (l.uA k) (l.uL k) (l.uC k))) X):=fun X e1 e2 e3=>⟨e1,(fG e3 2).trans ((fG HQ.out.2.2.a 2).symm.trans c2),by
   obtain ⟨g9,o9,e9,h9⟩:=(HU.out.up e2) k hlt
   cases e9
   exact h9⟩
  have hT0:=HTT.out V HQ.out.2.1.box HQ.out.2.2.bel HQ.out.2.2.a
  clear c2 hc0
  refine tE 0 22 hT0 ?_
  refine ji (i:=1) (some 23) (v:=?_) ?_ hT0 ?_
  rotate_left
  ·
   intro wx hSw
   obtain ⟨hS1,hS2,hS3⟩:=hSw
   have c2:wx.cell? ⟨gB,2,none⟩=some (.slice q.aU k q.cU):=by rw [fG hS1 2,←HQ.out.1];rfl
   exact dW
  try simp only [Act.put,PZ]
  refine tE 3 25 hT0 ?_
  refine ji (i:=4) (some 26) (v:=?_) ?_ hT0 ?_
  rotate_left
  · exact fm
  try simp only [Act.put,PZ]
  refine tE 5 27 hT0 ?_
  refine ji (i:=6) (some 28) (v:=?_) ?_ hT0 ?_
  rotate_left
  · exact fm
  try simp only [Act.put,PZ]
  refine ji (i:=7) (some 29) (v:=?_) ?_ hT0 ?_
  rotate_left
  · exact fm
  try simp only [Act.put,PZ]
  obtain ⟨a1,c1,X1,hr1,oA,hb⟩:=Ai (c:=l.uC k) (HS.out.z k hlt) ((HR.out.z k hlt).up HQ.out.2.2.bel)
  have HA1:Hid (OI X1 V.heap.size a1 (l.uL k) c1 (l.uz k)∧Below V.heap.size V X1):=⟨oA,hb⟩
  have HR1:Hid ((Builtin.append_ #[25,25] 25 #[.slice (some ⟨V.heap.size,0,none⟩) 0 0,.slice (l.uA k) (l.uL k) (l.uC k)]).run Tryz.prog (V.alloc (.cells #[] 2))=.ok (.slice a1 (l.uL k) c1) X1):=hr1
  have hA:Below V.heap.size V (V.alloc (.cells #[] 2)):=(Below.refl _ _).alloc (Nat.le_refl _) _
  have hTa:=HTT.out _ (HQ.out.2.1.up hA).box (HQ.out.2.2.up hA).bel (HQ.out.2.2.up hA).a
  have Q1:=HQ.out.2.1.up hb
  have hu0:OG 25 1 X1 w.heap.size q.aU k q.cU (sl k q.uA q.uL q.uC):=by have:=Q1.own.u;rw [HQ.out.1] at this;exact this
  obtain ⟨g1,c3,X3,hr,hu,ht,hg⟩:=ku 87 25 (.slice none 0 0) 1 24 ub Tryz.underlying87 rfl (by decide) (by decide) hu0 (by omega) (Nat.le_trans HQ.out.2.2.bel.size hb.size) #[.slice a1 (l.uL k) c1] rfl (by simp [Value.oneCell'])
  have hX1:=HQ.out.2.2.up hb
  have hT1:=HTT.out X1 Q1.box hX1.bel hX1.a
  have hB2:Below X1.heap.size X1 (X1.alloc (.cells #[.slice a1 (l.uL k) c1] 25)):=(Below.refl _ _).alloc (Nat.le_refl _) _
  have hT2:=HTT.out _ (Q1.up hB2).box (hX1.up hB2).bel (hX1.up hB2).a
  have hX3:=hX1.far ht (fun hg=>hu0.j7 (by decide) hg) (fun x hx=>(hu0.blk x hx).1)
  have hb3:X3.heap[gB]?=some (.cells q.cells 102 (0,0)):=(ht.block gB (fH Q1.box) (hu0.j7 (by decide) Q1.box)).trans Q1.box
  have hT3:=HTT.out X3 hb3 hX3.bel hX3.a
  have HX3:Hid (Two w l.cells iO 102 X3):=hX3
  have HN3:Hid (OG 25 1 X3 w.heap.size (some ⟨g1,0,none⟩) (k+1) c3 (sl k q.uA q.uL q.uC++[.slice a1 (l.uL k) c1])∧Touch (ij q.aU) X1 X3∧(g1∈ij q.aU∨X1.heap.size≤g1)):=⟨hu,ht,hg⟩
  have HR3:Hid ((Builtin.append_ #[87,87] 87 #[.slice q.aU k q.cU,.slice (some ⟨X1.heap.size,0,none⟩) 1 1]).run Tryz.prog (X1.alloc (.cells #[.slice a1 (l.uL k) c1] 25))=.ok (.slice (some ⟨g1,0,none⟩) (k+1) c3) X3):=hr
  clear oA hb Q1 hu0 hr hr1 hu ht hg hT0 hA hX1 hB2 hX3
  refine fM (rs:=[2]) (by kernel_rfl) (by simp) ?_
  refine fI.cons rfl (fun K hK=>?_) fI.nil
  go_simp
  refine hK.out _ _ hTa ?_
  clear hK K
  try simp only [Act.put,PZ]
  refine fM (rs:=[8]) (by kernel_rfl) (by simp) ?_
  refine fI.cons rfl (fun K hK=>?_) fI.nil
  refine jX (by kernel_rfl) (some 30) rfl (.tmp 24) (.tmp 29) 25 _ _ _ rfl rfl rfl rfl HR1.out ?_
  refine hK.out _ _ hT1 ?_
  clear hK K
  try simp only [Act.put,PZ]
  refine fM (rs:=[9]) (by kernel_rfl) (by simp) ?_
  refine fI.cons rfl (fun K hK=>?_) fI.nil
  go_simp
  refine hK.out _ _ hT2 ?_
  clear hK K
  try simp only [Act.put,PZ]
  refine fM (rs:=[10]) (by kernel_rfl) (by simp) ?_
  refine fI.cons rfl (fun K hK=>?_) fI.nil
  refine jX (by kernel_rfl) (some 32) rfl (.tmp 23) (.tmp 31) 87 _ _ _ rfl rfl rfl rfl HR3.out ?_
  refine hK.out _ _ hT3 ?_
  clear hK K hT2 HR3 hTa HR1 hT1
  try simp only [Act.put,PZ]
  have hT0:=hT3
  refine tE 11 33 hT0 ?_
  refine fM (rs:=[12]) (by kernel_rfl) (by simp) ?_
  refine fI.last rfl (fun K hK=>?_)
  refine jz (by kernel_rfl) none rfl 87 (.tmp 33) (.tmp 32) rfl gB 2 rfl (.slice (some ⟨g1,0,none⟩) (k+1) c3) rfl 1 rfl 102 _ hb3 vM (Nat.le_of_ble_eq_true rfl) (by simp [Value.cells,Value.oneCell']) ?_
  intro X4 hP
  refine hK.out _ _ ?_
  clear hK K
  try simp only [Act.put,PZ]
  refine ie (by kernel_rfl) ?_ _
  have HN:Hid ((q.more k (some ⟨g1,0,none⟩) c3 a1 c1).nU=k+1∧CpL w.heap.size gB l (q.more k (some ⟨g1,0,none⟩) c3 a1 c1) X4∧Two w l.cells iO 102 X4):=⟨rfl,HQ.out.2.1.more HQ.out.1 HA1.out.2 HQ.out.2.2.bel.size HA1.out.1 HN3.out.1 HN3.out.2.1 HN3.out.2.2 hP,HX3.out.put hP HgB.out⟩
  clear hP hT0 hT3 hb3 HN3 HA1 HQ HX3 HTT hg0
  exact fi
 obtain rfl:k=l.nU:=by omega
 obtain ⟨hq1,hq2,hq3⟩:=HQ.out
 have HL:Hid (∀ j,j<8→wr.cell? ⟨gB,0+j,none⟩=q.cells[j]?):=fun j _=>by rw [Nat.zero_add];exact fG hq2.box j
 have HD:Hid (wr.heap[w.heap.size+1]?=some (.cells iO 102 (0,0))):=hq3.b
 clear hq1 hq2 hq3
 go_wp2_with (first | refine fP rfl 102 8 _ Tryz.underlying102 rfl ix (.tmp 3) rfl gB 0 rfl q.cells rfl HL.out ?_ | refine fJ rfl 102 (.tmp 2) (.tmp 34) rfl (w.heap.size+1) 0 rfl (.agg q.cells) rfl 8 rfl 102 _ HD.out ix (Nat.le_of_ble_eq_true rfl) (Lng.lL _) ?_)
 intro X hP
 replace hP:Put wr X (w.heap.size+1) q.cells 102:=hP.cast rfl
 have HK:Hid (X.heap[w.heap.size+1]?=some (.cells q.cells 102 (0,0))):=hP.blk
 have HF:Hid (gy l q∧iq X w.heap.size q∧Below w.heap.size w X):=⟨⟨HQ.out.2.1.st,HQ.out.2.1.nT,HQ.out.2.1.t,HQ.out.1,HQ.out.2.1.ul,HQ.out.2.1.uz,HQ.out.2.1.r⟩,HQ.out.2.1.own.box HD.out (by decide) (by decide) hP.to,HQ.out.2.2.bel.trans (hP.to.below HQ.out.2.2.bel.size (fun x hx=>by simp at hx;omega))⟩
 clear hP HL HD HQ
 go_wp2_with fail
 exact bodyPost_ret (iW Tryz.results98 8 _ Tryz.underlying102 rfl ix _ _ (w.heap.size+1) q.cells rfl 102 HK.out rfl) rfl ⟨q,rfl,HF.out.1,HF.out.2.1,HF.out.2.2⟩
theorem xI (S:Swg) (w:World) (hs:S.Small) (hU:0<S.N.nU) (hPp:0<S.N.nP) (h:j4 w S) :
  Calls Tryz.prog 55 #[.agg S.cells] w fun e w'=>∃ S2,e=.returned (.agg S2.cells)∧ga S S2∧ic w' w.heap.size S2∧Below w.heap.size w w':=by
 have HR:Hid (j4 w S):=h
 have HS:Hid S.Small:=hs
 have HU0:Hid (0<S.N.nU∧0<S.N.nP):=⟨hU,hPp⟩
 clear h hs hU hPp
 obtain ⟨W0,eW⟩:∃ W,(((w.alloc (.cells S.cells 40)).alloc (.cells #[.int .i64 0,.int .i64 0,.int .i64 0,.int .i64 0,.int .i64 0,.int .i64 0,.int .i64 0,.int .i64 0,.int .i64 0,.slice none 0 0,.slice none 0 0,.int .i64 0,.slice none 0 0,.slice none 0 0,.slice none 0 0,.int .i64 0,.int .i64 0] 40)).alloc (.cells #[.int .i64 0,.int .i64 0,.int .i64 0,.int .i64 0,.int .i64 0,.int .i64 0,.int .i64 0,.int .i64 0,.int .i64 0,.slice none 0 0,.slice none 0 0,.int .i64 0,.slice none 0 0,.slice none 0 0,.slice none 0 0,.int .i64 0,.int .i64 0] 40))=W:=⟨_,rfl⟩
 have HX:Hid (g5 w S.cells #[.int .i64 0,.int .i64 0,.int .i64 0,.int .i64 0,.int .i64 0,.int .i64 0,.int .i64 0,.int .i64 0,.int .i64 0,.slice none 0 0,.slice none 0 0,.int .i64 0,.slice none 0 0,.slice none 0 0,.slice none 0 0,.int .i64 0,.int .i64 0] #[.int .i64 0,.int .i64 0,.int .i64 0,.int .i64 0,.int .i64 0,.int .i64 0,.int .i64 0,.int .i64 0,.int .i64 0,.slice none 0 0,.slice none 0 0,.int .i64 0,.slice none 0 0,.slice none 0 0,.slice none 0 0,.int .i64 0,.int .i64 0] 40 40 W0):=by rw [←eW];exact g5.start _ _ _ _ _ _
 have HL0:Hid (∀ j,j<17→((w.alloc (.cells S.cells 40)).alloc (.cells #[.int .i64 0,.int .i64 0,.int .i64 0,.int .i64 0,.int .i64 0,.int .i64 0,.int .i64 0,.int .i64 0,.int .i64 0,.slice none 0 0,.slice none 0 0,.int .i64 0,.slice none 0 0,.slice none 0 0,.slice none 0 0,.int .i64 0,.int .i64 0] 40)).cell? ⟨w.heap.size,0+j,none⟩=S.cells[j]?):=fun j _=>by rw [Nat.zero_add];exact fG (Two.start w S.cells #[.int .i64 0,.int .i64 0,.int .i64 0,.int .i64 0,.int .i64 0,.int .i64 0,.int .i64 0,.int .i64 0,.int .i64 0,.slice none 0 0,.slice none 0 0,.int .i64 0,.slice none 0 0,.slice none 0 0,.slice none 0 0,.int .i64 0,.int .i64 0] 40).a j
 have HC:Hid (W0.heap[w.heap.size+1+1]?=some (.cells #[.int .i64 0,.int .i64 0,.int .i64 0,.int .i64 0,.int .i64 0,.int .i64 0,.int .i64 0,.int .i64 0,.int .i64 0,.slice none 0 0,.slice none 0 0,.int .i64 0,.slice none 0 0,.slice none 0 0,.slice none 0 0,.int .i64 0,.int .i64 0] 40 (0,0))):=HX.out.c
 go_enter Tryz.func55,Tryz.ntmps55
 go_wp2_with (first | refine fP rfl 40 17 _ Tryz.underlying40 rfl fZ (.tmp 1) rfl w.heap.size 0 rfl S.cells rfl HL0.out ?_ | refine fJ rfl 40 (.tmp 3) (.tmp 5) rfl (w.heap.size+1+1) 0 rfl (.agg S.cells) rfl 17 rfl 40 _ HC.out fZ (Nat.le_of_ble_eq_true rfl) (Swg.lL _) ?_)
 clear HL0
 intro W1 hP
 clear eW
 replace hP:=hP.cast (cs':=#[.int .i64 S.C.p,.int .i64 S.C.c,.int .i64 S.C.xo,.int .i64 S.C.xn,.int .i64 S.C.hd,.int .i64 S.C.lo,.int .i64 S.C.dl,.int .i64 S.now,.int .i64 S.nx,.slice S.aE S.nE S.cE,.slice S.N.aU S.N.nU S.N.cU,.int .i64 S.N.lo,.slice S.N.aP S.N.nP S.N.cP,.slice S.aK S.nK S.cK,.slice S.aL S.nL S.cL,.int .i64 S.dr,.int .i64 S.lst]) rfl
 replace HX:Hid (g5 w S.cells #[.int .i64 0,.int .i64 0,.int .i64 0,.int .i64 0,.int .i64 0,.int .i64 0,.int .i64 0,.int .i64 0,.int .i64 0,.slice none 0 0,.slice none 0 0,.int .i64 0,.slice none 0 0,.slice none 0 0,.slice none 0 0,.int .i64 0,.int .i64 0] #[.int .i64 S.C.p,.int .i64 S.C.c,.int .i64 S.C.xo,.int .i64 S.C.xn,.int .i64 S.C.hd,.int .i64 S.C.lo,.int .i64 S.C.dl,.int .i64 S.now,.int .i64 S.nx,.slice S.aE S.nE S.cE,.slice S.N.aU S.N.nU S.N.cU,.int .i64 S.N.lo,.slice S.N.aP S.N.nP S.N.cP,.slice S.aK S.nK S.cK,.slice S.aL S.nL S.cL,.int .i64 S.dr,.int .i64 S.lst] 40 40 W1):=HX.out.put hP
 have T1:Touch [w.heap.size+1,w.heap.size+1+1] W0 W1:=hP.to.mono (fun x hx=>by simp at hx;simp [hx])
 clear hP HC 
 obtain ⟨aE,cE,we,hr,rE,hb⟩:=kt (V:=W1) (c:=S.cE) 35 95 _ 3 24 zx Tryz.underlying35 rfl (by decide) (by decide) HS.out.e (by rw [np,mh]) ((HR.out.e.up HX.out.bel).cs) (um _)
 have srE:=HX.out.sz
 have c9:(W1.alloc (.cells #[] 95)).cell? ⟨w.heap.size,9,none⟩=some (.slice S.aE S.nE S.cE):=(fG ((gg _ (fH HX.out.a)).trans HX.out.a) 9)
 replace HX:Hid (g5 w S.cells #[.int .i64 0,.int .i64 0,.int .i64 0,.int .i64 0,.int .i64 0,.int .i64 0,.int .i64 0,.int .i64 0,.int .i64 0,.slice none 0 0,.slice none 0 0,.int .i64 0,.slice none 0 0,.slice none 0 0,.slice none 0 0,.int .i64 0,.int .i64 0] #[.int .i64 S.C.p,.int .i64 S.C.c,.int .i64 S.C.xo,.int .i64 S.C.xn,.int .i64 S.C.hd,.int .i64 S.C.lo,.int .i64 S.C.dl,.int .i64 S.now,.int .i64 S.nx,.slice S.aE S.nE S.cE,.slice S.N.aU S.N.nU S.N.cU,.int .i64 S.N.lo,.slice S.N.aP S.N.nP S.N.cP,.slice S.aK S.nK S.cK,.slice S.aL S.nL S.cL,.int .i64 S.dr,.int .i64 S.lst] 40 40 we):=HX.out.up hb
 have T2:Touch [w.heap.size+1,w.heap.size+1+1] W1 we:=Touch.gY hb
 clear hb
 have HC:=HX.out.c
 replace HC:Hid (we.heap[w.heap.size+1+1]?=some (.cells #[.int .i64 S.C.p,.int .i64 S.C.c,.int .i64 S.C.xo,.int .i64 S.C.xn,.int .i64 S.C.hd,.int .i64 S.C.lo,.int .i64 S.C.dl,.int .i64 S.now,.int .i64 S.nx,.slice S.aE S.nE S.cE,.slice S.N.aU S.N.nU S.N.cU,.int .i64 S.N.lo,.slice S.N.aP S.N.nP S.N.cP,.slice S.aK S.nK S.cK,.slice S.aL S.nL S.cL,.int .i64 S.dr,.int .i64 S.lst] 40 (0,0))):=HC
 have HRn:Hid ((Builtin.append_ #[35,35] 35 #[.slice (some ⟨W1.heap.size,0,none⟩) 0 0,.slice S.aE S.nE S.cE]).run Tryz.prog (W1.alloc (.cells #[] 95))=.ok (.slice aE S.nE cE) we):=hr
 clear hr
 go_wp2_with (first | (at_builtin;refine Lib.wpList_append_run _ rfl _ _ _ _ rfl _ _ rfl rfl _ _ HRn.out ?_) | refine fJ rfl 35 (.tmp 10) (.tmp 9) rfl (w.heap.size+1+1) 9 rfl (.slice aE S.nE cE) rfl 1 rfl 40 _ HC.out zw (Nat.le_of_ble_eq_true rfl) (by simp [Value.cells,Value.oneCell',Rnd.cells,Cfg.cells,Cnt.cells]) ?_)
 clear HRn c9
 intro W3 hP
 replace hP:=hP.cast (cs':=#[.int .i64 S.C.p,.int .i64 S.C.c,.int .i64 S.C.xo,.int .i64 S.C.xn,.int .i64 S.C.hd,.int .i64 S.C.lo,.int .i64 S.C.dl,.int .i64 S.now,.int .i64 S.nx,.slice aE S.nE cE,.slice S.N.aU S.N.nU S.N.cU,.int .i64 S.N.lo,.slice S.N.aP S.N.nP S.N.cP,.slice S.aK S.nK S.cK,.slice S.aL S.nL S.cL,.int .i64 S.dr,.int .i64 S.lst]) rfl
 replace HX:Hid (g5 w S.cells #[.int .i64 0,.int .i64 0,.int .i64 0,.int .i64 0,.int .i64 0,.int .i64 0,.int .i64 0,.int .i64 0,.int .i64 0,.slice none 0 0,.slice none 0 0,.int .i64 0,.slice none 0 0,.slice none 0 0,.slice none 0 0,.int .i64 0,.int .i64 0] #[.int .i64 S.C.p,.int .i64 S.C.c,.int .i64 S.C.xo,.int .i64 S.C.xn,.int .i64 S.C.hd,.int .i64 S.C.lo,.int .i64 S.C.dl,.int .i64 S.now,.int .i64 S.nx,.slice aE S.nE cE,.slice S.N.aU S.N.nU S.N.cU,.int .i64 S.N.lo,.slice S.N.aP S.N.nP S.N.cP,.slice S.aK S.nK S.cK,.slice S.aL S.nL S.cL,.int .i64 S.dr,.int .i64 S.lst] 40 40 W3):=HX.out.put hP
 have T3:Touch [w.heap.size+1,w.heap.size+1+1] we W3:=hP.to.mono (fun x hx=>by simp at hx;simp [hx])
 clear hP HC 
 have c10:W3.cell? ⟨w.heap.size,10,none⟩=some (.slice S.N.aU S.N.nU S.N.cU):=fG HX.out.a 10
 have c11:W3.cell? ⟨w.heap.size,11,none⟩=some (.int .i64 S.N.lo):=fG HX.out.a 11
 have c12:W3.cell? ⟨w.heap.size,12,none⟩=some (.slice S.N.aP S.N.nP S.N.cP):=fG HX.out.a 12
 go_wp2_with fail
 refine (mo S.N _ HU0.out.1 HU0.out.2 HS.out.n (HR.out.n.up HX.out.bel)).mono ?_
 rintro e wn ⟨M,rfl,rN,hb,aN⟩
 clear c10 c11 c12
 have sN:=HX.out.sz
 replace HX:Hid (g5 w S.cells #[.int .i64 0,.int .i64 0,.int .i64 0,.int .i64 0,.int .i64 0,.int .i64 0,.int .i64 0,.int .i64 0,.int .i64 0,.slice none 0 0,.slice none 0 0,.int .i64 0,.slice none 0 0,.slice none 0 0,.slice none 0 0,.int .i64 0,.int .i64 0] #[.int .i64 S.C.p,.int .i64 S.C.c,.int .i64 S.C.xo,.int .i64 S.C.xn,.int .i64 S.C.hd,.int .i64 S.C.lo,.int .i64 S.C.dl,.int .i64 S.now,.int .i64 S.nx,.slice aE S.nE cE,.slice S.N.aU S.N.nU S.N.cU,.int .i64 S.N.lo,.slice S.N.aP S.N.nP S.N.cP,.slice S.aK S.nK S.cK,.slice S.aL S.nL S.cL,.int .i64 S.dr,.int .i64 S.lst] 40 40 wn):=HX.out.up hb
 have T4:Touch [w.heap.size+1,w.heap.size+1+1] W3 wn:=Touch.gY hb
 clear hb
 have HC:=HX.out.c
 replace HC:Hid (wn.heap[w.heap.size+1+1]?=some (.cells #[.int .i64 S.C.p,.int .i64 S.C.c,.int .i64 S.C.xo,.int .i64 S.C.xn,.int .i64 S.C.hd,.int .i64 S.C.lo,.int .i64 S.C.dl,.int .i64 S.now,.int .i64 S.nx,.slice aE S.nE cE,.slice S.N.aU S.N.nU S.N.cU,.int .i64 S.N.lo,.slice S.N.aP S.N.nP S.N.cP,.slice S.aK S.nK S.cK,.slice S.aL S.nL S.cL,.int .i64 S.dr,.int .i64 S.lst] 40 (0,0))):=HC
 go_wp2_with (refine fJ rfl 36 (.tmp 14) (.tmp 13) rfl (w.heap.size+1+1) 10 rfl (.agg M.cells) rfl 3 rfl 40 _ HC.out zA (Nat.le_of_ble_eq_true rfl) (by simp [Value.cells,Value.oneCell',Rnd.cells,Cfg.cells,Cnt.cells]) ?_)
 intro W5 hP
 replace hP:=hP.cast (cs':=#[.int .i64 S.C.p,.int .i64 S.C.c,.int .i64 S.C.xo,.int .i64 S.C.xn,.int .i64 S.C.hd,.int .i64 S.C.lo,.int .i64 S.C.dl,.int .i64 S.now,.int .i64 S.nx,.slice aE S.nE cE,.slice M.aU M.nU M.cU,.int .i64 M.lo,.slice M.aP M.nP M.cP,.slice S.aK S.nK S.cK,.slice S.aL S.nL S.cL,.int .i64 S.dr,.int .i64 S.lst]) rfl
 replace HX:Hid (g5 w S.cells #[.int .i64 0,.int .i64 0,.int .i64 0,.int .i64 0,.int .i64 0,.int .i64 0,.int .i64 0,.int .i64 0,.int .i64 0,.slice none 0 0,.slice none 0 0,.int .i64 0,.slice none 0 0,.slice none 0 0,.slice none 0 0,.int .i64 0,.int .i64 0] #[.int .i64 S.C.p,.int .i64 S.C.c,.int .i64 S.C.xo,.int .i64 S.C.xn,.int .i64 S.C.hd,.int .i64 S.C.lo,.int .i64 S.C.dl,.int .i64 S.now,.int .i64 S.nx,.slice aE S.nE cE,.slice M.aU M.nU M.cU,.int .i64 M.lo,.slice M.aP M.nP M.cP,.slice S.aK S.nK S.cK,.slice S.aL S.nL S.cL,.int .i64 S.dr,.int .i64 S.lst] 40 40 W5):=HX.out.put hP
 have T5:Touch [w.heap.size+1,w.heap.size+1+1] wn W5:=hP.to.mono (fun x hx=>by simp at hx;simp [hx])
 clear hP HC 
 obtain ⟨aK,cK,wk,hr,rK,hb⟩:=kt (V:=W5) (c:=S.cK) 37 97 _ 8 72 vK Tryz.underlying37 rfl (by decide) (by decide) HS.out.k (ke _ _) ((HR.out.k.up HX.out.bel).cs) (oQ _ _)
 have srK:=HX.out.sz
 have c13:(W5.alloc (.cells #[] 97)).cell? ⟨w.heap.size,13,none⟩=some (.slice S.aK S.nK S.cK):=(fG ((gg _ (fH HX.out.a)).trans HX.out.a) 13)
 replace HX:Hid (g5 w S.cells #[.int .i64 0,.int .i64 0,.int .i64 0,.int .i64 0,.int .i64 0,.int .i64 0,.int .i64 0,.int .i64 0,.int .i64 0,.slice none 0 0,.slice none 0 0,.int .i64 0,.slice none 0 0,.slice none 0 0,.slice none 0 0,.int .i64 0,.int .i64 0] #[.int .i64 S.C.p,.int .i64 S.C.c,.int .i64 S.C.xo,.int .i64 S.C.xn,.int .i64 S.C.hd,.int .i64 S.C.lo,.int .i64 S.C.dl,.int .i64 S.now,.int .i64 S.nx,.slice aE S.nE cE,.slice M.aU M.nU M.cU,.int .i64 M.lo,.slice M.aP M.nP M.cP,.slice S.aK S.nK S.cK,.slice S.aL S.nL S.cL,.int .i64 S.dr,.int .i64 S.lst] 40 40 wk):=HX.out.up hb
 have T6:Touch [w.heap.size+1,w.heap.size+1+1] W5 wk:=Touch.gY hb
 clear hb
 have HC:=HX.out.c
 replace HC:Hid (wk.heap[w.heap.size+1+1]?=some (.cells #[.int .i64 S.C.p,.int .i64 S.C.c,.int .i64 S.C.xo,.int .i64 S.C.xn,.int .i64 S.C.hd,.int .i64 S.C.lo,.int .i64 S.C.dl,.int .i64 S.now,.int .i64 S.nx,.slice aE S.nE cE,.slice M.aU M.nU M.cU,.int .i64 M.lo,.slice M.aP M.nP M.cP,.slice S.aK S.nK S.cK,.slice S.aL S.nL S.cL,.int .i64 S.dr,.int .i64 S.lst] 40 (0,0))):=HC
 have HRn:Hid ((Builtin.append_ #[37,37] 37 #[.slice (some ⟨W5.heap.size,0,none⟩) 0 0,.slice S.aK S.nK S.cK]).run Tryz.prog (W5.alloc (.cells #[] 97))=.ok (.slice aK S.nK cK) wk):=hr
 clear hr
 go_wp2_with (first | (at_builtin;refine Lib.wpList_append_run _ rfl _ _ _ _ rfl _ _ rfl rfl _ _ HRn.out ?_) | refine fJ rfl 37 (.tmp 19) (.tmp 18) rfl (w.heap.size+1+1) 13 rfl (.slice aK S.nK cK) rfl 1 rfl 40 _ HC.out zu (Nat.le_of_ble_eq_true rfl) (by simp [Value.cells,Value.oneCell',Rnd.cells,Cfg.cells,Cnt.cells]) ?_)
 clear HRn c13
 intro W7 hP
 replace hP:=hP.cast (cs':=#[.int .i64 S.C.p,.int .i64 S.C.c,.int .i64 S.C.xo,.int .i64 S.C.xn,.int .i64 S.C.hd,.int .i64 S.C.lo,.int .i64 S.C.dl,.int .i64 S.now,.int .i64 S.nx,.slice aE S.nE cE,.slice M.aU M.nU M.cU,.int .i64 M.lo,.slice M.aP M.nP M.cP,.slice aK S.nK cK,.slice S.aL S.nL S.cL,.int .i64 S.dr,.int .i64 S.lst]) rfl
 replace HX:Hid (g5 w S.cells #[.int .i64 0,.int .i64 0,.int .i64 0,.int .i64 0,.int .i64 0,.int .i64 0,.int .i64 0,.int .i64 0,.int .i64 0,.slice none 0 0,.slice none 0 0,.int .i64 0,.slice none 0 0,.slice none 0 0,.slice none 0 0,.int .i64 0,.int .i64 0] #[.int .i64 S.C.p,.int .i64 S.C.c,.int .i64 S.C.xo,.int .i64 S.C.xn,.int .i64 S.C.hd,.int .i64 S.C.lo,.int .i64 S.C.dl,.int .i64 S.now,.int .i64 S.nx,.slice aE S.nE cE,.slice M.aU M.nU M.cU,.int .i64 M.lo,.slice M.aP M.nP M.cP,.slice aK S.nK cK,.slice S.aL S.nL S.cL,.int .i64 S.dr,.int .i64 S.lst] 40 40 W7):=HX.out.put hP
 have T7:Touch [w.heap.size+1,w.heap.size+1+1] wk W7:=hP.to.mono (fun x hx=>by simp at hx;simp [hx])
 clear hP HC 
 obtain ⟨P,eP⟩:∃ P,(⟨S.C,S.now,S.nx,aE,S.nE,cE,S.e,M,aK,S.nK,cK,S.K,S.aL,S.nL,S.cL,S.L,S.dr,S.lst⟩:Swg)=P:=⟨_,rfl⟩
 have e3:#[.int .i64 S.C.p,.int .i64 S.C.c,.int .i64 S.C.xo,.int .i64 S.C.xn,.int .i64 S.C.hd,.int .i64 S.C.lo,.int .i64 S.C.dl,.int .i64 S.now,.int .i64 S.nx,.slice aE S.nE cE,.slice M.aU M.nU M.cU,.int .i64 M.lo,.slice M.aP M.nP M.cP,.slice aK S.nK cK,.slice S.aL S.nL S.cL,.int .i64 S.dr,.int .i64 S.lst]=P.cells:=by rw [←eP];rfl
 rw [e3] at HX
 clear e3
 have hlow:∀ x∈[w.heap.size+1,w.heap.size+1+1],x<w.heap.size+1+1+1:=by intro x hx;simp at hx;omega
 have HA:Hid (CpA S P):=by rw [←eP];exact ⟨rfl,rfl,rfl,rfl,rfl,aN,rfl,rfl,rfl,rfl⟩
 have HP:Hid (CpS w S P W7):=by
  rw [←eP] at HX ⊢
  exact ⟨HX.out,OG.mono (rE.low ((((T3.trans T4).trans T5).trans T6).trans T7) (fun x hx=>by have:=hlow x hx;omega)) (by omega),gR.mono (rN.iU ((T5.trans T6).trans T7) (fun x hx=>by have:=hlow x hx;omega)) (by omega),OG.mono (rK.low T7 (fun x hx=>by have:=hlow x hx;omega)) (by omega)⟩
 clear HX eP rE rN rK aN srE sN srK hlow T1 T2 T3 T4 T5 T6 T7
 have HC:Hid (W7.heap[w.heap.size+1+1]?=some (.cells P.cells 40 (0,0))):=HP.out.x.c
 go_wp2_with (refine fJ rfl 38 (.tmp 20) (.const (.slice none 0 0)) rfl (w.heap.size+1+1) 14 rfl (.slice none 0 0) rfl 1 rfl 40 _ HC.out tW (Nat.le_of_ble_eq_true rfl) (by simp [Value.cells,Value.oneCell']) ?_)
 intro Y0 hP
 obtain ⟨P1,eP1⟩:∃ P1,({ P with aL:=none,nL:=0,cL:=0 }:Swg)=P1:=⟨_,rfl⟩
 replace hP:Put W7 Y0 (w.heap.size+1+1) P1.cells 40:=hP.cast (by rw [←eP1];rfl)
 have HP1:Hid (sj w S P1 0 Y0):=by
  have q:=HP.out
  rw [←eP1] at hP ⊢
  exact ⟨⟨q.x.put hP,q.e.fK hP.to (fun x hx hy=>q.e.j7 (by decide) q.x.c ((List.mem_singleton.1 hy)▸hx)),q.n.C5 q.x.c (by decide) (by decide) hP.to,q.k.fK hP.to (fun x hx hy=>q.k.j7 (by decide) q.x.c ((List.mem_singleton.1 hy)▸hx))⟩,⟨HA.out.c,HA.out.now,HA.out.nx,HA.out.nE,HA.out.e,HA.out.n,HA.out.nK,HA.out.k,HA.out.dr,HA.out.lst⟩,j5.nil _ _ _,fun x hx hy=>by simp at hy,rfl,fun i hi=>absurd hi (Nat.not_lt_zero _)⟩
 clear hP HC HP eP1 HA
 have HU:Hid (qh w S.aL S.nL S.L):=HR.out.l
 obtain ⟨aL0,eU⟩:∃ a,S.aL=a:=⟨_,rfl⟩
 have HAL:Hid (S.aL=aL0):=eU
 rw [eU] at HU
 clear eU
 have hnl:=HS.out.l
 go_wp2_with fail
 go_loopw [4] (fun i wr=>∃ (k:Nat) (P:Swg),k≤S.nL∧i=.int .i64 k∧Hid (sj w S P k wr)) (fun i _=>S.nL-(intOf i).toNat)
 case atStart=>exact ⟨0,P1,Nat.zero_le _,rfl,HP1⟩
 clear HP1
 obtain ⟨k,P,hk,rfl,HP⟩:=hrel
 have c14:wr.cell? ⟨w.heap.size,14,none⟩=some (.slice aL0 S.nL S.cL):=by rw [←HAL.out];exact fG HP.out.s.x.a 14
 by_cases hlt:k<S.nL
 ·
  have hlt':(k:Int)<S.nL:=by omega
  obtain ⟨g0,o0,ea,hc⟩:=(HU.out.up HP.out.s.x.bel) k hlt
  subst ea
  go_wp2_with fail
  refine iE (fun w'=>w'.heap[w.heap.size+1+1]?=some (.cells P.cells 40 (0,0))∧w'.cell? ⟨w.heap.size,14,none⟩=some (.slice (some ⟨g0,o0,none⟩) S.nL S.cL)∧∀ j,j<8→w'.cell? ⟨g0,o0+k*8+j,none⟩=(S.L k).cells[j]?) 11 (by kernel_rfl) ?_
  have hd:Below wr.heap.size wr wr.drew:=(Below.refl _ _).drew
  replace HP:Hid (sj w S P k wr.drew):=HP.out.up hd
  replace c14:wr.drew.cell? ⟨w.heap.size,14,none⟩=some (.slice (some ⟨g0,o0,none⟩) S.nL S.cL):=c14
  clear hd hc
  generalize wr.drew=V at *
  have HTT:Hid (∀ X:World,X.heap[w.heap.size+1+1]?=some (.cells P.cells 40 (0,0))→Below w.heap.size w X→X.heap[w.heap.size]?=some (.cells S.cells 40 (0,0))→(fun w'=>w'.heap[w.heap.size+1+1]?=some (.cells P.cells 40 (0,0))∧w'.cell? ⟨w.heap.size,14,none⟩=some (.slice (some ⟨g0,o0,none⟩) S.nL S.cL)∧∀ j,j<8→w'.cell? ⟨g0,o0+k*8+j,none⟩=(S.L k).cells[j]?) X):=fun X e1 e2 e3=>⟨e1,(fG e3 14).trans ((fG HP.out.s.x.a 14).symm.trans c14),by
   obtain ⟨g9,o9,e9,h9⟩:=(HU.out.up e2) k hlt
   cases e9
   exact h9⟩
  have hT0:=HTT.out V HP.out.s.x.c HP.out.s.x.bel HP.out.s.x.a
  clear c14
  refine tE 0 28 hT0 ?_
  refine ji (i:=1) (some 29) (v:=?_) ?_ hT0 ?_
  rotate_left
  ·
   intro wx hSw
   obtain ⟨hS1,hS2,hS3⟩:=hSw
   have c14:wx.cell? ⟨w.heap.size+1+1,14,none⟩=some (.slice P.aL k P.cL):=by rw [fG hS1 14,←HP.out.nL];rfl
   exact dW
  try simp only [Act.put,PZ]
  refine tE 2 30 hT0 ?_
  refine ji (i:=3) (some 31) (v:=?_) ?_ hT0 ?_
  rotate_left
  ·
   intro wx hSw
   obtain ⟨hS1,hS2,hS3⟩:=hSw
   clear hS3
   exact dW
  try simp only [Act.put,PZ]
  refine tE 4 32 hT0 ?_
  refine tE 5 33 hT0 ?_
  refine ji (i:=6) (some 34) (v:=.agg (S.L k).cells) ?_ hT0 ?_
  ·
   intro wx hSw
   exact iV 102 8 _ Tryz.underlying102 rfl ix (.tmp 33) rfl g0 (o0+k*8) rfl _ rfl hSw.2.2
  try simp only [Act.put,PZ]
  refine fM (rs:=[7]) (by kernel_rfl) (by simp) ?_
  refine fI.cons rfl (fun K hK=>?_) fI.nil
  go_simp
  refine (pX (S.L k) _ (HS.out.ls k hlt) ((HR.out.ls k hlt).up HP.out.s.x.bel)).mono ?_
  rintro e X1 ⟨l2,rfl,al2,ol2,hb⟩
  have HA1:Hid (gy (S.L k) l2∧iq X1 V.heap.size l2∧Below V.heap.size V X1):=⟨al2,ol2,hb⟩
  have Q1:=HP.out.up hb
  have hu0:OG 102 8 X1 w.heap.size P.aL k P.cL (vG k P.L):=by have:=Q1.l.l;rw [HP.out.nL] at this;exact this
  obtain ⟨g1,c3,X3,hr,hu,ht,hg⟩:=ku 38 102 _ 8 144 vL Tryz.underlying38 rfl (by decide) (by decide) hu0 (by omega) (Nat.le_trans HP.out.s.x.bel.size hb.size) l2.cells rfl (Lng.lL _)
  have LN:l2.cells=#[.bool l2.st,.slice l2.aT l2.nT l2.cT,.slice l2.aU l2.nU l2.cU,.slice l2.R.aQ l2.R.nQ l2.R.cQ,.slice l2.R.aD l2.R.nD l2.R.cD,.int .i64 l2.R.turn,.bool l2.R.fresh,.slice l2.R.aS l2.R.nS l2.R.cS]:=rfl
  rw [LN] at hr ⊢
  have hT1:=HTT.out X1 Q1.s.x.c Q1.s.x.bel Q1.s.x.a
  have hB2:Below X1.heap.size X1 (X1.alloc (.cells #[.bool l2.st,.slice l2.aT l2.nT l2.cT,.slice l2.aU l2.nU l2.cU,.slice l2.R.aQ l2.R.nQ l2.R.cQ,.slice l2.R.aD l2.R.nD l2.R.cD,.int .i64 l2.R.turn,.bool l2.R.fresh,.slice l2.R.aS l2.R.nS l2.R.cS] 102)):=(Below.refl _ _).alloc (Nat.le_refl _) _
  have hT2:=HTT.out _ (Q1.up hB2).s.x.c (Q1.up hB2).s.x.bel (Q1.up hB2).s.x.a
  have hc3:X3.heap[w.heap.size+1+1]?=some (.cells P.cells 40 (0,0)):=(ht.block _ (fH Q1.s.x.c) (hu0.j7 (by decide) Q1.s.x.c)).trans Q1.s.x.c
  have hT3:=HTT.out X3 hc3 (Q1.s.x.bel.trans (ht.below Q1.s.x.bel.size (fun x hx=>(hu0.blk x hx).1))) ((ht.block _ (fH Q1.s.x.a) (hu0.j7 (by decide) Q1.s.x.a)).trans Q1.s.x.a)
  have HN3:Hid (OG 102 8 X3 w.heap.size (some ⟨g1,0,none⟩) (k+1) c3 (vG k P.L++l2.cells.toList)∧Touch (ij P.aL) X1 X3):=⟨hu,ht⟩
  have HR3:Hid ((Builtin.append_ #[38,38] 38 #[.slice P.aL k P.cL,.slice (some ⟨X1.heap.size,0,none⟩) 1 1]).run Tryz.prog (X1.alloc (.cells #[.bool l2.st,.slice l2.aT l2.nT l2.cT,.slice l2.aU l2.nU l2.cU,.slice l2.R.aQ l2.R.nQ l2.R.cQ,.slice l2.R.aD l2.R.nD l2.R.cD,.int .i64 l2.R.turn,.bool l2.R.fresh,.slice l2.R.aS l2.R.nS l2.R.cS] 102))=.ok (.slice (some ⟨g1,0,none⟩) (k+1) c3) X3):=hr
  clear al2 ol2 hb Q1 hu0 hr hu ht hg hT0 LN hB2
  go_wp2_with fail
  refine hK.out _ _ hT1 ?_
  clear hK K
  try simp only [Act.put,PZ]
  refine fM (rs:=[8]) (by kernel_rfl) (by simp) ?_
  refine fI.cons rfl (fun K hK=>?_) fI.nil
  go_simp
  refine hK.out _ _ hT2 ?_
  clear hK K
  try simp only [Act.put,PZ]
  refine fM (rs:=[9]) (by kernel_rfl) (by simp) ?_
  refine fI.cons rfl (fun K hK=>?_) fI.nil
  refine jX (by kernel_rfl) (some 37) rfl (.tmp 29) (.tmp 36) 38 _ _ _ rfl rfl rfl rfl HR3.out ?_
  refine hK.out _ _ hT3 ?_
  clear hK K hT2 HR3 hT1
  try simp only [Act.put,PZ]
  have hT0:=hT3
  refine tE 10 38 hT0 ?_
  refine fM (rs:=[11]) (by kernel_rfl) (by simp) ?_
  refine fI.last rfl (fun K hK=>?_)
  refine jz (by kernel_rfl) none rfl 38 (.tmp 38) (.tmp 37) rfl (w.heap.size+1+1) 14 rfl (.slice (some ⟨g1,0,none⟩) (k+1) c3) rfl 1 rfl 40 _ hc3 tW (Nat.le_of_ble_eq_true rfl) (by simp [Value.cells,Value.oneCell']) ?_
  intro X4 hP
  refine hK.out _ _ ?_
  clear hK K
  try simp only [Act.put,PZ]
  refine ie (by kernel_rfl) ?_ _
  have HN:Hid (sj w S (P.more k (some ⟨g1,0,none⟩) c3 l2) (k+1) X4):=HP.out.more HA1.out.2.2 HA1.out.2.1 HA1.out.1 HN3.out.1 HN3.out.2 hP
  clear hP hT0 hT3 hc3 HN3 HA1 HP HTT
  exact fi
 obtain rfl:k=S.nL:=by omega
 have HL:Hid (∀ j,j<17→wr.cell? ⟨w.heap.size+1+1,0+j,none⟩=P.cells[j]?):=fun j _=>by rw [Nat.zero_add];exact fG HP.out.s.x.c j
 have HD:Hid (wr.heap[w.heap.size+1]?=some (.cells zSw 40 (0,0))):=HP.out.s.x.b
 go_wp2_with (first | refine fP rfl 40 17 _ Tryz.underlying40 rfl fZ (.tmp 3) rfl (w.heap.size+1+1) 0 rfl P.cells rfl HL.out ?_ | refine fJ rfl 40 (.tmp 2) (.tmp 39) rfl (w.heap.size+1) 0 rfl (.agg P.cells) rfl 17 rfl 40 _ HD.out fZ (Nat.le_of_ble_eq_true rfl) (Swg.lL _) ?_)
 intro X hP
 replace hP:Put wr X (w.heap.size+1) P.cells 40:=hP.cast rfl
 have HK:Hid (X.heap[w.heap.size+1]?=some (.cells P.cells 40 (0,0))):=hP.blk
 have HF:Hid (ga S P∧ic X w.heap.size P∧Below w.heap.size w X):=⟨HP.out.alike rfl,HP.out.own.off HD.out hP.to,(HP.out.s.x.out hP).bel⟩
 clear hP HL HD HP
 go_wp2_with fail
 exact bodyPost_ret (iW Tryz.results55 17 _ Tryz.underlying40 rfl fZ _ _ (w.heap.size+1) P.cells rfl 40 HK.out rfl) rfl ⟨P,rfl,HF.out.1,HF.out.2.1,HF.out.2.2⟩
structure SpS (w:World) (S X:Swg) (b g6:Nat) (W:World):Prop where
 a:W.heap[w.heap.size]?=some (.cells S.cells 40 (0,0))
 z:W.heap[w.heap.size+1]?=some (.cells zSw 40 (0,0))
 o:W.heap[g6]?=some (.cells X.cells 40 (0,0))
 bel:Below w.heap.size w W
 lo:w.heap.size+1<b
 hi:b≤g6
theorem SpS.up {w:World} {S X:Swg} {b g6:Nat} {W W':World} (h:SpS w S X b g6 W) (hb:Below W.heap.size W W'):SpS w S X b g6 W' :=
 ⟨(hb.block _ (fH h.a)).trans h.a,(hb.block _ (fH h.z)).trans h.z,(hb.block _ (fH h.o)).trans h.o,h.bel.trans (hb.mono h.bel.size),h.lo,h.hi⟩
theorem SpS.size {w:World} {S X:Swg} {b g6:Nat} {W:World} (h:SpS w S X b g6 W):b<W.heap.size:=by have:=fH h.o;have:=h.hi;omega
theorem SpS.far {w:World} {S X:Swg} {b g6 g:Nat} {W W':World} {cs:Array Value} {t:TypeId} (h:SpS w S X b g6 W) (hg:W.heap[g]?=some (.cells cs t (0,0))) (hne:t≠40) (hb:b≤g) (ht:Touch [g] W W'):SpS w S X b g6 W':=by
 have far:∀ {x:Nat} {c:Array Value},W.heap[x]?=some (.cells c 40 (0,0))→W'.heap[x]?=some (.cells c 40 (0,0)):=fun {x c} hx=>(ht.block x (fH hx) (fun hy=>iz hg hx hne (by simpa using hy:x=g).symm)).trans hx
 exact ⟨far h.a,far h.z,far h.o,h.bel.trans (ht.below h.bel.size (fun x hx=>by have:=h.lo;simp at hx;omega)),h.lo,h.hi⟩
theorem SpS.iU {w:World} {S X:Swg} {b g6:Nat} {W W':World} {T:List Nat} (h:SpS w S X b g6 W) (ht:Touch T W W') (hT:∀ x∈T,b≤x∧∃ cs t,W.heap[x]?=some (.cells cs t (0,0))∧t≠40):SpS w S X b g6 W':=by
 have far:∀ {x:Nat} {c:Array Value},W.heap[x]?=some (.cells c 40 (0,0))→W'.heap[x]?=some (.cells c 40 (0,0)):=fun {x c} hx=>(ht.block x (fH hx) (fun hy=>by
  obtain ⟨_,c2,t2,k2,hne⟩:=hT x hy
  exact iz k2 hx hne rfl)).trans hx
 exact ⟨far h.a,far h.z,far h.o,h.bel.trans (ht.below h.bel.size (fun x hx=>by have:=h.lo;have:=(hT x hx).1;omega)),h.lo,h.hi⟩
theorem SpS.put {w:World} {S X Y:Swg} {b g6:Nat} {W W':World} (h:SpS w S X b g6 W) (hP:Put W W' g6 Y.cells 40):SpS w S Y b g6 W' :=
 ⟨(hP.to.block _ (fH h.a) (by have:=h.lo;have:=h.hi;simp;omega)).trans h.a,(hP.to.block _ (fH h.z) (by have:=h.lo;have:=h.hi;simp;omega)).trans h.z,hP.blk,h.bel.trans (hP.to.below h.bel.size (fun x hx=>by have:=h.lo;have:=h.hi;simp at hx;omega)),h.lo,h.hi⟩
theorem xK (C:Cfg) (N:Cnt) (p q y:Int) (w:World) (hN:Cnt.Ok C N) (h:ja w N) (hp:0≤p∧p≤C.p-1) (hy1:-5≤y) (hy2:y≤5) (hok:Cnt.Ok C (kF N p q y)) :
  Calls Tryz.prog 59 #[.agg C.cells,.agg N.cells,.int .i64 p,.int .i64 q,.int .i64 y] w fun e w'=>∃ M:Cnt,e=.returned (.tuple #[.agg M.cells,.bool true])∧gR w' w.heap.size M∧Below w.heap.size w w'∧gx (kF N p q y) M:=by
 by_cases e:q=2
 ·
  subst e
  obtain ⟨i,rfl⟩:∃ i:Nat,p=(i:Int):=⟨p.toNat,by omega⟩
  rw [nw] at hok ⊢
  exact q9 C N i y w hN h (by have:=hN.nU;omega) hy1 hy2 true ⟨fun _=>hok,fun _=>rfl⟩
 rw [mu e] at hok ⊢
 exact ra C N p q e y w hN h hy1 hy2 true ⟨fun _=>hok,fun _=>rfl⟩
theorem zC:(Tryz.prog.info? 34).map (·.size)=some 7:=by kernel_rfl
theorem mZ:(Tryz.prog.info? 36).map (·.size)=some 3:=by kernel_rfl
theorem rH:(Tryz.prog.info? 102).map (·.size)=some 8:=by kernel_rfl
theorem rD:(Tryz.prog.info? 100).map (·.size)=some 5:=by kernel_rfl
theorem rF:(Tryz.prog.info? 97).map (·.size)=some 8:=by kernel_rfl
theorem zE:(Tryz.prog.info? 25).map (·.size)=some 1:=by kernel_rfl
theorem Ci:(Tryz.prog.info? 37).map (·.size)=some 1:=by kernel_rfl
theorem CS:(Tryz.prog.info? 2).map (fun i=>(i.zero,i.size,i.bytes))=some (some (.int .i64 0),1,8):=by kernel_rfl
theorem Cnt.lL (N:Cnt):N.cells.all (·.oneCell')=true:=by simp [Cnt.cells,Value.oneCell']
theorem ic.jA {w w':World} {base b2 n c:Nat} {S:Swg} {a:Option Addr} {xs:List Value} (h:ic w base S) (ho:OG 74 5 w b2 a n c xs) (ht:Touch (ij a) w w'):ic w' base S:=by
 rcases ho.2 with ⟨e,_⟩ | ⟨g,cap,cur,e,_,hk,_⟩
 ·
  cases e
  exact h.up (ht.below (Nat.le_refl _) (by simp [ij]))
 cases e
 have ht1:Touch [g] w w':=ht
 exact fg
theorem ic.CU {w w':World} {base g:Nat} {S:Swg} {cs:Array Value} (h:ic w base S) (hk:w.heap[g]?=some (.cells cs 74 (0,0))) (ht1:Touch [g] w w'):ic w' base S:=fg
theorem jd.jA {w w':World} {base b2 n c i:Nat} {S:Swg} {a:Option Addr} {xs:List Value} (h:jd w base S i) (ho:OG 74 5 w b2 a n c xs) (ht:Touch (ij a) w w'):jd w' base S i:=by
 rcases ho.2 with ⟨e,_⟩ | ⟨g,cap,cur,e,_,hk,_⟩
 ·
  cases e
  exact h.up (ht.below (Nat.le_refl _) (by simp [ij]))
 cases e
 exact h.box hk ht ⟨by decide,by decide,by decide,by decide⟩ (h.k.nW hk (by decide)) (h.l.nW hk (by decide))
theorem SpS.jA {w:World} {S X:Swg} {b g6 n c:Nat} {W W':World} {a:Option Addr} {xs:List Value} (h:SpS w S X b g6 W) (ho:OG 74 5 W b a n c xs) (ht:Touch (ij a) W W'):SpS w S X b g6 W' :=
 h.iU ht (fun x hx=>⟨(ho.blk x hx).1,by obtain ⟨cs,hc⟩:=ho.type x hx;exact ⟨cs,_,hc,by decide⟩⟩)
theorem ic.Ds {w:World} {base:Nat} {P:Swg} {M:Cnt} {w0:World} (h:ic w base P) (h0:ic w0 base P) (hM:gR w w0.heap.size M) (hb:base≤w0.heap.size):ic w base { P with N:=M } :=
 ⟨h.e,hM.mono hb,h.k,h.l,fun x hx hy=>by
  have h1:=(hM.u.blk x hx).1
  simp only [List.mem_flatMap,List.mem_range] at hy
  obtain ⟨i,hi,hy⟩:=hy
  have:=((h0.l.ls i hi).blk x hy).2
  omega⟩
theorem wS (n:Nat) (f:Nat→Int):(j9 n f).length=n:=by unfold j9;simp
theorem Ba (n:Nat) (f:Nat→Int):∀ u∈j9 n f,u.oneCell'=true:=by
 intro u hu
 unfold j9 at hu
 simp only [List.mem_map,List.mem_range] at hu
 obtain ⟨i,_,rfl⟩:=hu
 rfl
theorem Dk {w:World} {a:Option Addr} {n:Nat} {f:Nat→Int} (h:fY w a n fun i=>.int .i64 (f i)):yl w a (j9 n f):=fun j u hj=>by
 have hlt:j<n:=by
  have:=(List.getElem?_eq_some_iff.1 hj).1
  rwa [wS] at this
 rw [vJ n f j hlt] at hj
 simp at hj
 subst hj
 exact h j hlt
theorem Aj {V:World} {gz n c b:Nat} {f:Nat→Int} (h:OI V b (some ⟨gz,0,none⟩) n c f) (hn:n≠0) (hle:n≤1048576) :
  ∃ a' c' W',(Builtin.append_ #[25,25] 25 #[.slice (some ⟨V.heap.size,0,none⟩) 0 0,.slice (some ⟨gz,nX 0 c,none⟩) (n-1) (c-1)]).run Tryz.prog (V.alloc (.cells #[] 2))=.ok (.slice a' (n-1) c') W'∧OI W' V.heap.size a' (n-1) c' (fun k=>f (k+1))∧Below V.heap.size V W' :=
 kt 25 2 (.int .i64 0) 1 8 CS Tryz.underlying25 rfl (by decide) (by decide) (by omega) (by rw [wS,Nat.mul_one]) (Dk (f:=fun k=>f (k+1)) ((h.vgI.drop hn (OG.cap (t:=2) (sz:=1) h)).read)) (Ba _ _)
theorem OI.some {w:World} {base:Nat} {a:Option Addr} {n c:Nat} {f:Nat→Int} (h:OI w base a n c f) (h0:n≠0):∃ g,a=some ⟨g,0,none⟩∧w.cell? ⟨g,0,none⟩=some (.int .i64 (f 0)):=by
 have h2:OG 2 1 w base a n c (j9 n f):=h
 obtain ⟨g,cur,e,k1,k2,k3⟩:=h2.at0 (by omega)
 refine ⟨g,e,?_⟩
 rw [fG k1,k3 0 (by omega),vJ n f 0 (by omega)]
theorem TyL.CW {w:World} {base:Nat} {l:Lng} {a':Option Addr} {c':Nat} (h:TyL w base l) (ho:OI w base a' (l.nT-1) c' fun k=>l.t (k+1)):TyL w base { l with aT:=a',nT:=l.nT-1,cT:=c',t:=fun k=>l.t (k+1) }:=⟨ho.vgI,h.u,h.z,h.q,h.d,h.s,h.y⟩
theorem TyL.Cy {w:World} {base b2:Nat} {l:Lng} {R:Rnd} (h:TyL w base l) (ho:iQ w b2 R) (hb:base≤b2):TyL w base { l with R:=R }:=⟨h.t,h.u,h.z,ho.q.g.mono hb,ho.d.g.mono hb,ho.s.g.mono hb,fun i hi=>(ho.z i hi).g.mono hb⟩
theorem VI.vr {w w':World} {base n:Nat} {a:Option Addr} {f:Nat→Int} {T:List Nat} (h:VI w base a n f) (ht:Touch T w w') (hT:Bo T w):VI w' base a n f:=by
 rcases h with h | ⟨g,e,hb,arr,k1,k2,k3⟩
 ·
  exact .inl h
 refine .inr ⟨g,e,hb,arr,(ht.block g (fH k1) (fun hy=>?_)).trans k1,k2,k3⟩
 obtain ⟨c2,t2,k4,n1,n2⟩:=hT g hy
 rw [k1] at k4
 simp at k4
 exact n1 k4.2.symm
theorem VS.vr {w w':World} {base n:Nat} {a:Option Addr} {f:Nat→Value} {T:List Nat} (h:VS w base a n f) (ht:Touch T w w') (hT:Bo T w):VS w' base a n f:=by
 rcases h with h | ⟨g,e,hb,arr,k1,k2,k3⟩
 ·
  exact .inl h
 refine .inr ⟨g,e,hb,arr,(ht.block g (fH k1) (fun hy=>?_)).trans k1,k2,k3⟩
 obtain ⟨c2,t2,k4,n1,n2⟩:=hT g hy
 rw [k1] at k4
 simp at k4
 exact n2 k4.2.symm
theorem iQ.Dr {w w':World} {base:Nat} {R:Rnd} {T:List Nat} (h:iQ w base R) (hT:Bo T w) (ht:Touch T w w'):iQ w' base R :=
 ⟨h.q.vr ht hT,h.d.vr ht hT,h.s.vr ht hT,fun i hi=>(h.z i hi).vr ht hT,h.qd,h.qz,h.dz,h.zz⟩
theorem vh {m:Nat} {K:Nat→Pkt} {l:Lng} {M:Rnd} {cl:Nat} {s:Int} (hl:lY m K l) (hp:mm l.R M (cl:Int) s):cl<2∧l.uL cl≠0:=by
 rcases hp with ⟨hno,_⟩ | ⟨_,_,_,e,_⟩ | ⟨ho,_,k,c',hpk,e⟩
 ·
  exact absurd hl.r hno
 ·
  omega
 have e2:c'=cl:=by omega
 subst e2
 have hc2:c'<2:=by
  have:=(hpk.ok ho).2.2.1
  have:=hl.n
  omega
 exact ⟨hc2,by rw [(hl.z c' hc2).2.1];exact hpk.rows.1⟩
theorem VG.pD {w w':World} {base n gu:Nat} {a:Option Addr} {f:Nat→Value} {cs:Array Value} (h:VG 2 w base a n f) (kU:w.heap[gu]?=some (.cells cs 25 (0,0))) (ht:Touch [gu] w w'):VG 2 w' base a n f :=
 h.fK ht (fun x hx hy=>by
  obtain ⟨c1,k1⟩:=h.type x hx
  exact iz k1 kU (by decide) (by simpa using hy))
theorem TyL.Cd {w w':World} {base gu:Nat} {l:Lng} {cs:Array Value} (h:TyL w base l) (kU:w.heap[gu]?=some (.cells cs 25 (0,0))) (ht:Touch [gu] w w') (hu:gu∉gF l.aU l.nU) (hs:gu∉gF l.R.aS l.R.nS):TyL w' base l :=
 ⟨h.t.pD kU ht,h.u.fK ht (fun x hx hy=>hu ((List.mem_singleton.1 hy)▸hx)),fun i hi=>(h.z i hi).pD kU ht,h.q.pD kU ht,h.d.pD kU ht,h.s.fK ht (fun x hx hy=>hs ((List.mem_singleton.1 hy)▸hx)),fun i hi=>(h.y i hi).pD kU ht⟩
theorem jd.Cd {w w':World} {base i gu:Nat} {X:Swg} {cs:Array Value} (h:jd w base X i) (kU:w.heap[gu]?=some (.cells cs 25 (0,0))) (ht:Touch [gu] w w') (hL:∀ k,k<X.nL→k≠i→gu∉gF (X.L k).aU (X.L k).nU∧gu∉gF (X.L k).R.aS (X.L k).R.nS):jd w' base X i:=by
 have far:∀ x t,(∃ cs,w.heap[x]?=some (.cells cs t (0,0)))→t≠25→x∉[gu]:=by
  rintro x t ⟨cs,hx⟩ hne hy
  exact iz hx kU hne (by simpa using hy)
 exact ⟨h.e.fK ht (fun x hx=>far x _ (h.e.type x hx) (by decide)),⟨h.n.u.fK ht (fun x hx=>far x _ (h.n.u.type x hx) (by decide)),h.n.p.fK ht (fun x hx=>far x _ (h.n.p.type x hx) (by decide))⟩,h.k.fK ht (fun x hx=>far x _ (h.k.type x hx) (by decide)),h.l.fK ht (fun x hx=>far x _ (h.l.type x hx) (by decide)),fun k hk hki=>(h.ls k hk hki).Cd kU ht (hL k hk hki).1 (hL k hk hki).2⟩
theorem Bi (a:Option Addr) (n:Nat):∀ x∈gF a n,x∈ij a:=fun x hx=>(kr a n).subset hx
theorem ic.uJ {w:World} {base i gu:Nat} {X:Swg} (h:ic w base X) (hi:i<X.nL) (hg:gu∈ij (X.L i).aU):∀ k,k<X.nL→k≠i→gu∉gF (X.L k).aU (X.L k).nU∧gu∉gF (X.L k).R.aS (X.L k).R.nS:=fun k hk hne=>by
 have hx:gu∉(X.L k).uJ:=kY X.nL h.l.td i k hi hk (fun e=>hne e.symm) gu (by unfold Lng.uJ;exact List.mem_append.2 (.inl hg))
 unfold Lng.uJ at hx
 rw [List.mem_append] at hx
 exact ⟨fun h1=>hx (.inl (Bi _ _ gu h1)),fun h1=>hx (.inr h1)⟩
def Lng.CA (l:Lng) (c:Nat) (a':Option Addr) (c':Nat) (R:Rnd):Lng:={ l with uA:=fun k=>if k=c then a' else l.uA k,uL:=jT l.uL c (l.uL c-1),uC:=fun k=>if k=c then c' else l.uC k,uz:=pS l.uz c (fun j=>l.uz c (j+1)),R:=R }
theorem TyL.CA {w W:World} {base gu cl c':Nat} {l:Lng} {R:Rnd} {a':Option Addr} {cur:Array Value} (h:TyL w base { l with R:=R }) (eU:l.aU=some ⟨gu,0,none⟩) (kU:w.heap[gu]?=some (.cells cur 25 (0,0))) (hsz:l.nU≤cur.size) (hcl:cl<l.nU) (hP:Put w W gu (lay cur cl #[.slice a' (l.uL cl-1) c']) 25) (ho:OI w base a' (l.uL cl-1) c' fun k=>l.uz cl (k+1)) (hs:gu∉gF R.aS R.nS) (hc:∀ k,k<l.nU→cur[k]?=some (.slice (l.uA k) (l.uL k) (l.uC k))) (hb:base≤gu):TyL W base (l.CA cl a' c' R):=by
 have hf:cl+(#[.slice a' (l.uL cl-1) c']:Array Value).size≤cur.size:=by simp;omega
 refine ⟨h.t.pD kU hP.to,?_,fun k hk=>?_,h.q.pD kU hP.to,h.d.pD kU hP.to,h.s.fK hP.to (fun x hx hy=>hs ((List.mem_singleton.1 hy)▸hx)),fun i hi=>(h.y i hi).pD kU hP.to⟩
 ·
  show VG 25 W base l.aU l.nU fun k=>.slice (if k=cl then a' else l.uA k) (jT l.uL cl (l.uL cl-1) k) (if k=cl then c' else l.uC k)
  rw [eU]
  refine .inr ⟨gu,0,rfl,hb,_,hP.blk,by rw [jb hf];omega,fun k hk=>?_⟩
  rw [Nat.zero_add]
  dsimp only
  by_cases e:k=cl
  ·
   subst e
   rw [if_pos rfl,if_pos rfl,iH]
   exact iX hf 0 (by simp)
  rw [if_neg e,if_neg e,im e,vH hf (by simp;omega)]
  exact hc k hk
 show VG 2 W base (if k=cl then a' else l.uA k) (jT l.uL cl (l.uL cl-1) k) fun j=>.int .i64 (pS l.uz cl (fun j=>l.uz cl (j+1)) k j)
 by_cases e:k=cl
 ·
  subst e
  rw [if_pos rfl,iH,na]
  exact ho.vgI.pD kU hP.to
 rw [if_neg e,im e,qM e]
 exact (h.z k hk).pD kU hP.to
end Go.Proofs.YtfcfpkibceepgaaGreat
