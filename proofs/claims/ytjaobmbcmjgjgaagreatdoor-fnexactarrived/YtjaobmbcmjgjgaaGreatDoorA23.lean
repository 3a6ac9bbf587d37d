import Derived.Test.YtjaobmbcmjgjgaaGreatDoorA08
import Derived.Test.YtjaobmbcmjgjgaaGreatDoorA22
namespace Go.Proofs.YtjaobmbcmjgjgaaGreatDoor
set_option maxRecDepth 100000
set_option maxHeartbeats 4000000
open Go.RowKit
set_option linter.unusedVariables false
set_option linter.unusedSimpArgs false
theorem cJ {p:Prop} (h:p:=by
 have kz3:=ja kR4 (.slice none 0 0) (.int .i64 0) (.slice none 0 0)
 have HB:Hid (Below w.heap.size w (mc w4 (w.heap.size+1+1) (.slice none 0 0) (.int .i64 0) (.slice none 0 0))):=B4.trans ((ie _ _ _ _ _).below B4.size (fun x hx=>by simp at hx;omega))
 have cB:=fF kz3
 clear kz3 kX4 kR4 B4 hM4
 unfold mc at cB
 go_wp2_with fail
 exact bodyPost_ret (v:=.tuple #[.agg #[.slice none 0 0,.int .i64 0,.slice none 0 0],.bool false]) (by simp [results,Tryz.results158,go_sem,cB]) rfl ⟨xX,rfl,oI _ _,HB.out,gw.refl _⟩):p:=h
theorem cM {p:Prop} (h:p:=by
 have kz3:=ja kR4 (.slice none 0 0) (.int .i64 0) (.slice none 0 0)
 have HB:Hid (Below w.heap.size w (mc w4 (w.heap.size+1+1) (.slice none 0 0) (.int .i64 0) (.slice none 0 0))):=B4.trans ((ie _ _ _ _ _).below B4.size (fun x hx=>by simp at hx;omega))
 have cB:=fF kz3
 clear kz3 kX4 kR4 B4 hM4
 unfold mc at cB
 go_wp2_with fail
 exact bodyPost_ret (v:=.tuple #[.agg #[.slice none 0 0,.int .i64 0,.slice none 0 0],.bool false]) (by simp [results,Tryz.results55,go_sem,cB]) rfl ⟨xX,rfl,oI _ _,HB.out,gw.refl _⟩):p:=h
theorem cW {p:Prop} (h:p:=by
 go_wp2_with (at_builtin;refine Lib.wpList_append_run _ rfl _ _ _ _ rfl _ _ rfl rfl _ _ hr ?_)
 go_ret
 exact ⟨_,_,rfl,HV.out.1,HV.out.2⟩):p:=h
theorem cY {p:Prop} (h:p:=by
 match j,hj with
 | 0,_=>rfl
 | 1,_=>rfl
 | 2,_=>rfl
 | 3,_=>rfl
 | 4,_=>rfl):p:=h
theorem rY {w:World} {base:Nat} {a:Option Addr} {n c:Nat} {f:Nat→Int} (h:OI w base a n c f) (hl:n≤1048576) (hb:base≤w.heap.size) (s:Int) :
  ∃ g c' W,(Builtin.append_ #[25,25] 25 #[.slice a n c,.slice (some ⟨w.heap.size,0,none⟩) 1 1]).run Tryz.prog (w.alloc (.cells #[.int .i64 s] 2))=.ok (.slice (some ⟨g,0,none⟩) (n+1) c') W∧OI W base (some ⟨g,0,none⟩) (n+1) c' (kY n s f)∧Touch (gi a) w W∧(g∈gi a∨w.heap.size≤g):=by
 have h0:OG 2 1 w base a n c (ke n f):=h
 obtain ⟨g,c',W,h1,h2,h3,h4⟩:=lH 25 2 (.int .i64 0) 1 8 pH Tryz.underlying25 rfl (by decide) (by decide) h0 hl hb #[.int .i64 s] rfl (by simp [Value.oneCell'])
 have e:ke n f++(#[.int .i64 s]:Array Value).toList=ke (n+1) (kY n s f):=qh n s f
 rw [e] at h2
 exact ⟨g,c',W,h1,h2,h3,h4⟩
def Lng.lP (l:Lng) (id:Int) (a:Option Addr) (c:Nat):Lng:={ l with aT:=a,nT:=l.nT+1,cT:=c,t:=kY l.nT id l.t }
def Lng.jH (l:Lng) (k:Nat) (id:Int) (a:Option Addr) (c:Nat):Lng :=
 { l with uA:=fun i=>if i=k then a else l.uA i,uL:=fun i=>if i=k then l.uL k+1 else l.uL i,uC:=fun i=>if i=k then c else l.uC i,uz:=fun i j=>if i=k then kY (l.uL k) id (l.uz k) j else l.uz i j }
def Lng.wait (l:Lng) (p id cl:Int):Lng:=if p=2 then l.lP id none 0 else { l.jH p.toNat id none 0 with R:=l.R.push p.toNat cl none 0 }
theorem nd3 {A B C:List Nat}:((A++B)++C).Nodup↔(A.Nodup∧B.Nodup∧C.Nodup)∧(∀ x∈A,x∉B)∧(∀ x∈A,x∉C)∧∀ x∈B,x∉C:=by
 constructor
 ·
  intro h
  obtain ⟨h1,h2,h3⟩:=List.nodup_append.1 h
  obtain ⟨h4,h5,h6⟩:=List.nodup_append.1 h1
  exact ⟨⟨h4,h5,h2⟩,fun x hx hy=>h6 x hx x hy rfl,fun x hx hy=>h3 x (List.mem_append_left _ hx) x hy rfl,fun x hx hy=>h3 x (List.mem_append_right _ hx) x hy rfl⟩
 rintro ⟨⟨h1,h2,h3⟩,h4,h5,h6⟩
 refine List.nodup_append.2 ⟨List.nodup_append.2 ⟨h1,h2,fun x hx y hy e=>h4 x hx (e▸hy)⟩,h3,fun x hx y hy e=>?_⟩
 rcases List.mem_append.1 hx with hx | hx
 ·
  exact h5 x hx (e▸hy)
 exact h6 x hx (e▸hy)
theorem kr {g x:Nat} (h:x∈gi (some ⟨g,0,none⟩)):x=g:=by simpa [gi] using h
theorem gg.aps {w:World} {base:Nat} {l:Lng} (h:gg w base l):(∀ x∈gi l.aT,x∉l.R.iJ)∧(∀ x∈gi l.aT,x∉flO l.nU l.uA)∧∀ x∈l.R.iJ,x∉flO l.nU l.uA:=(nd3.1 h.nd).2
theorem gg.inT {l:Lng} {x:Nat} (h:x∈gi l.aT):x∈l.iJ:=List.mem_append_left _ (List.mem_append_left _ h)
theorem gg.inR {l:Lng} {x:Nat} (h:x∈l.R.iJ):x∈l.iJ:=List.mem_append_left _ (List.mem_append_right _ h)
theorem gg.inU {l:Lng} {x i:Nat} (hi:i<l.nU) (h:x∈gi (l.uA i)):x∈l.iJ:=List.mem_append_right _ (iC.2 ⟨i,hi,h⟩)
theorem gg.Au {w:World} {base:Nat} {l:Lng} (h:gg w base l) {x:Nat} (hx:x∈l.iJ) (hy:x∈l.mL):False:=by
 obtain ⟨c1,k1⟩:=h.type2 x hx
 obtain ⟨c2,k2⟩:=h.ux x hy
 exact gj k1 k2 (by decide) rfl
theorem gg.lP {w W:World} {base g c:Nat} {l:Lng} {id:Int} (h:gg w base l) (ha:OI W base (some ⟨g,0,none⟩) (l.nT+1) c (kY l.nT id l.t)) (ht:Touch (gi l.aT) w W) (hg:g∈gi l.aT∨w.heap.size≤g):gg W base (l.lP id (some ⟨g,0,none⟩) c):=by
 obtain ⟨a1,a2,a3⟩:=h.aps
 have b:=h.blk
 refine ⟨ha,h.u.fL ht (fun x hx hy=>h.Au (gg.inT hy) (List.mem_append_left _ hx)),fun i hi=>(h.z i hi).fL ht (fun x hx hy=>a2 x hy (iC.2 ⟨i,hi,hx⟩)),h.r.pU ht (fun x hx hy=>a1 x hy hx) (fun x hx hy=>h.Au (gg.inT hy) (List.mem_append_right _ hx)),?_,h.su⟩
 obtain ⟨⟨n1,n2,n3⟩,_⟩:=nd3.1 h.nd
 refine nd3.2 ⟨⟨jD _,n2,n3⟩,fun x hx hy=>?_,fun x hx hy=>?_,a3⟩
 ·
  obtain rfl:=kr hx
  rcases hg with hg | hg
  ·
   exact a1 x hg hy
  have:=(b x (gg.inR hy)).2
  omega
 obtain rfl:=kr hx
 rcases hg with hg | hg
 ·
  exact a2 x hg hy
 have:=(b x (List.mem_append_right _ hy)).2
 omega
theorem x6 {w:World} {l:Lng} {id:Int} {g c:Nat} (hg:g∈gi l.aT∨w.heap.size≤g):∀ x∈(l.lP id (some ⟨g,0,none⟩) c).iJ,x∈l.iJ∨w.heap.size≤x:=by
 intro x hx
 rcases List.mem_append.1 hx with hx | hx
 ·
  rcases List.mem_append.1 hx with hx | hx
  ·
   obtain rfl:=kr hx
   rcases hg with hg | hg
   ·
    exact .inl (gg.inT hg)
   exact .inr hg
  exact .inl (gg.inR hx)
 exact .inl (List.mem_append_right _ hx)
theorem OG.Cv {t:TypeId} {w X:World} {base g n c k:Nat} {xs:List Value} {cur:Array Value} {v:Value} (h:OG t 1 w base (some ⟨g,0,none⟩) n c xs) (kG:w.heap[g]?=some (.cells cur t (0,0))) (hk:k<n) (hP:Put w X g (lay cur k #[v]) t):OG t 1 X base (some ⟨g,0,none⟩) n c (xs.set k v):=by
 have h':w.ownsRow base t 1 (.slice (some ⟨g,0,none⟩) n c) n xs:=h
 show X.ownsRow base t 1 (.slice (some ⟨g,0,none⟩) n c) n _
 refine ⟨by rw [List.length_set];exact h'.1,?_⟩
 rcases h'.2 with ⟨_,e⟩ | ⟨g2,cap,cur',e,hg,hbk,h1,hm,hs,ht⟩
 ·
  omega
 cases e
 rw [kG] at hbk
 cases hbk
 have hf:k+(#[v]:Array Value).size≤cur.size:=by show k+1≤_;rw [hs];omega
 refine .inr ⟨g,c,_,rfl,hg,hP.blk,h1,hm,by rw [jc hf];exact hs,?_⟩
 refine List.ext_getElem? fun j=>?_
 rw [←ht]
 by_cases hj:j<n*1
 ·
  rw [List.getElem?_take_of_lt hj,Array.getElem?_toList]
  by_cases e:j=k
  ·
   subst e
   have q:=jx hf 0 (by show 0<1;omega)
   rw [Nat.add_zero] at q
   rw [q,List.getElem?_set_self (by rw [List.length_take,Array.length_toList,hs];omega)]
   rfl
  rw [List.getElem?_set_ne (by omega),List.getElem?_take_of_lt hj,Array.getElem?_toList]
  rcases Nat.lt_or_ge j k with c | c
  ·
   exact lg hf j c
  exact jv hf j (by show k+1≤j;omega)
 rw [List.getElem?_eq_none (by rw [List.length_take];omega),List.getElem?_eq_none (by rw [List.length_set,List.length_take];omega)]
theorem Ak {n k:Nat} (A:Nat→Option Addr) (L C:Nat→Nat) (a:Option Addr) (l c:Nat) (hk:k<n):(ox n A L C).set k (.slice a l c)=ox n (fun i=>if i=k then a else A i) (fun i=>if i=k then l else L i) (fun i=>if i=k then c else C i):=by
 refine List.ext_getElem? fun j=>?_
 by_cases hj:j<n
 ·
  rw [mN _ _ _ _ _ hj]
  by_cases e:j=k
  ·
   subst e
   rw [List.getElem?_set_self (by simp [ox];omega),if_pos rfl,if_pos rfl,if_pos rfl]
  rw [List.getElem?_set_ne (by omega),mN _ _ _ _ _ hj,if_neg e,if_neg e,if_neg e]
 rw [List.getElem?_eq_none (by simp [ox];omega),List.getElem?_eq_none (by simp [ox];omega)]
theorem gg.jH {w W X:World} {base g c k gu:Nat} {l:Lng} {id:Int} {cur:Array Value} (h:gg w base l) (hk:k<l.nU) (eU:l.aU=some ⟨gu,0,none⟩) (ha:OI W base (some ⟨g,0,none⟩) (l.uL k+1) c (kY (l.uL k) id (l.uz k))) (ht:Touch (gi (l.uA k)) w W) (hg:g∈gi (l.uA k)∨w.heap.size≤g)
  (kU:W.heap[gu]?=some (.cells cur 25 (0,0))) (hP:Put W X gu (lay cur k #[.slice (some ⟨g,0,none⟩) (l.uL k+1) c]) 25):gg X base (l.jH k id (some ⟨g,0,none⟩) c):=by
 obtain ⟨a1,a2,a3⟩:=h.aps
 have b:=h.blk
 obtain ⟨⟨n1,n2,n3⟩,_⟩:=nd3.1 h.nd
 have uu:∀ i,i<l.nU→i≠k→∀ x∈gi (l.uA i),x∉gi (l.uA k):=fun i hi hne=>jd l.nU n3 i k hi hk hne
 have t2:∀ {a:Option Addr} {n c1:Nat} {f:Nat→Int},OI W base a n c1 f→OI X base a n c1 f:=fun k0=>k0.fL hP.to (fun x hx hy=>by
  obtain rfl:=List.mem_singleton.1 hy
  exact OG.k8 (t:=2) (sz:=1) k0 (by decide) kU hx)
 have hR:iv W base l.R:=h.r.pU ht (fun x hx hy=>a3 x hx (iC.2 ⟨k,hk,hy⟩)) (fun x hx hy=>h.Au (gg.inU hk hy) (List.mem_append_right _ hx))
 have hu:OG 25 1 W base l.aU l.nU l.cU (ox l.nU l.uA l.uL l.uC):=h.u.fL ht (fun x hx hy=>h.Au (gg.inU hk hy) (List.mem_append_left _ hx))
 have sx:∀ x∈jO l.R.aS l.R.nS,x∉[gu]:=fun x hx hy=>h.su x hx (by rw [eU];simpa [gi] using hy)
 refine ⟨t2 (h.t.fL ht (fun x hx hy=>a2 x hx (iC.2 ⟨k,hk,hy⟩))),?_,fun i hi=>?_,?_,?_,h.su⟩
 ·
  show OG 25 1 X base l.aU l.nU l.cU (ox l.nU _ _ _)
  rw [eU] at hu ⊢
  have q:=hu.Cv kU hk hP
  rw [Ak l.uA l.uL l.uC _ _ _ hk] at q
  exact q
 ·
  show OI X base (if i=k then some ⟨g,0,none⟩ else l.uA i) (if i=k then l.uL k+1 else l.uL i) (if i=k then c else l.uC i) (fun j=>if i=k then kY (l.uL k) id (l.uz k) j else l.uz i j)
  by_cases e:i=k
  ·
   simp only [if_pos e]
   exact t2 ha
  simp only [if_neg e]
  exact t2 ((h.z i hi).fL ht (uu i hi e))
 ·
  exact hR.pU hP.to (fun x hx hy=>by
   obtain rfl:=List.mem_singleton.1 hy
   obtain ⟨c1,k1⟩:=hR.type2 x hx
   exact gj k1 kU (by decide) rfl) sx
 refine nd3.2 ⟨⟨n1,n2,la _ (fun i _=>jD _) (fun i j hi hj hne x hx hy=>?_)⟩,a1,fun x hx hy=>?_,fun x hx hy=>?_⟩
 ·
  have hx':x∈gi (if i=k then some ⟨g,0,none⟩ else l.uA i):=hx
  have hy':x∈gi (if j=k then some ⟨g,0,none⟩ else l.uA j):=hy
  have hi':i<l.nU:=hi
  have hj':j<l.nU:=hj
  by_cases e:i=k
  ·
   have e2:j≠k:=fun e2=>hne (e.trans e2.symm)
   rw [if_pos e] at hx'
   rw [if_neg e2] at hy'
   obtain rfl:=kr hx'
   rcases hg with hg | hg
   ·
    exact uu j hj' e2 x hy' hg
   have:=(b x (gg.inU hj' hy')).2
   omega
  rw [if_neg e] at hx'
  by_cases e2:j=k
  ·
   rw [if_pos e2] at hy'
   obtain rfl:=kr hy'
   rcases hg with hg | hg
   ·
    exact uu i hi' e x hx' hg
   have:=(b x (gg.inU hi' hx')).2
   omega
  rw [if_neg e2] at hy'
  exact jd l.nU n3 i j hi' hj' hne x hx' hy'
 ·
  obtain ⟨i,hi,hy⟩:=iC.1 hy
  have hy':x∈gi (if i=k then some ⟨g,0,none⟩ else l.uA i):=hy
  have hx':x∈gi l.aT:=hx
  have hi':i<l.nU:=hi
  by_cases e:i=k
  ·
   rw [if_pos e] at hy'
   obtain rfl:=kr hy'
   rcases hg with hg | hg
   ·
    exact a2 x hx' (iC.2 ⟨k,hk,hg⟩)
   have:=(b x (gg.inT hx')).2
   omega
  rw [if_neg e] at hy'
  exact a2 x hx' (iC.2 ⟨i,hi',hy'⟩)
 obtain ⟨i,hi,hy⟩:=iC.1 hy
 have hy':x∈gi (if i=k then some ⟨g,0,none⟩ else l.uA i):=hy
 have hx':x∈l.R.iJ:=hx
 have hi':i<l.nU:=hi
 by_cases e:i=k
 ·
  rw [if_pos e] at hy'
  obtain rfl:=kr hy'
  rcases hg with hg | hg
  ·
   exact a3 x hx' (iC.2 ⟨k,hk,hg⟩)
  have:=(b x (gg.inR hx')).2
  omega
 rw [if_neg e] at hy'
 exact a3 x hx' (iC.2 ⟨i,hi',hy'⟩)
theorem yi {w:World} {l:Lng} {id:Int} {g c k:Nat} (hk:k<l.nU) (hg:g∈gi (l.uA k)∨w.heap.size≤g):∀ x∈(l.jH k id (some ⟨g,0,none⟩) c).iJ,x∈l.iJ∨w.heap.size≤x:=by
 intro x hx
 rcases List.mem_append.1 hx with hx | hx
 ·
  exact .inl (List.mem_append_left _ hx)
 obtain ⟨i,hi,hy⟩:=iC.1 hx
 have hy':x∈gi (if i=k then some ⟨g,0,none⟩ else l.uA i):=hy
 by_cases e:i=k
 ·
  rw [if_pos e] at hy'
  obtain rfl:=kr hy'
  rcases hg with hg | hg
  ·
   exact .inl (gg.inU hk hg)
  exact .inr hg
 rw [if_neg e] at hy'
 exact .inl (gg.inU hi hy')
theorem gg.BN {w W:World} {base m:Nat} {l:Lng} {R:Rnd} (h:gg w base l) (hb:Below w.heap.size w W) (hm:w.heap.size≤m) (hbs:base≤w.heap.size) (hR:iv W m R):gg W base { l with R:=R }:=by
 obtain ⟨⟨n1,n2,n3⟩,a1,a2,a3⟩:=nd3.1 h.nd
 have b:=h.blk
 have rb:=hR.blk
 refine ⟨h.t.up hb,h.u.up hb,fun i hi=>(h.z i hi).up hb,hR.qR (by omega),?_,fun x hx hy=>?_⟩
 ·
  refine nd3.2 ⟨⟨n1,hR.nd,n3⟩,fun x hx hy=>?_,a2,fun x hx hy=>?_⟩
  ·
   have:=(b x (gg.inT hx)).2
   have:=(rb x hy).1
   omega
  have:=(b x (List.mem_append_right _ hy)).2
  have:=(rb x hx).1
  omega
 have h1:=(h.u.blk x hy).2
 have h2:=((hR.own.s.l7 x hx).1).1
 omega
theorem A9 {w W:World} {base m:Nat} {l:Lng} {R:Rnd} (hR:iv W m R) (hm:w.heap.size≤m):∀ x∈({ l with R:=R }:Lng).iJ,x∈l.iJ∨w.heap.size≤x:=by
 intro x hx
 rcases List.mem_append.1 hx with hx | hx
 ·
  rcases List.mem_append.1 hx with hx | hx
  ·
   exact .inl (gg.inT hx)
  exact .inr (Nat.le_trans hm (hR.blk x hx).1)
 exact .inl (List.mem_append_right _ hx)
theorem Ba {w W:World} {base m:Nat} {l:Lng} {R:Rnd} (hR:iv W m R) (hm:w.heap.size≤m):∀ x∈({ l with R:=R }:Lng).mL,x∈l.mL∨w.heap.size≤x:=by
 intro x hx
 rcases List.mem_append.1 hx with hx | hx
 ·
  exact .inl (List.mem_append_left _ hx)
 exact .inr (Nat.le_trans hm ((hR.own.s.l7 x hx).1).1)
def zSw:Array Value:=#[.int .i64 0,.int .i64 0,.int .i64 0,.int .i64 0,.int .i64 0,.int .i64 0,.int .i64 0,.int .i64 0,.int .i64 0,.slice none 0 0,.slice none 0 0,.int .i64 0,.slice none 0 0,.slice none 0 0,.slice none 0 0,.int .i64 0,.int .i64 0]
theorem y9:(Tryz.prog.info? 92).map (fun i=>(i.zero,i.size,i.bytes))=some (some (.agg #[.int .i64 0,.int .i64 0,.int .i64 0]),3,24):=by kernel_rfl
theorem vA (a:Option Addr) (n cap:Nat) (f:Nat→Ent) (w:World) (hn:n≤1048576) (h:iu w a n f) :
  Calls Tryz.prog 69 #[.slice a n cap] w fun e w'=>∃ a' c',e=.returned (.slice a' n c')∧OG 92 3 w' w.heap.size a' n c' (hF (gb n f))∧Below w.heap.size w w':=by
 obtain ⟨a',c',W',hr,hv,hb⟩:=oc (c:=cap) 38 92 _ 3 24 y9 Tryz.underlying38 rfl (by decide) (by decide) hn (by rw [lj,iH]) h.cs (tx _)
 have HV:Hid (OG 92 3 W' w.heap.size a' n c' (hF (gb n f))∧Below w.heap.size w W'):=⟨hv,hb⟩
 clear hv hb h
 go_enter Tryz.func69,Tryz.ntmps69
 exact cW
theorem vz (a:Option Addr) (n cap:Nat) (K:Nat→Pkt) (w:World) (hn:n≤1048576) (h:kK w a n K) :
  Calls Tryz.prog 71 #[.slice a n cap] w fun e w'=>∃ a' c',e=.returned (.slice a' n c')∧OG 94 8 w' w.heap.size a' n c' (o3 n K)∧Below w.heap.size w w':=by
 obtain ⟨a',c',W',hr,hv,hb⟩:=oc (c:=cap) 40 94 _ 8 72 po Tryz.underlying40 rfl (by decide) (by decide) hn (me _ _) h.cs (vU _ _)
 have HV:Hid (OG 94 8 W' w.heap.size a' n c' (o3 n K)∧Below w.heap.size w W'):=⟨hv,hb⟩
 clear hv hb h
 go_enter Tryz.func71,Tryz.ntmps71
 exact cW
theorem AG {cur cs:Array Value} {o:Nat} (hf:o+cs.size≤cur.size) (h:∀ j,j<cs.size→cur[o+j]?=cs[j]?):lay cur o cs=cur:=by
 refine Array.ext_getElem? fun i=>?_
 by_cases h1:i<o
 ·
  exact lg hf i h1
 by_cases h2:i<o+cs.size
 ·
  have:=jx hf (i-o) (by omega)
  rw [show o+(i-o)=i by omega] at this
  rw [this,←h (i-o) (by omega),show o+(i-o)=i by omega]
 unfold lay
 simp only [List.getElem?_toArray]
 rw [List.getElem?_append_right (by simp;omega),List.getElem?_drop,Array.getElem?_toList]
 congr 1
 simp
 omega
theorem Put.same {w W:World} {g:Nat} {cs:Array Value} {t:TypeId} (h:Put w W g cs t) (hg:w.heap[g]?=some (.cells cs t (0,0))):Below w.heap.size w W :=
 ⟨h.to.os,h.to.tape,h.to.output,h.to.size,fun k hk=>by
  by_cases e:k=g
  ·
   subst e;exact h.blk.trans hg.symm
  ·
   exact h.to.block k hk (by simpa using e)⟩
structure CpS (w:World) (S P:Swg) (W:World):Prop where
 x:gI w S.cells zSw P.cells 43 43 W
 e:OG 92 3 W w.heap.size P.aE P.nE P.cE (hF (gb P.nE P.e))
 n:gV W w.heap.size P.N
 k:OG 94 8 W w.heap.size P.aK P.nK P.cK (o3 P.nK P.K)
theorem CpS.up {w:World} {S P:Swg} {W W':World} (h:CpS w S P W) (hb:Below W.heap.size W W'):CpS w S P W':=⟨h.x.up hb,h.e.up hb,h.n.up hb,h.k.up hb⟩
theorem gV.C3 {w w':World} {base g:Nat} {N:Cnt} {cs:Array Value} {t:TypeId} (h:gV w base N) (hg:w.heap[g]?=some (.cells cs t (0,0))) (h2:2≠t) (h4:4≠t) (ht:Touch [g] w w'):gV w' base N :=
 ⟨h.u.fL ht (fun x hx hy=>by rw [List.mem_singleton.1 hy] at hx;exact h.u.mq h2 hg hx),h.p.fL ht (fun x hx hy=>by rw [List.mem_singleton.1 hy] at hx;exact h.p.mq h4 hg hx)⟩
structure CpA (S P:Swg):Prop where
 c:P.C=S.C
 now:P.now=S.now
 nx:P.nx=S.nx
 nE:P.nE=S.nE
 e:P.e=S.e
 n:gw S.N P.N
 nK:P.nK=S.nK
 k:P.K=S.K
 dr:P.dr=S.dr
 lst:P.lst=S.lst
structure r7 (w:World) (S P:Swg) (k:Nat) (W:World):Prop where
 s:CpS w S P W
 a:CpA S P
 l:iV W w.heap.size P.aL P.nL P.cL P.L
 un:∀ x∈ib P.N.aU P.N.nU,x∉(List.range P.nL).flatMap fun i=>(P.L i).iJ
 nL:P.nL=k
 al:∀ i,i<k→gk (S.L i) (P.L i)
theorem r7.up {w:World} {S P:Swg} {k:Nat} {W W':World} (h:r7 w S P k W) (hb:Below W.heap.size W W'):r7 w S P k W':=⟨h.s.up hb,h.a,h.l.up hb,h.un,h.nL,h.al⟩
def Swg.more (P:Swg) (k:Nat) (aL:Option Addr) (cL:Nat) (l:Lng):Swg:={ P with aL:=aL,nL:=k+1,cL:=cL,L:=fun i=>if i=k then l else P.L i }
theorem r7.more {w:World} {S P:Swg} {k g c2:Nat} {l2:Lng} {V V1 W W2:World} (h:r7 w S P k V) (hb:Below V.heap.size V V1) (ho:gg V1 V.heap.size l2) (ha:gk (S.L k) l2)
  (hu:OG 99 8 W w.heap.size (some ⟨g,0,none⟩) (k+1) c2 (sb k P.L++l2.cells.toList)) (ht:Touch (gi P.aL) V1 W) (hP:Put W W2 (w.heap.size+1+1) (lay P.cells 14 #[.slice (some ⟨g,0,none⟩) (k+1) c2]) 43):r7 w S (P.more k (some ⟨g,0,none⟩) c2 l2) (k+1) W2:=by
 have hk:=h.nL
 have h1:=h.up hb
 have hl:iV V w.heap.size P.aL k P.cL P.L:=hk▸h.l
 have hl1:=hl.up hb
 have hL:=hl.more hb h.s.x.bel.size ho hu ht
 have xa:=(ht.block _ (fG h1.s.x.a) (hl1.l.k8 (by decide) h1.s.x.a)).trans h1.s.x.a
 have xb:=(ht.block _ (fG h1.s.x.b) (hl1.l.k8 (by decide) h1.s.x.b)).trans h1.s.x.b
 have xc:=(ht.block _ (fG h1.s.x.c) (hl1.l.k8 (by decide) h1.s.x.c)).trans h1.s.x.c
 have xB:gI w S.cells zSw P.cells 43 43 W:=⟨xa,xb,xc,h1.s.x.bel.trans (ht.below h1.s.x.bel.size (fun x hx=>(hl1.l.blk x hx).1)),Nat.le_trans h1.s.x.sz ht.size⟩
 have e1:=h1.s.e.fL ht (h1.s.e.apart hl1.l (by decide))
 have k1:=h1.s.k.fL ht (h1.s.k.apart hl1.l (by decide))
 have n1:gV W w.heap.size P.N:=⟨h1.s.n.u.fL ht (fun x hx hy=>by
   obtain ⟨cs,q⟩:=h1.s.n.u.type x hx
   exact hl1.l.k8 (by decide) q hy),h1.s.n.p.fL ht (fun x hx hy=>by
   obtain ⟨cs,q⟩:=h1.s.n.p.type x hx
   exact hl1.l.k8 (by decide) q hy)⟩
 refine ⟨⟨xB.put hP,e1.fL hP.to (fun x hx hy=>e1.k8 (by decide) xc ((List.mem_singleton.1 hy)▸hx)),n1.C3 xc (by decide) (by decide) hP.to,k1.fL hP.to (fun x hx hy=>k1.k8 (by decide) xc ((List.mem_singleton.1 hy)▸hx))⟩,⟨h.a.c,h.a.now,h.a.nx,h.a.nE,h.a.e,h.a.n,h.a.nK,h.a.k,h.a.dr,h.a.lst⟩,hL.box xc (by decide) (by decide) (by decide) hP.to,fun x hx hy=>?_,rfl,fun i hi=>?_⟩
 ·
  have hx1:=(h.s.n.u.blk x hx).2
  simp only [List.mem_flatMap,List.mem_range] at hy
  obtain ⟨i,hi,hy⟩:=hy
  have hy':x∈(if i=k then l2 else P.L i).iJ:=hy
  by_cases e:i=k
  ·
   rw [if_pos e] at hy'
   have:=(ho.blk x hy').1
   omega
  rw [if_neg e] at hy'
  have hi':i<k+1:=hi
  exact h.un x hx (by simp only [List.mem_flatMap,List.mem_range];exact ⟨i,by omega,hy'⟩)
 show gk (S.L i) (if i=k then l2 else P.L i)
 by_cases e:i=k
 ·
  rw [if_pos e,e];exact ha
 rw [if_neg e];exact h.al i (by omega)
theorem r7.alike {w:World} {S P:Swg} {k:Nat} {W:World} (h:r7 w S P k W) (hk:S.nL=k):fP S P :=
 ⟨h.a.c,h.a.now,h.a.nx,h.a.nE,h.a.e,h.a.n,h.a.nK,h.a.k,by rw [h.nL,hk],fun i hi=>h.al i (by omega),h.a.dr,h.a.lst⟩
theorem r7.own {w:World} {S P:Swg} {k:Nat} {W:World} (h:r7 w S P k W):gy W w.heap.size P:=⟨h.s.e,h.s.n,h.s.k,h.l,h.un⟩
theorem gy.off {w w':World} {base g:Nat} {S:Swg} {cs:Array Value} (h:gy w base S) (hg:w.heap[g]?=some (.cells cs 43 (0,0))) (ht:Touch [g] w w'):gy w' base S :=
 ⟨h.e.fL ht (fun x hx hy=>h.e.k8 (by decide) hg ((List.mem_singleton.1 hy)▸hx)),h.n.C3 hg (by decide) (by decide) ht,h.k.fL ht (fun x hx hy=>h.k.k8 (by decide) hg ((List.mem_singleton.1 hy)▸hx)),h.l.box hg (by decide) (by decide) (by decide) ht,h.un⟩
theorem OG.at0 {t:TypeId} {sz:Nat} {w:World} {base:Nat} {a:Option Addr} {n c:Nat} {xs:List Value} (h:OG t sz w base a n c xs) (h0:0<n):∃ g cur,a=some ⟨g,0,none⟩∧w.heap[g]?=some (.cells cur t (0,0))∧n*sz≤cur.size∧∀ j,j<n*sz→cur[j]?=xs[j]?:=by
 rcases h.2 with ⟨e,h1⟩ | ⟨g,cap,cur,e,hg,hbk,hn,hm,hs,ht⟩
 ·
  omega
 cases e
 refine ⟨g,cur,rfl,hbk,?_,fun j hj=>?_⟩
 ·
  rw [hs]
  exact Nat.mul_le_mul_right _ hn
 rw [←ht,List.getElem?_take_of_lt hj,Array.getElem?_toList]
theorem Dv {w:World} {g:Nat} {x:Pkt} {t:TypeId} (h:w.heap[g]?=some (.cells x.cells t (0,0))):∀ j,j<5→w.cell? ⟨g,3+j,none⟩=(#[.int .i64 x.k,.int .i64 x.d,.int .i64 x.s,.int .i64 x.p,.string x.b]:Array Value)[j]?:=by
 intro j hj
 rw [fF h]
 exact cY
theorem frAt (x:Pkt) (j:Nat) (hj:j<5):x.cells[3+j]?=(#[.int .i64 x.k,.int .i64 x.d,.int .i64 x.s,.int .i64 x.p,.string x.b]:Array Value)[j]?:=cY
theorem pL (S:Swg) (w:World) (hs:S.Small) (hU:0<S.N.nU) (hPp:0<S.N.nP) (h:jL w S) :
  Calls Tryz.prog 25 #[.agg S.cells] w fun e w'=>∃ S2,e=.returned (.agg S2.cells)∧fP S S2∧gy w' w.heap.size S2∧Below w.heap.size w w':=by
 have HR:Hid (jL w S):=h
 have HS:Hid S.Small:=hs
 have HU0:Hid (0<S.N.nU∧0<S.N.nP):=⟨hU,hPp⟩
 clear h hs hU hPp
 obtain ⟨W0,eW⟩:∃ W,(((w.alloc (.cells S.cells 43)).alloc (.cells #[.int .i64 0,.int .i64 0,.int .i64 0,.int .i64 0,.int .i64 0,.int .i64 0,.int .i64 0,.int .i64 0,.int .i64 0,.slice none 0 0,.slice none 0 0,.int .i64 0,.slice none 0 0,.slice none 0 0,.slice none 0 0,.int .i64 0,.int .i64 0] 43)).alloc (.cells #[.int .i64 0,.int .i64 0,.int .i64 0,.int .i64 0,.int .i64 0,.int .i64 0,.int .i64 0,.int .i64 0,.int .i64 0,.slice none 0 0,.slice none 0 0,.int .i64 0,.slice none 0 0,.slice none 0 0,.slice none 0 0,.int .i64 0,.int .i64 0] 43))=W:=⟨_,rfl⟩
 have HX:Hid (gI w S.cells #[.int .i64 0,.int .i64 0,.int .i64 0,.int .i64 0,.int .i64 0,.int .i64 0,.int .i64 0,.int .i64 0,.int .i64 0,.slice none 0 0,.slice none 0 0,.int .i64 0,.slice none 0 0,.slice none 0 0,.slice none 0 0,.int .i64 0,.int .i64 0] #[.int .i64 0,.int .i64 0,.int .i64 0,.int .i64 0,.int .i64 0,.int .i64 0,.int .i64 0,.int .i64 0,.int .i64 0,.slice none 0 0,.slice none 0 0,.int .i64 0,.slice none 0 0,.slice none 0 0,.slice none 0 0,.int .i64 0,.int .i64 0] 43 43 W0):=by rw [←eW];exact gI.start _ _ _ _ _ _
 have HL0:Hid (∀ j,j<17→((w.alloc (.cells S.cells 43)).alloc (.cells #[.int .i64 0,.int .i64 0,.int .i64 0,.int .i64 0,.int .i64 0,.int .i64 0,.int .i64 0,.int .i64 0,.int .i64 0,.slice none 0 0,.slice none 0 0,.int .i64 0,.slice none 0 0,.slice none 0 0,.slice none 0 0,.int .i64 0,.int .i64 0] 43)).cell? ⟨w.heap.size,0+j,none⟩=S.cells[j]?):=fun j _=>by rw [Nat.zero_add];exact fF (Two.start w S.cells #[.int .i64 0,.int .i64 0,.int .i64 0,.int .i64 0,.int .i64 0,.int .i64 0,.int .i64 0,.int .i64 0,.int .i64 0,.slice none 0 0,.slice none 0 0,.int .i64 0,.slice none 0 0,.slice none 0 0,.slice none 0 0,.int .i64 0,.int .i64 0] 43).a j
 have HC:Hid (W0.heap[w.heap.size+1+1]?=some (.cells #[.int .i64 0,.int .i64 0,.int .i64 0,.int .i64 0,.int .i64 0,.int .i64 0,.int .i64 0,.int .i64 0,.int .i64 0,.slice none 0 0,.slice none 0 0,.int .i64 0,.slice none 0 0,.slice none 0 0,.slice none 0 0,.int .i64 0,.int .i64 0] 43 (0,0))):=HX.out.c
 go_enter Tryz.func25,Tryz.ntmps25
 go_wp2_with (first | refine fM rfl 43 17 _ Tryz.underlying43 rfl fV (.tmp 1) rfl w.heap.size 0 rfl S.cells rfl HL0.out ?_ | refine fJ rfl 43 (.tmp 3) (.tmp 8) rfl (w.heap.size+1+1) 0 rfl (.agg S.cells) rfl 17 rfl 43 _ HC.out fV (Nat.le_of_ble_eq_true rfl) (Swg.mi _) ?_)
 clear HL0
 intro W1 hP
 clear eW
 replace hP:=hP.cast (cs':=#[.int .i64 S.C.p,.int .i64 S.C.c,.int .i64 S.C.xo,.int .i64 S.C.xn,.int .i64 S.C.hd,.int .i64 S.C.lo,.int .i64 S.C.dl,.int .i64 S.now,.int .i64 S.nx,.slice S.aE S.nE S.cE,.slice S.N.aU S.N.nU S.N.cU,.int .i64 S.N.lo,.slice S.N.aP S.N.nP S.N.cP,.slice S.aK S.nK S.cK,.slice S.aL S.nL S.cL,.int .i64 S.dr,.int .i64 S.lst]) rfl
 replace HX:Hid (gI w S.cells #[.int .i64 0,.int .i64 0,.int .i64 0,.int .i64 0,.int .i64 0,.int .i64 0,.int .i64 0,.int .i64 0,.int .i64 0,.slice none 0 0,.slice none 0 0,.int .i64 0,.slice none 0 0,.slice none 0 0,.slice none 0 0,.int .i64 0,.int .i64 0] #[.int .i64 S.C.p,.int .i64 S.C.c,.int .i64 S.C.xo,.int .i64 S.C.xn,.int .i64 S.C.hd,.int .i64 S.C.lo,.int .i64 S.C.dl,.int .i64 S.now,.int .i64 S.nx,.slice S.aE S.nE S.cE,.slice S.N.aU S.N.nU S.N.cU,.int .i64 S.N.lo,.slice S.N.aP S.N.nP S.N.cP,.slice S.aK S.nK S.cK,.slice S.aL S.nL S.cL,.int .i64 S.dr,.int .i64 S.lst] 43 43 W1):=HX.out.put hP
 have T1:Touch [w.heap.size+1,w.heap.size+1+1] W0 W1:=hP.to.mono (fun x hx=>by simp at hx;simp [hx])
 clear hP HC 
 have c9:W1.cell? ⟨w.heap.size,9,none⟩=some (.slice S.aE S.nE S.cE):=fF HX.out.a 9
 go_wp2_with fail
 refine (vA S.aE S.nE S.cE S.e _ HS.out.e (HR.out.e.up HX.out.bel)).mono ?_
 rintro e we ⟨aE,cE,rfl,rE,hb⟩
 clear c9
 have sE:=HX.out.sz
 replace HX:Hid (gI w S.cells #[.int .i64 0,.int .i64 0,.int .i64 0,.int .i64 0,.int .i64 0,.int .i64 0,.int .i64 0,.int .i64 0,.int .i64 0,.slice none 0 0,.slice none 0 0,.int .i64 0,.slice none 0 0,.slice none 0 0,.slice none 0 0,.int .i64 0,.int .i64 0] #[.int .i64 S.C.p,.int .i64 S.C.c,.int .i64 S.C.xo,.int .i64 S.C.xn,.int .i64 S.C.hd,.int .i64 S.C.lo,.int .i64 S.C.dl,.int .i64 S.now,.int .i64 S.nx,.slice S.aE S.nE S.cE,.slice S.N.aU S.N.nU S.N.cU,.int .i64 S.N.lo,.slice S.N.aP S.N.nP S.N.cP,.slice S.aK S.nK S.cK,.slice S.aL S.nL S.cL,.int .i64 S.dr,.int .i64 S.lst] 43 43 we):=HX.out.up hb
 have T2:Touch [w.heap.size+1,w.heap.size+1+1] W1 we:=Touch.gY hb
 clear hb
 have HC:=HX.out.c
 replace HC:Hid (we.heap[w.heap.size+1+1]?=some (.cells #[.int .i64 S.C.p,.int .i64 S.C.c,.int .i64 S.C.xo,.int .i64 S.C.xn,.int .i64 S.C.hd,.int .i64 S.C.lo,.int .i64 S.C.dl,.int .i64 S.now,.int .i64 S.nx,.slice S.aE S.nE S.cE,.slice S.N.aU S.N.nU S.N.cU,.int .i64 S.N.lo,.slice S.N.aP S.N.nP S.N.cP,.slice S.aK S.nK S.cK,.slice S.aL S.nL S.cL,.int .i64 S.dr,.int .i64 S.lst] 43 (0,0))):=HC
 go_wp2_with (refine fJ rfl 38 (.tmp 12) (.tmp 11) rfl (w.heap.size+1+1) 9 rfl (.slice aE S.nE cE) rfl 1 rfl 43 _ HC.out qi (Nat.le_of_ble_eq_true rfl) (by simp [Value.cells,Value.oneCell',Rnd.cells,Cfg.cells,Cnt.cells]) ?_)
 intro W3 hP
 replace hP:=hP.cast (cs':=#[.int .i64 S.C.p,.int .i64 S.C.c,.int .i64 S.C.xo,.int .i64 S.C.xn,.int .i64 S.C.hd,.int .i64 S.C.lo,.int .i64 S.C.dl,.int .i64 S.now,.int .i64 S.nx,.slice aE S.nE cE,.slice S.N.aU S.N.nU S.N.cU,.int .i64 S.N.lo,.slice S.N.aP S.N.nP S.N.cP,.slice S.aK S.nK S.cK,.slice S.aL S.nL S.cL,.int .i64 S.dr,.int .i64 S.lst]) rfl
 replace HX:Hid (gI w S.cells #[.int .i64 0,.int .i64 0,.int .i64 0,.int .i64 0,.int .i64 0,.int .i64 0,.int .i64 0,.int .i64 0,.int .i64 0,.slice none 0 0,.slice none 0 0,.int .i64 0,.slice none 0 0,.slice none 0 0,.slice none 0 0,.int .i64 0,.int .i64 0] #[.int .i64 S.C.p,.int .i64 S.C.c,.int .i64 S.C.xo,.int .i64 S.C.xn,.int .i64 S.C.hd,.int .i64 S.C.lo,.int .i64 S.C.dl,.int .i64 S.now,.int .i64 S.nx,.slice aE S.nE cE,.slice S.N.aU S.N.nU S.N.cU,.int .i64 S.N.lo,.slice S.N.aP S.N.nP S.N.cP,.slice S.aK S.nK S.cK,.slice S.aL S.nL S.cL,.int .i64 S.dr,.int .i64 S.lst] 43 43 W3):=HX.out.put hP
 have T3:Touch [w.heap.size+1,w.heap.size+1+1] we W3:=hP.to.mono (fun x hx=>by simp at hx;simp [hx])
 clear hP HC 
 have c10:W3.cell? ⟨w.heap.size,10,none⟩=some (.slice S.N.aU S.N.nU S.N.cU):=fF HX.out.a 10
 have c11:W3.cell? ⟨w.heap.size,11,none⟩=some (.int .i64 S.N.lo):=fF HX.out.a 11
 have c12:W3.cell? ⟨w.heap.size,12,none⟩=some (.slice S.N.aP S.N.nP S.N.cP):=fF HX.out.a 12
 go_wp2_with fail
 refine (kF S.N _ HU0.out.1 HU0.out.2 HS.out.n (HR.out.n.up HX.out.bel)).mono ?_
 rintro e wn ⟨M,rfl,rN,hb,aN⟩
 clear c10 c11 c12
 have sN:=HX.out.sz
 replace HX:Hid (gI w S.cells #[.int .i64 0,.int .i64 0,.int .i64 0,.int .i64 0,.int .i64 0,.int .i64 0,.int .i64 0,.int .i64 0,.int .i64 0,.slice none 0 0,.slice none 0 0,.int .i64 0,.slice none 0 0,.slice none 0 0,.slice none 0 0,.int .i64 0,.int .i64 0] #[.int .i64 S.C.p,.int .i64 S.C.c,.int .i64 S.C.xo,.int .i64 S.C.xn,.int .i64 S.C.hd,.int .i64 S.C.lo,.int .i64 S.C.dl,.int .i64 S.now,.int .i64 S.nx,.slice aE S.nE cE,.slice S.N.aU S.N.nU S.N.cU,.int .i64 S.N.lo,.slice S.N.aP S.N.nP S.N.cP,.slice S.aK S.nK S.cK,.slice S.aL S.nL S.cL,.int .i64 S.dr,.int .i64 S.lst] 43 43 wn):=HX.out.up hb
 have T4:Touch [w.heap.size+1,w.heap.size+1+1] W3 wn:=Touch.gY hb
 clear hb
 have HC:=HX.out.c
 replace HC:Hid (wn.heap[w.heap.size+1+1]?=some (.cells #[.int .i64 S.C.p,.int .i64 S.C.c,.int .i64 S.C.xo,.int .i64 S.C.xn,.int .i64 S.C.hd,.int .i64 S.C.lo,.int .i64 S.C.dl,.int .i64 S.now,.int .i64 S.nx,.slice aE S.nE cE,.slice S.N.aU S.N.nU S.N.cU,.int .i64 S.N.lo,.slice S.N.aP S.N.nP S.N.cP,.slice S.aK S.nK S.cK,.slice S.aL S.nL S.cL,.int .i64 S.dr,.int .i64 S.lst] 43 (0,0))):=HC
 go_wp2_with (refine fJ rfl 39 (.tmp 16) (.tmp 15) rfl (w.heap.size+1+1) 10 rfl (.agg M.cells) rfl 3 rfl 43 _ HC.out zb (Nat.le_of_ble_eq_true rfl) (by simp [Value.cells,Value.oneCell',Rnd.cells,Cfg.cells,Cnt.cells]) ?_)
 intro W5 hP
 replace hP:=hP.cast (cs':=#[.int .i64 S.C.p,.int .i64 S.C.c,.int .i64 S.C.xo,.int .i64 S.C.xn,.int .i64 S.C.hd,.int .i64 S.C.lo,.int .i64 S.C.dl,.int .i64 S.now,.int .i64 S.nx,.slice aE S.nE cE,.slice M.aU M.nU M.cU,.int .i64 M.lo,.slice M.aP M.nP M.cP,.slice S.aK S.nK S.cK,.slice S.aL S.nL S.cL,.int .i64 S.dr,.int .i64 S.lst]) rfl
 replace HX:Hid (gI w S.cells #[.int .i64 0,.int .i64 0,.int .i64 0,.int .i64 0,.int .i64 0,.int .i64 0,.int .i64 0,.int .i64 0,.int .i64 0,.slice none 0 0,.slice none 0 0,.int .i64 0,.slice none 0 0,.slice none 0 0,.slice none 0 0,.int .i64 0,.int .i64 0] #[.int .i64 S.C.p,.int .i64 S.C.c,.int .i64 S.C.xo,.int .i64 S.C.xn,.int .i64 S.C.hd,.int .i64 S.C.lo,.int .i64 S.C.dl,.int .i64 S.now,.int .i64 S.nx,.slice aE S.nE cE,.slice M.aU M.nU M.cU,.int .i64 M.lo,.slice M.aP M.nP M.cP,.slice S.aK S.nK S.cK,.slice S.aL S.nL S.cL,.int .i64 S.dr,.int .i64 S.lst] 43 43 W5):=HX.out.put hP
 have T5:Touch [w.heap.size+1,w.heap.size+1+1] wn W5:=hP.to.mono (fun x hx=>by simp at hx;simp [hx])
 clear hP HC 
 have c13:W5.cell? ⟨w.heap.size,13,none⟩=some (.slice S.aK S.nK S.cK):=fF HX.out.a 13
 go_wp2_with fail
 refine (vz S.aK S.nK S.cK S.K _ HS.out.k (HR.out.k.up HX.out.bel)).mono ?_
 rintro e wk ⟨aK,cK,rfl,rK,hb⟩
 clear c13
 have sK:=HX.out.sz
 replace HX:Hid (gI w S.cells #[.int .i64 0,.int .i64 0,.int .i64 0,.int .i64 0,.int .i64 0,.int .i64 0,.int .i64 0,.int .i64 0,.int .i64 0,.slice none 0 0,.slice none 0 0,.int .i64 0,.slice none 0 0,.slice none 0 0,.slice none 0 0,.int .i64 0,.int .i64 0] #[.int .i64 S.C.p,.int .i64 S.C.c,.int .i64 S.C.xo,.int .i64 S.C.xn,.int .i64 S.C.hd,.int .i64 S.C.lo,.int .i64 S.C.dl,.int .i64 S.now,.int .i64 S.nx,.slice aE S.nE cE,.slice M.aU M.nU M.cU,.int .i64 M.lo,.slice M.aP M.nP M.cP,.slice S.aK S.nK S.cK,.slice S.aL S.nL S.cL,.int .i64 S.dr,.int .i64 S.lst] 43 43 wk):=HX.out.up hb
 have T6:Touch [w.heap.size+1,w.heap.size+1+1] W5 wk:=Touch.gY hb
 clear hb
 have HC:=HX.out.c
 replace HC:Hid (wk.heap[w.heap.size+1+1]?=some (.cells #[.int .i64 S.C.p,.int .i64 S.C.c,.int .i64 S.C.xo,.int .i64 S.C.xn,.int .i64 S.C.hd,.int .i64 S.C.lo,.int .i64 S.C.dl,.int .i64 S.now,.int .i64 S.nx,.slice aE S.nE cE,.slice M.aU M.nU M.cU,.int .i64 M.lo,.slice M.aP M.nP M.cP,.slice S.aK S.nK S.cK,.slice S.aL S.nL S.cL,.int .i64 S.dr,.int .i64 S.lst] 43 (0,0))):=HC
 go_wp2_with (refine fJ rfl 40 (.tmp 20) (.tmp 19) rfl (w.heap.size+1+1) 13 rfl (.slice aK S.nK cK) rfl 1 rfl 43 _ HC.out yZ (Nat.le_of_ble_eq_true rfl) (by simp [Value.cells,Value.oneCell',Rnd.cells,Cfg.cells,Cnt.cells]) ?_)
 intro W7 hP
 replace hP:=hP.cast (cs':=#[.int .i64 S.C.p,.int .i64 S.C.c,.int .i64 S.C.xo,.int .i64 S.C.xn,.int .i64 S.C.hd,.int .i64 S.C.lo,.int .i64 S.C.dl,.int .i64 S.now,.int .i64 S.nx,.slice aE S.nE cE,.slice M.aU M.nU M.cU,.int .i64 M.lo,.slice M.aP M.nP M.cP,.slice aK S.nK cK,.slice S.aL S.nL S.cL,.int .i64 S.dr,.int .i64 S.lst]) rfl
 replace HX:Hid (gI w S.cells #[.int .i64 0,.int .i64 0,.int .i64 0,.int .i64 0,.int .i64 0,.int .i64 0,.int .i64 0,.int .i64 0,.int .i64 0,.slice none 0 0,.slice none 0 0,.int .i64 0,.slice none 0 0,.slice none 0 0,.slice none 0 0,.int .i64 0,.int .i64 0] #[.int .i64 S.C.p,.int .i64 S.C.c,.int .i64 S.C.xo,.int .i64 S.C.xn,.int .i64 S.C.hd,.int .i64 S.C.lo,.int .i64 S.C.dl,.int .i64 S.now,.int .i64 S.nx,.slice aE S.nE cE,.slice M.aU M.nU M.cU,.int .i64 M.lo,.slice M.aP M.nP M.cP,.slice aK S.nK cK,.slice S.aL S.nL S.cL,.int .i64 S.dr,.int .i64 S.lst] 43 43 W7):=HX.out.put hP
 have T7:Touch [w.heap.size+1,w.heap.size+1+1] wk W7:=hP.to.mono (fun x hx=>by simp at hx;simp [hx])
 clear hP HC 
 obtain ⟨P,eP⟩:∃ P,(⟨S.C,S.now,S.nx,aE,S.nE,cE,S.e,M,aK,S.nK,cK,S.K,S.aL,S.nL,S.cL,S.L,S.dr,S.lst⟩:Swg)=P:=⟨_,rfl⟩
 have e3:#[.int .i64 S.C.p,.int .i64 S.C.c,.int .i64 S.C.xo,.int .i64 S.C.xn,.int .i64 S.C.hd,.int .i64 S.C.lo,.int .i64 S.C.dl,.int .i64 S.now,.int .i64 S.nx,.slice aE S.nE cE,.slice M.aU M.nU M.cU,.int .i64 M.lo,.slice M.aP M.nP M.cP,.slice aK S.nK cK,.slice S.aL S.nL S.cL,.int .i64 S.dr,.int .i64 S.lst]=P.cells:=by rw [←eP];rfl
 rw [e3] at HX
 clear e3
 have hlow:∀ x∈[w.heap.size+1,w.heap.size+1+1],x<w.heap.size+1+1+1:=by intro x hx;simp at hx;omega
 have HA:Hid (CpA S P):=by rw [←eP];exact ⟨rfl,rfl,rfl,rfl,rfl,aN,rfl,rfl,rfl,rfl⟩
 have HP:Hid (CpS w S P W7∧P.nK=S.nK∧P.K=S.K):=by
  rw [←eP] at HX ⊢
  exact ⟨⟨HX.out,OG.mono (rE.low ((((T3.trans T4).trans T5).trans T6).trans T7) (fun x hx=>by have:=hlow x hx;omega)) (by omega),gV.mono (rN.kO ((T5.trans T6).trans T7) (fun x hx=>by have:=hlow x hx;omega)) (by omega),OG.mono (rK.low T7 (fun x hx=>by have:=hlow x hx;omega)) (by omega)⟩,rfl,rfl⟩
 clear HX eP rE rN rK aN sE sN sK hlow T1 T2 T3 T4 T5 T6 T7
 have HU:Hid (kK w S.aK S.nK S.K):=HR.out.k
 obtain ⟨aK0,eU⟩:∃ a,S.aK=a:=⟨_,rfl⟩
 have c13:W7.cell? ⟨w.heap.size,13,none⟩=some (.slice aK0 S.nK S.cK):=by rw [←eU];exact fF HP.out.1.x.a 13
 rw [eU] at HU
 clear eU
 have hnk:=HS.out.k
 go_wp2_with fail
 clear c13
 go_loopw [24] (fun i wr=>∃ k:Nat,k≤S.nK∧i=.int .i64 k∧Hid (CpS w S P wr∧P.nK=S.nK∧P.K=S.K)) (fun i _=>S.nK-(intOf i).toNat)
 case atStart=>exact ⟨0,Nat.zero_le _,rfl,HP⟩
 clear HP
 obtain ⟨k,hk,rfl,HP⟩:=hrel
 by_cases hlt:k<S.nK
 ·
  have hlt':(k:Int)<S.nK:=by omega
  obtain ⟨g0,o0,ea,hc⟩:=(HU.out.up HP.out.1.x.bel) k hlt
  subst ea
  have HCk:Hid (∀ j,j<8→wr.cell? ⟨g0,o0+k*8+j,none⟩=(S.K k).cells[j]?):=hc
  clear hc
  have HG:Hid ((wr.alloc (.cells #[.int .i64 0,.int .i64 0,.int .i64 0,.int .i64 0,.int .i64 0,.int .i64 0,.int .i64 0,.string ⟨#[]⟩] 94)).heap[wr.heap.size]?=some (.cells #[.int .i64 0,.int .i64 0,.int .i64 0,.int .i64 0,.int .i64 0,.int .i64 0,.int .i64 0,.string ⟨#[]⟩] 94 (0,0))):=fK _ _
  go_wp2_with (first | refine fM rfl 94 8 _ Tryz.underlying94 rfl j6 (.tmp 27) rfl g0 (o0+k*8) rfl (S.K k).cells rfl HCk.out ?_ | refine fJ rfl 94 (.tmp 5) (.tmp 28) rfl wr.heap.size 0 rfl (.agg (S.K k).cells) rfl 8 rfl 94 _ HG.out j6 (Nat.le_of_ble_eq_true rfl) (Pkt.mi _) ?_)
  intro X0 hP
  replace hP:Put _ X0 wr.heap.size (S.K k).cells 94:=hP.cast rfl
  have hb:Below wr.heap.size wr X0:=((Below.refl _ _).alloc (Nat.le_refl _) _).trans (hP.to.below (by simp) (fun x hx=>by simp at hx;omega))
  have kP:=hP.blk
  replace HP:Hid (CpS w S P X0∧P.nK=S.nK∧P.K=S.K):=⟨HP.out.1.up hb,HP.out.2⟩
  clear hP hb HG HCk
  obtain ⟨gP,egP⟩:∃ g,wr.heap.size=g:=⟨_,rfl⟩
  rw [egP] at kP ⊢
  clear egP
  go_wp2_with fail
  refine ia (fun w'=>w'.heap[w.heap.size+1+1]?=some (.cells P.cells 43 (0,0))∧w'.heap[gP]?=some (.cells (S.K k).cells 94 (0,0))) 8 (by kernel_rfl) ?_
  have hd:Below X0.heap.size X0 X0.drew:=(Below.refl _ _).drew
  replace HP:Hid (CpS w S P X0.drew∧P.nK=S.nK∧P.K=S.K):=⟨HP.out.1.up hd,HP.out.2⟩
  replace kP:=(hd.block _ (fG kP)).trans kP
  clear hd
  generalize X0.drew=V at *
  obtain ⟨gK,cur,eaK,hkK,hsK,hcK⟩:=HP.out.1.k.at0 (by rw [HP.out.2.1];omega)
  rw [HP.out.2.1,HP.out.2.2] at hcK
  rw [HP.out.2.1] at hsK
  have HaK:Hid (P.aK=some ⟨gK,0,none⟩):=eaK
  have HcK:Hid (∀ j,j<S.nK*8→cur[j]?=(o3 S.nK S.K)[j]?):=hcK
  clear eaK hcK
  have hT0:V.heap[w.heap.size+1+1]?=some (.cells P.cells 43 (0,0))∧V.heap[gP]?=some (.cells (S.K k).cells 94 (0,0)):=⟨HP.out.1.x.c,kP⟩
  refine tE 0 29 hT0 ?_
  refine j3 (i:=1) (some 30) (v:=?_) ?_ hT0 ?_
  rotate_left
  ·
   intro wx hSw
   have c13:wx.cell? ⟨w.heap.size+1+1,13,none⟩=some (.slice (some ⟨gK,0,none⟩) S.nK P.cK):=by rw [fF hSw.1 13,←HaK.out,←HP.out.2.1];rfl
   go_simp
   try with_reducible rfl
  try simp only [Act.put,PZ]
  refine tE 2 31 hT0 ?_
  refine tE 3 32 hT0 ?_
  refine j3 (i:=4) (some 33) (v:=.agg #[.int .i64 (S.K k).k,.int .i64 (S.K k).d,.int .i64 (S.K k).s,.int .i64 (S.K k).p,.string (S.K k).b]) ?_ hT0 ?_
  ·
   intro wx hSw
   exact gO 47 5 _ Tryz.underlying47 rfl ix (.tmp 32) rfl gP 3 rfl _ rfl (fun j hj=>Dv hSw.2 j hj)
  try simp only [Act.put,PZ]
  refine fI (rs:=[5]) (by kernel_rfl) (by simp) ?_
  refine fH.cons rfl (fun K hK=>?_) fH.nil
  go_simp
  refine (nj _ _ _ _ _ _ (HS.out.b k hlt)).mono ?_
  rintro e X1 ⟨rfl,hb⟩
  replace HP:Hid (CpS w S P X1∧P.nK=S.nK∧P.K=S.K):=⟨HP.out.1.up hb,HP.out.2⟩
  replace kP:=(hb.block _ (fG kP)).trans kP
  replace hkK:=(hb.block _ (fG hkK)).trans hkK
  clear hb hT0
  go_wp2_with fail
  refine hK.out _ _ ⟨HP.out.1.x.c,kP⟩ ?_
  clear hK K
  try simp only [Act.put,PZ]
  have hT0:X1.heap[w.heap.size+1+1]?=some (.cells P.cells 43 (0,0))∧X1.heap[gP]?=some (.cells (S.K k).cells 94 (0,0)):=⟨HP.out.1.x.c,kP⟩
  refine fI (rs:=[6]) (by kernel_rfl) (by simp) ?_
  refine fH.cons rfl (fun K hK=>?_) fH.nil
  go_simp
  refine hK.out _ _ hT0 ?_
  clear hK K
  try simp only [Act.put,PZ]
  refine fI (rs:=[7]) (by kernel_rfl) (by simp) ?_
  refine fH.cons rfl (fun K hK=>?_) fH.nil
  go_simp
  refine hK.out _ _ hT0 ?_
  clear hK K
  try simp only [Act.put,PZ]
  refine fI (rs:=[8]) (by kernel_rfl) (by simp) ?_
  refine fH.last rfl (fun K hK=>?_)
  refine iz (by kernel_rfl) none rfl 47 (.tmp 36) (.tmp 34) rfl gK (k*8+3) (by simp [Act.eval]) (.agg #[.int .i64 (S.K k).k,.int .i64 (S.K k).d,.int .i64 (S.K k).s,.int .i64 (S.K k).p,.string (S.K k).b]) rfl 5 rfl 94 _ hkK ix (by omega) (by simp [Value.cells,Value.oneCell']) ?_
  intro X2 hP
  refine hK.out _ _ ?_
  clear hK K
  try simp only [Act.put,PZ]
  refine gx (by kernel_rfl) ?_ _
  replace hP:Put X1 X2 gK cur 94:=hP.cast (AG (by show k*8+3+5≤_;omega) (fun j hj=>by
   have hj5:j<5:=hj
   have h8:=HcK.out (k*8+(3+j)) (by omega)
   rw [qM _ _ _ _ hlt (by omega)] at h8
   rw [Nat.add_assoc,h8]
   exact frAt (S.K k) j hj5))
  have HN:Hid (CpS w S P X2∧P.nK=S.nK∧P.K=S.K):=⟨HP.out.1.up (hP.same hkK),HP.out.2⟩
  clear hP kP hkK HP HaK HcK hsK hT0
  go_wp2_with fail
  go_roundw
  case rel=>exact ⟨k+1,by omega,by go_num,HN⟩
  case measure=>simp [intOf];omega
 obtain rfl:k=S.nK:=by omega
 have HC:Hid (wr.heap[w.heap.size+1+1]?=some (.cells P.cells 43 (0,0))):=HP.out.1.x.c
 go_wp2_with (refine fJ rfl 41 (.tmp 38) (.const (.slice none 0 0)) rfl (w.heap.size+1+1) 14 rfl (.slice none 0 0) rfl 1 rfl 43 _ HC.out tj (Nat.le_of_ble_eq_true rfl) (by simp [Value.cells,Value.oneCell']) ?_)
 intro X0 hP
 obtain ⟨P1,eP1⟩:∃ P1,({ P with aL:=none,nL:=0,cL:=0 }:Swg)=P1:=⟨_,rfl⟩
 replace hP:Put wr X0 (w.heap.size+1+1) P1.cells 43:=hP.cast (by rw [←eP1];rfl)
 have HP1:Hid (r7 w S P1 0 X0):=by
  have q:=HP.out.1
  rw [←eP1] at hP ⊢
  exact ⟨⟨q.x.put hP,q.e.fL hP.to (fun x hx hy=>q.e.k8 (by decide) q.x.c ((List.mem_singleton.1 hy)▸hx)),q.n.C3 q.x.c (by decide) (by decide) hP.to,q.k.fL hP.to (fun x hx hy=>q.k.k8 (by decide) q.x.c ((List.mem_singleton.1 hy)▸hx))⟩,⟨HA.out.c,HA.out.now,HA.out.nx,HA.out.nE,HA.out.e,HA.out.n,HA.out.nK,HA.out.k,HA.out.dr,HA.out.lst⟩,iV.nil _ _ _,fun x hx hy=>by simp at hy,rfl,fun i hi=>absurd hi (Nat.not_lt_zero _)⟩
 clear hP HC HP eP1 HA HU
 have HU:Hid (pP w S.aL S.nL S.L):=HR.out.l
 obtain ⟨aL0,eU⟩:∃ a,S.aL=a:=⟨_,rfl⟩
 have c14:X0.cell? ⟨w.heap.size,14,none⟩=some (.slice aL0 S.nL S.cL):=by rw [←eU];exact fF HP1.out.s.x.a 14
 rw [eU] at HU
 clear eU
 have hnl:=HS.out.l
 go_wp2_with fail
 clear c14
 go_loopw [42] (fun i wr=>∃ (k:Nat) (P:Swg),k≤S.nL∧i=.int .i64 k∧Hid (r7 w S P k wr)) (fun i _=>S.nL-(intOf i).toNat)
 case atStart=>exact ⟨0,P1,Nat.zero_le _,rfl,HP1⟩
 clear HP1
 obtain ⟨k,P,hk,rfl,HP⟩:=hrel
 by_cases hlt:k<S.nL
 ·
  have hlt':(k:Int)<S.nL:=by omega
  obtain ⟨g0,o0,ea,hc⟩:=(HU.out.up HP.out.s.x.bel) k hlt
  have HP0:Hid (∀ x∈gi P.aL,x<wr.heap.size):=fun x hx=>(HP.out.l.l.blk x hx).2
  subst ea
  have HCk:Hid (∀ j,j<8→wr.cell? ⟨g0,o0+k*8+j,none⟩=(S.L k).cells[j]?):=hc
  clear hc
  have HG:Hid ((wr.alloc (.cells #[.bool false,.slice none 0 0,.slice none 0 0,.slice none 0 0,.slice none 0 0,.int .i64 0,.bool false,.slice none 0 0] 99)).heap[wr.heap.size]?=some (.cells #[.bool false,.slice none 0 0,.slice none 0 0,.slice none 0 0,.slice none 0 0,.int .i64 0,.bool false,.slice none 0 0] 99 (0,0))):=fK _ _
  go_wp2_with (first | refine fM rfl 99 8 _ Tryz.underlying99 rfl ir (.tmp 44) rfl g0 (o0+k*8) rfl (S.L k).cells rfl HCk.out ?_ | refine fJ rfl 99 (.tmp 7) (.tmp 45) rfl wr.heap.size 0 rfl (.agg (S.L k).cells) rfl 8 rfl 99 _ HG.out ir (Nat.le_of_ble_eq_true rfl) (Lng.mi _) ?_)
  intro X0 hP
  replace hP:Put _ X0 wr.heap.size (S.L k).cells 99:=hP.cast rfl
  have hb:Below wr.heap.size wr X0:=((Below.refl _ _).alloc (Nat.le_refl _) _).trans (hP.to.below (by simp) (fun x hx=>by simp at hx;omega))
  have kL:=hP.blk
  replace HP:Hid (r7 w S P k X0):=HP.out.up hb
  have HPl:Hid (∀ x∈gi P.aL,x<wr.heap.size):=fun x hx=>(HP0.out x hx)
  clear hP hb HG HCk HP0
  obtain ⟨gL,egL⟩:∃ g,wr.heap.size=g:=⟨_,rfl⟩
  rw [egL] at kL HPl ⊢
  clear egL
  go_wp2_with fail
  refine ia (fun w'=>w'.heap[w.heap.size+1+1]?=some (.cells P.cells 43 (0,0))∧w'.heap[gL]?=some (.cells (S.L k).cells 99 (0,0))) 7 (by kernel_rfl) ?_
  have hd:Below X0.heap.size X0 X0.drew:=(Below.refl _ _).drew
  replace HP:Hid (r7 w S P k X0.drew):=HP.out.up hd
  replace kL:=(hd.block _ (fG kL)).trans kL
  clear hd
  generalize X0.drew=V at *
  have hT0:V.heap[w.heap.size+1+1]?=some (.cells P.cells 43 (0,0))∧V.heap[gL]?=some (.cells (S.L k).cells 99 (0,0)):=⟨HP.out.s.x.c,kL⟩
  refine tE 0 46 hT0 ?_
  refine j3 (i:=1) (some 47) (v:=?_) ?_ hT0 ?_
  rotate_left
  ·
   intro wx hSw
   have c14:wx.cell? ⟨w.heap.size+1+1,14,none⟩=some (.slice P.aL k P.cL):=by rw [fF hSw.1 14,←HP.out.nL];rfl
   go_simp
   try with_reducible rfl
  try simp only [Act.put,PZ]
  refine j3 (i:=2) (some 48) (v:=.agg (S.L k).cells) ?_ hT0 ?_
  ·
   intro wx hSw
   exact gO 99 8 _ Tryz.underlying99 rfl ir (.tmp 7) rfl gL 0 rfl _ rfl (fun j _=>by rw [Nat.zero_add];exact fF hSw.2 j)
  try simp only [Act.put,PZ]
  refine fI (rs:=[3]) (by kernel_rfl) (by simp) ?_
  refine fH.cons rfl (fun K hK=>?_) fH.nil
  go_simp
  refine (tZ (S.L k) _ (HS.out.ls k hlt) ((HR.out.ls k hlt).up HP.out.s.x.bel)).mono ?_
  rintro e X1 ⟨l2,rfl,al2,ol2,hb⟩
  have HA1:Hid (gk (S.L k) l2∧gg X1 V.heap.size l2∧Below V.heap.size V X1):=⟨al2,ol2,hb⟩
  have Q1:=HP.out.up hb
  have hu0:OG 99 8 X1 w.heap.size P.aL k P.cL (sb k P.L):=by have:=Q1.l.l;rw [HP.out.nL] at this;exact this
  obtain ⟨g1,c3,X3,hr,hu,ht,hg⟩:=lH 41 99 _ 8 144 vc Tryz.underlying41 rfl (by decide) (by decide) hu0 (by omega) (Nat.le_trans HP.out.s.x.bel.size hb.size) l2.cells rfl (Lng.mi _)
  have LN:l2.cells=#[.bool l2.st,.slice l2.aT l2.nT l2.cT,.slice l2.aU l2.nU l2.cU,.slice l2.R.aQ l2.R.nQ l2.R.cQ,.slice l2.R.aD l2.R.nD l2.R.cD,.int .i64 l2.R.turn,.bool l2.R.fresh,.slice l2.R.aS l2.R.nS l2.R.cS]:=rfl
  rw [LN] at hr ⊢
  have kL1:=(hb.block _ (fG kL)).trans kL
  have hT1:X1.heap[w.heap.size+1+1]?=some (.cells P.cells 43 (0,0))∧X1.heap[gL]?=some (.cells (S.L k).cells 99 (0,0)):=⟨Q1.s.x.c,kL1⟩
  have hT2:(X1.alloc (.cells #[.bool l2.st,.slice l2.aT l2.nT l2.cT,.slice l2.aU l2.nU l2.cU,.slice l2.R.aQ l2.R.nQ l2.R.cQ,.slice l2.R.aD l2.R.nD l2.R.cD,.int .i64 l2.R.turn,.bool l2.R.fresh,.slice l2.R.aS l2.R.nS l2.R.cS] 99)).heap[w.heap.size+1+1]?=some (.cells P.cells 43 (0,0))∧(X1.alloc (.cells #[.bool l2.st,.slice l2.aT l2.nT l2.cT,.slice l2.aU l2.nU l2.cU,.slice l2.R.aQ l2.R.nQ l2.R.cQ,.slice l2.R.aD l2.R.nD l2.R.cD,.int .i64 l2.R.turn,.bool l2.R.fresh,.slice l2.R.aS l2.R.nS l2.R.cS] 99)).heap[gL]?=some (.cells (S.L k).cells 99 (0,0)):=⟨(fY _ (fG hT1.1)).trans hT1.1,(fY _ (fG hT1.2)).trans hT1.2⟩
  have hnL:gL∉gi P.aL:=fun hx=>by have:=(HPl.out gL hx);omega
  have hT3:X3.heap[w.heap.size+1+1]?=some (.cells P.cells 43 (0,0))∧X3.heap[gL]?=some (.cells (S.L k).cells 99 (0,0)):=⟨(ht.block _ (fG hT1.1) (hu0.k8 (by decide) hT1.1)).trans hT1.1,(ht.block _ (fG hT1.2) hnL).trans hT1.2⟩
  have HN3:Hid (OG 99 8 X3 w.heap.size (some ⟨g1,0,none⟩) (k+1) c3 (sb k P.L++l2.cells.toList)∧Touch (gi P.aL) X1 X3):=⟨hu,ht⟩
  have HR3:Hid ((Builtin.append_ #[41,41] 41 #[.slice P.aL k P.cL,.slice (some ⟨X1.heap.size,0,none⟩) 1 1]).run Tryz.prog (X1.alloc (.cells #[.bool l2.st,.slice l2.aT l2.nT l2.cT,.slice l2.aU l2.nU l2.cU,.slice l2.R.aQ l2.R.nQ l2.R.cQ,.slice l2.R.aD l2.R.nD l2.R.cD,.int .i64 l2.R.turn,.bool l2.R.fresh,.slice l2.R.aS l2.R.nS l2.R.cS] 99))=.ok (.slice (some ⟨g1,0,none⟩) (k+1) c3) X3):=hr
  clear al2 ol2 hb Q1 hu0 hr hu ht hg hT0 kL1 hnL kL LN
  go_wp2_with fail
  refine hK.out _ _ hT1 ?_
  clear hK K
  try simp only [Act.put,PZ]
  refine fI (rs:=[4]) (by kernel_rfl) (by simp) ?_
  refine fH.cons rfl (fun K hK=>?_) fH.nil
  go_simp
  refine hK.out _ _ hT2 ?_
  clear hK K
  try simp only [Act.put,PZ]
  refine fI (rs:=[5]) (by kernel_rfl) (by simp) ?_
  refine fH.cons rfl (fun K hK=>?_) fH.nil
  refine jz (by kernel_rfl) (some 51) rfl (.tmp 47) (.tmp 50) 41 _ _ _ rfl rfl rfl rfl HR3.out ?_
  refine hK.out _ _ hT3 ?_
  clear hK K hT2 HR3 hT1
  try simp only [Act.put,PZ]
  have hT0:=hT3
  refine tE 6 52 hT0 ?_
  refine fI (rs:=[7]) (by kernel_rfl) (by simp) ?_
  refine fH.last rfl (fun K hK=>?_)
  refine iz (by kernel_rfl) none rfl 41 (.tmp 52) (.tmp 51) rfl (w.heap.size+1+1) 14 rfl (.slice (some ⟨g1,0,none⟩) (k+1) c3) rfl 1 rfl 43 _ hT3.1 tj (Nat.le_of_ble_eq_true rfl) (by simp [Value.cells,Value.oneCell']) ?_
  intro X4 hP
  refine hK.out _ _ ?_
  clear hK K
  try simp only [Act.put,PZ]
  refine gx (by kernel_rfl) ?_ _
  have HN:Hid (r7 w S (P.more k (some ⟨g1,0,none⟩) c3 l2) (k+1) X4):=HP.out.more HA1.out.2.2 HA1.out.2.1 HA1.out.1 HN3.out.1 HN3.out.2 hP
  clear hP hT0 hT3 HN3 HA1 HP HPl
  go_wp2_with fail
  go_roundw
  case rel=>exact ⟨k+1,_,by omega,by go_num,HN⟩
  case measure=>simp [intOf];omega
 obtain rfl:k=S.nL:=by omega
 have HL:Hid (∀ j,j<17→wr.cell? ⟨w.heap.size+1+1,0+j,none⟩=P.cells[j]?):=fun j _=>by rw [Nat.zero_add];exact fF HP.out.s.x.c j
 have HD:Hid (wr.heap[w.heap.size+1]?=some (.cells zSw 43 (0,0))):=HP.out.s.x.b
 go_wp2_with (first | refine fM rfl 43 17 _ Tryz.underlying43 rfl fV (.tmp 3) rfl (w.heap.size+1+1) 0 rfl P.cells rfl HL.out ?_ | refine fJ rfl 43 (.tmp 2) (.tmp 54) rfl (w.heap.size+1) 0 rfl (.agg P.cells) rfl 17 rfl 43 _ HD.out fV (Nat.le_of_ble_eq_true rfl) (Swg.mi _) ?_)
 intro X hP
 replace hP:Put wr X (w.heap.size+1) P.cells 43:=hP.cast rfl
 have HK:Hid (X.heap[w.heap.size+1]?=some (.cells P.cells 43 (0,0))):=hP.blk
 have HF:Hid (fP S P∧gy X w.heap.size P∧Below w.heap.size w X):=⟨HP.out.alike rfl,HP.out.own.off HD.out hP.to,(HP.out.s.x.out hP).bel⟩
 clear hP HL HD HP
 go_wp2_with fail
 exact bodyPost_ret (js Tryz.results25 17 _ Tryz.underlying43 rfl fV _ _ (w.heap.size+1) P.cells rfl 43 HK.out rfl) rfl ⟨P,rfl,HF.out.1,HF.out.2.1,HF.out.2.2⟩
theorem gy.up {w w':World} {base:Nat} {S:Swg} (h:gy w base S) (hb:Below w.heap.size w w'):gy w' base S:=⟨h.e.up hb,h.n.up hb,h.k.up hb,h.l.up hb,h.un⟩
theorem gy.mono {w:World} {base base':Nat} {S:Swg} (h:gy w base S) (hb:base'≤base):gy w base' S:=⟨h.e.mono hb,h.n.mono hb,h.k.mono hb,h.l.mono hb,h.un⟩
theorem fP.refl (S:Swg):fP S S:=⟨rfl,rfl,rfl,rfl,rfl,gw.refl _,rfl,rfl,rfl,fun i _=>gk.refl _,rfl,rfl⟩
def mH:Swg:=⟨⟨0,0,0,0,0,0,0⟩,0,0,none,0,0,fun _=>default,⟨none,0,0,fun _=>0,0,none,0,0,fun _=>false⟩,none,0,0,fun _=>⟨0,0,0,0,0,0,0,⟨#[]⟩⟩,none,0,0,fun _=>⟨false,none,0,0,fun _=>0,none,0,0,fun _=>none,fun _=>0,fun _=>0,fun _ _=>0,⟨none,0,0,fun _=>0,none,0,0,fun _=>0,0,false,none,0,0,fun _=>none,fun _=>0,fun _=>0,fun _ _=>0⟩⟩,0,0⟩
theorem vH (w:World) (base:Nat):gy w base mH:=⟨OG.nil _ _ _ _,⟨.inl rfl,.inl rfl⟩,OG.nil _ _ _ _,iV.nil _ _ _,fun x hx=>by simp [ib,mH] at hx⟩
theorem kW {fn:Func} {i j:Tmp} {ty:TypeId} (h:fn.results=#[.cell i ty,.tmp j]) (n:Nat) (d:TypeDesc) (hu:Tryz.prog.underlying ty=some d) (hd:d.isRow=true) (hn:(Tryz.prog.info? ty).map (·.size)=some n) (tmps:Array Value) (w:World) (g:Nat) (cs:Array Value) (hi:tmps[i]?.getD undef=.pointer (some ⟨g,0,none⟩)) (t:TypeId) (hk:w.heap[g]?=some (.cells cs t (0,0))) (hs:cs.size=n) (v:Value) (hv:tmps[j]?.getD undef=v) :
  (results fn tmps).run Tryz.prog w=.ok (.tuple #[.agg cs,v]) w:=by
 have:=run_loadVar_mid (P:=Tryz.prog) w g 0 ty cs.toList d (fun j v hv=>by
  rw [Nat.zero_add,fF hk,←Array.getElem?_toList];exact hv) hu hd (by rw [hn,Array.length_toList,hs])
 rw [Array.toArray_toList] at this
 simp [results,h,hi,hv,asAddr,this]
theorem A5 {S:Swg} (h:S.Ok):jr S.nE S.e∧0≤S.now∧S.now≤1000000000∧0<S.N.nU∧0<S.N.nP:=by
 have h1:=h.n.c.num.p
 have h2:=h.n.nP
 have h3:=h.n.nU
 exact ⟨h.seen.1,h.oy.now.1,h.oy.now.2,by omega,by omega⟩
theorem lu {ops:Array Oper} {rest:List Oper} {o:Oper} {a:Act} {w:World} {Q:Exit→Act→World→Prop} (hw:Region.wanted o (yielded ops a.tmps)=true) (ty:TypeId) (n:Nat) (d:TypeDesc) (hu:Tryz.prog.underlying ty=some d) (hd:d.isRow=true) (hi:(Tryz.prog.info? ty).map (·.size)=some n) (x:Operand) (ho:o.op=.load ty x) (b off:Nat) (hx:a.eval x=.pointer (some ⟨b,off,none⟩))
  (cs:Array Value) (hs:cs.size=n) (hc:∀ j,j<n→w.cell? ⟨b,off+j,none⟩=cs[j]?) (h:wpList Tryz.prog ops Q rest (a.put o.dst (.agg cs)) w):wpList Tryz.prog ops Q (o :: rest) a w :=
 wpList_step fun K hK=>by
  rw [if_pos hw]
  unfold Oper.wp
  rw [gO ty n d hu hd hi x ho b off hx cs hs hc]
  exact hK _ _ h
theorem jN {w wi:World} {o o' o2:Obj} (h:Below (w.heap.size+3) (((w.alloc o).alloc o').alloc o2) wi):wi.heap[w.heap.size]?=some o∧wi.heap[w.heap.size+1]?=some o'∧wi.heap[w.heap.size+1+1]?=some o2:=by
 have e1:(w.alloc o).heap.size=w.heap.size+1:=by simp
 have e2:((w.alloc o).alloc o').heap.size=w.heap.size+1+1:=by simp
 refine ⟨(h.block _ (by omega)).trans ((fY _ (by omega)).trans ((fY _ (by omega)).trans (fK _ _))),(h.block _ (by omega)).trans ((fY _ (by omega)).trans ?_),(h.block _ (by omega)).trans ?_⟩
 ·
  have:=fK (w.alloc o) o'
  rw [e1] at this
  exact this
 have:=fK ((w.alloc o).alloc o') o2
 rw [e2] at this
 exact this
theorem jg {w wi:World} {o o' o2:Obj} (h:Below (w.heap.size+3) (((w.alloc o).alloc o').alloc o2) wi):Below w.heap.size w wi :=
 ((((Below.refl _ _).alloc (Nat.le_refl _) o).alloc (by simp) o').alloc (by simp;omega) o2).trans (h.mono (by omega))
theorem oO {w wi:World} {o o' o2:Obj} (h:Below (w.heap.size+3) (((w.alloc o).alloc o').alloc o2) wi):w.heap.size+3≤wi.heap.size:=by
 have:=h.size
 simpa using this
theorem o7 {w wi wj:World} {o o' o2:Obj} (h:Below (w.heap.size+3) (((w.alloc o).alloc o').alloc o2) wi) (k:Below wi.heap.size wi wj):Below (w.heap.size+3) (((w.alloc o).alloc o').alloc o2) wj :=
 h.trans (k.mono (oO h))
def Cnt.mG (N:Cnt) (i:Nat) (y:Int):Cnt:={ N with u:=Go.Proofs.YtjaobmbcmjgjgaaGreatDoor.mG N.u i y }
def Cnt.zP (N:Cnt) (y:Int):Cnt:={ N with lo:=N.lo+y }
def jt (N:Cnt) (ok:Bool):Cnt:=if ok then N else xX
structure mF (C:Cfg) (N:Cnt):Prop where
 u:2≤N.nU∧N.nU≤4
 p:2≤N.nP∧N.nP≤4
 lo:0≤N.lo∧N.lo≤1000
 at':∀ i,i<N.nU→0≤N.u i∧N.u i≤2000
theorem Cnt.Ok.facts {C:Cfg} {N:Cnt} (h:Cnt.Ok C N):mF C N:=by
 have h1:=h.nU
 have h2:=h.nP
 have h3:=h.c.num.p
 have h4:=h.lo
 have h5:=h.c.num.lo
 have h6:=h.c.num.xo
 have h7:=h.c.num.hd
 exact ⟨⟨by omega,by omega⟩,⟨by omega,by omega⟩,⟨by omega,by omega⟩,fun i hi=>by have:=h.u i hi;omega⟩
theorem mF.small {C:Cfg} {N:Cnt} (h:mF C N):N.Small:=⟨by have:=h.u;omega,by have:=h.p;omega⟩
theorem rj (C:Cfg) (N:Cnt) (i:Nat) (y:Int) (w:World) (hN:Cnt.Ok C N) (h:jo w N) (hi:i<N.nU) (hy1:-5≤y) (hy2:y≤5) (ok:Bool) (hok:ok=true↔Cnt.Ok C (N.mG i y)) :
  Calls Tryz.prog 158 #[.agg C.cells,.agg N.cells,.iface 175 (.agg #[.int .i64 (i:Int)]),.int .i64 y] w fun e w'=>∃ M:Cnt,e=.returned (.tuple #[.agg M.cells,.bool ok])∧gV w' w.heap.size M∧Below w.heap.size w w'∧gw (jt (N.mG i y) ok) M:=by
 have HO:Hid (ok=true↔Cnt.Ok C (N.mG i y)):=hok
 have HR:Hid (jo w N):=h
 have HFa:Hid (mF C N):=hN.facts
 have HB0:Hid (Below (w.heap.size+3) (((w.alloc (.cells #[.int .i64 C.p,.int .i64 C.c,.int .i64 C.xo,.int .i64 C.xn,.int .i64 C.hd,.int .i64 C.lo,.int .i64 C.dl] 37)).alloc (.cells #[.slice N.aU N.nU N.cU,.int .i64 N.lo,.slice N.aP N.nP N.cP] 39)).alloc (.cells #[.slice none 0 0,.int .i64 0,.slice none 0 0] 39)) (((w.alloc (.cells #[.int .i64 C.p,.int .i64 C.c,.int .i64 C.xo,.int .i64 C.xn,.int .i64 C.hd,.int .i64 C.lo,.int .i64 C.dl] 37)).alloc (.cells #[.slice N.aU N.nU N.cU,.int .i64 N.lo,.slice N.aP N.nP N.cP] 39)).alloc (.cells #[.slice none 0 0,.int .i64 0,.slice none 0 0] 39))):=Below.refl _ _
 have hsm:=HFa.out.small.u
 have HFit:Hid (N.nU≤maxLen∧N.nP≤maxLen):=⟨HFa.out.small.fit.u,HFa.out.small.fit.p⟩
 have hl1:=HFa.out.lo.1
 have hl2:=HFa.out.lo.2
 have hu1:=(HFa.out.at' i hi).1
 have hu2:=(HFa.out.at' i hi).2
 have hi2:(i:Int)<N.nU:=by omega
 have hnm:(N.nU:Int)≤1048576:=by omega
 clear hok h hN
 unfold Cfg.cells Cnt.cells
 go_enter Tryz.func158,Tryz.ntmps158
 go_wp2_with fail
 refine (kF N _ (by have:=HFa.out.u;omega) (by have:=HFa.out.p;omega) HFa.out.small (HR.out.up (jg HB0.out))).mono ?_
 rintro e w1 ⟨M,rfl,hM,hb1,hAM⟩
 have hB:=o7 HB0.out hb1
 have HL1:Hid (w.heap.size+3≤w1.heap.size):=oO hB
 have HMb:Hid (w.heap.size+3≤(((w.alloc (.cells #[.int .i64 C.p,.int .i64 C.c,.int .i64 C.xo,.int .i64 C.xn,.int .i64 C.hd,.int .i64 C.lo,.int .i64 C.dl] 37)).alloc (.cells #[.slice N.aU N.nU N.cU,.int .i64 N.lo,.slice N.aP N.nP N.cP] 39)).alloc (.cells #[.slice none 0 0,.int .i64 0,.slice none 0 0] 39)).heap.size):=by rw [Hid];simp
 obtain ⟨aU,nU',cU,u',lo',aP,nP',cP,p'⟩:=M
 obtain ⟨h1,h2,h3,h4,h5⟩:=hAM
 dsimp only at h1 h2 h3 h4 h5
 subst h1 h2 h3 h4 h5
 obtain ⟨hMu,hMp⟩:=hM
 dsimp only at hMu hMp
 rcases hMu with h0 | ⟨gU,rfl,hgU,hrU⟩
 ·
  have:=HFa.out.u
  omega
 have hVP:VT 4 w1 (w.heap.size+3) aP N.nP (fun i=>.bool (N.p i)):=hMp.mono HMb.out
 have HgU:Hid (w.heap.size+3≤gU):=Nat.le_trans HMb.out hgU
 clear hb1 hMp hgU
 have hA:=(Below.refl w1.heap.size w1).alloc (Nat.le_refl _) (.cells #[.slice (some ⟨gU,0,none⟩) N.nU cU,.int .i64 N.lo,.slice aP N.nP cP] 39)
 have kX:=fK w1 (.cells #[.slice (some ⟨gU,0,none⟩) N.nU cU,.int .i64 N.lo,.slice aP N.nP cP] 39)
 have l1:=hrU.lt
 have HgX:Hid (gU≠w1.heap.size):=by show gU≠w1.heap.size;omega
 replace hrU:=hrU.iB (hA.block _ hrU.lt)
 replace hVP:=hVP.up hA
 replace hB:=o7 hB hA
 have cb:=fF (jN hB).1
 clear hA l1
 dsimp only [Cnt.cells]
 go_wp2_with fail
 generalize w1.alloc (.cells #[.slice (some ⟨gU,0,none⟩) N.nU cU,.int .i64 N.lo,.slice aP N.nP cP] 39)=w2 at *
 refine (ml w1.heap.size gU N.nU cU i _ _ N.u y _ hi (by omega) kX hrU (by omega) (by omega)).mono ?_
 rintro e w3 ⟨rfl,hr3,ht3⟩
 have kX3:=(ht3.block _ (fG kX) (by have:=HgX.out;simp;omega)).trans kX
 have hM3:gV w3 (w.heap.size+3) ⟨some ⟨gU,0,none⟩,N.nU,cU,Go.Proofs.YtjaobmbcmjgjgaaGreatDoor.mG N.u i y,N.lo,aP,N.nP,cP,N.p⟩:=⟨VT.of HgU.out hr3,hVP.fL ht3 (fun x hx hy=>by simp at hy;subst hy;obtain ⟨arr,hk,_⟩:=hrU;exact VT.mq hVP (by decide) hk hx)⟩
 have kC3:=(ht3.block _ (fG (jN hB).1) (by have:=HgU.out;have:=HL1.out;simp;omega)).trans (jN hB).1
 have kR3:=(ht3.block _ (fG (jN hB).2.2) (by have:=HgU.out;have:=HL1.out;simp;omega)).trans (jN hB).2.2
 have B3:=(jg hB).trans (ht3.below (jg hB).size (fun x hx=>by have:=HgU.out;have:=HL1.out;simp at hx;omega))
 clear hB hrU hVP kX hr3 ht3 cb
 have cb:=fF kC3
 have cX:=fF kX3
 go_wp2_with fail
 refine (jS C ⟨some ⟨gU,0,none⟩,N.nU,cU,Go.Proofs.YtjaobmbcmjgjgaaGreatDoor.mG N.u i y,N.lo,aP,N.nP,cP,N.p⟩ _ ⟨HFit.out.1,HFit.out.2⟩ hM3.rd ok (HO.out.trans ⟨fun k=>⟨k.c,k.nU,k.nP,k.lo,k.u⟩,fun k=>⟨k.c,k.nU,k.nP,k.lo,k.u⟩⟩)).mono ?_
 rintro e w4 ⟨rfl,hb4⟩
 have hM4:=hM3.up hb4
 have kX4:=(hb4.block _ (fG kX3)).trans kX3
 have kR4:=(hb4.block _ (fG kR3)).trans kR3
 have B4:=B3.trans (hb4.mono B3.size)
 clear hM3 kX3 kR3 kC3 B3 hb4 cb cX
 have cR:=fF kR4
 have fR:=fZ kR4
 have cX:=fF kX4
 cases ok
 · exact cJ
 have kz3:=ja kR4 (.slice (some ⟨gU,0,none⟩) N.nU cU) (.int .i64 N.lo) (.slice aP N.nP cP)
 have HB:Hid (Below w.heap.size w (mc w4 (w.heap.size+1+1) (.slice (some ⟨gU,0,none⟩) N.nU cU) (.int .i64 N.lo) (.slice aP N.nP cP))):=B4.trans ((ie _ _ _ _ _).below B4.size (fun x hx=>by simp at hx;omega))
 have HM:Hid (gV (mc w4 (w.heap.size+1+1) (.slice (some ⟨gU,0,none⟩) N.nU cU) (.int .i64 N.lo) (.slice aP N.nP cP)) w.heap.size ⟨some ⟨gU,0,none⟩,N.nU,cU,Go.Proofs.YtjaobmbcmjgjgaaGreatDoor.mG N.u i y,N.lo,aP,N.nP,cP,N.p⟩):=(mK hM4 kR4).mono (by omega)
 have cB:=fF kz3
 clear kz3 kX4 kR4 B4 hM4
 unfold mc at cB
 go_wp2_with fail
 exact bodyPost_ret (v:=.tuple #[.agg #[.slice (some ⟨gU,0,none⟩) N.nU cU,.int .i64 N.lo,.slice aP N.nP cP],.bool true]) (by simp [results,Tryz.results158,go_sem,cB]) rfl ⟨⟨some ⟨gU,0,none⟩,N.nU,cU,Go.Proofs.YtjaobmbcmjgjgaaGreatDoor.mG N.u i y,N.lo,aP,N.nP,cP,N.p⟩,rfl,HM.out,HB.out,⟨rfl,rfl,rfl,rfl,rfl⟩⟩
theorem rm (C:Cfg) (N:Cnt) (y:Int) (w:World) (hN:Cnt.Ok C N) (h:jo w N) (hy1:-5≤y) (hy2:y≤5) (ok:Bool) (hok:ok=true↔Cnt.Ok C (N.zP y)) :
  Calls Tryz.prog 158 #[.agg C.cells,.agg N.cells,.iface 173 (.agg #[]),.int .i64 y] w fun e w'=>∃ M:Cnt,e=.returned (.tuple #[.agg M.cells,.bool ok])∧gV w' w.heap.size M∧Below w.heap.size w w'∧gw (jt (N.zP y) ok) M:=by
 have HO:Hid (ok=true↔Cnt.Ok C (N.zP y)):=hok
 have HR:Hid (jo w N):=h
 have HFa:Hid (mF C N):=hN.facts
 have HB0:Hid (Below (w.heap.size+3) (((w.alloc (.cells #[.int .i64 C.p,.int .i64 C.c,.int .i64 C.xo,.int .i64 C.xn,.int .i64 C.hd,.int .i64 C.lo,.int .i64 C.dl] 37)).alloc (.cells #[.slice N.aU N.nU N.cU,.int .i64 N.lo,.slice N.aP N.nP N.cP] 39)).alloc (.cells #[.slice none 0 0,.int .i64 0,.slice none 0 0] 39)) (((w.alloc (.cells #[.int .i64 C.p,.int .i64 C.c,.int .i64 C.xo,.int .i64 C.xn,.int .i64 C.hd,.int .i64 C.lo,.int .i64 C.dl] 37)).alloc (.cells #[.slice N.aU N.nU N.cU,.int .i64 N.lo,.slice N.aP N.nP N.cP] 39)).alloc (.cells #[.slice none 0 0,.int .i64 0,.slice none 0 0] 39))):=Below.refl _ _
 have hsm:=HFa.out.small.u
 have HFit:Hid (N.nU≤maxLen∧N.nP≤maxLen):=⟨HFa.out.small.fit.u,HFa.out.small.fit.p⟩
 have hl1:=HFa.out.lo.1
 have hl2:=HFa.out.lo.2
 clear hok h hN
 unfold Cfg.cells Cnt.cells
 go_enter Tryz.func158,Tryz.ntmps158
 go_wp2_with fail
 refine (kF N _ (by have:=HFa.out.u;omega) (by have:=HFa.out.p;omega) HFa.out.small (HR.out.up (jg HB0.out))).mono ?_
 rintro e w1 ⟨M,rfl,hM,hb1,hAM⟩
 have hB:=o7 HB0.out hb1
 have HL1:Hid (w.heap.size+3≤w1.heap.size):=oO hB
 have HMb:Hid (w.heap.size+3≤(((w.alloc (.cells #[.int .i64 C.p,.int .i64 C.c,.int .i64 C.xo,.int .i64 C.xn,.int .i64 C.hd,.int .i64 C.lo,.int .i64 C.dl] 37)).alloc (.cells #[.slice N.aU N.nU N.cU,.int .i64 N.lo,.slice N.aP N.nP N.cP] 39)).alloc (.cells #[.slice none 0 0,.int .i64 0,.slice none 0 0] 39)).heap.size):=by rw [Hid];simp
 obtain ⟨aU,nU',cU,u',lo',aP,nP',cP,p'⟩:=M
 obtain ⟨h1,h2,h3,h4,h5⟩:=hAM
 dsimp only at h1 h2 h3 h4 h5
 subst h1 h2 h3 h4 h5
 obtain ⟨hMu,hMp⟩:=hM
 dsimp only at hMu hMp
 rcases hMu with h0 | ⟨gU,rfl,hgU,hrU⟩
 ·
  have:=HFa.out.u
  omega
 have hVP:VT 4 w1 (w.heap.size+3) aP N.nP (fun i=>.bool (N.p i)):=hMp.mono HMb.out
 have HgU:Hid (w.heap.size+3≤gU):=Nat.le_trans HMb.out hgU
 clear hb1 hMp hgU
 have hA:=(Below.refl w1.heap.size w1).alloc (Nat.le_refl _) (.cells #[.slice (some ⟨gU,0,none⟩) N.nU cU,.int .i64 N.lo,.slice aP N.nP cP] 39)
 have kX:=fK w1 (.cells #[.slice (some ⟨gU,0,none⟩) N.nU cU,.int .i64 N.lo,.slice aP N.nP cP] 39)
 have l1:=hrU.lt
 have HgX:Hid (gU≠w1.heap.size):=by show gU≠w1.heap.size;omega
 replace hrU:=hrU.iB (hA.block _ hrU.lt)
 replace hVP:=hVP.up hA
 replace hB:=o7 hB hA
 have cb:=fF (jN hB).1
 clear hA l1
 dsimp only [Cnt.cells]
 go_wp2_with fail
 generalize w1.alloc (.cells #[.slice (some ⟨gU,0,none⟩) N.nU cU,.int .i64 N.lo,.slice aP N.nP cP] 39)=w2 at *
 refine (lW w1.heap.size _ _ N.lo y _ kX (by omega) (by omega)).mono ?_
 rintro e w3 ⟨rfl,kX3,ht3⟩
 have hM3:gV w3 (w.heap.size+3) ⟨some ⟨gU,0,none⟩,N.nU,cU,N.u,N.lo+y,aP,N.nP,cP,N.p⟩:=⟨VT.of HgU.out (hrU.iB (ht3.block _ hrU.lt (by have:=HgX.out;simp;omega))),hVP.fL ht3 (fun x hx hy=>by simp at hy;subst hy;exact VT.mq hVP (by decide) kX hx)⟩
 have kC3:=(ht3.block _ (fG (jN hB).1) (by have:=HgU.out;have:=HL1.out;simp;omega)).trans (jN hB).1
 have kR3:=(ht3.block _ (fG (jN hB).2.2) (by have:=HgU.out;have:=HL1.out;simp;omega)).trans (jN hB).2.2
 have B3:=(jg hB).trans (ht3.below (jg hB).size (fun x hx=>by have:=HgU.out;have:=HL1.out;simp at hx;omega))
 clear hB hrU hVP kX ht3 cb
 have cb:=fF kC3
 have cX:=fF kX3
 go_wp2_with fail
 refine (jS C ⟨some ⟨gU,0,none⟩,N.nU,cU,N.u,N.lo+y,aP,N.nP,cP,N.p⟩ _ ⟨HFit.out.1,HFit.out.2⟩ hM3.rd ok (HO.out.trans ⟨fun k=>⟨k.c,k.nU,k.nP,k.lo,k.u⟩,fun k=>⟨k.c,k.nU,k.nP,k.lo,k.u⟩⟩)).mono ?_
 rintro e w4 ⟨rfl,hb4⟩
 have hM4:=hM3.up hb4
 have kX4:=(hb4.block _ (fG kX3)).trans kX3
 have kR4:=(hb4.block _ (fG kR3)).trans kR3
 have B4:=B3.trans (hb4.mono B3.size)
 clear hM3 kX3 kR3 kC3 B3 hb4 cb cX
 have cR:=fF kR4
 have fR:=fZ kR4
 have cX:=fF kX4
 cases ok
 · exact cJ
 have kz3:=ja kR4 (.slice (some ⟨gU,0,none⟩) N.nU cU) (.int .i64 (N.lo+y)) (.slice aP N.nP cP)
 have HB:Hid (Below w.heap.size w (mc w4 (w.heap.size+1+1) (.slice (some ⟨gU,0,none⟩) N.nU cU) (.int .i64 (N.lo+y)) (.slice aP N.nP cP))):=B4.trans ((ie _ _ _ _ _).below B4.size (fun x hx=>by simp at hx;omega))
 have HM:Hid (gV (mc w4 (w.heap.size+1+1) (.slice (some ⟨gU,0,none⟩) N.nU cU) (.int .i64 (N.lo+y)) (.slice aP N.nP cP)) w.heap.size ⟨some ⟨gU,0,none⟩,N.nU,cU,N.u,N.lo+y,aP,N.nP,cP,N.p⟩):=(mK hM4 kR4).mono (by omega)
 have cB:=fF kz3
 clear kz3 kX4 kR4 B4 hM4
 unfold mc at cB
 go_wp2_with fail
 exact bodyPost_ret (v:=.tuple #[.agg #[.slice (some ⟨gU,0,none⟩) N.nU cU,.int .i64 (N.lo+y),.slice aP N.nP cP],.bool true]) (by simp [results,Tryz.results158,go_sem,cB]) rfl ⟨⟨some ⟨gU,0,none⟩,N.nU,cU,N.u,N.lo+y,aP,N.nP,cP,N.p⟩,rfl,HM.out,HB.out,⟨rfl,rfl,rfl,rfl,rfl⟩⟩
theorem qH (C:Cfg) (N:Cnt) (i:Nat) (y:Int) (w:World) (hN:Cnt.Ok C N) (h:jo w N) (hi:i<N.nU) (hy1:-5≤y) (hy2:y≤5) (ok:Bool) (hok:ok=true↔Cnt.Ok C (N.mG i y)) :
  Calls Tryz.prog 55 #[.agg C.cells,.agg N.cells,.int .i64 (i:Int),.int .i64 2,.int .i64 y] w fun e w'=>∃ M:Cnt,e=.returned (.tuple #[.agg M.cells,.bool ok])∧gV w' w.heap.size M∧Below w.heap.size w w'∧gw (jt (N.mG i y) ok) M:=by
 have HO:Hid (ok=true↔Cnt.Ok C (N.mG i y)):=hok
 have HR:Hid (jo w N):=h
 have HFa:Hid (mF C N):=hN.facts
 have HB0:Hid (Below (w.heap.size+3) (((w.alloc (.cells #[.int .i64 C.p,.int .i64 C.c,.int .i64 C.xo,.int .i64 C.xn,.int .i64 C.hd,.int .i64 C.lo,.int .i64 C.dl] 37)).alloc (.cells #[.slice N.aU N.nU N.cU,.int .i64 N.lo,.slice N.aP N.nP N.cP] 39)).alloc (.cells #[.slice none 0 0,.int .i64 0,.slice none 0 0] 39)) (((w.alloc (.cells #[.int .i64 C.p,.int .i64 C.c,.int .i64 C.xo,.int .i64 C.xn,.int .i64 C.hd,.int .i64 C.lo,.int .i64 C.dl] 37)).alloc (.cells #[.slice N.aU N.nU N.cU,.int .i64 N.lo,.slice N.aP N.nP N.cP] 39)).alloc (.cells #[.slice none 0 0,.int .i64 0,.slice none 0 0] 39))):=Below.refl _ _
 have hsm:=HFa.out.small.u
 have HFit:Hid (N.nU≤maxLen∧N.nP≤maxLen):=⟨HFa.out.small.fit.u,HFa.out.small.fit.p⟩
 have hl1:=HFa.out.lo.1
 have hl2:=HFa.out.lo.2
 have hu1:=(HFa.out.at' i hi).1
 have hu2:=(HFa.out.at' i hi).2
 have hi2:(i:Int)<N.nU:=by omega
 have hnm:(N.nU:Int)≤1048576:=by omega
 clear hok h hN
 unfold Cfg.cells Cnt.cells
 go_enter Tryz.func55,Tryz.ntmps55
 go_wp2_with fail
 refine (ny N _ (by have:=HFa.out.u;omega) (by have:=HFa.out.p;omega) HFa.out.small (HR.out.up (jg HB0.out))).mono ?_
 rintro e w1 ⟨M,rfl,hM,hb1,hAM⟩
 have hB:=o7 HB0.out hb1
 have HL1:Hid (w.heap.size+3≤w1.heap.size):=oO hB
 have HMb:Hid (w.heap.size+3≤(((w.alloc (.cells #[.int .i64 C.p,.int .i64 C.c,.int .i64 C.xo,.int .i64 C.xn,.int .i64 C.hd,.int .i64 C.lo,.int .i64 C.dl] 37)).alloc (.cells #[.slice N.aU N.nU N.cU,.int .i64 N.lo,.slice N.aP N.nP N.cP] 39)).alloc (.cells #[.slice none 0 0,.int .i64 0,.slice none 0 0] 39)).heap.size):=by rw [Hid];simp
 obtain ⟨aU,nU',cU,u',lo',aP,nP',cP,p'⟩:=M
 obtain ⟨h1,h2,h3,h4,h5⟩:=hAM
 dsimp only at h1 h2 h3 h4 h5
 subst h1 h2 h3 h4 h5
 obtain ⟨hMu,hMp⟩:=hM
 dsimp only at hMu hMp
 rcases hMu with h0 | ⟨gU,rfl,hgU,hrU⟩
 ·
  have:=HFa.out.u
  omega
 have hVP:VT 4 w1 (w.heap.size+3) aP N.nP (fun i=>.bool (N.p i)):=hMp.mono HMb.out
 have HgU:Hid (w.heap.size+3≤gU):=Nat.le_trans HMb.out hgU
 clear hb1 hMp hgU
 have hA:=(Below.refl w1.heap.size w1).alloc (Nat.le_refl _) (.cells #[.slice (some ⟨gU,0,none⟩) N.nU cU,.int .i64 N.lo,.slice aP N.nP cP] 39)
 have kX:=fK w1 (.cells #[.slice (some ⟨gU,0,none⟩) N.nU cU,.int .i64 N.lo,.slice aP N.nP cP] 39)
 have l1:=hrU.lt
 have HgX:Hid (gU≠w1.heap.size):=by show gU≠w1.heap.size;omega
 replace hrU:=hrU.iB (hA.block _ hrU.lt)
 replace hVP:=hVP.up hA
 replace hB:=o7 hB hA
 have cb:=fF (jN hB).1
 clear hA l1
 dsimp only [Cnt.cells]
 have cX:=fF kX
 have e1:IntKind.i64.wrap (N.u i+y)=N.u i+y:=mr _ (by omega) (by omega)
 go_wp2_with fail
 generalize w1.alloc (.cells #[.slice (some ⟨gU,0,none⟩) N.nU cU,.int .i64 N.lo,.slice aP N.nP cP] 39)=w2 at *
 obtain ⟨w3,hw3⟩:∃ w3,w3=(w2.setCell ⟨gU,i,none⟩ (.int .i64 (N.u i+y))).drew:=⟨_,rfl⟩
 have ht3:Touch [gU] w2 w3:=by
  rw [hw3]
  have t:=(Touch.refl [gU] w2).set (g:=gU) (by simp) i (.int .i64 (N.u i+y))
  exact ⟨t.os,t.tape,t.output,t.size,t.block⟩
 have hr3:fU gU 2 N.nU (fun k=>.int .i64 (Go.Proofs.YtjaobmbcmjgjgaaGreatDoor.mG N.u i y k)) N.nU w3:=by
  rw [hw3]
  exact ((hrU.yg i (.int .i64 (N.u i+y)) hi).iB (w':=(w2.setCell ⟨gU,i,none⟩ (.int .i64 (N.u i+y))).drew) rfl).Bh (fun j _=>by
   unfold Go.Proofs.YtjaobmbcmjgjgaaGreatDoor.mG
   by_cases e:j=i
   ·
    subst e;simp
   ·
    simp [e])
 have kX3:=(ht3.block _ (fG kX) (by have:=HgX.out;simp;omega)).trans kX
 have cX1:=fF kX3
 have c0:w2.drew.cell? ⟨gU,i,none⟩=some (.int .i64 (N.u i)):=hrU.at i hi
 have f0:w2.drew.frozen? ⟨gU,i,none⟩=false:=hrU.free i
 rw [hw3] at cX1
 refine wp_region_held_drew (S:=fun w'=>∀ o,w'.cell? ⟨w1.heap.size,o,none⟩=(#[.slice (some ⟨gU,0,none⟩) N.nU cU,.int .i64 N.lo,.slice aP N.nP cP]:Array Value)[o]?) (by kernel_rfl) cX (fun hHeld=>?_)
 refine t0 ?_
 iterate 6 refine tN ?_
 refine tQ 8 25 ?_
 refine rq1 7 (fun K hK=>?_)
 go_simp
 refine hK.out _ _ cX (fun hHeld=>?_)
 clear hK K
 try simp only [Act.put,PZ]
 refine tQ 9 26 ?_
 refine tQ 10 27 ?_
 refine rq1 11 (fun K hK=>?_)
 go_simp
 refine hK.out _ _ cX1 (fun hHeld=>?_)
 clear hK K
 try simp only [Act.put,PZ]
 refine dnq ?_
 rw [←hw3]
 clear hw3 c0 f0 cX cX1 hHeld
 have hM3:gV w3 (w.heap.size+3) ⟨some ⟨gU,0,none⟩,N.nU,cU,Go.Proofs.YtjaobmbcmjgjgaaGreatDoor.mG N.u i y,N.lo,aP,N.nP,cP,N.p⟩:=⟨VT.of HgU.out hr3,hVP.fL ht3 (fun x hx hy=>by simp at hy;subst hy;obtain ⟨arr,hk,_⟩:=hrU;exact VT.mq hVP (by decide) hk hx)⟩
 have kC3:=(ht3.block _ (fG (jN hB).1) (by have:=HgU.out;have:=HL1.out;simp;omega)).trans (jN hB).1
 have kR3:=(ht3.block _ (fG (jN hB).2.2) (by have:=HgU.out;have:=HL1.out;simp;omega)).trans (jN hB).2.2
 have B3:=(jg hB).trans (ht3.below (jg hB).size (fun x hx=>by have:=HgU.out;have:=HL1.out;simp at hx;omega))
 clear hB hrU hVP kX hr3 ht3 cb
 have cb:=fF kC3
 have cX:=fF kX3
 go_wp2_with fail
 refine (lv C ⟨some ⟨gU,0,none⟩,N.nU,cU,Go.Proofs.YtjaobmbcmjgjgaaGreatDoor.mG N.u i y,N.lo,aP,N.nP,cP,N.p⟩ _ ⟨HFit.out.1,HFit.out.2⟩ hM3.rd ok (HO.out.trans ⟨fun k=>⟨k.c,k.nU,k.nP,k.lo,k.u⟩,fun k=>⟨k.c,k.nU,k.nP,k.lo,k.u⟩⟩)).mono ?_
 rintro e w4 ⟨rfl,hb4⟩
 have hM4:=hM3.up hb4
 have kX4:=(hb4.block _ (fG kX3)).trans kX3
 have kR4:=(hb4.block _ (fG kR3)).trans kR3
 have B4:=B3.trans (hb4.mono B3.size)
 clear hM3 kX3 kR3 kC3 B3 hb4 cb cX
 have cR:=fF kR4
 have fR:=fZ kR4
 have cX:=fF kX4
 cases ok
 · exact cM
 have kz3:=ja kR4 (.slice (some ⟨gU,0,none⟩) N.nU cU) (.int .i64 N.lo) (.slice aP N.nP cP)
 have HB:Hid (Below w.heap.size w (mc w4 (w.heap.size+1+1) (.slice (some ⟨gU,0,none⟩) N.nU cU) (.int .i64 N.lo) (.slice aP N.nP cP))):=B4.trans ((ie _ _ _ _ _).below B4.size (fun x hx=>by simp at hx;omega))
 have HM:Hid (gV (mc w4 (w.heap.size+1+1) (.slice (some ⟨gU,0,none⟩) N.nU cU) (.int .i64 N.lo) (.slice aP N.nP cP)) w.heap.size ⟨some ⟨gU,0,none⟩,N.nU,cU,Go.Proofs.YtjaobmbcmjgjgaaGreatDoor.mG N.u i y,N.lo,aP,N.nP,cP,N.p⟩):=(mK hM4 kR4).mono (by omega)
 have cB:=fF kz3
 clear kz3 kX4 kR4 B4 hM4
 unfold mc at cB
 go_wp2_with fail
 exact bodyPost_ret (v:=.tuple #[.agg #[.slice (some ⟨gU,0,none⟩) N.nU cU,.int .i64 N.lo,.slice aP N.nP cP],.bool true]) (by simp [results,Tryz.results55,go_sem,cB]) rfl ⟨⟨some ⟨gU,0,none⟩,N.nU,cU,Go.Proofs.YtjaobmbcmjgjgaaGreatDoor.mG N.u i y,N.lo,aP,N.nP,cP,N.p⟩,rfl,HM.out,HB.out,⟨rfl,rfl,rfl,rfl,rfl⟩⟩
theorem qI (C:Cfg) (N:Cnt) (port prio:Int) (hne:prio≠2) (y:Int) (w:World) (hN:Cnt.Ok C N) (h:jo w N) (hy1:-5≤y) (hy2:y≤5) (ok:Bool) (hok:ok=true↔Cnt.Ok C (N.zP y)) :
  Calls Tryz.prog 55 #[.agg C.cells,.agg N.cells,.int .i64 port,.int .i64 prio,.int .i64 y] w fun e w'=>∃ M:Cnt,e=.returned (.tuple #[.agg M.cells,.bool ok])∧gV w' w.heap.size M∧Below w.heap.size w w'∧gw (jt (N.zP y) ok) M:=by
 have HO:Hid (ok=true↔Cnt.Ok C (N.zP y)):=hok
 have HR:Hid (jo w N):=h
 have HFa:Hid (mF C N):=hN.facts
 have HB0:Hid (Below (w.heap.size+3) (((w.alloc (.cells #[.int .i64 C.p,.int .i64 C.c,.int .i64 C.xo,.int .i64 C.xn,.int .i64 C.hd,.int .i64 C.lo,.int .i64 C.dl] 37)).alloc (.cells #[.slice N.aU N.nU N.cU,.int .i64 N.lo,.slice N.aP N.nP N.cP] 39)).alloc (.cells #[.slice none 0 0,.int .i64 0,.slice none 0 0] 39)) (((w.alloc (.cells #[.int .i64 C.p,.int .i64 C.c,.int .i64 C.xo,.int .i64 C.xn,.int .i64 C.hd,.int .i64 C.lo,.int .i64 C.dl] 37)).alloc (.cells #[.slice N.aU N.nU N.cU,.int .i64 N.lo,.slice N.aP N.nP N.cP] 39)).alloc (.cells #[.slice none 0 0,.int .i64 0,.slice none 0 0] 39))):=Below.refl _ _
 have hsm:=HFa.out.small.u
 have HFit:Hid (N.nU≤maxLen∧N.nP≤maxLen):=⟨HFa.out.small.fit.u,HFa.out.small.fit.p⟩
 have hl1:=HFa.out.lo.1
 have hl2:=HFa.out.lo.2
 have hne':(prio == 2)=false:=by simpa using hne
 clear hok h hN
 unfold Cfg.cells Cnt.cells
 go_enter Tryz.func55,Tryz.ntmps55
 go_wp2_with fail
 refine (ny N _ (by have:=HFa.out.u;omega) (by have:=HFa.out.p;omega) HFa.out.small (HR.out.up (jg HB0.out))).mono ?_
 rintro e w1 ⟨M,rfl,hM,hb1,hAM⟩
 have hB:=o7 HB0.out hb1
 have HL1:Hid (w.heap.size+3≤w1.heap.size):=oO hB
 have HMb:Hid (w.heap.size+3≤(((w.alloc (.cells #[.int .i64 C.p,.int .i64 C.c,.int .i64 C.xo,.int .i64 C.xn,.int .i64 C.hd,.int .i64 C.lo,.int .i64 C.dl] 37)).alloc (.cells #[.slice N.aU N.nU N.cU,.int .i64 N.lo,.slice N.aP N.nP N.cP] 39)).alloc (.cells #[.slice none 0 0,.int .i64 0,.slice none 0 0] 39)).heap.size):=by rw [Hid];simp
 obtain ⟨aU,nU',cU,u',lo',aP,nP',cP,p'⟩:=M
 obtain ⟨h1,h2,h3,h4,h5⟩:=hAM
 dsimp only at h1 h2 h3 h4 h5
 subst h1 h2 h3 h4 h5
 obtain ⟨hMu,hMp⟩:=hM
 dsimp only at hMu hMp
 rcases hMu with h0 | ⟨gU,rfl,hgU,hrU⟩
 ·
  have:=HFa.out.u
  omega
 have hVP:VT 4 w1 (w.heap.size+3) aP N.nP (fun i=>.bool (N.p i)):=hMp.mono HMb.out
 have HgU:Hid (w.heap.size+3≤gU):=Nat.le_trans HMb.out hgU
 clear hb1 hMp hgU
 have hA:=(Below.refl w1.heap.size w1).alloc (Nat.le_refl _) (.cells #[.slice (some ⟨gU,0,none⟩) N.nU cU,.int .i64 (N.lo+y),.slice aP N.nP cP] 39)
 have kX:=fK w1 (.cells #[.slice (some ⟨gU,0,none⟩) N.nU cU,.int .i64 (N.lo+y),.slice aP N.nP cP] 39)
 have l1:=hrU.lt
 have HgX:Hid (gU≠w1.heap.size):=by show gU≠w1.heap.size;omega
 replace hrU:=hrU.iB (hA.block _ hrU.lt)
 replace hVP:=hVP.up hA
 replace hB:=o7 hB hA
 have cb:=fF (jN hB).1
 clear hA l1
 dsimp only [Cnt.cells]
 have e1:IntKind.i64.wrap (N.lo+y)=N.lo+y:=mr _ (by omega) (by omega)
 have hM3:gV (w1.alloc (.cells #[.slice (some ⟨gU,0,none⟩) N.nU cU,.int .i64 (N.lo+y),.slice aP N.nP cP] 39)) (w.heap.size+3) ⟨some ⟨gU,0,none⟩,N.nU,cU,N.u,N.lo+y,aP,N.nP,cP,N.p⟩:=⟨VT.of HgU.out hrU,hVP⟩
 have kX3:=kX
 have kC3:=(jN hB).1
 have kR3:=(jN hB).2.2
 have B3:=jg hB
 clear hB hrU hVP kX cb
 have cb:=fF kC3
 have cX3:=fF kX3
 go_wp2_with fail
 generalize w1.alloc (.cells #[.slice (some ⟨gU,0,none⟩) N.nU cU,.int .i64 (N.lo+y),.slice aP N.nP cP] 39)=w3 at *
 clear cX3
 refine (lv C ⟨some ⟨gU,0,none⟩,N.nU,cU,N.u,N.lo+y,aP,N.nP,cP,N.p⟩ _ ⟨HFit.out.1,HFit.out.2⟩ hM3.rd ok (HO.out.trans ⟨fun k=>⟨k.c,k.nU,k.nP,k.lo,k.u⟩,fun k=>⟨k.c,k.nU,k.nP,k.lo,k.u⟩⟩)).mono ?_
 rintro e w4 ⟨rfl,hb4⟩
 have hM4:=hM3.up hb4
 have kX4:=(hb4.block _ (fG kX3)).trans kX3
 have kR4:=(hb4.block _ (fG kR3)).trans kR3
 have B4:=B3.trans (hb4.mono B3.size)
 clear hM3 kX3 kR3 kC3 B3 hb4 cb
 have cR:=fF kR4
 have fR:=fZ kR4
 have cX:=fF kX4
 cases ok
 · exact cM
 have kz3:=ja kR4 (.slice (some ⟨gU,0,none⟩) N.nU cU) (.int .i64 (N.lo+y)) (.slice aP N.nP cP)
 have HB:Hid (Below w.heap.size w (mc w4 (w.heap.size+1+1) (.slice (some ⟨gU,0,none⟩) N.nU cU) (.int .i64 (N.lo+y)) (.slice aP N.nP cP))):=B4.trans ((ie _ _ _ _ _).below B4.size (fun x hx=>by simp at hx;omega))
 have HM:Hid (gV (mc w4 (w.heap.size+1+1) (.slice (some ⟨gU,0,none⟩) N.nU cU) (.int .i64 (N.lo+y)) (.slice aP N.nP cP)) w.heap.size ⟨some ⟨gU,0,none⟩,N.nU,cU,N.u,N.lo+y,aP,N.nP,cP,N.p⟩):=(mK hM4 kR4).mono (by omega)
 have cB:=fF kz3
 clear kz3 kX4 kR4 B4 hM4
 unfold mc at cB
 go_wp2_with fail
 exact bodyPost_ret (v:=.tuple #[.agg #[.slice (some ⟨gU,0,none⟩) N.nU cU,.int .i64 (N.lo+y),.slice aP N.nP cP],.bool true]) (by simp [results,Tryz.results55,go_sem,cB]) rfl ⟨⟨some ⟨gU,0,none⟩,N.nU,cU,N.u,N.lo+y,aP,N.nP,cP,N.p⟩,rfl,HM.out,HB.out,⟨rfl,rfl,rfl,rfl,rfl⟩⟩
end Go.Proofs.YtjaobmbcmjgjgaaGreatDoor
