import Derived.Test.YtjaobmbcmjgjgaaGreatDoorA18
import Derived.Test.YtjaobmbcmjgjgaaGreatDoorProg
import Derived.Shelf.LaysM
import Derived.Shelf.Strconv.Clone
namespace Go.Proofs.YtjaobmbcmjgjgaaGreatDoor
set_option maxRecDepth 10000
set_option maxHeartbeats 2000000
open Go.RowKit
set_option linter.unusedVariables false
set_option linter.unusedSimpArgs false
theorem cj {p:Prop} (h:p:=by
 rcases List.mem_append.1 hx with hx | hx
 ·
  rw [j9 hx];omega
 exact cG):p:=h
theorem cm {p:Prop} (h:p:=by
 intro x hx
 rcases h.2 with ⟨e,_⟩ | ⟨g,cap,cur,e,hg,hbk,_⟩
 ·
  cases e
  simp [gi] at hx
 cases e
 simp [gi] at hx
 subst hx
 exact ⟨hg,fG hbk⟩):p:=h
theorem cr {p:Prop} (h:p:=by
 refine ⟨h.1,h.2.imp id ?_⟩
 rintro ⟨g,cap,cur,e,hg,hbk,hr⟩
 exact ⟨g,cap,cur,e,hg,(hb.block g (fG hbk)).trans hbk,hr⟩):p:=h
theorem ct {p:Prop} (h:p:=by
 intro x hx hy
 have h1:=(h.blk x hx).2
 have h2:=(h'.blk x hy).1
 omega):p:=h
theorem cu {p:Prop} (h:p:=by
 refine ⟨h.1,h.2.imp id ?_⟩
 rintro ⟨g,cap,cur,e,hg,hr⟩
 exact ⟨g,cap,cur,e,by omega,hr⟩):p:=h
theorem cw {p:Prop} (h:p:=by
 rcases List.mem_append.1 hx with hx | hx
 ·
  rw [j9 hx];omega
 exact cj):p:=h
theorem cx {p:Prop} (h:p:=by
 obtain ⟨i,hi,hx⟩:=iC.1 hx
 exact OG.type (t:=2) (sz:=1) (h.z i hi) x hx):p:=h
theorem cy {p:Prop} (h:p:=by
 obtain ⟨i,hi,hx⟩:=ig.1 hx
 have:=h2 i hi
 rw [j9 hx];omega):p:=h
theorem cG {p:Prop} (h:p:=by
 obtain ⟨i,hi,hx⟩:=ig.1 hx
 have:=h7 i hi
 rw [j9 hx];omega):p:=h
theorem xQ {W:World} {v:Value} {c:Nat} {base:Nat} (h:W.ownsRow base 2 1 v 0 []) :
  (Builtin.append_ #[25,25] 25 #[v,.slice none 0 c]).run Tryz.prog W=.ok v W:=by
 obtain ⟨i0,hi,hz0,hz1,hz2⟩:=info_parts pH
 rcases h.2 with ⟨rfl,_⟩ | ⟨g,cap,cur,rfl,_⟩
 ·
  simp [Builtin.append_,run_underlying Tryz.underlying25,sizeOf,typeInfo,hi,Builtin.lenOf,Builtin.firstCells,loadCells,loadCellsFrom]
 simp [Builtin.append_,run_underlying Tryz.underlying25,sizeOf,typeInfo,hi,Builtin.lenOf,Builtin.firstCells,loadCells,loadCellsFrom,storeCells]
def OI (w:World) (base:Nat) (a:Option Addr) (n c:Nat) (f:Nat→Int):Prop:=w.ownsRow base 2 1 (.slice a n c) n (ke n f)
def gi (a:Option Addr):List Nat:=(a.map (·.block)).toList
theorem iU {a:Option Addr} {n x:Nat} (h:x∈jO a n):x∈gi a:=by
 unfold jO at h
 split at h
 ·
  simp at h
 exact h
theorem OI.vi {w:World} {base:Nat} {a:Option Addr} {n c:Nat} {f:Nat→Int} (h:OI w base a n c f):VI w base a n f:=by
 obtain ⟨a',c',e,hv⟩:=yl h
 cases e
 exact hv
theorem OI.up {w w':World} {base:Nat} {a:Option Addr} {n c:Nat} {f:Nat→Int} (h:OI w base a n c f) (hb:Below w.heap.size w w'):OI w' base a n c f:=cr
theorem OI.Cq {w w':World} {base:Nat} {a:Option Addr} {n c:Nat} {f:Nat→Int} {S:List Nat} (h:OI w base a n c f) (ht:Touch S w w') (hS:∀ g arr,w.heap[g]?=some (.cells arr 2 (0,0))→g∉S):OI w' base a n c f:=by
 refine ⟨h.1,h.2.imp id ?_⟩
 rintro ⟨g,cap,cur,e,hg,hbk,hr⟩
 exact ⟨g,cap,cur,e,hg,(ht.block g (fG hbk) (hS g cur hbk)).trans hbk,hr⟩
theorem OI.blk {w:World} {base:Nat} {a:Option Addr} {n c:Nat} {f:Nat→Int} (h:OI w base a n c f):∀ x∈gi a,base≤x∧x<w.heap.size:=cm
theorem OI.mono {w:World} {base base':Nat} {a:Option Addr} {n c:Nat} {f:Nat→Int} (h:OI w base a n c f) (hb:base'≤base):OI w base' a n c f:=cu
theorem l9 {W:World} {base:Nat} {v:Value} {a:Option Addr} {n c:Nat} {f:Nat→Int} (h:W.ownsRow base 2 1 v 0 []) (hb:base≤W.heap.size) (hn:n≤1048576) (hr:fW W a n fun i=>.int .i64 (f i)) :
  ∃ a' c' W',(Builtin.append_ #[25,25] 25 #[v,.slice a n c]).run Tryz.prog W=.ok (.slice a' n c') W'∧OI W' base a' n c' f∧W.grownBy W' v.ownBlock∧(∀ x∈gi a',some x=v.ownBlock∨x=W.heap.size):=by
 have fin:∀ (v':Value) (W':World),W'.ownsRow base 2 1 v' n (ke n f)→(v'.ownBlock=v.ownBlock∨v'.ownBlock=some W.heap.size)→∃ a' c',v'=.slice a' n c'∧OI W' base a' n c' f∧(∀ x∈gi a',some x=v.ownBlock∨x=W.heap.size):=by
  intro v' W' h2 h5
  obtain ⟨a',c',rfl,hv⟩:=yl h2
  refine ⟨a',c',rfl,h2,fun x hx=>?_⟩
  cases a' with
  | none=>simp [gi] at hx
  | some ad =>
   simp [gi] at hx
   subst hx
   rcases h5 with h5 | h5
   ·
    exact .inl (by rw [←h5];rfl)
   right
   simpa [Value.ownBlock] using h5
 by_cases h0:n=0
 ·
  subst h0
  cases a with
  | none =>
   obtain ⟨a',c',rfl,hv,hx⟩:=fin v W (by simpa [ke] using h) (.inl rfl)
   exact ⟨a',c',W,xQ h,hv,⟨rfl,rfl,rfl,Nat.le_refl _,fun _ _ _=>rfl⟩,hx⟩
  | some ad =>
   obtain ⟨i0,hi,hz0,hz1,hz2⟩:=info_parts pH
   obtain ⟨v',w',hr',h2,h3,h4,h5⟩:=run_append_own_at (P:=Tryz.prog) W base 25 25 2 i0 (.int .i64 0) 1 8 Tryz.underlying25 hi hz0 hz1 hz2 rfl (by decide) v 0 [] h ad 0 c [] rfl (fun j u hj=>by simp at hj) (fun u hu=>by simp at hu) (by unfold maxLen;omega) (by omega) hb
   obtain ⟨a',c',rfl,hv,hx⟩:=fin v' w' (by simpa [ke] using h2) h5
   exact ⟨a',c',w',hr',hv,h3,hx⟩
 obtain ⟨g,q,rfl,_⟩:=hr 0 (by omega)
 obtain ⟨i0,hi,hz0,hz1,hz2⟩:=info_parts pH
 obtain ⟨v',w',hr',h2,h3,h4,h5⟩:=run_append_own_at (P:=Tryz.prog) W base 25 25 2 i0 (.int .i64 0) 1 8 Tryz.underlying25 hi hz0 hz1 hz2 rfl (by decide) v 0 [] h ⟨g,q,none⟩ n c (ke n f) (by rw [ti];omega) (fun j u hj=>by
  obtain ⟨hjn,rfl⟩:=yS hj
  have e:(⟨g,q,none⟩:Addr).add j=⟨g,q+j,none⟩:=by unfold Addr.add;split <;> simp_all
  rw [e]
  obtain ⟨g',o',e,hc⟩:=hr j hjn
  cases e
  exact hc) (fun u hu=>by
  obtain ⟨j,_,rfl⟩:=List.mem_map.1 hu
  rfl) (by unfold maxLen;omega) (by omega) hb
 rw [Nat.zero_add,List.nil_append] at h2
 obtain ⟨a',c',rfl,hv,hx⟩:=fin v' w' h2 h5
 exact ⟨a',c',w',hr',hv,h3,hx⟩
theorem jC (a:Option Addr) (n cap:Nat) (f:Nat→Int) (w:World) (hn:n≤1048576) (h:fW w a n fun i=>.int .i64 (f i)) :
  Calls Tryz.prog 111 #[.slice a n cap] w fun e w'=>∃ a' c',e=.returned (.slice a' n c')∧OI w' w.heap.size a' n c' f∧Below w.heap.size w w':=by
 obtain ⟨a',c',W',hr,hv,hg,hp⟩:=l9 (W:=w) (base:=w.heap.size) (v:=.slice none 0 0) (c:=cap) (World.ownsRow_nil _ _ _ _) (Nat.le_refl _) hn h
 have hB:Below w.heap.size w W':=(Below.refl _ _).grown hg (Nat.le_refl _) (fun k e=>by simp [Value.ownBlock] at e)
 have HV:Hid (OI W' w.heap.size a' n c' f):=hv
 clear hv hg hp h
 go_enter Tryz.func111,Tryz.ntmps111
 go_wp2_with (at_builtin;refine Lib.wpList_append_run _ rfl _ _ _ _ rfl _ _ rfl rfl _ _ hr ?_)
 go_ret
 exact ⟨_,_,rfl,HV.out,hB⟩
theorem zK {W W':World} {base b2:Nat} {a a':Option Addr} {n n':Nat} {f f':Nat→Int} (h:VI W base a n f) (h':VI W' b2 a' n' f') (hb:W.heap.size≤b2):jy a n a' n':=ct
theorem mg {W W':World} {base b2:Nat} {a a':Option Addr} {n n' c':Nat} {f f':Nat→Int} (h:VI W base a n f) (h':OI W' b2 a' n' c' f') (hb:W.heap.size≤b2):∀ x∈jO a n,x∉gi a':=ct
theorem lI {W W':World} {base b2:Nat} {a a':Option Addr} {n c n' c':Nat} {f f':Nat→Int} (h:OI W base a n c f) (h':OI W' b2 a' n' c' f') (hb:W.heap.size≤b2):∀ x∈gi a,x∉gi a':=ct
structure Cp (R:Rnd) (base:Nat) (W:World) (aQ:Option Addr) (aD:Option Addr) (gS:Nat) (A:Nat→Option Addr) (C:Nat→Nat) (k:Nat):Prop where
 q:VI W base aQ R.nQ R.q
 d:VI W base aD R.nD R.d
 s:VS W base (some ⟨gS,0,none⟩) R.nS fun i=>if i<k then .slice (A i) (R.L i) (C i) else .slice none 0 0
 z:∀ i,i<k→OI W base (A i) (R.L i) (C i) (R.z i)
 qd:jy aQ R.nQ aD R.nD
 qz:∀ i,i<k→∀ x∈jO aQ R.nQ,x∉gi (A i)
 dz:∀ i,i<k→∀ x∈jO aD R.nD,x∉gi (A i)
 zz:∀ i j,i<k→j<k→i≠j→∀ x∈gi (A i),x∉gi (A j)
theorem Cp.up {R:Rnd} {base:Nat} {W W':World} {aQ aD:Option Addr} {gS:Nat} {A:Nat→Option Addr} {C:Nat→Nat} {k:Nat} (h:Cp R base W aQ aD gS A C k) (hb:Below W.heap.size W W'):Cp R base W' aQ aD gS A C k :=
 ⟨h.q.up hb,h.d.up hb,h.s.up hb,fun i hi=>(h.z i hi).up hb,h.qd,h.qz,h.dz,h.zz⟩
theorem Cp.next {R:Rnd} {base:Nat} {W W':World} {aQ aD:Option Addr} {gS:Nat} {A:Nat→Option Addr} {C:Nat→Nat} {k:Nat} {a':Option Addr} {c':Nat} (h:Cp R base W aQ aD gS A C k) (hk:k<R.nS) (hb:Below W.heap.size W W') (hB:base≤W.heap.size)
  (hv:OI W' W.heap.size a' (R.L k) c' (R.z k)):Cp R base (W'.setCell ⟨gS,k,none⟩ (.slice a' (R.L k) c')) aQ aD gS (fun i=>if i=k then a' else A i) (fun i=>if i=k then c' else C i) (k+1):=by
 have h1:=h.up hb
 rcases h1.s with h0 | ⟨g,hg,hbg,hr⟩
 ·
  omega
 cases hg
 have ht:Touch [gS] W' (W'.setCell ⟨gS,k,none⟩ (.slice a' (R.L k) c')):=(Touch.refl _ _).set (by simp) k _
 have key:∀ {a:Option Addr} {n b2:Nat} {f:Nat→Int},VI W' b2 a n f→VI (W'.setCell ⟨gS,k,none⟩ (.slice a' (R.L k) c')) b2 a n f:=fun hv=>hv.fL ht (fun x hx hx2=>by
  simp at hx2
  subst hx2
  obtain ⟨arr,h2,_⟩:=hr
  exact A8 hv (by decide) h2 hx)
 have keyO:∀ {a:Option Addr} {n c b2:Nat} {f:Nat→Int},OI W' b2 a n c f→OI (W'.setCell ⟨gS,k,none⟩ (.slice a' (R.L k) c')) b2 a n c f:=fun hv=>hv.Cq ht (fun g arr hg hx2=>by
  simp at hx2
  subst hx2
  obtain ⟨arr',h2,_⟩:=hr
  rw [hg] at h2
  simp at h2)
 refine ⟨key h1.q,key h1.d,.inr ⟨gS,rfl,hbg,?_⟩,fun i hi=>?_,h.qd,fun i hi=>?_,fun i hi=>?_,fun i j hi hj hne=>?_⟩
 ·
  obtain ⟨arr,h2,h3,h4⟩:=hr
  refine ⟨_,gv h2 _,by simpa using h3,fun i hi=>?_⟩
  by_cases e:i=k
  ·
   subst e
   dsimp only
   rw [if_pos (show i<i+1 by omega),if_pos rfl,if_pos rfl]
   exact Array.getElem?_setIfInBounds_self_of_lt (by omega)
  rw [Array.getElem?_setIfInBounds_ne (by omega),h4 i hi]
  show some (if i<k then _ else _)=some (if i<k+1 then _ else _)
  by_cases h5:i<k
  ·
   rw [if_pos h5,if_pos (by omega),if_neg e,if_neg e]
  rw [if_neg h5,if_neg (by omega)]
 ·
  by_cases e:i=k
  ·
   subst e
   simp only [if_true]
   exact (keyO hv).mono hB
  simp only [if_neg e]
  exact keyO (h1.z i (by omega))
 ·
  by_cases e:i=k
  ·
   subst e
   simp only [if_true]
   exact mg h.q hv (Nat.le_refl _)
  simp only [if_neg e]
  exact h.qz i (by omega)
 ·
  by_cases e:i=k
  ·
   subst e
   simp only [if_true]
   exact mg h.d hv (Nat.le_refl _)
  simp only [if_neg e]
  exact h.dz i (by omega)
 by_cases e:i=k
 ·
  subst e
  simp only [if_true,if_neg (Ne.symm hne)]
  exact fun x hx hy=>lI (h.z j (by omega)) hv (Nat.le_refl _) x hy hx
 by_cases e2:j=k
 ·
  subst e2
  simp only [if_true,if_neg e]
  exact lI (h.z i (by omega)) hv (Nat.le_refl _)
 simp only [if_neg e,if_neg e2]
 exact h.zz i j (by omega) (by omega) hne
def Rnd.cp (R:Rnd) (aQ:Option Addr) (cQ:Nat) (aD:Option Addr) (cD gS:Nat) (A:Nat→Option Addr) (C:Nat→Nat):Rnd :=
 ⟨aQ,R.nQ,cQ,R.q,aD,R.nD,cD,R.d,R.turn,R.fresh,some ⟨gS,0,none⟩,R.nS,R.nS,A,R.L,C,R.z⟩
structure iv (w:World) (base:Nat) (R:Rnd):Prop where
 own:mj w base R
 z:∀ i,i<R.nS→OI w base (R.A i) (R.L i) (R.C i) (R.z i)
 qz:∀ i,i<R.nS→∀ x∈jO R.aQ R.nQ,x∉gi (R.A i)
 dz:∀ i,i<R.nS→∀ x∈jO R.aD R.nD,x∉gi (R.A i)
 zz:∀ i j,i<R.nS→j<R.nS→i≠j→∀ x∈gi (R.A i),x∉gi (R.A j)
theorem Cp.own {R:Rnd} {base:Nat} {W:World} {aQ aD:Option Addr} {gS:Nat} {A:Nat→Option Addr} {C:Nat→Nat} (h:Cp R base W aQ aD gS A C R.nS) (cQ cD:Nat):iv W base (R.cp aQ cQ aD cD gS A C) :=
 ⟨⟨h.q,h.d,h.s.imp id (by
  rintro ⟨g,ha,hg,hr⟩
  exact ⟨g,ha,hg,hr.ext (fun i hi=>by rw [if_pos hi];rfl)⟩),fun i hi=>(h.z i hi).vi,h.qd,fun i hi x hx hy=>h.qz i hi x hx (iU hy),fun i hi x hx hy=>h.dz i hi x hx (iU hy),fun i j hi hj hne x hx hy=>h.zz i j hi hj hne x (iU hx) (iU hy)⟩,h.z,h.qz,h.dz,h.zz⟩
theorem iv.kO {w w':World} {base:Nat} {R:Rnd} {S:List Nat} (h:iv w base R) (ht:Touch S w w') (hS:∀ x∈S,x<base):iv w' base R :=
 ⟨h.own.kO ht hS,fun i hi=>by
  refine ⟨(h.z i hi).1,(h.z i hi).2.imp id ?_⟩
  rintro ⟨g,cap,cur,e,hg,hbk,hr⟩
  exact ⟨g,cap,cur,e,hg,(ht.block g (fG hbk) (fun hx=>by have:=hS g hx;omega)).trans hbk,hr⟩,h.qz,h.dz,h.zz⟩
theorem iv.mono {w:World} {base base':Nat} {R:Rnd} (h:iv w base R) (hb:base'≤base):iv w base' R:=⟨h.own.mono hb,fun i hi=>(h.z i hi).mono hb,h.qz,h.dz,h.zz⟩
theorem iv.up {w w':World} {base:Nat} {R:Rnd} (h:iv w base R) (hb:Below w.heap.size w w'):iv w' base R:=⟨h.own.up hb,fun i hi=>(h.z i hi).up hb,h.qz,h.dz,h.zz⟩
theorem js {fn:Func} {i:Tmp} {ty:TypeId} (h:fn.results=#[.cell i ty]) (n:Nat) (d:TypeDesc) (hu:Tryz.prog.underlying ty=some d) (hd:d.isRow=true) (hn:(Tryz.prog.info? ty).map (·.size)=some n) (tmps:Array Value) (w:World) (g:Nat) (cs:Array Value) (hi:tmps[i]?.getD undef=.pointer (some ⟨g,0,none⟩)) (t:TypeId) (hk:w.heap[g]?=some (.cells cs t (0,0))) (hs:cs.size=n) :
  (results fn tmps).run Tryz.prog w=.ok (.agg cs) w:=by
 have:=run_loadVar_mid (P:=Tryz.prog) w g 0 ty cs.toList d (fun j v hv=>by
  rw [Nat.zero_add,fF hk,←Array.getElem?_toList];exact hv) hu hd (by rw [hn,Array.length_toList,hs])
 rw [Array.toArray_toList] at this
 simp [results,h,hi,asAddr,this]
structure gI (w:World) (A B C:Array Value) (tA tB:TypeId) (W:World):Prop where
 a:W.heap[w.heap.size]?=some (.cells A tA (0,0))
 b:W.heap[w.heap.size+1]?=some (.cells B tB (0,0))
 c:W.heap[w.heap.size+1+1]?=some (.cells C tB (0,0))
 bel:Below w.heap.size w W
 sz:w.heap.size+1+1+1≤W.heap.size
theorem gI.start (w:World) (A B C:Array Value) (tA tB:TypeId):gI w A B C tA tB (((w.alloc (.cells A tA)).alloc (.cells B tB)).alloc (.cells C tB)):=by
 obtain ⟨h1,h2,h3,h4,h5⟩:=mu (w:=w) (A:=.cells A tA) (B:=.cells B tB) (C:=.cells C tB) (Below.refl _ _)
 exact ⟨h1,h2,h3,h4,h5⟩
theorem gI.up {w W W':World} {A B C:Array Value} {tA tB:TypeId} (h:gI w A B C tA tB W) (hb:Below W.heap.size W W'):gI w A B C tA tB W' :=
 ⟨(hb.block _ (fG h.a)).trans h.a,(hb.block _ (fG h.b)).trans h.b,(hb.block _ (fG h.c)).trans h.c,h.bel.trans (hb.mono h.bel.size),Nat.le_trans h.sz hb.size⟩
theorem gI.put {w W W':World} {A B C C':Array Value} {tA tB:TypeId} (h:gI w A B C tA tB W) (hp:Put W W' (w.heap.size+1+1) C' tB):gI w A B C' tA tB W' :=
 ⟨(hp.to.block _ (fG h.a) (by simp;omega)).trans h.a,(hp.to.block _ (fG h.b) (by simp)).trans h.b,hp.blk,h.bel.trans (hp.to.below h.bel.size (fun x hx=>by simp at hx;omega)),by rw [hp.size];exact h.sz⟩
theorem gI.out {w W W':World} {A B C B':Array Value} {tA tB:TypeId} (h:gI w A B C tA tB W) (hp:Put W W' (w.heap.size+1) B' tB):gI w A B' C tA tB W' :=
 ⟨(hp.to.block _ (fG h.a) (by simp)).trans h.a,hp.blk,(hp.to.block _ (fG h.c) (by simp)).trans h.c,h.bel.trans (hp.to.below h.bel.size (fun x hx=>by simp at hx;omega)),by rw [hp.size];exact h.sz⟩
theorem j6:(Tryz.prog.info? 94).map (·.size)=some 8:=by kernel_rfl
theorem ir:(Tryz.prog.info? 99).map (·.size)=some 8:=by kernel_rfl
theorem ix:(Tryz.prog.info? 47).map (·.size)=some 5:=by kernel_rfl
theorem iP:(Tryz.prog.info? 2).map (·.size)=some 1:=by kernel_rfl
theorem Pkt.mi (x:Pkt):x.cells.all (·.oneCell')=true:=by simp [Pkt.cells,Value.oneCell']
theorem Lng.mi (l:Lng):l.cells.all (·.oneCell')=true:=by simp [Lng.cells,Value.oneCell']
theorem so (x:Pkt) (w:World) :
  Calls Tryz.prog 60 #[.agg x.cells] w fun e w'=>e=.returned (.agg x.cells)∧Below w.heap.size w w':=by
 obtain ⟨W0,eW⟩:∃ W,(((w.alloc (.cells x.cells 81)).alloc (.cells #[.int .i64 0,.int .i64 0,.int .i64 0,.int .i64 0,.int .i64 0,.int .i64 0,.int .i64 0,.string ⟨#[]⟩] 94)).alloc (.cells #[.int .i64 0,.int .i64 0,.int .i64 0,.int .i64 0,.int .i64 0,.int .i64 0,.int .i64 0,.string ⟨#[]⟩] 94))=W:=⟨_,rfl⟩
 have HX:Hid (gI w x.cells #[.int .i64 0,.int .i64 0,.int .i64 0,.int .i64 0,.int .i64 0,.int .i64 0,.int .i64 0,.string ⟨#[]⟩] #[.int .i64 0,.int .i64 0,.int .i64 0,.int .i64 0,.int .i64 0,.int .i64 0,.int .i64 0,.string ⟨#[]⟩] 81 94 W0):=by rw [←eW];exact gI.start _ _ _ _ _ _
 go_enter Tryz.func60,Tryz.ntmps60
 have c0:W0.cell? ⟨w.heap.size,0,none⟩=some (.int .i64 x.id):=fF HX.out.a 0
 have HC:=HX.out.c
 replace HC:Hid (W0.heap[w.heap.size+1+1]?=some (.cells #[.int .i64 0,.int .i64 0,.int .i64 0,.int .i64 0,.int .i64 0,.int .i64 0,.int .i64 0,.string ⟨#[]⟩] 94 (0,0))):=HC
 go_wp2_with (refine fJ rfl 2 (.tmp 6) (.tmp 5) rfl (w.heap.size+1+1) 0 rfl (.int .i64 x.id) rfl 1 rfl 94 _ HC.out iP (Nat.le_of_ble_eq_true rfl) (by simp [Value.cells,Value.oneCell',Rnd.cells,Cfg.cells,Cnt.cells]) ?_)
 intro W1 hP
 clear eW
 replace hP:=hP.cast (cs':=#[.int .i64 x.id,.int .i64 0,.int .i64 0,.int .i64 0,.int .i64 0,.int .i64 0,.int .i64 0,.string ⟨#[]⟩]) rfl
 replace HX:Hid (gI w x.cells #[.int .i64 0,.int .i64 0,.int .i64 0,.int .i64 0,.int .i64 0,.int .i64 0,.int .i64 0,.string ⟨#[]⟩] #[.int .i64 x.id,.int .i64 0,.int .i64 0,.int .i64 0,.int .i64 0,.int .i64 0,.int .i64 0,.string ⟨#[]⟩] 81 94 W1):=HX.out.put hP
 have T1:Touch [w.heap.size+1,w.heap.size+1+1] W0 W1:=hP.to.mono (fun x hx=>by simp at hx;simp [hx])
 clear hP HC c0
 have c1:W1.cell? ⟨w.heap.size,1,none⟩=some (.int .i64 x.inn):=fF HX.out.a 1
 have HC:=HX.out.c
 replace HC:Hid (W1.heap[w.heap.size+1+1]?=some (.cells #[.int .i64 x.id,.int .i64 0,.int .i64 0,.int .i64 0,.int .i64 0,.int .i64 0,.int .i64 0,.string ⟨#[]⟩] 94 (0,0))):=HC
 go_wp2_with (refine fJ rfl 2 (.tmp 9) (.tmp 8) rfl (w.heap.size+1+1) 1 rfl (.int .i64 x.inn) rfl 1 rfl 94 _ HC.out iP (Nat.le_of_ble_eq_true rfl) (by simp [Value.cells,Value.oneCell',Rnd.cells,Cfg.cells,Cnt.cells]) ?_)
 intro W2 hP
 replace hP:=hP.cast (cs':=#[.int .i64 x.id,.int .i64 x.inn,.int .i64 0,.int .i64 0,.int .i64 0,.int .i64 0,.int .i64 0,.string ⟨#[]⟩]) rfl
 replace HX:Hid (gI w x.cells #[.int .i64 0,.int .i64 0,.int .i64 0,.int .i64 0,.int .i64 0,.int .i64 0,.int .i64 0,.string ⟨#[]⟩] #[.int .i64 x.id,.int .i64 x.inn,.int .i64 0,.int .i64 0,.int .i64 0,.int .i64 0,.int .i64 0,.string ⟨#[]⟩] 81 94 W2):=HX.out.put hP
 have T2:Touch [w.heap.size+1,w.heap.size+1+1] W1 W2:=hP.to.mono (fun x hx=>by simp at hx;simp [hx])
 clear hP HC c1
 have c2:W2.cell? ⟨w.heap.size,2,none⟩=some (.int .i64 x.refs):=fF HX.out.a 2
 have HC:=HX.out.c
 replace HC:Hid (W2.heap[w.heap.size+1+1]?=some (.cells #[.int .i64 x.id,.int .i64 x.inn,.int .i64 0,.int .i64 0,.int .i64 0,.int .i64 0,.int .i64 0,.string ⟨#[]⟩] 94 (0,0))):=HC
 go_wp2_with (refine fJ rfl 2 (.tmp 12) (.tmp 11) rfl (w.heap.size+1+1) 2 rfl (.int .i64 x.refs) rfl 1 rfl 94 _ HC.out iP (Nat.le_of_ble_eq_true rfl) (by simp [Value.cells,Value.oneCell',Rnd.cells,Cfg.cells,Cnt.cells]) ?_)
 intro W3 hP
 replace hP:=hP.cast (cs':=#[.int .i64 x.id,.int .i64 x.inn,.int .i64 x.refs,.int .i64 0,.int .i64 0,.int .i64 0,.int .i64 0,.string ⟨#[]⟩]) rfl
 replace HX:Hid (gI w x.cells #[.int .i64 0,.int .i64 0,.int .i64 0,.int .i64 0,.int .i64 0,.int .i64 0,.int .i64 0,.string ⟨#[]⟩] #[.int .i64 x.id,.int .i64 x.inn,.int .i64 x.refs,.int .i64 0,.int .i64 0,.int .i64 0,.int .i64 0,.string ⟨#[]⟩] 81 94 W3):=HX.out.put hP
 have T3:Touch [w.heap.size+1,w.heap.size+1+1] W2 W3:=hP.to.mono (fun x hx=>by simp at hx;simp [hx])
 clear hP HC c2
 have c3:W3.cell? ⟨w.heap.size,3,none⟩=some (.int .i64 x.k):=fF HX.out.a 3
 have c4:W3.cell? ⟨w.heap.size,4,none⟩=some (.int .i64 x.d):=fF HX.out.a 4
 have c5:W3.cell? ⟨w.heap.size,5,none⟩=some (.int .i64 x.s):=fF HX.out.a 5
 have c6:W3.cell? ⟨w.heap.size,6,none⟩=some (.int .i64 x.p):=fF HX.out.a 6
 have c7:W3.cell? ⟨w.heap.size,7,none⟩=some (.string x.b):=fF HX.out.a 7
 go_wp2_with fail
 refine (jf x.k x.d x.s x.p x.b _).mono ?_
 rintro e wf ⟨rfl,hb⟩
 clear c3 c4 c5 c6 c7
 replace HX:Hid (gI w x.cells #[.int .i64 0,.int .i64 0,.int .i64 0,.int .i64 0,.int .i64 0,.int .i64 0,.int .i64 0,.string ⟨#[]⟩] #[.int .i64 x.id,.int .i64 x.inn,.int .i64 x.refs,.int .i64 0,.int .i64 0,.int .i64 0,.int .i64 0,.string ⟨#[]⟩] 81 94 wf):=HX.out.up hb
 have T4:Touch [w.heap.size+1,w.heap.size+1+1] W3 wf:=Touch.gY hb
 clear hb
 have HC:=HX.out.c
 replace HC:Hid (wf.heap[w.heap.size+1+1]?=some (.cells #[.int .i64 x.id,.int .i64 x.inn,.int .i64 x.refs,.int .i64 0,.int .i64 0,.int .i64 0,.int .i64 0,.string ⟨#[]⟩] 94 (0,0))):=HC
 go_wp2_with (refine fJ rfl 47 (.tmp 16) (.tmp 15) rfl (w.heap.size+1+1) 3 rfl (.agg #[.int .i64 x.k,.int .i64 x.d,.int .i64 x.s,.int .i64 x.p,.string x.b]) rfl 5 rfl 94 _ HC.out ix (Nat.le_of_ble_eq_true rfl) (by simp [Value.cells,Value.oneCell',Rnd.cells,Cfg.cells,Cnt.cells]) ?_)
 intro W5 hP
 replace hP:=hP.cast (cs':=#[.int .i64 x.id,.int .i64 x.inn,.int .i64 x.refs,.int .i64 x.k,.int .i64 x.d,.int .i64 x.s,.int .i64 x.p,.string x.b]) rfl
 replace HX:Hid (gI w x.cells #[.int .i64 0,.int .i64 0,.int .i64 0,.int .i64 0,.int .i64 0,.int .i64 0,.int .i64 0,.string ⟨#[]⟩] #[.int .i64 x.id,.int .i64 x.inn,.int .i64 x.refs,.int .i64 x.k,.int .i64 x.d,.int .i64 x.s,.int .i64 x.p,.string x.b] 81 94 W5):=HX.out.put hP
 have T5:Touch [w.heap.size+1,w.heap.size+1+1] wf W5:=hP.to.mono (fun x hx=>by simp at hx;simp [hx])
 clear hP HC 
 have HC:Hid (W5.heap[w.heap.size+1+1]?=some (.cells x.cells 94 (0,0))):=HX.out.c
 have HD:Hid (W5.heap[w.heap.size+1]?=some (.cells #[.int .i64 0,.int .i64 0,.int .i64 0,.int .i64 0,.int .i64 0,.int .i64 0,.int .i64 0,.string ⟨#[]⟩] 94 (0,0))):=HX.out.b
 have HL:Hid (∀ j,j<8→W5.cell? ⟨w.heap.size+1+1,0+j,none⟩=(x.cells)[j]?):=fun j _=>by rw [Nat.zero_add];exact fF HC.out j
 go_wp2_with (first | refine fM rfl 94 8 _ Tryz.underlying94 rfl j6 (.tmp 3) rfl (w.heap.size+1+1) 0 rfl (x.cells) rfl HL.out ?_ | refine fJ rfl 94 (.tmp 2) (.tmp 17) rfl (w.heap.size+1) 0 rfl (.agg x.cells) rfl 8 rfl 94 _ HD.out j6 (Nat.le_of_ble_eq_true rfl) x.mi ?_)
 intro W6 hP
 replace hP:Put W5 W6 (w.heap.size+1) x.cells 94:=hP.cast rfl
 have T6:Touch [w.heap.size+1,w.heap.size+1+1] W5 W6:=hP.to.mono (fun x hx=>by simp at hx;simp [hx])
 have HK:Hid (W6.heap[w.heap.size+1]?=some (.cells x.cells 94 (0,0))):=hP.blk
 have HB:Hid (Below w.heap.size w W6):=(HX.out.out hP).bel
 clear hP HC HD HL
 go_wp2_with fail
 refine bodyPost_ret (js Tryz.results60 8 _ Tryz.underlying94 rfl j6 _ _ (w.heap.size+1) x.cells rfl 94 HK.out rfl) rfl ⟨rfl,HB.out⟩
theorem zd:(Tryz.prog.info? 4).map (·.size)=some 1:=by kernel_rfl
theorem CN:(Tryz.prog.info? 25).map (·.size)=some 1:=by kernel_rfl
theorem vd:(Tryz.prog.info? 83).map (·.size)=some 1:=by kernel_rfl
theorem yV:(Tryz.prog.info? 97).map (·.size)=some 5:=by kernel_rfl
theorem j9 {g o n x:Nat} (h:x∈ib (some ⟨g,o,none⟩) n):x=g:=by
 unfold ib at h
 split at h
 ·
  simp at h
 simpa using h
theorem qk {n:Nat} {G L:Nat→Nat} (h:∀ i j,i<j→j<n→G i<G j):(l7 n (fun i=>some ⟨G i,0,none⟩) L).Nodup:=by
 unfold l7
 induction n with
 | zero=>simp
 | succ n ih =>
  rw [List.range_succ,List.flatMap_append]
  simp only [List.flatMap_cons,List.flatMap_nil,List.append_nil]
  refine iY (ih (fun i j hij hj=>h i j hij (by omega))) (jZ _ _) (G n) (fun x hx=>?_) (fun x hx=>?_)
  ·
   simp only [List.mem_flatMap,List.mem_range] at hx
   obtain ⟨i,hi,hx⟩:=hx
   rw [j9 hx]
   exact h i n hi (by omega)
  rw [j9 hx]
  exact Nat.le_refl _
theorem CH {nT nU nQ nD nS gT gQ gD gS:Nat} {G G2 uL L:Nat→Nat} {m:Nat} {st:Bool} {cT cU cQ cD cS:Nat} {t:Nat→Int} {aU:Option Addr} {uC C:Nat→Nat} {uz z:Nat→Nat→Int} {q d:Nat→Int} {turn:Int} {fresh:Bool} {aS:Option Addr} (h1:gT<m) (h2:∀ i,i<nU→gT<G i∧G i<m) (h3:∀ i j,i<j→j<nU→G i<G j) (h4:m≤gQ) (h5:gQ<gD) (h6:gD≤gS) (h7:∀ i,i<nS→gS<G2 i) (h8:∀ i j,i<j→j<nS→G2 i<G2 j) :
  (Lng.kH ⟨st,some ⟨gT,0,none⟩,nT,cT,t,aU,nU,cU,fun i=>some ⟨G i,0,none⟩,uL,uC,uz,⟨some ⟨gQ,0,none⟩,nQ,cQ,q,some ⟨gD,0,none⟩,nD,cD,d,turn,fresh,aS,nS,cS,fun i=>some ⟨G2 i,0,none⟩,L,C,z⟩⟩).Nodup:=by
 unfold Lng.kH
 dsimp only
 refine iY (jZ _ _) (iY (qk h3) (iY (jZ _ _) (iY (jZ _ _) (qk h8) (gD+1) ?_ ?_) gD ?_ ?_) m ?_ ?_) (gT+1) ?_ ?_
 ·
  intro x hx;rw [j9 hx];omega
 ·
  intro x hx
  exact cG
 ·
  intro x hx;rw [j9 hx];omega
 ·
  intro x hx
  exact cj
 ·
  intro x hx
  exact cy
 ·
  intro x hx
  exact cw
 ·
  intro x hx;rw [j9 hx];omega
 intro x hx
 rcases List.mem_append.1 hx with hx | hx
 · exact cy
 exact cw
theorem wJ (l:Lng) (w:World) (hs:l.Small) (h:mh w l) :
  Calls Tryz.prog 61 #[.agg l.cells] w fun e w'=>∃ l2,e=.returned (.agg l2.cells)∧gk l l2∧gZ w' w.heap.size l2∧Below w.heap.size w w':=by
 have HR:Hid (mh w l):=h
 have HS:Hid l.Small:=hs
 clear h hs
 obtain ⟨W0,eW⟩:∃ W,(((w.alloc (.cells l.cells 87)).alloc (.cells #[.bool false,.slice none 0 0,.slice none 0 0,.slice none 0 0,.slice none 0 0,.int .i64 0,.bool false,.slice none 0 0] 99)).alloc (.cells #[.bool false,.slice none 0 0,.slice none 0 0,.slice none 0 0,.slice none 0 0,.int .i64 0,.bool false,.slice none 0 0] 99))=W:=⟨_,rfl⟩
 have HX:Hid (gI w l.cells #[.bool false,.slice none 0 0,.slice none 0 0,.slice none 0 0,.slice none 0 0,.int .i64 0,.bool false,.slice none 0 0] #[.bool false,.slice none 0 0,.slice none 0 0,.slice none 0 0,.slice none 0 0,.int .i64 0,.bool false,.slice none 0 0] 87 99 W0):=by rw [←eW];exact gI.start _ _ _ _ _ _
 go_enter Tryz.func61,Tryz.ntmps61
 have c0:W0.cell? ⟨w.heap.size,0,none⟩=some (.bool l.st):=fF HX.out.a 0
 have HC:=HX.out.c
 replace HC:Hid (W0.heap[w.heap.size+1+1]?=some (.cells #[.bool false,.slice none 0 0,.slice none 0 0,.slice none 0 0,.slice none 0 0,.int .i64 0,.bool false,.slice none 0 0] 99 (0,0))):=HC
 go_wp2_with (refine fJ rfl 4 (.tmp 6) (.tmp 5) rfl (w.heap.size+1+1) 0 rfl (.bool l.st) rfl 1 rfl 99 _ HC.out zd (Nat.le_of_ble_eq_true rfl) (by simp [Value.cells,Value.oneCell',Rnd.cells,Cfg.cells,Cnt.cells]) ?_)
 intro W1 hP
 clear eW
 replace hP:=hP.cast (cs':=#[.bool l.st,.slice none 0 0,.slice none 0 0,.slice none 0 0,.slice none 0 0,.int .i64 0,.bool false,.slice none 0 0]) rfl
 replace HX:Hid (gI w l.cells #[.bool false,.slice none 0 0,.slice none 0 0,.slice none 0 0,.slice none 0 0,.int .i64 0,.bool false,.slice none 0 0] #[.bool l.st,.slice none 0 0,.slice none 0 0,.slice none 0 0,.slice none 0 0,.int .i64 0,.bool false,.slice none 0 0] 87 99 W1):=HX.out.put hP
 have T1:Touch [w.heap.size+1,w.heap.size+1+1] W0 W1:=hP.to.mono (fun x hx=>by simp at hx;simp [hx])
 clear hP HC c0
 have c1:W1.cell? ⟨w.heap.size,1,none⟩=some (.slice l.aT l.nT l.cT):=fF HX.out.a 1
 go_wp2_with fail
 refine (kQ l.aT l.nT l.cT l.t _ HS.out.t (HR.out.t.up HX.out.bel)).mono ?_
 rintro e wt ⟨rfl,rT,hb⟩
 clear c1
 have sT:=HX.out.sz
 replace HX:Hid (gI w l.cells #[.bool false,.slice none 0 0,.slice none 0 0,.slice none 0 0,.slice none 0 0,.int .i64 0,.bool false,.slice none 0 0] #[.bool l.st,.slice none 0 0,.slice none 0 0,.slice none 0 0,.slice none 0 0,.int .i64 0,.bool false,.slice none 0 0] 87 99 wt):=HX.out.up hb
 have T2:Touch [w.heap.size+1,w.heap.size+1+1] W1 wt:=Touch.gY hb
 clear hb
 have HC:=HX.out.c
 replace HC:Hid (wt.heap[w.heap.size+1+1]?=some (.cells #[.bool l.st,.slice none 0 0,.slice none 0 0,.slice none 0 0,.slice none 0 0,.int .i64 0,.bool false,.slice none 0 0] 99 (0,0))):=HC
 go_wp2_with (refine fJ rfl 25 (.tmp 10) (.tmp 9) rfl (w.heap.size+1+1) 1 rfl (.slice (some ⟨W1.heap.size,0,none⟩) l.nT l.nT) rfl 1 rfl 99 _ HC.out CN (Nat.le_of_ble_eq_true rfl) (by simp [Value.cells,Value.oneCell',Rnd.cells,Cfg.cells,Cnt.cells]) ?_)
 intro W3 hP
 replace hP:=hP.cast (cs':=#[.bool l.st,.slice (some ⟨W1.heap.size,0,none⟩) l.nT l.nT,.slice none 0 0,.slice none 0 0,.slice none 0 0,.int .i64 0,.bool false,.slice none 0 0]) rfl
 replace HX:Hid (gI w l.cells #[.bool false,.slice none 0 0,.slice none 0 0,.slice none 0 0,.slice none 0 0,.int .i64 0,.bool false,.slice none 0 0] #[.bool l.st,.slice (some ⟨W1.heap.size,0,none⟩) l.nT l.nT,.slice none 0 0,.slice none 0 0,.slice none 0 0,.int .i64 0,.bool false,.slice none 0 0] 87 99 W3):=HX.out.put hP
 have T3:Touch [w.heap.size+1,w.heap.size+1+1] wt W3:=hP.to.mono (fun x hx=>by simp at hx;simp [hx])
 clear hP HC 
 have c2:W3.cell? ⟨w.heap.size,2,none⟩=some (.slice l.aU l.nU l.cU):=fF HX.out.a 2
 go_wp2_with fail
 refine (oV l.aU l.nU l.cU l.uA l.uL l.uC l.uz _ HS.out.u (HR.out.u.up HX.out.bel) (fun i hi=>(HR.out.z i hi).up HX.out.bel) HS.out.z).mono ?_
 rintro e wu ⟨G,rfl,rU,hb⟩
 clear c2
 have sU:=HX.out.sz
 replace HX:Hid (gI w l.cells #[.bool false,.slice none 0 0,.slice none 0 0,.slice none 0 0,.slice none 0 0,.int .i64 0,.bool false,.slice none 0 0] #[.bool l.st,.slice (some ⟨W1.heap.size,0,none⟩) l.nT l.nT,.slice none 0 0,.slice none 0 0,.slice none 0 0,.int .i64 0,.bool false,.slice none 0 0] 87 99 wu):=HX.out.up hb
 have T4:Touch [w.heap.size+1,w.heap.size+1+1] W3 wu:=Touch.gY hb
 clear hb
 have HC:=HX.out.c
 replace HC:Hid (wu.heap[w.heap.size+1+1]?=some (.cells #[.bool l.st,.slice (some ⟨W1.heap.size,0,none⟩) l.nT l.nT,.slice none 0 0,.slice none 0 0,.slice none 0 0,.int .i64 0,.bool false,.slice none 0 0] 99 (0,0))):=HC
 go_wp2_with (refine fJ rfl 83 (.tmp 14) (.tmp 13) rfl (w.heap.size+1+1) 2 rfl (.slice (some ⟨W3.heap.size,0,none⟩) l.nU l.nU) rfl 1 rfl 99 _ HC.out vd (Nat.le_of_ble_eq_true rfl) (by simp [Value.cells,Value.oneCell',Rnd.cells,Cfg.cells,Cnt.cells]) ?_)
 intro W5 hP
 replace hP:=hP.cast (cs':=#[.bool l.st,.slice (some ⟨W1.heap.size,0,none⟩) l.nT l.nT,.slice (some ⟨W3.heap.size,0,none⟩) l.nU l.nU,.slice none 0 0,.slice none 0 0,.int .i64 0,.bool false,.slice none 0 0]) rfl
 replace HX:Hid (gI w l.cells #[.bool false,.slice none 0 0,.slice none 0 0,.slice none 0 0,.slice none 0 0,.int .i64 0,.bool false,.slice none 0 0] #[.bool l.st,.slice (some ⟨W1.heap.size,0,none⟩) l.nT l.nT,.slice (some ⟨W3.heap.size,0,none⟩) l.nU l.nU,.slice none 0 0,.slice none 0 0,.int .i64 0,.bool false,.slice none 0 0] 87 99 W5):=HX.out.put hP
 have T5:Touch [w.heap.size+1,w.heap.size+1+1] wu W5:=hP.to.mono (fun x hx=>by simp at hx;simp [hx])
 clear hP HC 
 have c3:W5.cell? ⟨w.heap.size,3,none⟩=some (.slice l.R.aQ l.R.nQ l.R.cQ):=fF HX.out.a 3
 have c4:W5.cell? ⟨w.heap.size,4,none⟩=some (.slice l.R.aD l.R.nD l.R.cD):=fF HX.out.a 4
 have c5:W5.cell? ⟨w.heap.size,5,none⟩=some (.int .i64 l.R.turn):=fF HX.out.a 5
 have c6:W5.cell? ⟨w.heap.size,6,none⟩=some (.bool l.R.fresh):=fF HX.out.a 6
 have c7:W5.cell? ⟨w.heap.size,7,none⟩=some (.slice l.R.aS l.R.nS l.R.cS):=fF HX.out.a 7
 go_wp2_with fail
 refine (uF l.R _ HS.out.r (HR.out.r.up HX.out.bel)).mono ?_
 rintro e wr ⟨gQ,gD,gS,G2,rfl,hgQ,rR,hb⟩
 clear c3 c4 c5 c6 c7
 have sR:=HX.out.sz
 replace HX:Hid (gI w l.cells #[.bool false,.slice none 0 0,.slice none 0 0,.slice none 0 0,.slice none 0 0,.int .i64 0,.bool false,.slice none 0 0] #[.bool l.st,.slice (some ⟨W1.heap.size,0,none⟩) l.nT l.nT,.slice (some ⟨W3.heap.size,0,none⟩) l.nU l.nU,.slice none 0 0,.slice none 0 0,.int .i64 0,.bool false,.slice none 0 0] 87 99 wr):=HX.out.up hb
 have T6:Touch [w.heap.size+1,w.heap.size+1+1] W5 wr:=Touch.gY hb
 clear hb
 have HC:=HX.out.c
 replace HC:Hid (wr.heap[w.heap.size+1+1]?=some (.cells #[.bool l.st,.slice (some ⟨W1.heap.size,0,none⟩) l.nT l.nT,.slice (some ⟨W3.heap.size,0,none⟩) l.nU l.nU,.slice none 0 0,.slice none 0 0,.int .i64 0,.bool false,.slice none 0 0] 99 (0,0))):=HC
 go_wp2_with (refine fJ rfl 97 (.tmp 18) (.tmp 17) rfl (w.heap.size+1+1) 3 rfl (.agg (l.R.copy gQ gD gS G2).cells) rfl 5 rfl 99 _ HC.out yV (Nat.le_of_ble_eq_true rfl) (by simp [Value.cells,Value.oneCell',Rnd.cells,Cfg.cells,Cnt.cells]) ?_)
 intro W7 hP
 replace hP:=hP.cast (cs':=#[.bool l.st,.slice (some ⟨W1.heap.size,0,none⟩) l.nT l.nT,.slice (some ⟨W3.heap.size,0,none⟩) l.nU l.nU,.slice (some ⟨gQ,0,none⟩) l.R.nQ l.R.nQ,.slice (some ⟨gD,0,none⟩) l.R.nD l.R.nD,.int .i64 l.R.turn,.bool l.R.fresh,.slice (some ⟨gS,0,none⟩) l.R.nS l.R.nS]) rfl
 replace HX:Hid (gI w l.cells #[.bool false,.slice none 0 0,.slice none 0 0,.slice none 0 0,.slice none 0 0,.int .i64 0,.bool false,.slice none 0 0] #[.bool l.st,.slice (some ⟨W1.heap.size,0,none⟩) l.nT l.nT,.slice (some ⟨W3.heap.size,0,none⟩) l.nU l.nU,.slice (some ⟨gQ,0,none⟩) l.R.nQ l.R.nQ,.slice (some ⟨gD,0,none⟩) l.R.nD l.R.nD,.int .i64 l.R.turn,.bool l.R.fresh,.slice (some ⟨gS,0,none⟩) l.R.nS l.R.nS] 87 99 W7):=HX.out.put hP
 have T7:Touch [w.heap.size+1,w.heap.size+1+1] wr W7:=hP.to.mono (fun x hx=>by simp at hx;simp [hx])
 clear hP HC 
 obtain ⟨l2,e2⟩:∃ l2,(⟨l.st,some ⟨W1.heap.size,0,none⟩,l.nT,l.nT,l.t,some ⟨W3.heap.size,0,none⟩,l.nU,l.nU,fun i=>some ⟨G i,0,none⟩,l.uL,l.uL,l.uz,l.R.copy gQ gD gS G2⟩:Lng)=l2:=⟨_,rfl⟩
 have e3:#[.bool l.st,.slice (some ⟨W1.heap.size,0,none⟩) l.nT l.nT,.slice (some ⟨W3.heap.size,0,none⟩) l.nU l.nU,.slice (some ⟨gQ,0,none⟩) l.R.nQ l.R.nQ,.slice (some ⟨gD,0,none⟩) l.R.nD l.R.nD,.int .i64 l.R.turn,.bool l.R.fresh,.slice (some ⟨gS,0,none⟩) l.R.nS l.R.nS]=l2.cells:=by rw [←e2];rfl
 rw [e3] at HX
 have HC:Hid (W7.heap[w.heap.size+1+1]?=some (.cells l2.cells 99 (0,0))):=HX.out.c
 have HD:Hid (W7.heap[w.heap.size+1]?=some (.cells #[.bool false,.slice none 0 0,.slice none 0 0,.slice none 0 0,.slice none 0 0,.int .i64 0,.bool false,.slice none 0 0] 99 (0,0))):=HX.out.b
 have HL:Hid (∀ j,j<8→W7.cell? ⟨w.heap.size+1+1,0+j,none⟩=(l2.cells)[j]?):=fun j _=>by rw [Nat.zero_add];exact fF HC.out j
 go_wp2_with (first | refine fM rfl 99 8 _ Tryz.underlying99 rfl ir (.tmp 3) rfl (w.heap.size+1+1) 0 rfl (l2.cells) rfl HL.out ?_ | refine fJ rfl 99 (.tmp 2) (.tmp 19) rfl (w.heap.size+1) 0 rfl (.agg l2.cells) rfl 8 rfl 99 _ HD.out ir (Nat.le_of_ble_eq_true rfl) (Lng.mi _) ?_)
 intro W8 hP
 replace hP:Put W7 W8 (w.heap.size+1) l2.cells 99:=hP.cast rfl
 have T8:Touch [w.heap.size+1,w.heap.size+1+1] W7 W8:=hP.to.mono (fun x hx=>by simp at hx;simp [hx])
 have HK:Hid (W8.heap[w.heap.size+1]?=some (.cells l2.cells 99 (0,0))):=hP.blk
 have HB:Hid (Below w.heap.size w W8):=(HX.out.out hP).bel
 clear hP HC HD HL
 go_wp2_with fail
 have hlow:∀ x∈[w.heap.size+1,w.heap.size+1+1],x<w.heap.size+1+1+1:=by intro x hx;simp at hx;omega
 have qT:VG 2 W8 W1.heap.size (some ⟨W1.heap.size,0,none⟩) l.nT (fun i=>.int .i64 (l.t i)):=(rT.vg (Nat.le_refl _)).low (((((T3.trans T4).trans T5).trans T6).trans T7).trans T8) (fun x hx=>by have:=hlow x hx;omega)
 have tU:=(((T5.trans T6).trans T7).trans T8)
 have tR:=(T7.trans T8)
 have lU:=rU.top.lt
 have lR:=rR.q.lt
 have hT1:=T3.size
 have hT2:=T4.size
 have hT3:=T5.size
 have hT4:=T6.size
 have hTt:=rT.lt
 refine bodyPost_ret (js Tryz.results61 8 _ Tryz.underlying99 rfl ir _ _ (w.heap.size+1) l2.cells rfl 99 HK.out rfl) rfl ⟨l2,rfl,?_,?_,HB.out⟩
 ·
  rw [←e2]
  exact ⟨rfl,rfl,rfl,rfl,rfl,rfl,⟨rfl,rfl,rfl,rfl,rfl,rfl,rfl,rfl,rfl⟩⟩
 rw [←e2]
 have kU:∀ {g:Nat},w.heap.size+1+1+1≤g→g<wu.heap.size→W8.heap[g]?=wu.heap[g]?:=fun h1 h2=>tU.block _ h2 (by simp;omega)
 have kR:∀ {g:Nat},w.heap.size+1+1+1≤g→g<wr.heap.size→W8.heap[g]?=wr.heap[g]?:=fun h1 h2=>tR.block _ h2 (by simp;omega)
 have oU:=rU.low
 have oR:=rR.lt
 have oS:∀ i,i<l.R.nS→gS<G2 i:=rR.s.low
 refine ⟨qT.mono (by omega),(rU.top.iB (kU (by omega) lU)).vg (by omega),fun i hi=>((rU.row i hi).iB (kU (by have:=oU i hi;omega) (rU.row i hi).lt)).vg (by have:=oU i hi;omega),(rR.q.iB (kR (by omega) lR)).vg (by omega),(rR.d.iB (kR (by omega) rR.d.lt)).vg (by omega),(rR.s.top.iB (kR (by omega) rR.s.top.lt)).vg (by omega),fun i hi=>((rR.s.row i hi).iB (kR (by have:=oS i hi;omega) (rR.s.row i hi).lt)).vg (by have:=oS i hi;omega),?_⟩
 exact CH (gS:=gS) (by omega) (fun i hi=>⟨by have:=oU i hi;omega,(rU.row i hi).lt⟩) rU.inc (by omega) (by omega) (by omega) (fun i hi=>by have:=oS i hi;omega) rR.s.inc
def OG (t:TypeId) (sz:Nat) (w:World) (base:Nat) (a:Option Addr) (n c:Nat) (xs:List Value):Prop:=w.ownsRow base t sz (.slice a n c) n xs
section
variable {t : TypeId} {sz : Nat} {w w' : World} {base base' : Nat} {a : Option Addr} {n c : Nat} {xs : List Value} {S : List Nat}
theorem OG.cap (h:OG t sz w base a n c xs):n≤c:=by
 rcases h.2 with ⟨e,h0⟩ | ⟨g,cap,cur,e,_,_,h9,_⟩
 ·
  omega
 cases e
 exact h9
theorem OG.up (h:OG t sz w base a n c xs) (hb:Below w.heap.size w w'):OG t sz w' base a n c xs:=cr
theorem OG.mono (h:OG t sz w base a n c xs) (hb:base'≤base):OG t sz w base' a n c xs:=cu
theorem OG.blk (h:OG t sz w base a n c xs):∀ x∈gi a,base≤x∧x<w.heap.size:=cm
theorem OG.type (h:OG t sz w base a n c xs):∀ x∈gi a,∃ cs,w.heap[x]?=some (.cells cs t (0,0)):=by
 intro x hx
 rcases h.2 with ⟨e,_⟩ | ⟨g,cap,cur,e,hg,hbk,_⟩
 ·
  cases e
  simp [gi] at hx
 cases e
 simp [gi] at hx
 subst hx
 exact ⟨cur,hbk⟩
theorem OG.fL (h:OG t sz w base a n c xs) (ht:Touch S w w') (hp:∀ x∈gi a,x∉S):OG t sz w' base a n c xs:=by
 refine ⟨h.1,?_⟩
 rcases h.2 with h2 | ⟨g,cap,cur,e,hg,hbk,hr⟩
 ·
  exact .inl h2
 cases e
 exact .inr ⟨g,c,cur,rfl,hg,(ht.block g (fG hbk) (hp g (by simp [gi]))).trans hbk,hr⟩
theorem OG.low (h:OG t sz w base a n c xs) (ht:Touch S w w') (hS:∀ x∈S,x<base):OG t sz w' base a n c xs :=
 h.fL ht (fun x hx hy=>by have:=(h.blk x hx).1;have:=hS x hy;omega)
theorem OG.k8 (h:OG t sz w base a n c xs) {g:Nat} {cs:Array Value} {t':TypeId} (hne:t≠t') (hg:w.heap[g]?=some (.cells cs t' (0,0))):g∉gi a:=by
 intro hx
 obtain ⟨cs',h1⟩:=h.type g hx
 rw [hg] at h1
 simp at h1
 exact hne h1.2.symm
theorem OG.vg {f:Nat→Value} (h:OG t sz w base a n c xs) (hf:∀ i,i<n*sz→xs[i]?=some (f i)):VG t w base a (n*sz) f:=by
 rcases h.2 with ⟨e,h0⟩ | ⟨g,cap,cur,e,hg,hbk,hn,hm,hs,ht⟩
 ·
  exact .inl (by rw [h0];simp)
 cases e
 refine .inr ⟨g,0,rfl,hg,cur,hbk,?_,fun i hi=>?_⟩
 ·
  rw [hs,Nat.zero_add]
  exact Nat.mul_le_mul_right _ hn
 rw [Nat.zero_add,←Array.getElem?_toList,←List.getElem?_take_of_lt hi,ht]
 exact hf i hi
theorem OG.vt {f:Nat→Value} (h:OG t sz w base a n c xs) (hf:∀ i,i<n*sz→xs[i]?=some (f i)):VT t w base a (n*sz) f:=by
 rcases h.2 with ⟨e,h0⟩ | ⟨g,cap,cur,e,hg,hbk,hn,hm,hs,ht⟩
 ·
  exact .inl (by rw [h0];simp)
 cases e
 refine .inr ⟨g,rfl,hg,cur,hbk,?_,fun i hi=>?_⟩
 ·
  rw [hs]
  exact Nat.mul_le_mul_right _ hn
 rw [←Array.getElem?_toList,←List.getElem?_take_of_lt hi,ht]
 exact hf i hi
end
theorem OG.apart {t t':TypeId} {sz sz':Nat} {w:World} {base base':Nat} {a a':Option Addr} {n n' c c':Nat} {xs xs':List Value} (h:OG t sz w base a n c xs) (k:OG t' sz' w base' a' n' c' xs') (hne:t≠t'):∀ x∈gi a,x∉gi a':=by
 intro x hx hy
 obtain ⟨cs,h1⟩:=h.type x hx
 obtain ⟨cs',h2⟩:=k.type x hy
 rw [h1] at h2
 simp at h2
 exact hne h2.2
theorem OG.nil (t:TypeId) (sz:Nat) (w:World) (base:Nat):OG t sz w base none 0 0 []:=World.ownsRow_nil _ _ _ _
theorem BR (n:Nat) (f:Nat→Int) (i:Nat) (h:i<n):(ke n f)[i]?=some (.int .i64 (f i)):=by
 unfold ke
 rw [List.getElem?_map,List.getElem?_range h]
 rfl
theorem OI.vgI {w:World} {base:Nat} {a:Option Addr} {n c:Nat} {f:Nat→Int} (h:OI w base a n c f):VG 2 w base a n fun i=>.int .i64 (f i):=by
 have h2:OG 2 1 w base a n c (ke n f):=h
 have:=h2.vg (f:=fun i=>.int .i64 (f i)) (fun i hi=>BR n f i (by omega))
 rwa [Nat.mul_one] at this
theorem OI.low {w w':World} {base:Nat} {a:Option Addr} {n c:Nat} {f:Nat→Int} {S:List Nat} (h:OI w base a n c f) (ht:Touch S w w') (hS:∀ x∈S,x<base):OI w' base a n c f:=OG.low (t:=2) (sz:=1) h ht hS
theorem OI.fL {w w':World} {base:Nat} {a:Option Addr} {n c:Nat} {f:Nat→Int} {S:List Nat} (h:OI w base a n c f) (ht:Touch S w w') (hp:∀ x∈gi a,x∉S):OI w' base a n c f:=OG.fL (t:=2) (sz:=1) h ht hp
theorem Touch.qQ {w w':World} {v:Value} {a:Option Addr} {n c:Nat} (h:w.grownBy w' (Value.slice a n c).ownBlock):Touch (gi a) w w' :=
 ⟨h.os,h.tape,h.output,h.size,fun k hk hn=>h.block k hk (fun e=>hn (by
  cases a with
  | none=>simp [Value.ownBlock] at e
  | some x=>simp [Value.ownBlock] at e;simp [gi,e]))⟩
theorem lH {w:World} {base:Nat} {a:Option Addr} {n c:Nat} {xs:List Value} (t e:TypeId) (z:Value) (sz bytes:Nat) (hinfo:(Tryz.prog.info? e).map (fun i=>(i.zero,i.size,i.bytes))=some (some z,sz,bytes)) (hu:Tryz.prog.underlying t=some (.slice e)) (hz:z.cells.size=sz) (hsz:0<sz) (hby:bytes≤1000)
  (h:OG e sz w base a n c xs) (hl:n≤1048576) (hb:base≤w.heap.size) (cs:Array Value) (hcs:cs.size=sz) (h1:cs.all (·.oneCell')=true) :
  ∃ g c' W,(Builtin.append_ #[t,t] t #[.slice a n c,.slice (some ⟨w.heap.size,0,none⟩) 1 1]).run Tryz.prog (w.alloc (.cells cs e))=.ok (.slice (some ⟨g,0,none⟩) (n+1) c') W∧OG e sz W base (some ⟨g,0,none⟩) (n+1) c' (xs++cs.toList)∧Touch (gi a) w W∧(g∈gi a∨w.heap.size≤g):=by
 obtain ⟨i0,hi,hz0,hz1,hz2⟩:=info_parts hinfo
 have hA:Below w.heap.size w (w.alloc (.cells cs e)):=(Below.refl _ _).alloc (Nat.le_refl _) _
 have hnew:=fF (fK w (.cells cs e))
 have hbb:(n+1)*bytes≤140737488355328:=by
  have:=Nat.mul_le_mul (show n+1≤1048577 by omega) hby
  omega
 obtain ⟨v',W,hr,h2,h3,h4,h5⟩:=run_append_own_at (P:=Tryz.prog) (w.alloc (.cells cs e)) base t t e i0 z sz bytes hu hi hz0 hz1 hz2 hz hsz (.slice a n c) n xs (h.up hA) ⟨w.heap.size,0,none⟩ 1 1 cs.toList (by rw [Array.length_toList,hcs,Nat.one_mul]) (fun j u hj=>by
  have e0:(⟨w.heap.size,0,none⟩:Addr).add j=⟨w.heap.size,j,none⟩:=by unfold Addr.add;split <;> simp_all
  rw [e0,hnew j,←Array.getElem?_toList]
  exact hj) (fun u hu=>(Array.all_eq_true_iff_forall_mem.1 h1) u (by simpa using hu)) (by unfold maxLen;omega) hbb (by simp;omega)
 rcases h2.2 with ⟨_,h0⟩ | ⟨g,cap,cur,rfl,_⟩
 ·
  omega
 refine ⟨g,cap,W,hr,h2,Touch.qQ (v:=.slice a n c) ((World.grownBy_alloc w _ _).trans h3),?_⟩
 rcases h5 with h5 | h5
 ·
  left
  cases a with
  | none=>simp [Value.ownBlock] at h5
  | some x=>simp [Value.ownBlock] at h5;simp [gi,h5]
 right
 simp only [Value.ownBlock,Option.some.injEq] at h5
 rw [h5];simp
def ox (n:Nat) (A:Nat→Option Addr) (L C:Nat→Nat):List Value:=(List.range n).map fun i=>.slice (A i) (L i) (C i)
theorem yf (n:Nat) (A:Nat→Option Addr) (L C:Nat→Nat):ox (n+1) A L C=ox n A L C++[.slice (A n) (L n) (C n)]:=by simp [ox,List.range_succ]
theorem Al {n:Nat} {A A':Nat→Option Addr} {L L' C C':Nat→Nat} (h:∀ i,i<n→A i=A' i∧L i=L' i∧C i=C' i):ox n A L C=ox n A' L' C':=by
 unfold ox
 refine List.map_congr_left fun i hi=>?_
 obtain ⟨h1,h2,h3⟩:=h i (List.mem_range.1 hi)
 rw [h1,h2,h3]
theorem mN (n:Nat) (A:Nat→Option Addr) (L C:Nat→Nat) (i:Nat) (h:i<n):(ox n A L C)[i]?=some (.slice (A i) (L i) (C i)):=by
 unfold ox
 rw [List.getElem?_map,List.getElem?_range h]
 rfl
theorem jD (a:Option Addr):(gi a).Nodup:=by cases a <;> simp [gi]
theorem nB (a:Option Addr) (n:Nat):(jO a n).Nodup:=by
 unfold jO
 split
 ·
  exact List.nodup_nil
 cases a <;> simp
theorem rV (a:Option Addr) (n:Nat):List.Sublist (ib a n) (gi a):=by
 unfold ib
 split
 ·
  exact List.nil_sublist _
 exact List.Sublist.refl _
theorem la {f:Nat→List Nat}:∀ n,(∀ i,i<n→(f i).Nodup)→(∀ i j,i<n→j<n→i≠j→∀ x∈f i,x∉f j)→((List.range n).flatMap f).Nodup:=by
 intro n
 induction n with
 | zero=>intro _ _;simp
 | succ n ih =>
  intro h1 h2
  rw [List.range_succ,List.flatMap_append]
  simp only [List.flatMap_cons,List.flatMap_nil,List.append_nil]
  refine List.nodup_append.2 ⟨ih (fun i hi=>h1 i (by omega)) (fun i j hi hj=>h2 i j (by omega) (by omega)),h1 n (by omega),fun x hx y hy e=>?_⟩
  subst e
  simp only [List.mem_flatMap,List.mem_range] at hx
  obtain ⟨i,hi,hx⟩:=hx
  exact h2 i n (by omega) (by omega) (by omega) x hx hy
def flO (n:Nat) (A:Nat→Option Addr):List Nat:=(List.range n).flatMap fun i=>gi (A i)
theorem iC {n:Nat} {A:Nat→Option Addr} {x:Nat}:x∈flO n A↔∃ i,i<n∧x∈gi (A i):=by
 unfold flO
 simp
def Rnd.iJ (R:Rnd):List Nat:=jO R.aQ R.nQ++(jO R.aD R.nD++flO R.nS R.A)
theorem iv.nd {w:World} {base:Nat} {R:Rnd} (h:iv w base R):R.iJ.Nodup:=by
 refine List.nodup_append.2 ⟨nB _ _,List.nodup_append.2 ⟨nB _ _,la _ (fun i _=>jD _) h.zz,fun x hx y hy e=>?_⟩,fun x hx y hy e=>?_⟩
 ·
  subst e
  obtain ⟨i,hi,hy⟩:=iC.1 hy
  exact h.dz i hi x hx hy
 subst e
 rcases List.mem_append.1 hy with hy | hy
 ·
  exact h.own.qd x hx hy
 obtain ⟨i,hi,hy⟩:=iC.1 hy
 exact h.qz i hi x hx hy
theorem iv.blk {w:World} {base:Nat} {R:Rnd} (h:iv w base R):∀ x∈R.iJ,base≤x∧x<w.heap.size:=by
 intro x hx
 rcases List.mem_append.1 hx with hx | hx
 ·
  exact h.own.q.blk x hx
 rcases List.mem_append.1 hx with hx | hx
 ·
  exact h.own.d.blk x hx
 obtain ⟨i,hi,hx⟩:=iC.1 hx
 exact (h.z i hi).blk x hx
def Lng.iJ (l:Lng):List Nat:=(gi l.aT++l.R.iJ)++flO l.nU l.uA
structure gg (w:World) (base:Nat) (l:Lng):Prop where
 t:OI w base l.aT l.nT l.cT l.t
 u:OG 25 1 w base l.aU l.nU l.cU (ox l.nU l.uA l.uL l.uC)
 z:∀ i,i<l.nU→OI w base (l.uA i) (l.uL i) (l.uC i) (l.uz i)
 r:iv w base l.R
 nd:l.iJ.Nodup
 su:∀ x∈jO l.R.aS l.R.nS,x∉gi l.aU
theorem gg.g {w:World} {base:Nat} {l:Lng} (h:gg w base l):gZ w base l:=by
 refine ⟨h.t.vgI,?_,fun i hi=>(h.z i hi).vgI,h.r.own.q.g,h.r.own.d.g,h.r.own.s.g,fun i hi=>(h.r.z i hi).vgI,?_⟩
 ·
  have:=h.u.vg (f:=fun i=>.slice (l.uA i) (l.uL i) (l.uC i)) (fun i hi=>mN _ _ _ _ i (by omega))
  rwa [Nat.mul_one] at this
 have hp:l.kH.Perm ((ib l.aT l.nT++(ib l.R.aQ l.R.nQ++(ib l.R.aD l.R.nD++l7 l.R.nS l.R.A l.R.L)))++l7 l.nU l.uA l.uL):=by
  unfold Lng.kH
  rw [List.append_assoc]
  exact List.Perm.append_left _ List.perm_append_comm
 refine hp.nodup_iff.2 (List.Sublist.nodup ?_ h.nd)
 have hs:∀ (n:Nat) (A:Nat→Option Addr) (L:Nat→Nat),List.Sublist (l7 n A L) (flO n A):=by
  intro n A L
  unfold l7 flO
  induction n with
  | zero=>exact List.Sublist.refl _
  | succ n ih =>
   rw [List.range_succ,List.flatMap_append,List.flatMap_append]
   refine ih.append ?_
   simp only [List.flatMap_cons,List.flatMap_nil,List.append_nil]
   exact rV _ _
 exact ((rV _ _).append ((List.Sublist.refl _).append ((List.Sublist.refl _).append (hs _ _ _)))).append (hs _ _ _)
theorem gg.blk {w:World} {base:Nat} {l:Lng} (h:gg w base l):∀ x∈l.iJ,base≤x∧x<w.heap.size:=by
 intro x hx
 unfold Lng.iJ at hx
 simp only [List.mem_append] at hx
 rcases hx with (hx | hx) | hx
 ·
  exact h.t.blk x hx
 ·
  exact h.r.blk x hx
 obtain ⟨i,hi,hx⟩:=iC.1 hx
 exact (h.z i hi).blk x hx
theorem iv.upZ {w w':World} {base:Nat} {R:Rnd} (h:iv w base R) (hb:Below w.heap.size w w'):iv w' base R :=
 ⟨⟨h.own.q.up hb,h.own.d.up hb,h.own.s.up hb,fun i hi=>(h.own.z i hi).up hb,h.own.qd,h.own.qz,h.own.dz,h.own.zz⟩,fun i hi=>(h.z i hi).up hb,h.qz,h.dz,h.zz⟩
theorem iv.qR {w:World} {base base':Nat} {R:Rnd} (h:iv w base R) (hb:base'≤base):iv w base' R :=
 ⟨⟨h.own.q.mono hb,h.own.d.mono hb,h.own.s.mono hb,fun i hi=>(h.own.z i hi).mono hb,h.own.qd,h.own.qz,h.own.dz,h.own.zz⟩,fun i hi=>(h.z i hi).mono hb,h.qz,h.dz,h.zz⟩
theorem VS.fL {w w':World} {base:Nat} {a:Option Addr} {n:Nat} {f:Nat→Value} {S:List Nat} (h:VS w base a n f) (ht:Touch S w w') (hp:∀ x∈jO a n,x∉S):VS w' base a n f:=by
 rcases h with h | ⟨g,rfl,hg,hr⟩
 ·
  exact .inl h
 by_cases h0:n=0
 ·
  exact .inl h0
 exact .inr ⟨g,rfl,hg,hr.iB (ht.block g hr.lt (hp g (rW h0)))⟩
theorem VS.l7 {w:World} {base:Nat} {a:Option Addr} {n:Nat} {f:Nat→Value} (h:VS w base a n f):∀ x∈jO a n,(base≤x∧x<w.heap.size)∧∃ cs,w.heap[x]?=some (.cells cs 25 (0,0)):=by
 intro x hx
 unfold jO at hx
 split at hx
 ·
  simp at hx
 rcases h with h | ⟨g,rfl,hg,hr⟩
 ·
  contradiction
 simp at hx
 subst hx
 obtain ⟨cs,hc,_⟩:=hr
 exact ⟨⟨hg,fG hc⟩,cs,hc⟩
theorem iv.pU {w w':World} {base:Nat} {R:Rnd} {S:List Nat} (h:iv w base R) (ht:Touch S w w') (h1:∀ x∈R.iJ,x∉S) (h2:∀ x∈jO R.aS R.nS,x∉S):iv w' base R:=by
 have hq:∀ x∈jO R.aQ R.nQ,x∉S:=fun x hx=>h1 x (List.mem_append_left _ hx)
 have hd:∀ x∈jO R.aD R.nD,x∉S:=fun x hx=>h1 x (List.mem_append_right _ (List.mem_append_left _ hx))
 have hz:∀ i,i<R.nS→∀ x∈gi (R.A i),x∉S:=fun i hi x hx=>h1 x (List.mem_append_right _ (List.mem_append_right _ (iC.2 ⟨i,hi,hx⟩)))
 exact ⟨⟨h.own.q.fL ht hq,h.own.d.fL ht hd,h.own.s.fL ht h2,fun i hi=>(h.own.z i hi).fL ht (fun x hx=>hz i hi x (iU hx)),h.own.qd,h.own.qz,h.own.dz,h.own.zz⟩,fun i hi=>(h.z i hi).fL ht (hz i hi),h.qz,h.dz,h.zz⟩
theorem iv.lowZ {w w':World} {base:Nat} {R:Rnd} {S:List Nat} (h:iv w base R) (ht:Touch S w w') (hS:∀ x∈S,x<base):iv w' base R :=
 h.pU ht (fun x hx hy=>by have:=(h.blk x hx).1;have:=hS x hy;omega) (fun x hx hy=>by have:=(h.own.s.l7 x hx).1;have:=hS x hy;omega)
theorem gg.up {w w':World} {base:Nat} {l:Lng} (h:gg w base l) (hb:Below w.heap.size w w'):gg w' base l:=⟨h.t.up hb,h.u.up hb,fun i hi=>(h.z i hi).up hb,h.r.upZ hb,h.nd,h.su⟩
theorem gg.mono {w:World} {base base':Nat} {l:Lng} (h:gg w base l) (hb:base'≤base):gg w base' l:=⟨h.t.mono hb,h.u.mono hb,fun i hi=>(h.z i hi).mono hb,h.r.qR hb,h.nd,h.su⟩
theorem gg.low {w w':World} {base:Nat} {l:Lng} {S:List Nat} (h:gg w base l) (ht:Touch S w w') (hS:∀ x∈S,x<base):gg w' base l:=⟨h.t.low ht hS,h.u.low ht hS,fun i hi=>(h.z i hi).low ht hS,h.r.lowZ ht hS,h.nd,h.su⟩
theorem gg.kO {w w':World} {base:Nat} {l:Lng} {S:List Nat} (h:gg w base l) (ht:Touch S w w') (h1:∀ x∈l.iJ,x∉S) (h2:∀ x∈gi l.aU,x∉S) (h3:∀ x∈jO l.R.aS l.R.nS,x∉S):gg w' base l:=by
 have k1:∀ x∈gi l.aT,x∉S:=fun x hx=>h1 x (List.mem_append_left _ (List.mem_append_left _ hx))
 have k2:∀ x∈l.R.iJ,x∉S:=fun x hx=>h1 x (List.mem_append_left _ (List.mem_append_right _ hx))
 have k3:∀ i,i<l.nU→∀ x∈gi (l.uA i),x∉S:=fun i hi x hx=>h1 x (List.mem_append_right _ (iC.2 ⟨i,hi,hx⟩))
 exact ⟨h.t.fL ht k1,h.u.fL ht h2,fun i hi=>(h.z i hi).fL ht (k3 i hi),h.r.pU ht k2 h3,h.nd,h.su⟩
theorem iv.type2 {w:World} {base:Nat} {R:Rnd} (h:iv w base R):∀ x∈R.iJ,∃ cs,w.heap[x]?=some (.cells cs 2 (0,0)):=by
 intro x hx
 rcases List.mem_append.1 hx with hx | hx
 ·
  exact h.own.q.g.type x hx
 rcases List.mem_append.1 hx with hx | hx
 ·
  exact h.own.d.g.type x hx
 exact cx
theorem gg.type2 {w:World} {base:Nat} {l:Lng} (h:gg w base l):∀ x∈l.iJ,∃ cs,w.heap[x]?=some (.cells cs 2 (0,0)):=by
 intro x hx
 unfold Lng.iJ at hx
 simp only [List.mem_append] at hx
 rcases hx with (hx | hx) | hx
 ·
  exact OG.type (t:=2) (sz:=1) h.t x hx
 ·
  exact h.r.type2 x hx
 exact cx
theorem gg.box {w w':World} {base g:Nat} {l:Lng} {cs:Array Value} {t:TypeId} (h:gg w base l) (hg:w.heap[g]?=some (.cells cs t (0,0))) (ht2:t≠2) (hts:t≠25) (ht:Touch [g] w w'):gg w' base l:=by
 refine h.kO ht (fun x hx hy=>?_) (fun x hx hy=>?_) (fun x hx hy=>?_)
 ·
  obtain ⟨cs',h1⟩:=h.type2 x hx
  rw [List.mem_singleton.1 hy,hg] at h1
  simp at h1
  exact ht2 h1.2
 ·
  obtain ⟨cs',h1⟩:=h.u.type x hx
  rw [List.mem_singleton.1 hy,hg] at h1
  simp at h1
  exact hts h1.2
 obtain ⟨_,cs',h1⟩:=h.r.own.s.l7 x hx
 rw [List.mem_singleton.1 hy,hg] at h1
 simp at h1
 exact hts h1.2
theorem ij {f g:Nat→List Nat}:∀ {k:Nat},(∀ i,i<k→f i=g i)→(List.range k).flatMap f=(List.range k).flatMap g:=by
 intro k h
 induction k with
 | zero=>rfl
 | succ k ih =>
  rw [List.range_succ,List.flatMap_append,List.flatMap_append,ih (fun i hi=>h i (by omega))]
  simp only [List.flatMap_cons,List.flatMap_nil,List.append_nil]
  rw [h k (by omega)]
def Lng.more (l:Lng) (k:Nat) (aU:Option Addr) (cU:Nat) (a:Option Addr) (c:Nat):Lng:={ l with aU:=aU,nU:=k+1,cU:=cU,uA:=fun i=>if i=k then a else l.uA i,uC:=fun i=>if i=k then c else l.uC i }
theorem gg.more {V V1 W:World} {base k g c2 c:Nat} {l:Lng} {a:Option Addr} (h:gg V base l) (hk:l.nU=k) (hb:Below V.heap.size V V1) (hbase:base≤V.heap.size) (ho:OI V1 V.heap.size a (l.uL k) c (l.uz k))
  (hu:OG 25 1 W base (some ⟨g,0,none⟩) (k+1) c2 (ox k l.uA l.uL l.uC++[.slice a (l.uL k) c])) (ht:Touch (gi l.aU) V1 W) (hg:g∈gi l.aU∨V1.heap.size≤g):gg W base (l.more k (some ⟨g,0,none⟩) c2 a c):=by
 subst hk
 have h1:=h.up hb
 have q1:∀ x∈l.iJ,x∉gi l.aU:=fun x hx hy=>by
  obtain ⟨cs,e1⟩:=h.type2 x hx
  obtain ⟨cs',e2⟩:=h.u.type x hy
  rw [e1] at e2
  simp at e2
 have k1:∀ x∈gi l.aT,x∉gi l.aU:=fun x hx=>q1 x (List.mem_append_left _ (List.mem_append_left _ hx))
 have k2:∀ x∈l.R.iJ,x∉gi l.aU:=fun x hx=>q1 x (List.mem_append_left _ (List.mem_append_right _ hx))
 have k3:∀ i,i<l.nU→∀ x∈gi (l.uA i),x∉gi l.aU:=fun i hi x hx=>q1 x (List.mem_append_right _ (iC.2 ⟨i,hi,hx⟩))
 refine ⟨h1.t.fL ht k1,?_,fun i hi=>?_,h1.r.pU ht k2 h.su,?_,fun x hx hy=>?_⟩
 ·
  have e:ox (l.nU+1) (fun i=>if i=l.nU then a else l.uA i) l.uL (fun i=>if i=l.nU then c else l.uC i)=ox l.nU l.uA l.uL l.uC++[.slice a (l.uL l.nU) c]:=by
   rw [yf,Al (n:=l.nU) (A:=fun i=>if i=l.nU then a else l.uA i) (L:=l.uL) (C:=fun i=>if i=l.nU then c else l.uC i) (A':=l.uA) (L':=l.uL) (C':=l.uC) (fun i hi=>⟨if_neg (by omega),rfl,if_neg (by omega)⟩),if_pos rfl,if_pos rfl]
  rw [←e] at hu
  exact hu
 ·
  show OI W base (if i=l.nU then a else l.uA i) (l.uL i) (if i=l.nU then c else l.uC i) (l.uz i)
  by_cases e:i=l.nU
  ·
   rw [if_pos e,if_pos e,e]
   refine OI.mono (ho.fL ht (fun x hx hy=>?_)) hbase
   have:=(ho.blk x hx).1
   have:=(h.u.blk x hy).2
   omega
  rw [if_neg e,if_neg e]
  have hi':i<l.nU:=by have:i<l.nU+1:=hi;omega
  exact (h1.z i hi').fL ht (k3 i hi')
 ·
  show ((gi l.aT++l.R.iJ)++(List.range (l.nU+1)).flatMap fun i=>gi (if i=l.nU then a else l.uA i)).Nodup
  rw [List.range_succ,List.flatMap_append]
  simp only [List.flatMap_cons,List.flatMap_nil,List.append_nil,if_true]
  rw [ij (f:=fun i=>gi (if i=l.nU then a else l.uA i)) (g:=fun i=>gi (l.uA i)) (fun i hi=>by rw [if_neg (by omega)]),←List.append_assoc]
  refine iY h.nd (jD _) V.heap.size (fun x hx=>(h.blk x hx).2) (fun x hx=>(ho.blk x hx).1)
 have hx1:=(h.r.own.s.l7 x hx).1.2
 have hy':x=g:=by simpa [Lng.more,gi] using hy
 rcases hg with hg | hg
 ·
  exact h.su x hx (hy'▸hg)
 have:=hb.size
 omega
open Go.Shelf
def tc:Go.Shelf.Ren:=⟨fun | 316=>137 | n=>n,fun | 9=>9 | 3=>3 | 4=>4 | 37=>171 | 0=>0 | 127=>216 | 5=>5 | n=>n,fun | n=>n⟩
theorem AF:Go.Proofs.LaysM.n316 Tryz.prog tc:={
 mixed:=by kernel_rfl
 f316:=Tryz.func137.trans (congrArg some (by kernel_rfl))
 t0:=Tryz.underlying0
 a0:=Tryz.isAgg0
 z0:=Tryz.sizeOf0
 v0:=Tryz.zeroValue0
 t3:=Tryz.underlying3
 a3:=Tryz.isAgg3
 z3:=Tryz.sizeOf3
 v3:=Tryz.zeroValue3
 t4:=Tryz.underlying4
 a4:=Tryz.isAgg4
 z4:=Tryz.sizeOf4
 v4:=Tryz.zeroValue4
 t9:=Tryz.underlying9
 a9:=Tryz.isAgg9
 z9:=Tryz.sizeOf9
 v9:=Tryz.zeroValue9
 t37:=Tryz.underlying171
 a37:=Tryz.isAgg171
 z37:=Tryz.sizeOf171
 v37:=Tryz.zeroValue171
 t127:=Tryz.underlying216
 a127:=Tryz.isAgg216
 z127:=Tryz.sizeOf216
 v127:=Tryz.zeroValue216
 t5:=Tryz.underlying5
 a5:=Tryz.isAgg5
 z5:=Tryz.sizeOf5
 v5:=Tryz.zeroValue5
 i0:=by kernel_rfl
 i3:=by kernel_rfl
 i4:=by kernel_rfl
 i5:=by kernel_rfl
 i9:=by kernel_rfl
 i37:=by kernel_rfl
 i127:=by kernel_rfl }
open Go.RowKit in
theorem Cf (s:ByteArray) (w:World) (hlim:s.size≤281474976710656) :
  Calls Tryz.prog 137 #[.string s] w fun e w'=>e=.returned (.string s)∧Below w.heap.size w w':=Go.Proofs.Any.stringslite_Clone AF s w hlim
theorem xN (s:ByteArray) (w:World) (hlim:s.size≤1048576) :
  Calls Tryz.prog 113 #[.string s] w fun e w'=>e=.returned (.string s)∧Below w.heap.size w w':=by
 go_enter Tryz.func113,Tryz.ntmps113
 go_wp2_with fail
 refine (Cf s _ (by omega)).mono ?_
 rintro e w1 ⟨rfl,hb⟩
 go_wp2_with fail
 go_ret
 exact ⟨rfl,hb⟩
theorem nj (k d s p:Int) (b:ByteArray) (w:World) (hlim:b.size≤1048576) :
  Calls Tryz.prog 72 #[.agg #[.int .i64 k,.int .i64 d,.int .i64 s,.int .i64 p,.string b]] w fun e w'=>e=.returned (.agg #[.int .i64 k,.int .i64 d,.int .i64 s,.int .i64 p,.string b])∧Below w.heap.size w w':=by
 go_enter Tryz.func72,Tryz.ntmps72
 go_wp2_with fail
 refine (xN b _ hlim).mono ?_
 rintro e w1 ⟨rfl,hb⟩
 have HX:Hid (gI w #[.int .i64 k,.int .i64 d,.int .i64 s,.int .i64 p,.string b] #[.int .i64 0,.int .i64 0,.int .i64 0,.int .i64 0,.string ⟨#[]⟩] #[.int .i64 k,.int .i64 d,.int .i64 s,.int .i64 p,.string b] 47 47 w1):=(gI.start w #[.int .i64 k,.int .i64 d,.int .i64 s,.int .i64 p,.string b] #[.int .i64 0,.int .i64 0,.int .i64 0,.int .i64 0,.string ⟨#[]⟩] #[.int .i64 k,.int .i64 d,.int .i64 s,.int .i64 p,.string b] 47 47).up hb
 clear hb
 have HC:Hid (w1.heap[w.heap.size+1+1]?=some (.cells #[.int .i64 k,.int .i64 d,.int .i64 s,.int .i64 p,.string b] 47 (0,0))):=HX.out.c
 go_wp2_with (refine fJ rfl 9 (.tmp 8) (.tmp 7) rfl (w.heap.size+1+1) 4 rfl (.string b) rfl 1 rfl 47 _ HC.out (by kernel_rfl) (Nat.le_of_ble_eq_true rfl) (by simp [Value.cells,Value.oneCell']) ?_)
 intro w2 hP
 replace hP:Put w1 w2 (w.heap.size+1+1) #[.int .i64 k,.int .i64 d,.int .i64 s,.int .i64 p,.string b] 47:=hP.cast rfl
 replace HX:Hid (gI w #[.int .i64 k,.int .i64 d,.int .i64 s,.int .i64 p,.string b] #[.int .i64 0,.int .i64 0,.int .i64 0,.int .i64 0,.string ⟨#[]⟩] #[.int .i64 k,.int .i64 d,.int .i64 s,.int .i64 p,.string b] 47 47 w2):=HX.out.put hP
 clear hP HC
 have HL:Hid (∀ j,j<5→w2.cell? ⟨w.heap.size+1+1,0+j,none⟩=(#[.int .i64 k,.int .i64 d,.int .i64 s,.int .i64 p,.string b]:Array Value)[j]?):=fun j _=>by rw [Nat.zero_add];exact fF HX.out.c j
 have HD:Hid (w2.heap[w.heap.size+1]?=some (.cells #[.int .i64 0,.int .i64 0,.int .i64 0,.int .i64 0,.string ⟨#[]⟩] 47 (0,0))):=HX.out.b
 go_wp2_with (first | refine fM rfl 47 5 _ Tryz.underlying47 rfl ix (.tmp 3) rfl (w.heap.size+1+1) 0 rfl #[.int .i64 k,.int .i64 d,.int .i64 s,.int .i64 p,.string b] rfl HL.out ?_ | refine fJ rfl 47 (.tmp 2) (.tmp 9) rfl (w.heap.size+1) 0 rfl (.agg #[.int .i64 k,.int .i64 d,.int .i64 s,.int .i64 p,.string b]) rfl 5 rfl 47 _ HD.out ix (Nat.le_of_ble_eq_true rfl) (by simp [Value.cells,Value.oneCell']) ?_)
 intro w3 hP
 replace hP:Put w2 w3 (w.heap.size+1) #[.int .i64 k,.int .i64 d,.int .i64 s,.int .i64 p,.string b] 47:=hP.cast rfl
 have HK:Hid (w3.heap[w.heap.size+1]?=some (.cells #[.int .i64 k,.int .i64 d,.int .i64 s,.int .i64 p,.string b] 47 (0,0))):=hP.blk
 have HB:Hid (Below w.heap.size w w3):=(HX.out.out hP).bel
 clear hP HL HD
 go_wp2_with fail
 exact bodyPost_ret (js Tryz.results72 5 _ Tryz.underlying47 rfl ix _ _ (w.heap.size+1) #[.int .i64 k,.int .i64 d,.int .i64 s,.int .i64 p,.string b] rfl 47 HK.out rfl) rfl ⟨rfl,HB.out⟩
theorem po:(Tryz.prog.info? 94).map (fun i=>(i.zero,i.size,i.bytes))=some (some (.agg #[.int .i64 0,.int .i64 0,.int .i64 0,.int .i64 0,.int .i64 0,.int .i64 0,.int .i64 0,.string ⟨#[]⟩]),8,72):=by kernel_rfl
def C8 (n:Nat):Array Value:=madeCells #[.int .i64 0,.int .i64 0,.int .i64 0,.int .i64 0,.int .i64 0,.int .i64 0,.int .i64 0,.string ⟨#[]⟩] (n*8)
theorem Ay (n:Nat) (hn:n≤1048576) (w:World):(Instr.makeSlice 40 (.int .i64 (n:Int)) (.int .i64 (n:Int))).run Tryz.prog w=.ok (.slice (some ⟨w.heap.size,0,none⟩) n n) (w.alloc (.cells (C8 n) 94)):=by
 obtain ⟨i0,hi,hz0,hz1,hz2⟩:=info_parts po
 have:=run_make (P:=Tryz.prog) w 40 94 i0 _ Tryz.underlying40 hi hz0 .i64 .i64 (n:Int) (n:Int) (by omega) (by omega) (by rw [hz2];omega) (by omega)
 rw [this,hz1]
 simp [C8,Value.cells]
theorem vc:(Tryz.prog.info? 99).map (fun i=>(i.zero,i.size,i.bytes))=some (some (.agg #[.bool false,.slice none 0 0,.slice none 0 0,.slice none 0 0,.slice none 0 0,.int .i64 0,.bool false,.slice none 0 0]),8,144):=by kernel_rfl
def C9 (n:Nat):Array Value:=madeCells #[.bool false,.slice none 0 0,.slice none 0 0,.slice none 0 0,.slice none 0 0,.int .i64 0,.bool false,.slice none 0 0] (n*8)
theorem Az (n:Nat) (hn:n≤1048576) (w:World):(Instr.makeSlice 41 (.int .i64 (n:Int)) (.int .i64 (n:Int))).run Tryz.prog w=.ok (.slice (some ⟨w.heap.size,0,none⟩) n n) (w.alloc (.cells (C9 n) 99)):=by
 obtain ⟨i0,hi,hz0,hz1,hz2⟩:=info_parts vc
 have:=run_make (P:=Tryz.prog) w 41 99 i0 _ Tryz.underlying41 hi hz0 .i64 .i64 (n:Int) (n:Int) (by omega) (by omega) (by rw [hz2];omega) (by omega)
 rw [this,hz1]
 simp [C9,Value.cells]
theorem sM {w W:World} {g n k:Nat} {t:TypeId} {F:Nat→Value} {arr cs:Array Value} (hn:n*8≤arr.size) (hc:∀ i,i<k*8→arr[i]?=some (F i)) (hlt:k<n) (hs:cs.size=8) (hcs:∀ j,j<8→some (F (k*8+j))=cs[j]?) (hP:Put w W g (lay arr (k*8) cs) t):fU g t (n*8) F ((k+1)*8) W:=by
 have hf:k*8+cs.size≤arr.size:=by omega
 refine ⟨_,hP.blk,by rw [jc hf];exact hn,fun i hi=>?_⟩
 by_cases e:i<k*8
 ·
  rw [lg hf i e]
  exact hc i e
 have:=jx hf (i-k*8) (by omega)
 rw [show k*8+(i-k*8)=i by omega] at this
 rw [this,←hcs _ (by omega),show k*8+(i-k*8)=i by omega]
theorem qx (a:Option Addr) (n cap:Nat) (K:Nat→Pkt) (w:World) (hn:n≤1048576) (h:kK w a n K) :
  Calls Tryz.prog 22 #[.slice a n cap] w fun e w'=>e=.returned (.slice (some ⟨w.heap.size,0,none⟩) n n)∧fU w.heap.size 94 (n*8) (pv K) (n*8) w'∧Below w.heap.size w w':=by
 have mk:=Ay n hn
 have HR:Hid (kK w a n K):=h
 clear h
 go_enter Tryz.func22,Tryz.ntmps22
 go_wp2_with fail
 clear mk
 go_loopw [4] (fun i wr=>∃ k:Nat,k≤n∧i=.int .i64 k∧Hid (fU w.heap.size 94 (n*8) (pv K) (k*8) wr)∧Hid (Below w.heap.size w wr)) (fun i _=>n-(intOf i).toNat)
 case atStart=>exact ⟨0,Nat.zero_le _,rfl,⟨_,fK w _,by simp [C8,size_madeCells],fun i hi=>by omega⟩,(Below.refl _ _).alloc (Nat.le_refl _) _⟩
 obtain ⟨k,hk,rfl,HT,HB⟩:=hrel
 by_cases hlt:k<n
 ·
  have hlt':(k:Int)<n:=by omega
  obtain ⟨g,o,ha,hc⟩:=(HR.out.up HB.out) k hlt
  subst ha
  have HC:Hid (∀ j,j<8→wr.cell? ⟨g,o+k*8+j,none⟩=(K k).cells[j]?):=hc
  clear hc
  go_wp2_with (refine fM rfl 81 8 _ Tryz.underlying81 rfl yW (.tmp 18) rfl g (o+k*8) rfl (K k).cells rfl HC.out ?_)
  refine (so (K k) _).mono ?_
  rintro e w1 ⟨rfl,hb1⟩
  have HB1:Hid (Below w.heap.size w w1):=HB.out.trans (hb1.mono HB.out.size)
  have R1:=HT.out.iB (hb1.block _ HT.out.lt)
  obtain ⟨arr,hb2,hn2,hc2⟩:=R1
  have HG:Hid (w1.heap[w.heap.size]?=some (.cells arr 94 (0,0))):=hb2
  have HN:Hid (n*8≤arr.size∧∀ i,i<k*8→arr[i]?=some (pv K i)):=⟨hn2,hc2⟩
  clear hb1 HB HT HC hb2 hn2 hc2
  go_wp2_with (refine fJ rfl 94 (.tmp 21) (.tmp 20) rfl w.heap.size (k*8) (by simp [Act.eval]) (.agg (K k).cells) rfl 8 rfl 94 arr HG.out j6 (by have:=HN.out.1;omega) (Pkt.mi _) ?_)
  intro W2 hP
  have HT2:Hid (fU w.heap.size 94 (n*8) (pv K) ((k+1)*8) W2):=sM HN.out.1 HN.out.2 hlt rfl (fun j hj=>rB K k j hj) hP
  have HB2:Hid (Below w.heap.size w W2):=HB1.out.trans (hP.to.below HB1.out.size (fun x hx=>by simp at hx;omega))
  clear hP HB1 HG HN
  go_wp2_with fail
  go_roundw
  case rel=>exact ⟨k+1,by omega,by go_num,HT2,HB2⟩
  case measure=>simp [intOf];omega
 obtain rfl:k=n:=by omega
 go_wp2_with fail
 go_ret
 exact ⟨rfl,HT.out,HB.out⟩
structure rZ (w:World) (L L2:Nat→Lng) (n k:Nat) (wr:World):Prop where
 r:fU w.heap.size 99 (n*8) (l3 L2) (k*8) wr
 a:∀ i,i<k→gk (L i) (L2 i)
 o:∀ i,i<k→gZ wr (w.heap.size+1) (L2 i)
 d:((List.range k).flatMap fun i=>(L2 i).kH).Nodup
 b:Below w.heap.size w wr
 s:w.heap.size<wr.heap.size
theorem zq {L L':Nat→Lng} {k i:Nat} (h:∀ j,j<k→L' j=L j) (hi:i<k*8):l3 L' i=l3 L i:=by
 unfold l3
 rw [h (i / 8) (by omega)]
theorem rZ.up {w:World} {L L2:Nat→Lng} {n k:Nat} {wr w1:World} (h:rZ w L L2 n k wr) (hb:Below wr.heap.size wr w1):rZ w L L2 n k w1 :=
 ⟨h.r.iB (hb.block _ h.r.lt),h.a,fun i hi=>(h.o i hi).up hb,h.d,h.b.trans (hb.mono h.b.size),Nat.lt_of_lt_of_le h.s hb.size⟩
theorem mw {f g:Nat→List Nat}:∀ {k:Nat},(∀ i,i<k→f i=g i)→(List.range k).flatMap f=(List.range k).flatMap g:=ij
theorem rZ.step {w:World} {L L2:Nat→Lng} {n k:Nat} {wr w1 W:World} {l2:Lng} {arr:Array Value} (h:rZ w L L2 n k wr) (hlt:k<n) (hb:Below wr.heap.size wr w1) (ha:gk (L k) l2) (ho:gZ w1 wr.heap.size l2)
  (hn:n*8≤arr.size) (hc:∀ i,i<k*8→arr[i]?=some (l3 L2 i)) (hP:Put w1 W w.heap.size (lay arr (k*8) l2.cells) 99):rZ w L (fun i=>if i=k then l2 else L2 i) n (k+1) W:=by
 have hs:=h.s
 have h1:=h.up hb
 refine ⟨?_,fun i hi=>?_,fun i hi=>?_,?_,h1.b.trans (hP.to.below h1.b.size (fun x hx=>by simp at hx;omega)),by rw [hP.size];exact h1.s⟩
 ·
  refine sM hn (fun i hi=>?_) hlt rfl (fun j hj=>?_) hP
  ·
   rw [hc i hi,zq (L:=L2) (k:=k) (fun j hj=>if_neg (by omega)) hi]
  rw [jU _ k j hj]
  simp only [if_true]
 ·
  by_cases e:i=k
  ·
   subst e
   simp only [if_true]
   exact ha
  simp only [if_neg e]
  exact h.a i (by omega)
 ·
  by_cases e:i=k
  ·
   simp only [e,if_true]
   exact (ho.low hP.to (fun x hx=>by simp at hx;omega)).mono (by omega)
  simp only [if_neg e]
  exact (h1.o i (by omega)).low hP.to (fun x hx=>by simp at hx;omega)
 rw [List.range_succ,List.flatMap_append]
 simp only [List.flatMap_cons,List.flatMap_nil,List.append_nil,if_true]
 rw [mw (f:=fun i=>(if i=k then l2 else L2 i).kH) (g:=fun i=>(L2 i).kH) (fun i hi=>by rw [if_neg (by omega)])]
 refine iY h.d ho.nd wr.heap.size (fun x hx=>?_) (fun x hx=>(ho.blk x hx).1)
 simp only [List.mem_flatMap,List.mem_range] at hx
 obtain ⟨i,hi,hx⟩:=hx
 exact ((h.o i hi).blk x hx).2
theorem uG (a:Option Addr) (n cap:Nat) (L:Nat→Lng) (w:World) (hn:n≤1048576) (hs:∀ i,i<n→(L i).Small) (h:pP w a n L) (hr:∀ i,i<n→mh w (L i)) :
  Calls Tryz.prog 23 #[.slice a n cap] w fun e w'=>e=.returned (.slice (some ⟨w.heap.size,0,none⟩) n n)∧∃ L2,rZ w L L2 n n w':=by
 have mk:=Az n hn
 have HR:Hid (pP w a n L):=h
 have HL:Hid (∀ i,i<n→mh w (L i)):=hr
 have HS:Hid (∀ i,i<n→(L i).Small):=hs
 clear h hr hs
 go_enter Tryz.func23,Tryz.ntmps23
 go_wp2_with fail
 clear mk
 go_loopw [4] (fun i wr=>∃ (k:Nat) (L2:Nat→Lng),k≤n∧i=.int .i64 k∧Hid (rZ w L L2 n k wr)) (fun i _=>n-(intOf i).toNat)
 case atStart=>exact ⟨0,L,Nat.zero_le _,rfl,⟨⟨_,fK w _,by simp [C9,size_madeCells],fun i hi=>by omega⟩,fun i hi=>by omega,fun i hi=>by omega,by simp,(Below.refl _ _).alloc (Nat.le_refl _) _,by simp⟩⟩
 obtain ⟨k,L2,hk,rfl,HT⟩:=hrel
 by_cases hlt:k<n
 ·
  have hlt':(k:Int)<n:=by omega
  obtain ⟨g,o,ha,hc⟩:=(HR.out.up HT.out.b) k hlt
  subst ha
  have HC:Hid (∀ j,j<8→wr.cell? ⟨g,o+k*8+j,none⟩=(L k).cells[j]?):=hc
  clear hc
  go_wp2_with (refine fM rfl 87 8 _ Tryz.underlying87 rfl yX (.tmp 18) rfl g (o+k*8) rfl (L k).cells rfl HC.out ?_)
  refine (wJ (L k) _ (HS.out k hlt) ((HL.out k hlt).up HT.out.b)).mono ?_
  rintro e w1 ⟨l2,rfl,ha2,ho2,hb1⟩
  obtain ⟨arr,hb2,hn2,hc2⟩:=(HT.out.up hb1).r
  have HG:Hid (w1.heap[w.heap.size]?=some (.cells arr 99 (0,0))):=hb2
  have HN:Hid (n*8≤arr.size∧∀ i,i<k*8→arr[i]?=some (l3 L2 i)):=⟨hn2,hc2⟩
  have HO:Hid (gk (L k) l2∧gZ w1 wr.heap.size l2∧Below wr.heap.size wr w1):=⟨ha2,ho2,hb1⟩
  clear hb1 HC hb2 hn2 hc2 ha2 ho2
  go_wp2_with (refine fJ rfl 99 (.tmp 21) (.tmp 20) rfl w.heap.size (k*8) (by simp [Act.eval]) (.agg l2.cells) rfl 8 rfl 99 arr HG.out ir (by have:=HN.out.1;omega) (Lng.mi _) ?_)
  intro W2 hP
  have HT2:Hid (rZ w L (fun i=>if i=k then l2 else L2 i) n (k+1) W2):=HT.out.step hlt HO.out.2.2 HO.out.1 HO.out.2.1 HN.out.1 HN.out.2 hP
  clear hP HG HN HT HO
  go_wp2_with fail
  go_roundw
  case rel=>exact ⟨k+1,_,by omega,by go_num,HT2⟩
  case measure=>simp [intOf];omega
 obtain rfl:k=n:=by omega
 go_wp2_with fail
 go_ret
 exact ⟨rfl,L2,HT.out⟩
end Go.Proofs.YtjaobmbcmjgjgaaGreatDoor
