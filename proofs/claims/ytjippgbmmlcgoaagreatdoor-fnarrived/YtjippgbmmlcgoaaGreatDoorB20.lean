import Derived.Test.YtjippgbmmlcgoaaGreatDoorB19
namespace Go.Proofs.YtjippgbmmlcgoaaGreatDoor
set_option maxRecDepth 100000
open Go.RowKit
set_option linter.unusedVariables false
set_option linter.unusedSimpArgs false
variable {base c cv k n:Nat} {f:Nat→Int} {C:Nat→Nat} {A:Nat→Option Addr} {o o':Obj} {a aD aQ av:Option Addr} {p:Prop} {t:TypeId} {W W' w wi:World}
theorem cy (h:p:=by
 have hHeld:=hS2
 clear hS2
 rename World=>W
 rename Mk2 _ _ _ _ _ _ _ _=>hM
 refine rq1 7 (fun K hK=>?_)
 obtain ⟨ad,cd,W2,hr,hM2⟩:=hM.xU (a:=aD) cD HS.d (HRd _ hM.below).d
 have hS2:=HSx _ hM2.below
 clear hM hHeld
 refine jz (by kernel_rfl) (some 12) (.tmp 9) (.tmp 11) 27 _ _ _ rfl rfl rfl rfl rfl hr ?_
 clear hr
 refine ah (hK _ _ (hS2)) ?_
 intro hHeld
 clear hK K
 clear hHeld
 have hHeld:=hS2
 clear hS2
 rename World=>W
 rename Mk2 _ _ _ _ _ _ _ _=>hM
 refine mn (i:=12) (some 17) (v:=?_) rfl rfl (by kernel_rfl) (by kernel_rfl) (by kernel_rfl) (fun _ _ _ h=>absurd h.1 (by simp)) (by kernel_rfl) ?_ (by assumption) ?_
 rotate_left
 · exact cY
 try simp only [Act.put,PZ]
 exact db):p:=h
theorem cH (h:p:=by
 have hHeld:=hS2
 clear hS2
 rename World=>W
 rename Mk2 _ _ _ _ _ _ _ _=>hM
 refine rq2 7 13 (fun K hK=>?_) (fun K hK=>?_)
 ·
  obtain ⟨ad,cd,W2,hr,hM2⟩:=hM.xU (a:=aD) cD HS.d (HRd _ hM.below).d
  have hS2:=HSx _ hM2.below
  clear hM hHeld
  refine jz (by kernel_rfl) (some 12) (.tmp 9) (.tmp 11) 27 _ _ _ rfl rfl rfl rfl rfl hr ?_
  clear hr
  refine ah (hK _ _ (hS2)) ?_
  intro hHeld
  clear hK K
  clear hHeld
  have hHeld:=hS2
  clear hS2
  rename World=>W
  rename Mk2 _ _ _ _ _ _ _ _=>hM
  refine mn (i:=12) (some 17) (v:=?_) rfl rfl (by kernel_rfl) (by kernel_rfl) (by kernel_rfl) (fun _ _ _ h=>absurd h.1 (by simp)) (by kernel_rfl) ?_ (by assumption) ?_
  rotate_left
  · exact cY
  try simp only [Act.put,PZ]
  refine rq1 13 (fun K hK=>?_)
  obtain ⟨gB,W2,hg,hW,hM2⟩:=hM.tS
  have hS2:=HSx _ hM2.below
  clear hM hHeld
  go_simp
  refine ah (hK _ _ (by rw [←hW];exact hS2)) ?_
  intro hHeld
  clear hK K
  rw [←hg,←hW]
  clear hg hW hHeld
  have hHeld:=hS2
  clear hS2
  rename World=>W
  rename Mk2 _ _ _ _ _ _ _ _=>hM
  exact db
 obtain ⟨gB,W2,hg,hW,hM2⟩:=hM.tS
 exact df):p:=h
theorem cI (h:p:=by
 have hS2:=HSx _ hM2.below
 clear hM hHeld
 go_simp
 refine ah (hK _ _ (by rw [←hW];exact hS2)) ?_
 intro hHeld
 clear hK K
 rw [←hg,←hW]
 clear hg hW hHeld
 have hHeld:=hS2
 clear hS2
 rename World=>W
 rename Mk2 _ _ _ _ _ _ _ _=>hM
 refine rq1 3 (fun K hK=>?_)
 obtain ⟨aq,cq,W2,hr,hM2⟩:=hM.Gc (a:=aQ) cQ HS.q (HRd _ hM.below).q
 have hS2:=HSx _ hM2.below
 clear hM hHeld
 refine jz (by kernel_rfl) (some 8) (.tmp 5) (.tmp 7) 27 _ _ _ rfl rfl rfl rfl rfl hr ?_
 clear hr
 refine ah (hK _ _ (hS2)) ?_
 intro hHeld
 clear hK K
 clear hHeld
 exact cy):p:=h
theorem cJ (h:p:=by
 go_simp
 refine ah (hK _ _ (s3)) ?_
 intro hHeld
 clear hK K
 refine rq1 10 (fun K hK=>?_)
 refine jz (by kernel_rfl) (some 35) (.tmp 26) (.tmp 34) 43 _ _ _ rfl rfl rfl rfl rfl r2 ?_
 refine ah (hK _ _ (s4)) ?_
 intro hHeld
 clear hK K
 refine tQ 11 36 ?_
 refine rq1 12 (fun K hK=>?_)
 go_simp
 refine ah (hK _ _ (s5)) ?_
 intro hHeld
 clear hK K
 refine dnq ?_
 clear s0 s1 s2 s3 s4 s5 b0 b1 b2 b3 b4 f4 hHeld
 go_wp2_with fail
 go_roundw
 case rel=>exact ⟨k+1,_,_,av',cv',by omega,by go_num,HCp5.out,HB5.out,HkB5.out⟩
 case measure=>simp [intOf];omega):p:=h
theorem cM (h:p:=by
 have hS2:=HSx _ hM2.below
 clear hM hHeld
 go_simp
 refine ah (hK _ _ (by rw [←hW];exact hS2)) ?_
 intro hHeld
 clear hK K
 rw [←hg,←hW]
 clear hg hW hHeld
 have hHeld:=hS2
 clear hS2
 rename World=>W
 rename Mk2 _ _ _ _ _ _ _ _=>hM
 refine rq2 3 4 (fun K hK=>?_) (fun K hK=>?_)
 ·
  obtain ⟨aq,cq,W2,hr,hM2⟩:=hM.Gc (a:=aQ) cQ HS.q (HRd _ hM.below).q
  have hS2:=HSx _ hM2.below
  clear hM hHeld
  refine jz (by kernel_rfl) (some 8) (.tmp 5) (.tmp 7) 27 _ _ _ rfl rfl rfl rfl rfl hr ?_
  clear hr
  refine ah (hK _ _ (hS2)) ?_
  intro hHeld
  clear hK K
  clear hHeld
  exact dc
 obtain ⟨gE2,W2,hg,hW,hM2⟩:=hM.zA
 exact cI):p:=h
theorem cW (h:p:=by
 have hS2:=HSx _ hM2.below
 clear hM hHeld
 go_simp
 refine ah (hK _ _ (by rw [←hW];exact hS2)) ?_
 intro hHeld
 clear hK K
 rw [←hg,←hW]
 clear hg hW hHeld
 have hHeld:=hS2
 clear hS2
 rename World=>W
 rename Mk2 _ _ _ _ _ _ _ _=>hM
 refine rq2 3 13 (fun K hK=>?_) (fun K hK=>?_)
 ·
  obtain ⟨aq,cq,W2,hr,hM2⟩:=hM.Gc (a:=aQ) cQ HS.q (HRd _ hM.below).q
  have hS2:=HSx _ hM2.below
  clear hM hHeld
  refine jz (by kernel_rfl) (some 8) (.tmp 5) (.tmp 7) 27 _ _ _ rfl rfl rfl rfl rfl hr ?_
  clear hr
  refine ah (hK _ _ (hS2)) ?_
  intro hHeld
  clear hK K
  clear hHeld
  exact cH
 obtain ⟨gB,W2,hg,hW,hM2⟩:=hM.tS
 exact cI):p:=h
theorem cY (h:p:=by
 intro wx hSw
 obtain ⟨hS1,hS2,hS3,hS4⟩:=hSw
 go_simp
 try with_reducible rfl):p:=h
theorem cZ (h:p:=by
 have hS2:=HSx _ hM2.below
 clear hM hHeld
 go_simp
 refine ah (hK _ _ (by rw [←hW];exact hS2)) ?_
 intro hHeld
 clear hK K
 rw [←hg,←hW]
 clear hg hW hHeld
 have hHeld:=hS2
 clear hS2
 rename World=>W
 rename Mk2 _ _ _ _ _ _ _ _=>hM
 refine rq1 0 (fun K hK=>?_)
 obtain ⟨gE1,W2,hg,hW,hM2⟩:=hM.C6
 exact cI):p:=h
theorem da (h:p:=by
 go_simp
 refine ah (hK _ _ (s1)) ?_
 intro hHeld
 clear hK K
 refine rq1 8 (fun K hK=>?_)
 refine jz (by kernel_rfl) (some 33) (.tmp 27) (.tmp 32) 27 _ _ _ rfl rfl rfl rfl rfl r1 ?_
 exact de):p:=h
theorem db (h:p:=by
 have cB:=ie (hM.b gB rfl).2
 have fB:=ix (hM.b gB rfl).2
 unfold qT at cB
 have hS5:=HSs W gB (.slice aq nQ cq) (.slice ad nD cd) (.int .i64 turn) (.bool fresh) (.slice none 0 0) hM.below (hM.b gB rfl).1
 unfold sg at hS5
 refine rq1 14 (fun K hK=>?_)
 go_simp
 refine ah (hK _ _ (hS5)) ?_
 intro hHeld
 clear hK K
 refine dnq ?_
 exact ⟨rfl,aq,cq,ad,cd,gB,gE1,gE2,W,hM,rfl,rfl⟩):p:=h
theorem dc (h:p:=by
 have hHeld:=hS2
 clear hS2
 rename World=>W
 rename Mk2 _ _ _ _ _ _ _ _=>hM
 refine rq1 4 (fun K hK=>?_)
 obtain ⟨gE2,W2,hg,hW,hM2⟩:=hM.zA
 exact df):p:=h
theorem de (h:p:=by
 refine ah (hK _ _ (s2)) ?_
 intro hHeld
 clear hK K
 refine rq1 9 (fun K hK=>?_)
 exact cJ):p:=h
theorem df (h:p:=by
 have hS2:=HSx _ hM2.below
 clear hM hHeld
 go_simp
 refine ah (hK _ _ (by rw [←hW];exact hS2)) ?_
 intro hHeld
 clear hK K
 rw [←hg,←hW]
 clear hg hW hHeld
 exact cy):p:=h
def slV (k:Nat) (A:Nat→Option Addr) (L C:Nat→Nat):List Value:=(List.range k).map fun i=>.slice (A i) (L i) (C i)
theorem CX (k:Nat) (A:Nat→Option Addr) (L C:Nat→Nat) (a:Option Addr) (c:Nat):slV k A L C++[.slice a (L k) c]=slV (k+1) (fun i=>if i=k then a else A i) L (fun i=>if i=k then c else C i):=by
 unfold slV
 rw [List.range_succ,List.map_append]
 congr 1
 ·
  refine List.map_congr_left fun j hj=>?_
  have:j<k:=List.mem_range.1 hj
  dsimp only
  rw [if_neg (show ¬ j=k by omega),if_neg (show ¬ j=k by omega)]
 simp
theorem VI.qL (h:VI W base a n f) (hk:∀ (g:Nat) (arr:Array Value),W.heap[g]?=some (.cells arr 2 (0,0))→W'.heap[g]?=some (.cells arr 2 (0,0))):VI W' base a n f :=
 h.imp id (by
  rintro ⟨g,ha,hg,arr,hb,hr⟩
  exact ⟨g,ha,hg,arr,hk g arr hb,hr⟩)
theorem OI.qL (h:OI W base a n c f) (hk:∀ (g:Nat) (arr:Array Value),W.heap[g]?=some (.cells arr 2 (0,0))→W'.heap[g]?=some (.cells arr 2 (0,0))):OI W' base a n c f:=by
 refine ⟨h.1,h.2.imp id ?_⟩
 rintro ⟨g,cap,cur,e,hg,hbk,hr⟩
 exact ⟨g,cap,cur,e,hg,hk g cur hbk,hr⟩
structure Cp2 (R:Rnd) (base:Nat) (W:World) (aQ aD av:Option Addr) (cv:Nat) (A:Nat→Option Addr) (C:Nat→Nat) (k:Nat):Prop where
 q:VI W base aQ R.nQ R.q
 d:VI W base aD R.nD R.d
 s:W.ownsRow base 27 1 (.slice av k cv) k (slV k A R.L C)
 z:∀ i,i<k→OI W base (A i) (R.L i) (C i) (R.z i)
 qd:ke aQ R.nQ aD R.nD
 qz:∀ i,i<k→∀ x∈jR aQ R.nQ,x∉iI (A i)
 dz:∀ i,i<k→∀ x∈jR aD R.nD,x∉iI (A i)
 zz:∀ i j,i<k→j<k→i≠j→∀ x∈iI (A i),x∉iI (A j)
theorem Df {e:TypeId} {sz:Nat} {v:Value} {xs:List Value} (h:w.ownsRow base e sz v n xs):∃ a c,v=.slice a n c:=by
 rcases h.2 with ⟨e,h0⟩ | ⟨g,cap,cur,e,_⟩
 ·
  subst h0
  exact ⟨_,_,e⟩
 exact ⟨_,_,e⟩
theorem Cp2.step {R:Rnd} (h:Cp2 R base W aQ aD av cv A C k) (hk:k<1048576) (hl:R.L k≤1048576) (hb:base≤W.heap.size) (hr:iP (W.alloc (.cells #[] 2)) (R.A k) (R.L k) fun j=>.int .i64 (R.z k j)) (cc:Nat) :
  ∃ a' c' W2 av' cv' W4,(Builtin.append_ #[27,27] 27 #[.slice (some ⟨W.heap.size,0,none⟩) 0 0,.slice (R.A k) (R.L k) cc]).run Tryz.prog (W.alloc (.cells #[] 2))=.ok (.slice a' (R.L k) c') W2 ∧
   (Builtin.append_ #[43,43] 43 #[.slice av k cv,.slice (some ⟨W2.heap.size,0,none⟩) 1 1]).run Tryz.prog (W2.alloc (.cells #[.slice a' (R.L k) c'] 27))=.ok (.slice av' (k+1) cv') W4 ∧
   Cp2 R base W4 aQ aD av' cv' (fun i=>if i=k then a' else A i) (fun i=>if i=k then c' else C i) (k+1)∧Below base W W4∧Below W.heap.size W W2 ∧
   (∀ (g:Nat) (arr:Array Value) (t:TypeId),t≠27→W.heap[g]?=some (.cells arr t (0,0))→W4.heap[g]?=some (.cells arr t (0,0))):=by
 have hA:Below W.heap.size W (W.alloc (.cells #[] 2)):=(Below.refl _ _).alloc (Nat.le_refl _) _
 have e1:(W.alloc (.cells #[] 2)).heap.size=W.heap.size+1:=by simp
 obtain ⟨a',c',W2,r1,ho,hg,hp⟩:=oJ (W:=W.alloc (.cells #[] 2)) (base:=W.heap.size) (c:=cc) (om (Nat.le_refl _) (im W _)) (by omega) hl hr
 have B2:Below W.heap.size W W2:=hA.grown hg (by omega) (fun x e=>by simp [Value.ownBlock] at e;omega)
 have hA3:Below W2.heap.size W2 (W2.alloc (.cells #[.slice a' (R.L k) c'] 27)):=(Below.refl _ _).alloc (Nat.le_refl _) _
 have e3:(W2.alloc (.cells #[.slice a' (R.L k) c'] 27)).heap.size=W2.heap.size+1:=by simp
 have B3:Below W.heap.size W (W2.alloc (.cells #[.slice a' (R.L k) c'] 27)):=B2.trans (hA3.mono B2.size)
 obtain ⟨i0,hi,hz0,hz1,hz2⟩:=info_parts wW
 have hnew:=ie (im W2 (.cells #[.slice a' (R.L k) c'] 27))
 obtain ⟨v',W4,r2,h2,h3,h4,h5⟩:=run_append_own_at (P:=Tryz.prog) (W2.alloc (.cells #[.slice a' (R.L k) c'] 27)) base 43 43 27 i0 (.slice none 0 0) 1 24 Tryz.underlying43 hi hz0 hz1 hz2 rfl (by decide) (.slice av k cv) k (slV k A R.L C) (mq h.s B3 (Nat.le_refl _)) ⟨W2.heap.size,0,none⟩ 1 1 [.slice a' (R.L k) c'] rfl (fun j u hj=>by
  have hj0:j=0:=by
   have:=(List.getElem?_eq_some_iff.1 hj).1
   simp at this
   exact this
  subst hj0
  have e:(⟨W2.heap.size,0,none⟩:Addr).add 0=⟨W2.heap.size,0,none⟩:=by unfold Addr.add;split <;> simp_all
  rw [e,hnew 0]
  simpa using hj) (fun u hu=>by
  simp at hu
  subst hu
  rfl) (by unfold maxLen;omega) (by omega) (by have:=B2.size;omega)
 rw [CX] at h2
 obtain ⟨av',cv',rfl⟩:=Df h2
 have hty:∀ x,(Value.slice av k cv).ownBlock=some x→base≤x∧∃ arr,W.heap[x]?=some (.cells arr 27 (0,0)):=fun x hx=>by
  rcases h.s.2 with ⟨e,_⟩ | ⟨g,cap,cur,e,hg,hbk,_⟩
  ·
   rw [e] at hx
   simp [Value.ownBlock] at hx
  rw [e] at hx
  simp [Value.ownBlock] at hx
  subst hx
  exact ⟨hg,cur,hbk⟩
 have hkeep:∀ (g:Nat) (arr:Array Value) (t:TypeId),t≠27→(W2.alloc (.cells #[.slice a' (R.L k) c'] 27)).heap[g]?=some (.cells arr t (0,0))→W4.heap[g]?=some (.cells arr t (0,0)):=fun g arr t ht hgg=>by
  refine (h3.block g (ig hgg) (fun e=>?_)).trans hgg
  obtain ⟨_,arr',h'⟩:=hty g e.symm
  have h6:=(B3.block g (ig h')).trans h'
  rw [hgg] at h6
  simp at h6
  exact ht h6.2
 have k2:∀ (g:Nat) (arr:Array Value),W.heap[g]?=some (.cells arr 2 (0,0))→W4.heap[g]?=some (.cells arr 2 (0,0)):=fun g arr hgg=>hkeep g arr 2 (by decide) ((B3.block g (ig hgg)).trans hgg)
 have hoW:OI W4 W.heap.size a' (R.L k) c' (R.z k):=(ho.up hA3).qL (fun g arr hgg=>hkeep g arr 2 (by decide) hgg)
 refine ⟨a',c',W2,av',cv',W4,r1,r2,⟨h.q.qL k2,h.d.qL k2,h2,fun i hi=>?_,h.qd,fun i hi=>?_,fun i hi=>?_,fun i j hi hj hne=>?_⟩,?_,B2,fun g arr t ht hgg=>hkeep g arr t ht ((B3.block g (ig hgg)).trans hgg)⟩
 ·
  by_cases e:i=k
  ·
   subst e
   simp only [if_true]
   exact hoW.mono hb
  simp only [if_neg e]
  exact (h.z i (by omega)).qL k2
 ·
  by_cases e:i=k
  ·
   subst e
   simp only [if_true]
   exact oU h.q hoW (Nat.le_refl _)
  simp only [if_neg e]
  exact h.qz i (by omega)
 ·
  by_cases e:i=k
  ·
   subst e
   simp only [if_true]
   exact oU h.d hoW (Nat.le_refl _)
  simp only [if_neg e]
  exact h.dz i (by omega)
 ·
  by_cases e:i=k
  ·
   subst e
   simp only [if_true,if_neg (Ne.symm hne)]
   exact fun x hx hy=>nH (h.z j (by omega)) hoW (Nat.le_refl _) x hy hx
  by_cases e2:j=k
  ·
   subst e2
   simp only [if_true,if_neg e]
   exact nH (h.z i (by omega)) hoW (Nat.le_refl _)
  simp only [if_neg e,if_neg e2]
  exact h.zz i j (by omega) (by omega) hne
 exact (B3.mono hb).grown h3 (by have:=B2.size;omega) (fun x e=>(hty x e).1)
theorem Cp2.up {R:Rnd} (h:Cp2 R base W aQ aD av cv A C k) (hb:Below W.heap.size W W'):Cp2 R base W' aQ aD av cv A C k :=
 ⟨h.q.up hb,h.d.up hb,mq h.s hb (Nat.le_refl _),fun i hi=>(h.z i hi).up hb,h.qd,h.qz,h.dz,h.zz⟩
theorem Cp2.qL {R:Rnd} (h:Cp2 R base W aQ aD av cv A C k) (h2:∀ (g:Nat) (arr:Array Value),W.heap[g]?=some (.cells arr 2 (0,0))→W'.heap[g]?=some (.cells arr 2 (0,0))) (h3:∀ (g:Nat) (arr:Array Value),W.heap[g]?=some (.cells arr 27 (0,0))→W'.heap[g]?=some (.cells arr 27 (0,0))):Cp2 R base W' aQ aD av cv A C k:=by
 refine ⟨h.q.qL h2,h.d.qL h2,⟨h.s.1,h.s.2.imp id ?_⟩,fun i hi=>(h.z i hi).qL h2,h.qd,h.qz,h.dz,h.zz⟩
 rintro ⟨g,cap,cur,e,hg,hbk,hr⟩
 exact ⟨g,cap,cur,e,hg,h3 g cur hbk,hr⟩
def Rnd.cp2 (R:Rnd) (aQ:Option Addr) (cQ:Nat) (aD:Option Addr) (cD:Nat) (av:Option Addr) (cv:Nat) (A:Nat→Option Addr) (C:Nat→Nat):Rnd :=
 ⟨aQ,R.nQ,cQ,R.q,aD,R.nD,cD,R.d,R.turn,R.fresh,av,R.nS,cv,A,R.L,C,R.z⟩
theorem Cp2.own {R:Rnd} (h:Cp2 R base W aQ aD av cv A C R.nS) (cQ cD:Nat):jD W base (R.cp2 aQ cQ aD cD av cv A C):=by
 refine ⟨⟨h.q,h.d,?_,fun i hi=>(h.z i hi).vi,h.qd,fun i hi x hx hy=>h.qz i hi x hx (jX hy),fun i hi x hx hy=>h.dz i hi x hx (jX hy),fun i j hi hj hne x hx hy=>h.zz i j hi hj hne x (jX hx) (jX hy)⟩,h.z,h.qz,h.dz,h.zz⟩
 rcases h.s.2 with ⟨_,h0⟩ | ⟨g,cap,cur,e,hg,hbk,hnc,hcm,hcs,htake⟩
 ·
  exact .inl h0
 injection e with e2
 refine .inr ⟨g,e2,hg,cur,hbk,by show R.nS≤_;omega,fun i hi=>?_⟩
 have hi':i<R.nS:=hi
 have e3:(cur.toList.take (R.nS*1))[i]?=some (.slice (A i) (R.L i) (C i)):=by rw [htake];simp [slV,hi']
 rw [List.getElem?_take_of_lt (by omega)] at e3
 have e4:cur[i]?=some (Value.slice (A i) (R.L i) (C i)):=by simpa using e3
 exact e4
theorem rZ {w1:World} {A B:Obj} (h:Below ((w.alloc A).alloc B).heap.size ((w.alloc A).alloc B) w1) :
  w1.heap[w.heap.size]?=some A∧w1.heap[w.heap.size+1]?=some B∧Below w.heap.size w w1∧w.heap.size+2≤w1.heap.size:=by
 have e1:(w.alloc A).heap.size=w.heap.size+1:=by simp
 have e2:((w.alloc A).alloc B).heap.size=w.heap.size+1+1:=by simp
 rw [e2] at h
 have b1:=im w A
 have b2:=im (w.alloc A) B
 rw [e1] at b2
 refine ⟨?_,?_,?_,?_⟩
 ·
  rw [h.block _ (by omega),iH _ (by rw [e1];omega)];exact b1
 ·
  rw [h.block _ (by omega)];exact b2
 ·
  exact (((Below.refl _ _).alloc (Nat.le_refl _) _).alloc (by rw [e1];omega) _).trans (h.mono (by omega))
 have:=h.size
 omega
set_option maxHeartbeats 9000000 in
theorem lz (R:Rnd) (w:World) (hs:R.Small) (h:mN w R) :
  Calls Tryz.prog 98 #[.agg R.cells] w fun e w'=>∃ aq cq ad cd av cv A C,e=.returned (.agg (R.cp2 aq cq ad cd av cv A C).cells)∧jD w' w.heap.size (R.cp2 aq cq ad cd av cv A C)∧Below w.heap.size w w':=by
 obtain ⟨aQ,nQ,cQ,q,aD,nD,cD,d,turn,fresh,aS,nS,cS,A,L,C,z⟩:=R
 have HS:=aa hs
 have hB0:Below w.heap.size w ((w.alloc (.cells #[.slice aQ nQ cQ,.slice aD nD cD,.int .i64 turn,.bool fresh,.slice aS nS cS] 45)).alloc (.cells ae 45)):=((Below.refl _ _).alloc (Nat.le_refl _) _).alloc (by simp) _
 have HRd:Hid (∀ W,Below ((w.alloc (.cells #[.slice aQ nQ cQ,.slice aD nD cD,.int .i64 turn,.bool fresh,.slice aS nS cS] 45)).alloc (.cells ae 45)).heap.size ((w.alloc (.cells #[.slice aQ nQ cQ,.slice aD nD cD,.int .i64 turn,.bool fresh,.slice aS nS cS] 45)).alloc (.cells ae 45)) W→mN W ⟨aQ,nQ,cQ,q,aD,nD,cD,d,turn,fresh,aS,nS,cS,A,L,C,z⟩):=fun W hb=>h.up (hB0.trans (hb.mono hB0.size))
 have HSz:Hid (((w.alloc (.cells #[.slice aQ nQ cQ,.slice aD nD cD,.int .i64 turn,.bool fresh,.slice aS nS cS] 45)).alloc (.cells ae 45)).heap.size=w.heap.size+1+1):=by rw [Hid];simp
 have HkA:Hid (∀ W,Below ((w.alloc (.cells #[.slice aQ nQ cQ,.slice aD nD cD,.int .i64 turn,.bool fresh,.slice aS nS cS] 45)).alloc (.cells ae 45)).heap.size ((w.alloc (.cells #[.slice aQ nQ cQ,.slice aD nD cD,.int .i64 turn,.bool fresh,.slice aS nS cS] 45)).alloc (.cells ae 45)) W→W.heap[w.heap.size]?=some (.cells #[.slice aQ nQ cQ,.slice aD nD cD,.int .i64 turn,.bool fresh,.slice aS nS cS] 45 (0,0))∧W.heap[w.heap.size+1]?=some (.cells ae 45 (0,0))∧Below w.heap.size w W):=fun W hb=>by
  obtain ⟨h1,h2,h3,_⟩:=rZ hb
  exact ⟨h1,h2,h3⟩
 have HSx:Hid (∀ W,Below ((w.alloc (.cells #[.slice aQ nQ cQ,.slice aD nD cD,.int .i64 turn,.bool fresh,.slice aS nS cS] 45)).alloc (.cells ae 45)).heap.size ((w.alloc (.cells #[.slice aQ nQ cQ,.slice aD nD cD,.int .i64 turn,.bool fresh,.slice aS nS cS] 45)).alloc (.cells ae 45)) W→W.cell? ⟨w.heap.size,0,none⟩=some (.slice aQ nQ cQ)∧W.cell? ⟨w.heap.size,1,none⟩=some (.slice aD nD cD)∧W.cell? ⟨w.heap.size,2,none⟩=some (.int .i64 turn)∧W.cell? ⟨w.heap.size,3,none⟩=some (.bool fresh)):=fun W hb=>by
  have c:=ie (HkA W hb).1
  exact ⟨c 0,c 1,c 2,c 3⟩
 have HSs:Hid (∀ (W:World) (g:Nat) (v0 v1 v2 v3 v4:Value),Below ((w.alloc (.cells #[.slice aQ nQ cQ,.slice aD nD cD,.int .i64 turn,.bool fresh,.slice aS nS cS] 45)).alloc (.cells ae 45)).heap.size ((w.alloc (.cells #[.slice aQ nQ cQ,.slice aD nD cD,.int .i64 turn,.bool fresh,.slice aS nS cS] 45)).alloc (.cells ae 45)) W→((w.alloc (.cells #[.slice aQ nQ cQ,.slice aD nD cD,.int .i64 turn,.bool fresh,.slice aS nS cS] 45)).alloc (.cells ae 45)).heap.size≤g→(sg W g v0 v1 v2 v3 v4).cell? ⟨w.heap.size,0,none⟩=some (.slice aQ nQ cQ)∧(sg W g v0 v1 v2 v3 v4).cell? ⟨w.heap.size,1,none⟩=some (.slice aD nD cD)∧(sg W g v0 v1 v2 v3 v4).cell? ⟨w.heap.size,2,none⟩=some (.int .i64 turn)∧(sg W g v0 v1 v2 v3 v4).cell? ⟨w.heap.size,3,none⟩=some (.bool fresh)):=fun W g v0 v1 v2 v3 v4 hb hg=>by
  have ht:=jv W g v0 v1 v2 v3 v4
  exact HSx _ (hb.trans (ht.below hb.size (fun x hx=>by simp at hx;omega)))
 have HR:=aa h
 have hnS:(nS:Int)≤1048576:=by have:nS≤1048576:=hs.s;omega
 clear hB0 h hs
 dsimp only [Rnd.cells]
 go_enter Tryz.func98,Tryz.ntmps98
 go_wp2_with fail
 refine wp_mono (Q:=fun e a' W=>e=.normal∧∃ (aq:Option Addr) (cq:Nat) (ad:Option Addr) (cd gB gE1 gE2:Nat) (W':World),Mk2 ⟨aQ,nQ,cQ,q,aD,nD,cD,d,turn,fresh,aS,nS,cS,A,L,C,z⟩ ((w.alloc (.cells #[.slice aQ nQ cQ,.slice aD nD cD,.int .i64 turn,.bool fresh,.slice aS nS cS] 45)).alloc (.cells ae 45)) W' none none (some aq) (some ad) (some gB)∧a'=⟨#[.agg #[.slice aQ nQ cQ,.slice aD nD cD,.int .i64 turn,.bool fresh,.slice aS nS cS],.pointer (some ⟨w.heap.size,0,none⟩),.pointer (some ⟨w.heap.size+1,0,none⟩),.pointer (some ⟨gB,0,none⟩),undef,.slice (some ⟨gE1,0,none⟩) 0 0,.pointer (some ⟨w.heap.size,0,none⟩),.slice aQ nQ cQ,.slice aq nQ cq,.slice (some ⟨gE2,0,none⟩) 0 0,.pointer (some ⟨w.heap.size,1,none⟩),.slice aD nD cD,.slice ad nD cd,.pointer (some ⟨w.heap.size,2,none⟩),.int .i64 turn,.pointer (some ⟨w.heap.size,3,none⟩),.bool fresh,.agg #[.slice aq nQ cq,.slice ad nD cd,.int .i64 turn,.bool fresh,.slice none 0 0],undef,undef,undef,undef,undef,undef,undef,undef,undef,undef,undef,undef,undef,undef,undef,undef,undef,undef,undef,undef],[]⟩∧W=sg W' gB (.slice aq nQ cq) (.slice ad nD cd) (.int .i64 turn) (.bool fresh) (.slice none 0 0)) ?_ ?_
 ·
  have hM:Mk2 ⟨aQ,nQ,cQ,q,aD,nD,cD,d,turn,fresh,aS,nS,cS,A,L,C,z⟩ ((w.alloc (.cells #[.slice aQ nQ cQ,.slice aD nD cD,.int .i64 turn,.bool fresh,.slice aS nS cS] 45)).alloc (.cells ae 45)) ((w.alloc (.cells #[.slice aQ nQ cQ,.slice aD nD cD,.int .i64 turn,.bool fresh,.slice aS nS cS] 45)).alloc (.cells ae 45)).drew none none none none none:=Mk2.start ((Below.refl _ _).drew)
  have hS0:=HSx _ hM.below
  refine wp_region_held_drew (S:=fun w'=>w'.cell? ⟨w.heap.size,0,none⟩=some (.slice aQ nQ cQ)∧w'.cell? ⟨w.heap.size,1,none⟩=some (.slice aD nD cD)∧w'.cell? ⟨w.heap.size,2,none⟩=some (.int .i64 turn)∧w'.cell? ⟨w.heap.size,3,none⟩=some (.bool fresh)) (by kernel_rfl) hS0 (fun hHeld=>?_)
  clear hHeld
  have hHeld:=hS0
  clear hS0
  generalize hW:((w.alloc (.cells #[.slice aQ nQ cQ,.slice aD nD cD,.int .i64 turn,.bool fresh,.slice aS nS cS] 45)).alloc (.cells ae 45)).drew=W at hM hHeld ⊢
  clear hW
  refine mn (i:=1) (some 6) (v:=?_) rfl rfl (by kernel_rfl) (by kernel_rfl) (by kernel_rfl) (fun _ _ _ h=>absurd h.1 (by simp)) (by kernel_rfl) ?_ (by assumption) ?_
  rotate_left
  · exact cY
  try simp only [Act.put,PZ]
  refine mn (i:=2) (some 7) (v:=?_) rfl rfl (by kernel_rfl) (by kernel_rfl) (by kernel_rfl) (fun _ _ _ h=>absurd h.1 (by simp)) (by kernel_rfl) ?_ (by assumption) ?_
  rotate_left
  · exact cY
  try simp only [Act.put,PZ]
  refine mn (i:=5) (some 10) (v:=?_) rfl rfl (by kernel_rfl) (by kernel_rfl) (by kernel_rfl) (fun _ _ _ h=>absurd h.1 (by simp)) (by kernel_rfl) ?_ (by assumption) ?_
  rotate_left
  · exact cY
  try simp only [Act.put,PZ]
  refine mn (i:=6) (some 11) (v:=?_) rfl rfl (by kernel_rfl) (by kernel_rfl) (by kernel_rfl) (fun _ _ _ h=>absurd h.1 (by simp)) (by kernel_rfl) ?_ (by assumption) ?_
  rotate_left
  · exact cY
  try simp only [Act.put,PZ]
  refine mn (i:=8) (some 13) (v:=?_) rfl rfl (by kernel_rfl) (by kernel_rfl) (by kernel_rfl) (fun _ _ _ h=>absurd h.1 (by simp)) (by kernel_rfl) ?_ (by assumption) ?_
  rotate_left
  · exact cY
  try simp only [Act.put,PZ]
  refine mn (i:=9) (some 14) (v:=?_) rfl rfl (by kernel_rfl) (by kernel_rfl) (by kernel_rfl) (fun _ _ _ h=>absurd h.1 (by simp)) (by kernel_rfl) ?_ (by assumption) ?_
  rotate_left
  · exact cY
  try simp only [Act.put,PZ]
  refine mn (i:=10) (some 15) (v:=?_) rfl rfl (by kernel_rfl) (by kernel_rfl) (by kernel_rfl) (fun _ _ _ h=>absurd h.1 (by simp)) (by kernel_rfl) ?_ (by assumption) ?_
  rotate_left
  · exact cY
  try simp only [Act.put,PZ]
  refine mn (i:=11) (some 16) (v:=?_) rfl rfl (by kernel_rfl) (by kernel_rfl) (by kernel_rfl) (fun _ _ _ h=>absurd h.1 (by simp)) (by kernel_rfl) ?_ (by assumption) ?_
  rotate_left
  · exact cY
  try simp only [Act.put,PZ]
  refine wpAnyH_ready (rs:=[0,4,13]) (by kernel_rfl) (by simp) ?_
  refine AllReadyH.cons rfl (fun K hK=>?_) (AllReadyH.cons rfl (fun K hK=>?_) (AllReadyH.cons rfl (fun K hK=>?_) AllReadyH.nil))
  ·
   obtain ⟨gE1,W2,hg,hW,hM2⟩:=hM.C6
   have hS2:=HSx _ hM2.below
   clear hM hHeld
   go_simp
   refine ah (hK _ _ (by rw [←hW];exact hS2)) ?_
   intro hHeld
   clear hK K
   rw [←hg,←hW]
   clear hg hW hHeld
   have hHeld:=hS2
   clear hS2
   rename World=>W
   rename Mk2 _ _ _ _ _ _ _ _=>hM
   refine wpAnyH_ready (rs:=[3,4,13]) (by kernel_rfl) (by simp) ?_
   refine AllReadyH.cons rfl (fun K hK=>?_) (AllReadyH.cons rfl (fun K hK=>?_) (AllReadyH.cons rfl (fun K hK=>?_) AllReadyH.nil))
   ·
    obtain ⟨aq,cq,W2,hr,hM2⟩:=hM.Gc (a:=aQ) cQ HS.q (HRd _ hM.below).q
    have hS2:=HSx _ hM2.below
    clear hM hHeld
    refine jz (by kernel_rfl) (some 8) (.tmp 5) (.tmp 7) 27 _ _ _ rfl rfl rfl rfl rfl hr ?_
    clear hr
    refine ah (hK _ _ (hS2)) ?_
    intro hHeld
    clear hK K
    clear hHeld
    have hHeld:=hS2
    clear hS2
    rename World=>W
    rename Mk2 _ _ _ _ _ _ _ _=>hM
    refine rq2 4 13 (fun K hK=>?_) (fun K hK=>?_)
    ·
     obtain ⟨gE2,W2,hg,hW,hM2⟩:=hM.zA
     have hS2:=HSx _ hM2.below
     clear hM hHeld
     go_simp
     refine ah (hK _ _ (by rw [←hW];exact hS2)) ?_
     intro hHeld
     clear hK K
     rw [←hg,←hW]
     clear hg hW hHeld
     exact cH
    obtain ⟨gB,W2,hg,hW,hM2⟩:=hM.tS
    have hS2:=HSx _ hM2.below
    clear hM hHeld
    go_simp
    refine ah (hK _ _ (by rw [←hW];exact hS2)) ?_
    intro hHeld
    clear hK K
    rw [←hg,←hW]
    clear hg hW hHeld
    exact dc
   ·
    obtain ⟨gE2,W2,hg,hW,hM2⟩:=hM.zA
    exact cW
   obtain ⟨gB,W2,hg,hW,hM2⟩:=hM.tS
   exact cM
  ·
   obtain ⟨gE2,W2,hg,hW,hM2⟩:=hM.zA
   have hS2:=HSx _ hM2.below
   clear hM hHeld
   go_simp
   refine ah (hK _ _ (by rw [←hW];exact hS2)) ?_
   intro hHeld
   clear hK K
   rw [←hg,←hW]
   clear hg hW hHeld
   have hHeld:=hS2
   clear hS2
   rename World=>W
   rename Mk2 _ _ _ _ _ _ _ _=>hM
   refine rq2 0 13 (fun K hK=>?_) (fun K hK=>?_)
   ·
    obtain ⟨gE1,W2,hg,hW,hM2⟩:=hM.C6
    exact cW
   obtain ⟨gB,W2,hg,hW,hM2⟩:=hM.tS
   exact cZ
  obtain ⟨gB,W2,hg,hW,hM2⟩:=hM.tS
  have hS2:=HSx _ hM2.below
  clear hM hHeld
  go_simp
  refine ah (hK _ _ (by rw [←hW];exact hS2)) ?_
  intro hHeld
  clear hK K
  rw [←hg,←hW]
  clear hg hW hHeld
  have hHeld:=hS2
  clear hS2
  rename World=>W
  rename Mk2 _ _ _ _ _ _ _ _=>hM
  refine rq2 0 4 (fun K hK=>?_) (fun K hK=>?_)
  ·
   obtain ⟨gE1,W2,hg,hW,hM2⟩:=hM.C6
   exact cM
  obtain ⟨gE2,W2,hg,hW,hM2⟩:=hM.zA
  exact cZ
 rintro e a' W ⟨rfl,aq,cq,ad,cd,gB,gE1,gE2,W',hM,rfl,rfl⟩
 have hb:=hM.b gB rfl
 unfold qT at hb
 have ht:=jv W' gB (.slice aq nQ cq) (.slice ad nD cd) (.int .i64 turn) (.bool fresh) (.slice none 0 0)
 have kB1:=ln hb.2 (.slice aq nQ cq) (.slice ad nD cd) (.int .i64 turn) (.bool fresh) (.slice none 0 0)
 have k2:∀ (g:Nat) (arr:Array Value),W'.heap[g]?=some (.cells arr 2 (0,0))→(sg W' gB (.slice aq nQ cq) (.slice ad nD cd) (.int .i64 turn) (.bool fresh) (.slice none 0 0)).heap[g]?=some (.cells arr 2 (0,0)):=fun g arr hg=>(ht.block g (ig hg) (fun hx=>by
  simp at hx
  subst hx
  rw [hb.2] at hg
  simp at hg)).trans hg
 have HCp0:Hid (Cp2 ⟨aQ,nQ,cQ,q,aD,nD,cD,d,turn,fresh,aS,nS,cS,A,L,C,z⟩ ((w.alloc (.cells #[.slice aQ nQ cQ,.slice aD nD cD,.int .i64 turn,.bool fresh,.slice aS nS cS] 45)).alloc (.cells ae 45)).heap.size (sg W' gB (.slice aq nQ cq) (.slice ad nD cd) (.int .i64 turn) (.bool fresh) (.slice none 0 0)) aq ad none 0 A C 0):=⟨(hM.q aq rfl).qL k2,(hM.d ad rfl).qL k2,World.ownsRow_nil _ _ _ _,fun i hi=>by omega,hM.qd aq ad rfl rfl,fun i hi=>by omega,fun i hi=>by omega,fun i j hi=>by omega⟩
 have HBl0:Hid (Below ((w.alloc (.cells #[.slice aQ nQ cQ,.slice aD nD cD,.int .i64 turn,.bool fresh,.slice aS nS cS] 45)).alloc (.cells ae 45)).heap.size ((w.alloc (.cells #[.slice aQ nQ cQ,.slice aD nD cD,.int .i64 turn,.bool fresh,.slice aS nS cS] 45)).alloc (.cells ae 45)) (sg W' gB (.slice aq nQ cq) (.slice ad nD cd) (.int .i64 turn) (.bool fresh) (.slice none 0 0))):=hM.below.trans (ht.below hM.below.size (fun x hx=>by simp at hx;omega))
 have HkB0:=aa kB1
 have HgB:=aa hb.1
 clear hM hb ht kB1 k2 HSx HSs
 generalize sg W' gB (.slice aq nQ cq) (.slice ad nD cd) (.int .i64 turn) (.bool fresh) (.slice none 0 0)=W1 at *
 go_wp2_with fail
 generalize ((w.alloc (.cells #[.slice aQ nQ cQ,.slice aD nD cD,.int .i64 turn,.bool fresh,.slice aS nS cS] 45)).alloc (.cells ae 45))=w0 at *
 go_loopw [4] (fun i wr=>∃ (k:Nat) (A':Nat→Option Addr) (C':Nat→Nat) (av:Option Addr) (cv:Nat),k≤nS∧i=.int .i64 k∧Cp2 ⟨aQ,nQ,cQ,q,aD,nD,cD,d,turn,fresh,aS,nS,cS,A,L,C,z⟩ w0.heap.size wr aq ad av cv A' C' k∧Below w0.heap.size w0 wr∧wr.heap[gB]?=some (.cells #[.slice aq nQ cq,.slice ad nD cd,.int .i64 turn,.bool fresh,.slice av k cv] 45 (0,0))) (fun i _=>nS-(intOf i).toNat)
 case atStart=>exact ⟨0,A,C,none,0,Nat.zero_le _,rfl,HCp0.out,HBl0.out,HkB0.out⟩
 obtain ⟨k,A',C',av,cv,hk,rfl,hCp,hB,hkB⟩:=hrel
 clear HCp0 HBl0 HkB0
 obtain ⟨kA,kZ,hBw⟩:=HkA wr hB
 have HCp:=aa hCp
 have HB:=aa hB
 clear hCp hB
 have cA:=ie kA
 by_cases hlt:k<nS
 ·
  have hlt':(k:Int)<nS:=by omega
  obtain ⟨gs,os,rfl,hcl⟩:=(HRd wr HB.out).s k hlt
  dsimp only at hcl
  have HS5:Hid (∀ V,Below w0.heap.size w0 V→V.cell? ⟨w.heap.size,4,none⟩=some (.slice (some ⟨gs,os,none⟩) nS cS)∧V.cell? ⟨gs,os+k,none⟩=some (.slice (A k) (L k) (C k))):=fun V hV=>⟨ie (HkA V hV).1 4,by
   obtain ⟨g',o',e,hc⟩:=(HRd V hV).s k hlt
   cases e
   exact hc⟩
  have HkBd:=aa hkB
  clear kZ hBw hkB
  go_wp2_with fail
  obtain ⟨W,hW⟩:∃ W,W=wr.drew:=⟨_,rfl⟩
  have hBW:Below w0.heap.size w0 W:=by rw [hW];exact HB.drew
  have hCW:Cp2 ⟨aQ,nQ,cQ,q,aD,nD,cD,d,turn,fresh,some ⟨gs,os,none⟩,nS,cS,A,L,C,z⟩ w0.heap.size W aq ad av cv A' C' k:=by rw [hW];exact HCp.up ((Below.refl _ _).drew)
  have kBW:W.heap[gB]?=some (.cells #[.slice aq nQ cq,.slice ad nD cd,.int .i64 turn,.bool fresh,.slice av k cv] 45 (0,0)):=by rw [hW];exact HkBd.out
  have hE1:=(Below.refl W.heap.size W).alloc (Nat.le_refl _) (.cells #[] 2)
  have hB1:=hBW.trans (hE1.mono hBW.size)
  obtain ⟨a',c',W2,av',cv',W4,r1,r2,hCp4,hB4,hB2,hbox⟩:=hCW.step (show k<1048576 by omega) (HS.l k hlt) hBW.size ((HRd _ hB1).z k hlt) (C k)
  have hBW2:=hBW.trans (hB2.mono hBW.size)
  have hE3:=(Below.refl W2.heap.size W2).alloc (Nat.le_refl _) (.cells #[.slice a' (L k) c'] 27)
  have hB3:=hBW2.trans (hE3.mono hBW2.size)
  have hBW4:=hBW.trans hB4
  have s0:=HS5 _ hBW
  have s1:=HS5 _ hB1
  have s2:=HS5 _ hBW2
  have s3:=HS5 _ hB3
  have s4:=HS5 _ hBW4
  have kB1:=(hE1.block _ (ig kBW)).trans kBW
  have kB2:=(hB2.block _ (ig kBW)).trans kBW
  have kB3:=(hE3.block _ (ig kB2)).trans kB2
  have kB4:=hbox _ _ _ (by decide) kBW
  have b0:W.cell? ⟨gB,4,none⟩=some (.slice av k cv):=ie kBW 4
  have b1:(W.alloc (.cells #[] 2)).cell? ⟨gB,4,none⟩=some (.slice av k cv):=ie kB1 4
  have b2:W2.cell? ⟨gB,4,none⟩=some (.slice av k cv):=ie kB2 4
  have b3:(W2.alloc (.cells #[.slice a' (L k) c'] 27)).cell? ⟨gB,4,none⟩=some (.slice av k cv):=ie kB3 4
  have b4:W4.cell? ⟨gB,4,none⟩=some (.slice av k cv):=ie kB4 4
  have f4:=ix kB4 4
  have ht:=(Touch.refl [gB] W4).set (g:=gB) (by simp) 4 (.slice av' (k+1) cv')
  have hne:∀ (g:Nat) (arr:Array Value) (t:TypeId),t≠45→W4.heap[g]?=some (.cells arr t (0,0))→(W4.setCell ⟨gB,4,none⟩ (.slice av' (k+1) cv')).heap[g]?=some (.cells arr t (0,0)):=fun g arr t htt hg=>(ht.block g (ig hg) (fun hx=>by
   simp at hx
   subst hx
   rw [kB4] at hg
   simp at hg
   exact htt hg.2.symm)).trans hg
  have hB5:=hBW4.trans (ht.below hBW4.size (fun x hx=>by simp at hx;rw [hx];exact HgB.out))
  have s5:=HS5 _ hB5
  have HCp5:Hid (Cp2 ⟨aQ,nQ,cQ,q,aD,nD,cD,d,turn,fresh,some ⟨gs,os,none⟩,nS,cS,A,L,C,z⟩ w0.heap.size (W4.setCell ⟨gB,4,none⟩ (.slice av' (k+1) cv')) aq ad av' cv' (fun i=>if i=k then a' else A' i) (fun i=>if i=k then c' else C' i) (k+1)):=hCp4.qL (fun g arr hg=>hne g arr 2 (by decide) hg) (fun g arr hg=>hne g arr _ (by decide) hg)
  have HB5:=aa hB5
  have HkB5:Hid ((W4.setCell ⟨gB,4,none⟩ (.slice av' (k+1) cv')).heap[gB]?=some (.cells #[.slice aq nQ cq,.slice ad nD cd,.int .i64 turn,.bool fresh,.slice av' (k+1) cv'] 45 (0,0))):=iL kB4 _
  dsimp only at r1 r2
  clear hCW hCp4 hB4 hB2 hbox hE1 hB1 hBW2 hE3 hB3 hBW4 kB1 kB2 kB3 ht hne hB5 kBW hBW cA hcl kA
  refine wp_region_held_drew (S:=fun w'=>w'.cell? ⟨w.heap.size,4,none⟩=some (.slice (some ⟨gs,os,none⟩) nS cS)∧w'.cell? ⟨gs,os+k,none⟩=some (.slice (A k) (L k) (C k))) (by kernel_rfl) (by rw [←hW];exact s0) (fun hHeld=>?_)
  rw [←hW] at hHeld ⊢
  clear hW
  refine t0 ?_
  refine tQ 3 28 ?_
  refine tQ 4 29 ?_
  refine tQ 5 30 ?_
  refine tQ 6 31 ?_
  refine tQ 7 32 ?_
  refine rq2 1 2 (fun K hK=>?_) (fun K hK=>?_)
  ·
   go_simp
   refine ah (hK _ _ (s0)) ?_
   intro hHeld
   clear hK K
   refine rq1 2 (fun K hK=>?_)
   exact da
  go_simp
  refine ah (hK _ _ (s1)) ?_
  intro hHeld
  clear hK K
  refine rq2 1 8 (fun K hK=>?_) (fun K hK=>?_)
  · exact da
  refine jz (by kernel_rfl) (some 33) (.tmp 27) (.tmp 32) 27 _ _ _ rfl rfl rfl rfl rfl r1 ?_
  refine ah (hK _ _ (s2)) ?_
  intro hHeld
  clear hK K
  refine rq2 1 9 (fun K hK=>?_) (fun K hK=>?_)
  ·
   go_simp
   exact de
  go_simp
  refine ah (hK _ _ (s3)) ?_
  intro hHeld
  clear hK K
  refine rq1 1 (fun K hK=>?_)
  exact cJ
 obtain rfl:k=nS:=by omega
 have cC:=ie hkB
 have cB:=ie kZ
 have fB:=ix kZ
 have hz:=HSz.out
 have HBw:=aa hBw
 have HZz:=aa hz
 clear hz hBw
 go_wp2_with fail
 have ht:=jv wr (w.heap.size+1) (.slice aq nQ cq) (.slice ad nD cd) (.int .i64 turn) (.bool fresh) (.slice av k cv)
 have cF:=ie (ln kZ (.slice aq nQ cq) (.slice ad nD cd) (.int .i64 turn) (.bool fresh) (.slice av k cv))
 have hBf:=HBw.trans (ht.below HBw.size (fun x hx=>by simp at hx;omega))
 have hOf:=((HCp.own cq cd).kk ht (fun x hx=>by simp at hx;have:=HZz.out;omega)).mono (show w.heap.size≤w0.heap.size by have:=HZz.out;omega)
 unfold sg at cF hBf hOf
 exact bodyPost_ret (v:=.agg (Rnd.cp2 ⟨aQ,nQ,cQ,q,aD,nD,cD,d,turn,fresh,aS,k,cS,A,L,C,z⟩ aq cq ad cd av cv A' C').cells) (by simp [results,Tryz.results98,go_sem,cF,Rnd.cp2,Rnd.cells]) rfl ⟨aq,cq,ad,cd,av,cv,A',C',rfl,hOf,hBf⟩
theorem BF:(Tryz.prog.info? 45).map (·.size)=some 5:=by kernel_rfl
theorem mg {ops:Array Oper} {rest:List Oper} {o:Oper} {a:Act} {Q:Exit→Act→World→Prop} (hg:o.guard=none) (x y:Operand) (ho:o.op=.store 45 x y) (g:Nat) (hx:a.eval x=.pointer (some ⟨g,0,none⟩))
  (cs:Array Value) (hy:a.eval y=.agg cs) (old:Array Value) (hk:w.heap[g]?=some (.cells old 45 (0,0))) (hs:cs.size=5) (ho2:old.size=5) (h1:cs.all (·.oneCell')=true) (h:wpList Tryz.prog ops Q rest (a.put o.dst undef) (w.setRow g cs)):wpList Tryz.prog ops Q (o :: rest) a w :=
 wpList_plain hg fun _ hK=>wp_store_row 45 x y ho g cs hx hy 45 old hk (by rw [hs];exact BF) (by omega) h1 (hK _ _ h)
theorem py {g:Nat} {old cs:Array Value} (h:w.heap[g]?=some (.cells old t (0,0))):(w.setRow g cs).heap[g]?=some (.cells cs t (0,0)):=by
 simp [World.setRow,Array.getElem?_modify,h]
theorem jK (w:World) (g:Nat) (cs:Array Value):Touch [g] w (w.setRow g cs):=⟨rfl,rfl,rfl,by simp [World.setRow],fun k _ hn=>by
 have:¬ g=k:=fun e=>hn (by simp [e])
 simp [World.setRow,Array.getElem?_modify,this]⟩
theorem Rnd.nc (R:Rnd):R.cells.all (·.oneCell')=true:=by simp [Rnd.cells,Value.oneCell']
structure Rep (wr:World) (base gb gD:Nat) (X cur:Rnd):Prop where
 box:wr.heap[gb]?=some (.cells cur.cells 45 (0,0))
 own:jy wr base cur
 vN:Alike X cur
 ad:cur.aD=some ⟨gD,0,none⟩
 cap:∀ i,i<cur.nS→cur.L i≤cur.C i
def FW:Option Value→Bool
 | some (.bool b)=>b
 | _=>false
def ve (n gb gD c0:Nat) (wr:World):Nat :=
 (5-intOf ((wr.cell? ⟨gD,c0,none⟩).getD undef)).toNat*n +
  (if (intOf ((wr.cell? ⟨gb,2,none⟩).getD undef)).toNat=c0 then (if FW (wr.cell? ⟨gb,3,none⟩)=true then 0 else n) else (c0+n-(intOf ((wr.cell? ⟨gb,2,none⟩).getD undef)).toNat) % n)
theorem Rep.left {wr:World} {gb gD:Nat} {X cur:Rnd} (h:Rep wr base gb gD X cur) {c0:Nat} (hc:c0<X.nQ) (hd:X.nD=X.nQ):ve X.nQ gb gD c0 wr=vf X c0:=by
 have b:=ie h.box
 have c2:wr.cell? ⟨gb,2,none⟩=some (.int .i64 X.turn):=by rw [b,←h.vN.t];rfl
 have c3:wr.cell? ⟨gb,3,none⟩=some (.bool X.fresh):=by rw [b,←h.vN.f];rfl
 have cd:wr.cell? ⟨gD,c0,none⟩=some (.int .i64 (X.d c0)):=by
  obtain ⟨g,o,e,hcell⟩:=h.own.rd.d c0 (by rw [h.vN.nD,hd];exact hc)
  rw [h.ad] at e
  cases e
  rw [Nat.zero_add] at hcell
  rw [hcell,h.vN.d]
 unfold ve vf An Rnd.now
 rw [c2,c3,cd]
 rfl
theorem Cu {A B:Array Value} {s:TypeId} (h:Below (w.heap.size+2) ((w.alloc (.cells A t)).alloc (.cells B s)) wi):(∀ o,wi.cell? ⟨w.heap.size,o,none⟩=A[o]?)∧∀ o,wi.cell? ⟨w.heap.size+1,o,none⟩=B[o]?:=by
 have k1:wi.heap[w.heap.size]?=some (.cells A t (0,0)):=(h.block _ (by omega)).trans ((iH _ (by simp)).trans (im _ _))
 have k2:wi.heap[w.heap.size+1]?=some (.cells B s (0,0)):=by
  refine (h.block _ (by omega)).trans ?_
  have:=im (w.alloc (.cells A t)) (.cells B s)
  simpa using this
 exact ⟨ie k1,ie k2⟩
theorem pw (h:Below (w.heap.size+2) ((w.alloc o).alloc o') wi):Below w.heap.size w wi :=
 (((Below.refl _ _).alloc (Nat.le_refl _) o).alloc (by simp) o').trans (h.mono (by omega))
theorem lh (h:Below (w.heap.size+2) ((w.alloc o).alloc o') wi):w.heap.size+2≤wi.heap.size:=by
 have:=h.size
 simpa using this
theorem ri {wj:World} (h:Below (w.heap.size+2) ((w.alloc o).alloc o') wi) (k:Below wi.heap.size wi wj):Below (w.heap.size+2) ((w.alloc o).alloc o') wj :=
 h.trans (k.mono (lh h))
theorem Alike.now {A B:Rnd} (h:Alike A B):B.now=A.now:=by unfold Rnd.now;rw [h.t]
theorem oV {A B:Rnd} (h:Alike A B):Alike (iU A) (iU B):=by
 refine ⟨h.nQ,h.q,h.nD,h.d,?_,rfl,h.nS,h.l,h.z⟩
 show (((B.now+1) % B.nQ:Nat):Int)=(((A.now+1) % A.nQ:Nat):Int)
 rw [h.now,h.nQ]
theorem nI {A B:Rnd} (h:Alike A B):Alike (iJ A) (iJ B):=by
 unfold iJ
 by_cases hf:A.fresh=true
 ·
  rw [if_pos hf,if_pos (by rw [h.f];exact hf)]
  refine ⟨h.nQ,h.q,h.nD,?_,h.t,rfl,h.nS,h.l,h.z⟩
  show qU B.d B.now (B.d B.now+B.q B.now)=qU A.d A.now (A.d A.now+A.q A.now)
  rw [h.now,h.d,h.q]
 rw [if_neg hf,if_neg (by rw [h.f];exact hf)]
 exact h
theorem uo {A B:Rnd} (h:Alike A B) (x y:Nat→Int) (hx:x=y):Alike { CL A with d:=x } { CL B with d:=y }:=by
 subst hx
 refine ⟨h.nQ,h.q,h.nD,rfl,h.t,h.f,h.nS,?_,?_⟩
 ·
  show oY B.L B.now (B.L B.now-1)=oY A.L A.now (A.L A.now-1)
  rw [h.now,h.l]
 show tJ B.z B.now (fun j=>B.z B.now (j+1))=tJ A.z A.now (fun j=>A.z A.now (j+1))
 rw [h.now,h.z]
theorem AA {A B:Rnd} (h:Alike A B):Alike (mT A) (mT B):=by
 unfold mT
 by_cases h1:A.L A.now=1
 ·
  rw [if_pos h1,if_pos (by rw [h.now,h.l];exact h1)]
  exact oV (uo h _ _ (by rw [h.now,h.d]))
 rw [if_neg h1,if_neg (by rw [h.now,h.l];exact h1)]
 exact uo h (qU A.d A.now (A.d A.now-A.z A.now 0)) (qU B.d B.now (B.d B.now-B.z B.now 0)) (by rw [h.now,h.d,h.z])
theorem lu.vN {R R':Rnd} {s:Int} (h:lu k R R' c s):∀ {B:Rnd},Alike R B→∃ B',lu k B B' c s∧Alike R' B':=by
 induction h with
 | skip h0 _ ih =>
  intro B hB
  obtain ⟨B',hp,ha⟩:=ih (oV hB)
  exact ⟨B',.skip (by rw [hB.now,hB.l];exact h0) hp,ha⟩
 | short h0 h1 _ ih =>
  intro B hB
  obtain ⟨B',hp,ha⟩:=ih (oV (nI hB))
  exact ⟨B',.short (by rw [hB.now,hB.l];exact h0) (by rw [hB.now,(nI hB).d,hB.z];exact h1) hp,ha⟩
 | take h0 h1 =>
  rename_i R0
  intro B hB
  have:=lu.take (R:=B) (by rw [hB.now,hB.l];exact h0) (by rw [hB.now,(nI hB).d,hB.z];exact h1)
  rw [hB.now,hB.z] at this
  exact ⟨_,this,AA (nI hB)⟩
