import Derived.Test.YtjippgbmmlcgoaaGreatDoorB04
import Derived.LoopIn
import Derived.LoopNIn
import Derived.OwnWalkIn
import Derived.RangeFuncBound
import Derived.RangeFuncCalls
import Derived.RangeFuncLeaves
import Derived.RangeFuncNested
import Derived.Shelf.Abstract
import Derived.Shelf.RegionOpen
import Derived.TacticsInMore
namespace Go.Proofs.YtjippgbmmlcgoaaGreatDoor
set_option maxRecDepth 100000
set_option maxHeartbeats 9000000
open Go.RowKit
set_option linter.unusedVariables false
set_option linter.unusedSimpArgs false
variable {C:Cfg} {o o':Obj} {p:Prop} {t:TypeId} {W w wi:World}
theorem aC (h:p:=by
 refine AllReadyIn.cons rfl (fun K hK=>?_) AllReadyIn.nil
 go_simp
 refine ah (hK _ _) ?_
 clear hK K
 refine kh (i:=13) (some 26) (v:=?_) hro rfl rfl (by kernel_rfl) (by kernel_rfl) (by kernel_rfl) (fun _ _ _ h=>h) (by kernel_rfl) ?_ (fun _=>rfl) ?_
 rotate_left
 · exact aJ
 try simp only [Act.put,PZ]
 refine wpAnyIn_ready (rs:=[14]) (by kernel_rfl) (by simp) ?_
 refine AllReadyIn.cons rfl (fun K hK=>?_) AllReadyIn.nil
 go_simp
 refine hR.mono ?_
 rintro e W3 (⟨rfl,hJ3,hk3⟩ | ⟨rfl,hJx3⟩)
 ·
  refine ah (hK _ _) ?_
  clear hK K
  refine kh (i:=15) (some 28) (v:=?_) hro rfl rfl (by kernel_rfl) (by kernel_rfl) (by kernel_rfl) (fun _ _ _ h=>h) (by kernel_rfl) ?_ (fun _=>rfl) ?_
  rotate_left
  · exact aJ
  try simp only [Act.put,PZ]
  refine wpAnyIn_done (by kernel_rfl) ?_ _
  gi_wp2
  go_roundw
  case rel=>exact ⟨k+1,hlt2,by go_num,hB.drew.trans hk3,hJ3⟩
  case measure=>simp [intOf];omega
 refine ah (hK _ _) ?_
 clear hK K
 refine kh (i:=15) (some 28) (v:=?_) hro rfl rfl (by kernel_rfl) (by kernel_rfl) (by kernel_rfl) (fun _ _ _ h=>h) (by kernel_rfl) ?_ (fun _=>rfl) ?_
 rotate_left
 · exact aJ
 try simp only [Act.put,PZ]
 refine wpAnyIn_done (by kernel_rfl) ?_ _
 gi_wp2
 refine bodyPost_ret (results_none rfl _ _ _) rfl ?_
 exact ⟨⟨_,rfl⟩,.inr ⟨_,⟨k+1,hlt2,rfl⟩,hJx3⟩⟩):p:=h
theorem G8 (h:p:=by
 have HC2:Hid (okc=true↔vH (R.q x.1) (R.d x.1) (R.L x.1) (R.z x.1) false):=by have hh:=HC.out;rw [hbg] at hh;exact hh
 clear hbg
 cases okc
 ·
  have HCf:Hid (¬ vH (R.q x.1) (R.d x.1) (R.L x.1) (R.z x.1) (R.begun x.1)):=fun hh=>by have:=HC.2 hh;simp at this
  gi_wp2_with (gi_at_call 126;refine (CallsIn.inRound l (callsIn_wide.2 (nG (R.q x.1) (R.d x.1) (R.A x.1) (R.L x.1) (R.C x.1) (R.z x.1) false W HLn HRd false HC2.out))).mono ?_;rintro e W2 ⟨rfl,hb2⟩;have cR2:=(hb2.cell (p:=⟨w.heap.size+1,0,none⟩) hl2).trans i4;have fR2:=(hb2.frozen (p:=⟨w.heap.size+1,0,none⟩) hl2).trans i5)
  exact bf
 have HCt:Hid (vH (R.q x.1) (R.d x.1) (R.L x.1) (R.z x.1) (R.begun x.1)):=HC.1 rfl
 gi_wp2_with (gi_at_call 126;refine (CallsIn.inRound l (callsIn_wide.2 (nG (R.q x.1) (R.d x.1) (R.A x.1) (R.L x.1) (R.C x.1) (R.z x.1) false W HLn HRd true HC2.out))).mono ?_;rintro e W2 ⟨rfl,hb2⟩;have cR2:=(hb2.cell (p:=⟨w.heap.size+1,0,none⟩) hl2).trans i4;have fR2:=(hb2.frozen (p:=⟨w.heap.size+1,0,none⟩) hl2).trans i5)
 exact Ha):p:=h
theorem G9 (h:p:=by
 refine tC 6 14 (v:=?_) ?_ ?_
 rotate_left
 · exact aY
 try simp only [Act.put,PZ]
 have cz:=ie kz
 have fz:=ix kz
 have ht:=iW W2 (w.heap.size+1) (.slice (some ⟨gU,0,none⟩) n n) (.int .i64 0) (.slice (some ⟨gP,0,none⟩) n n)
 have kz3:=jw kz (.slice (some ⟨gU,0,none⟩) n n) (.int .i64 0) (.slice (some ⟨gP,0,none⟩) n n)
 have cb3:=ie ((ht.block w.heap.size (by have:=lj hB;omega) (by simp)).trans (tl hB).1)
 refine rq1 7 (fun K hK=>?_)
 go_simp
 refine ah (hK _ _ cb3) ?_
 intro hHeld
 clear hK K
 refine rq1 8 (fun K hK=>?_)
 go_simp
 refine ah (hK _ _ cb3) ?_
 intro hHeld
 clear hK K
 refine dnq ?_
 have rU:=(pL kU).jQ (ht.block gU (ig kU) (by simp;omega))
 have rP:=(zr kP).jQ (ht.block gP (ig kP) (by simp;omega))
 have B:=(jt hB).trans (ht.below (jt hB).size (fun x hx=>by simp at hx;omega))
 have cB:=ie kz3
 clear cz fz kU kP kz ht cb3
 unfold mB at *
 go_wp2_with fail
 refine bodyPost_ret (v:=.tuple #[.agg #[.slice (some ⟨gU,0,none⟩) n n,.int .i64 0,.slice (some ⟨gP,0,none⟩) n n],.bool true]) (by simp [results,Tryz.results76,go_sem,cB]) rfl ⟨⟨some ⟨gU,0,none⟩,n,n,fun _=>0,0,some ⟨gP,0,none⟩,n,n,fun _=>false⟩,rfl,⟨VT.of (by omega) rU,VT.of (by omega) rP⟩,B,⟨rfl,rfl,rfl,rfl,rfl⟩⟩):p:=h
theorem aI (h:p:=by
 try simp only [Act.put,PZ]
 refine wpAnyIn_ready (rs:=[7,12]) (by kernel_rfl) (by simp) ?_
 refine AllReadyIn.cons rfl (fun K hK=>?_) (AllReadyIn.cons rfl (fun K hK=>?_) AllReadyIn.nil)
 ·
  go_simp
  refine ah (hK _ _) ?_
  clear hK K
  refine wpAnyIn_ready (rs:=[12]) (by kernel_rfl) (by simp) ?_
  exact aC
 go_simp
 refine ah (hK _ _) ?_
 clear hK K
 refine wpAnyIn_ready (rs:=[7]) (by kernel_rfl) (by simp) ?_
 exact aC):p:=h
theorem aJ (h:p:=by
 intro wx
 go_simp
 try with_reducible rfl):p:=h
theorem aV (h:p:=by
 refine sN ?_
 refine sA 12 15 ?_
 refine sA 13 16 ?_
 refine sA 11 14 ?_
 refine sA 14 17 ?_
 refine tQ 15 18 ?_
 refine rq1 16 (fun K hK=>?_)
 go_simp
 refine ah (hK _ _ cb) ?_
 intro hHeld
 clear hK K
 refine dnq ?_
 have B:=under hB
 go_wp2_with fail
 go_ret
 exact ⟨iv HF.symm,B⟩):p:=h
theorem aW (h:p:=by
 gi_wp2
 exact ⟨.bool false,by simp [results,Tryz.results103,go_sem],iv HE.symm,B0⟩):p:=h
theorem aX (h:p:=by
 go_wp2_with fail
 go_ret
 exact ⟨iv HE.symm,B⟩):p:=h
theorem aY (h:p:=by
 intro wx hSw
 try dsimp only at hSw
 go_simp
 try with_reducible rfl):p:=h
theorem aZ (h:p:=by
 go_enter Tryz.func126,Tryz.ntmps126
 go_wp2_with fail
 go_ret
 exact ⟨iv HE.symm,HA _⟩):p:=h
theorem ba (h:p:=by
 go_wp2_with fail
 go_ret
 exact ⟨rfl,HA _ _⟩):p:=h
theorem bc (h:p:=by
 rcases hp3 with h | h | h <;> rw [h] <;> exact lI _ (by omega) (by omega)):p:=h
theorem Ha (h:p:=by
 exact ⟨sF hb2 _,hb2.mono i6,fun y hy=>by
  rcases List.mem_append.1 hy with hy | hy
  ·
   exact i1 y hy
  ·
   simp at hy;rw [hy];exact HCt.out,(hb2.cell (p:=⟨w.heap.size,2,none⟩) hl0).trans i2,(hb2.cell (p:=⟨w.heap.size,3,none⟩) hl0).trans i3,cR2,fR2,Nat.le_trans i6 hb2.size,i7.trans (hb2.mono i7.size)⟩):p:=h
theorem bf (h:p:=by
 exact ⟨(sF hb2 _).trans ((KeepsOthers.setCell _ _ _).from _),rfl,⟨x,by simp,HCf⟩,World.cell?_setCell_same' _ _ _ (by rw [cR2];rfl),(i7.trans (hb2.mono i7.size)).setCell (by show _≤_+1;omega) _⟩):p:=h
theorem nG (q d:Int) (a:Option Addr) (n cap:Nat) (z:Nat→Int) (b:Bool) (w:World) (hn:n≤maxLen) (h:iP w a n fun j=>.int .i64 (z j)) (ok:Bool) (hok:ok=true↔vH q d n z b) :
  Calls Tryz.prog 126 #[.agg #[.int .i64 q,.int .i64 d,.slice a n cap],.bool b] w fun e w'=>e=.returned (.bool ok)∧Below w.heap.size w w':=by
 have HO:=aa hok
 have HR:=aa h
 have HA:Hid (∀ ob,Below w.heap.size w (w.alloc ob)):=fun ob=>(Below.refl _ _).alloc (Nat.le_refl _) _
 have HF:Hid (¬ vH q d n z b→ok=false):=fun hh=>by
  rw [Bool.eq_false_iff]
  intro e
  exact hh (HO.1 e)
 clear h hok
 by_cases h1:1≤q
 ·
  by_cases h2:q≤10
  ·
   obtain ⟨ok1,hok1⟩:=uS (qW n z)
   obtain ⟨ok2,hok2⟩:=uS (ry q d n b)
   have H1:=aa hok1
   have H2:=aa hok2
   clear hok1 hok2
   have kX:=im w (.cells #[.int .i64 q,.int .i64 d,.slice a n cap] 197)
   go_enter Tryz.func126,Tryz.ntmps126
   go_wp2_with fail
   refine (xP a n cap z _ hn (HR.up (HA _)) ok1 H1).mono ?_
   rintro e w1 ⟨rfl,hS⟩
   have B1:=(HA _).trans (hS.below _)
   have cX:=fun o=>(hS.cell ⟨w.heap.size,o,none⟩).trans (ie kX o)
   clear hS kX
   cases ok1
   ·
    have HE:Hid (ok=false):=HF (fun hh=>by have:=H1.2 hh.2.1;simp at this)
    go_wp2_with fail
    go_ret
    exact ⟨iv HE.symm,B1⟩
   have HS1:Hid (qW n z):=H1.1 rfl
   go_wp2_with fail
   refine (vD q d a n cap b _ hn h1 h2 ok2 H2).mono ?_
   rintro e w2 ⟨rfl,hb2⟩
   have B2:=B1.trans (hb2.mono B1.size)
   have HE:Hid (ok2=ok):=by
    rw [Hid,Bool.eq_iff_iff,HO.out,H2.out]
    exact ⟨fun hh=>⟨⟨h1,h2⟩,HS1,hh⟩,fun hh=>hh.2.2⟩
   clear hb2 B1 cX
   go_wp2_with fail
   go_ret
   exact ⟨iv HE,B2⟩
  have HE:Hid (ok=false):=HF (fun hh=>h2 hh.1.2)
  exact aZ
 have HE:Hid (ok=false):=HF (fun hh=>h1 hh.1.1)
 exact aZ
theorem pA (R:Rnd) (c:Int) (w:World) (hf:R.Fit) :
  Calls Tryz.prog 124 #[.agg R.cells,.int .i64 c] w fun e w'=>e=.returned (.bool (decide (0≤c∧c<R.nQ)))∧Below w.heap.size w w':=by
 have hm:(R.nQ:Int)≤9223372036854775807:=by have:=hf.q;unfold maxLen at this;omega
 have HA:Hid (∀ ob,Below w.heap.size w (w.alloc ob)):=fun ob=>(Below.refl _ _).alloc (Nat.le_refl _) _
 have hw:IntKind.i64.wrap (R.nQ:Int)=(R.nQ:Int):=ur _ (by omega) (by omega)
 unfold Rnd.cells
 by_cases h1:0≤c
 ·
  go_enter Tryz.func124,Tryz.ntmps124
  go_wp2_with fail
  go_ret
  exact ⟨iv (by simp [h1]),HA _⟩
 go_enter Tryz.func124,Tryz.ntmps124
 go_wp2_with fail
 go_ret
 exact ⟨iv (by simp;omega),HA _⟩
theorem yx (R:Rnd) (w:World) :
  Calls Tryz.prog 125 #[.agg R.cells] w fun e w'=>e=.returned (.func (.func 136) #[] #[.pointer (some ⟨w.heap.size,0,none⟩)])∧w'=w.alloc (.cells R.cells 45):=by
 unfold Rnd.cells
 go_enter Tryz.func125,Tryz.ntmps125
 go_wp2_with fail
 go_ret
 exact ⟨rfl,rfl⟩
open Go.RowKit Go.Shelf
attribute [local go_sem] Oper.semAt_some
section
variable {P : Program} {ops : Array Oper} {Q : Exit → Act → World → Prop} {md : Region.Mode} {F : Fence} {n : Nat}
theorem kh {i:Nat} (d:Option Tmp) {oi:Oper} {v:Value} {fuel:Nat} {listed:Array Bool} {a:Act} (hro:F.round=none) (hi:ops[i]?=some oi) (hd:oi.dst=d)
  (hs:Region.noSelect ops=true) (hf:Region.free md ops listed i=true) (hr:(Region.ready md ops listed).contains i=true)
  (hQ:∀ c a w,Q (.panic c) (a.put d v) w→Q (.panic c) a w) (hw:Region.wanted oi (yielded ops a.tmps)=true) (hy:∀ w,(execOp a.eval oi).run P w=.ok (.value v) w) (hab:∀ w,oi.about P w a.eval=none)
  (h:wpAnyIn F n P md ops Q fuel (listed.setIfInBounds i true) (a.put d v) w):wpAnyIn F n P md ops Q (fuel+1) listed a w:=by
 subst hd
 exact wpAnyIn_take hro hi hs hf hr hQ ⟨Or.inl ⟨hw,hy⟩,hab⟩ h
end
def GB (R:Rnd) (x:{ i:Nat // i<R.nQ }):Array Value:=#[.int .i64 ((x.1:Nat):Int),.agg #[.int .i64 (R.q x.1),.int .i64 (R.d x.1),.slice (R.A x.1) (R.L x.1) (R.C x.1)]]
def CJ (n:Nat):(k:Nat)→k≤n→List { i:Nat // i<n }
 | 0,_=>[]
 | k+1,h=>CJ n k (Nat.le_of_succ_le h)++[⟨k,h⟩]
theorem yJ (n:Nat):∀ (k:Nat) (h:k≤n),(CJ n k h).length=k
 | 0,_=>rfl
 | k+1,h=>by simp [CJ,yJ n k]
theorem yI (n:Nat):∀ (k:Nat) (h:k≤n) (i:Nat) (hi:i<k),(⟨i,Nat.lt_of_lt_of_le hi h⟩:{ i:Nat // i<n })∈CJ n k h
 | k+1,h,i,hi=>by
  unfold CJ
  by_cases e:i=k
  ·
   subst e;simp
  exact List.mem_append_left _ (yI n k (Nat.le_of_succ_le h) i (by omega))
structure DU (w:World) (b:Nat) (R:Rnd):Prop where
 box:∀ o,w.cell? ⟨b,o,none⟩=R.cells[o]?
 rd:mN w R
theorem vI (F:Fence) (n:Nat) (h45:F.fn 136) (hro:F.round=none) (hn:1≤n) (R:Rnd) (hf:R.Fit) (hD:R.nQ≤R.nD) (hS:R.nQ≤R.nS) (b:Nat) (w:World) (hT:DU w b R) (hlt:∀ W,Below w.heap.size w W→DU W b R) :
  SeqStopsK F n Tryz.prog 136 #[.pointer (some ⟨b,0,none⟩)] (GB R) (Below w.heap.size) (fun xs=>xs=CJ R.nQ R.nQ (Nat.le_refl _)) (fun pre=>∃ k,∃ h:k≤R.nQ,pre=CJ R.nQ k h) R.nQ w:=fun l J Jx W hW hJ hJx hY h0=>by
 obtain ⟨aQ,nQ,cQ,q,aD,nD,cD,d,turn,fresh,aS,nS,cS,A,L,C,z⟩:=R
 have hfq:nQ≤maxLen:=hf.q
 dsimp only at hD hS hY ⊢
 clear hf hT
 refine callsIn_of_wp Tryz.func136 rfl h45 ?_ hro
 simp only [Tryz.ntmps136,List.size_toArray,List.length_cons,List.length_nil,Nat.reduceAdd,Nat.reduceSub,Array.replicate_succ,Array.replicate_zero,List.push_toArray,List.append_toArray,List.nil_append,List.cons_append]
 have hm:(nQ:Int)≤9223372036854775807:=by unfold maxLen at hfq;omega
 have hTW:=hlt W hW
 have cb:=hTW.box
 unfold Rnd.cells at cb
 gi_wp2
 gi_loopw [8] (fun i wr=>∃ (k:Nat) (h:k≤nQ),i=.int .i64 k∧Below w.heap.size w wr∧J (CJ nQ k h) wr) (fun i _=>nQ-(intOf i).toNat)
 case atStart=>exact ⟨0,Nat.zero_le _,rfl,hW,h0⟩
 obtain ⟨k,hk,rfl,hB,hJk⟩:=hrel
 clear cb hTW
 by_cases hlt2:k<nQ
 ·
  have hlt':(k:Int)<nQ:=by omega
  have hltD:(k:Int)<nD:=by omega
  have hltS:(k:Int)<nS:=by omega
  have hTr:=hlt wr hB
  have cb:=hTr.box
  unfold Rnd.cells at cb
  obtain ⟨gq,oq,rfl,cq⟩:=hTr.rd.q k hlt2
  obtain ⟨gd,od,rfl,cd⟩:=hTr.rd.d k (by show k<nD;omega)
  obtain ⟨gs,os,rfl,cs⟩:=hTr.rd.s k (by show k<nS;omega)
  dsimp only at cq cd cs cb
  obtain ⟨fn,tmps,assign,body,hy,hR⟩:=hY (CJ nQ k hk) ⟨k,hlt2⟩ wr.drew (hJ _ _ _ none hJk ⟨rfl,rfl,rfl,Nat.le_refl _,fun _ _ _=>rfl⟩ (fun r e=>by cases e)) (by rw [yJ];exact hlt2)
  dsimp only [GB] at hy
  clear hlt hTr hY
  gi_wp2
  refine wpIn_region_any (by kernel_rfl) ?_
  refine kh (i:=0) (some 13) (v:=?_) hro rfl rfl (by kernel_rfl) (by kernel_rfl) (by kernel_rfl) (fun _ _ _ h=>h) (by kernel_rfl) ?_ (fun _=>rfl) ?_
  rotate_left
  · exact aJ
  try simp only [Act.put,PZ]
  refine kh (i:=1) (some 14) (v:=?_) hro rfl rfl (by kernel_rfl) (by kernel_rfl) (by kernel_rfl) (fun _ _ _ h=>h) (by kernel_rfl) ?_ (fun _=>rfl) ?_
  rotate_left
  · exact aJ
  try simp only [Act.put,PZ]
  refine kh (i:=2) (some 15) (v:=?_) hro rfl rfl (by kernel_rfl) (by kernel_rfl) (by kernel_rfl) (fun _ _ _ h=>h) (by kernel_rfl) ?_ (fun _=>rfl) ?_
  rotate_left
  · exact aJ
  try simp only [Act.put,PZ]
  refine kh (i:=3) (some 16) (v:=?_) hro rfl rfl (by kernel_rfl) (by kernel_rfl) (by kernel_rfl) (fun _ _ _ h=>h) (by kernel_rfl) ?_ (fun _=>rfl) ?_
  rotate_left
  · exact aJ
  try simp only [Act.put,PZ]
  refine kh (i:=5) (some 18) (v:=?_) hro rfl rfl (by kernel_rfl) (by kernel_rfl) (by kernel_rfl) (fun _ _ _ h=>h) (by kernel_rfl) ?_ (fun _=>rfl) ?_
  rotate_left
  · exact aJ
  try simp only [Act.put,PZ]
  refine kh (i:=8) (some 21) (v:=?_) hro rfl rfl (by kernel_rfl) (by kernel_rfl) (by kernel_rfl) (fun _ _ _ h=>h) (by kernel_rfl) ?_ (fun _=>rfl) ?_
  rotate_left
  · exact aJ
  try simp only [Act.put,PZ]
  refine kh (i:=10) (some 23) (v:=?_) hro rfl rfl (by kernel_rfl) (by kernel_rfl) (by kernel_rfl) (fun _ _ _ h=>h) (by kernel_rfl) ?_ (fun _=>rfl) ?_
  rotate_left
  · exact aJ
  try simp only [Act.put,PZ]
  refine wpAnyIn_ready (rs:=[4,9]) (by kernel_rfl) (by simp) ?_
  refine AllReadyIn.cons rfl (fun K hK=>?_) (AllReadyIn.cons rfl (fun K hK=>?_) AllReadyIn.nil)
  ·
   go_simp
   refine ah (hK _ _) ?_
   clear hK K
   refine kh (i:=6) (some 19) (v:=?_) hro rfl rfl (by kernel_rfl) (by kernel_rfl) (by kernel_rfl) (fun _ _ _ h=>h) (by kernel_rfl) ?_ (fun _=>rfl) ?_
   rotate_left
   · exact aJ
   try simp only [Act.put,PZ]
   refine wpAnyIn_ready (rs:=[7,9]) (by kernel_rfl) (by simp) ?_
   refine AllReadyIn.cons rfl (fun K hK=>?_) (AllReadyIn.cons rfl (fun K hK=>?_) AllReadyIn.nil)
   ·
    go_simp
    refine ah (hK _ _) ?_
    clear hK K
    refine wpAnyIn_ready (rs:=[9]) (by kernel_rfl) (by simp) ?_
    refine AllReadyIn.cons rfl (fun K hK=>?_) AllReadyIn.nil
    go_simp
    refine ah (hK _ _) ?_
    clear hK K
    refine kh (i:=11) (some 24) (v:=?_) hro rfl rfl (by kernel_rfl) (by kernel_rfl) (by kernel_rfl) (fun _ _ _ h=>h) (by kernel_rfl) ?_ (fun _=>rfl) ?_
    rotate_left
    · exact aJ
    try simp only [Act.put,PZ]
    refine wpAnyIn_ready (rs:=[12]) (by kernel_rfl) (by simp) ?_
    exact aC
   go_simp
   refine ah (hK _ _) ?_
   clear hK K
   refine kh (i:=11) (some 24) (v:=?_) hro rfl rfl (by kernel_rfl) (by kernel_rfl) (by kernel_rfl) (fun _ _ _ h=>h) (by kernel_rfl) ?_ (fun _=>rfl) ?_
   rotate_left
   · exact aJ
   exact aI
  go_simp
  refine ah (hK _ _) ?_
  clear hK K
  refine kh (i:=11) (some 24) (v:=?_) hro rfl rfl (by kernel_rfl) (by kernel_rfl) (by kernel_rfl) (fun _ _ _ h=>h) (by kernel_rfl) ?_ (fun _=>rfl) ?_
  rotate_left
  · exact aJ
  try simp only [Act.put,PZ]
  refine wpAnyIn_ready (rs:=[4,12]) (by kernel_rfl) (by simp) ?_
  refine AllReadyIn.cons rfl (fun K hK=>?_) (AllReadyIn.cons rfl (fun K hK=>?_) AllReadyIn.nil)
  ·
   go_simp
   refine ah (hK _ _) ?_
   clear hK K
   refine kh (i:=6) (some 19) (v:=?_) hro rfl rfl (by kernel_rfl) (by kernel_rfl) (by kernel_rfl) (fun _ _ _ h=>h) (by kernel_rfl) ?_ (fun _=>rfl) ?_
   rotate_left
   · exact aJ
   exact aI
  go_simp
  refine ah (hK _ _) ?_
  clear hK K
  refine wpAnyIn_ready (rs:=[4]) (by kernel_rfl) (by simp) ?_
  refine AllReadyIn.cons rfl (fun K hK=>?_) AllReadyIn.nil
  go_simp
  refine ah (hK _ _) ?_
  clear hK K
  refine kh (i:=6) (some 19) (v:=?_) hro rfl rfl (by kernel_rfl) (by kernel_rfl) (by kernel_rfl) (fun _ _ _ h=>h) (by kernel_rfl) ?_ (fun _=>rfl) ?_
  rotate_left
  · exact aJ
  try simp only [Act.put,PZ]
  refine wpAnyIn_ready (rs:=[7]) (by kernel_rfl) (by simp) ?_
  exact aC
 obtain rfl:k=nQ:=by omega
 gi_wp2
 go_end0
 exact ⟨⟨_,rfl⟩,.inl ⟨_,rfl,hJk⟩⟩
attribute [local go_sem] Oper.semAt_some
theorem sF {W2:World} (hb:Below W.heap.size W W2) (B:Nat):KeepsFrom B W W2 :=
 ⟨hb.size,fun k o _ hk _=>(hb.block k (ig hk)).trans hk⟩
theorem lO (R:Rnd) (w:World) (hf:R.Fit) (h:mN w R) (ok:Bool) (hok:ok=true↔R.Ok) :
  Calls Tryz.prog 103 #[.agg R.cells] w fun e w'=>e=.returned (.bool ok)∧Below w.heap.size w w':=by
 have HR:=aa h
 have HF:Hid (¬ R.Ok→ok=false):=fun hh=>by
  rw [Bool.eq_false_iff]
  intro e
  exact hh (hok.1 e)
 have HO:=aa hok
 have HFit:=aa hf
 have hq:=hf.q
 have hd:=hf.d
 have hs:=hf.s
 unfold maxLen at hq hd hs
 clear h hok hf
 refine (callsIn_wide (n:=8)).1 ?_
 refine callsIn_of_wp_marks Tryz.func103 rfl trivial ?_ rfl
 simp only [Tryz.ntmps103,List.size_toArray,List.length_cons,List.length_nil,Nat.reduceAdd,Nat.reduceSub,Array.replicate_succ,Array.replicate_zero,List.push_toArray,List.append_toArray,List.nil_append,List.cons_append]
 unfold Rnd.cells
 have B0:Below w.heap.size w ((w.alloc (.cells R.cells 45)).alloc (.cells #[.bool false] 4)):=((Below.refl _ _).alloc (Nat.le_refl _) _).alloc (by simp) _
 have f32:Fence.wide.fn 124:=trivial
 have f33:Fence.wide.fn 125:=trivial
 have f34:Fence.wide.fn 126:=trivial
 by_cases h1:R.nQ<1
 ·
  have h1':(R.nQ:Int)<1:=by omega
  have HE:Hid (ok=false):=HF (fun hh=>by have:=hh.n;omega)
  exact aW
 have h1':¬ (R.nQ:Int)<1:=by omega
 by_cases h2:4<R.nQ
 ·
  have h2':(4:Int)<R.nQ:=by omega
  have HE:Hid (ok=false):=HF (fun hh=>by have:=hh.n;omega)
  exact aW
 have h2':¬ (4:Int)<R.nQ:=by omega
 have H12:Hid (1≤R.nQ∧R.nQ≤4):=by show _∧_;omega
 clear h1 h2
 by_cases h3:R.nD=R.nQ
 rotate_left
 ·
  have h3':((R.nD:Int) != (R.nQ:Int))=true:=by simp;omega
  have HE:Hid (ok=false):=HF (fun hh=>h3 hh.d)
  clear h3
  exact aW
 have h3':((R.nD:Int) != (R.nQ:Int))=false:=by simp [h3]
 have H3:=aa h3
 clear h3
 by_cases h4:R.nS=R.nQ
 rotate_left
 ·
  have h4':((R.nS:Int) != (R.nQ:Int))=true:=by simp;omega
  have HE:Hid (ok=false):=HF (fun hh=>h4 hh.s)
  clear h4
  exact aW
 have h4':((R.nS:Int) != (R.nQ:Int))=false:=by simp [h4]
 have H4:=aa h4
 clear h4
 have kB:=iH (.cells #[.bool false] 4) (show w.heap.size<(w.alloc (.cells R.cells 45)).heap.size by simp)
 rw [im] at kB
 have kR:=im (w.alloc (.cells R.cells 45)) (.cells #[.bool false] 4)
 have eS:(w.alloc (.cells R.cells 45)).heap.size=w.heap.size+1:=by simp
 rw [eS] at kR
 have e2:((w.alloc (.cells R.cells 45)).alloc (.cells #[.bool false] 4)).heap.size=w.heap.size+1+1:=by simp
 have HK:Hid (((w.alloc (.cells R.cells 45)).alloc (.cells #[.bool false] 4)).heap[w.heap.size]?=some (.cells R.cells 45 (0,0))∧((w.alloc (.cells R.cells 45)).alloc (.cells #[.bool false] 4)).heap[w.heap.size+1]?=some (.cells #[.bool false] 4 (0,0))):=⟨kB,kR⟩
 clear kB kR
 by_cases h5:0≤R.turn∧R.turn<R.nQ
 rotate_left
 ·
  have HE:Hid (ok=false):=HF (fun hh=>h5 hh.t)
  gi_wp2_with (gi_at_call 124;refine (callsIn_wide.2 (pA R R.turn _ HFit.out)).mono ?_;rintro e w1 ⟨rfl,hb1⟩;rw [decide_eq_false h5];have B1:=B0.trans (hb1.mono B0.size);have kR1:=(hb1.block (w.heap.size+1) (by rw [←Rnd.cells,e2];omega)).trans HK.2;have cR:=ie kR1;have fR:=ix kR1;clear h5 hb1 B0)
  have cS:=ie (iL (i:=0) kR1 (.bool false)) 0
  exact ⟨.bool false,by simp [results,Tryz.results103,go_sem,cS],iv HE.symm,B1.setCell (by show _≤_+1;omega) _⟩
 gi_wp2_with (first | (gi_at_call 124;refine (callsIn_wide.2 (pA R R.turn _ HFit.out)).mono ?_;rintro e w1 ⟨rfl,hb1⟩;rw [decide_eq_true h5];have B1:=B0.trans (hb1.mono B0.size);have kR1:=(hb1.block (w.heap.size+1) (by rw [←Rnd.cells,e2];omega)).trans HK.2;have kB1:=(hb1.block w.heap.size (by rw [←Rnd.cells,e2];omega)).trans HK.1;have cB:=ie kB1;unfold Rnd.cells at cB;have H5:Hid (0≤R.turn∧R.turn<R.nQ):=h5;clear h5 hb1 B0) | (gi_at_call 125;refine (callsIn_wide.2 (yx R _)).mono ?_;rintro e w2 ⟨rfl,rfl⟩))
 have hBt:DU (w1.alloc (.cells R.cells 45)) w1.heap.size R:=⟨fun o=>ie (im w1 (.cells R.cells 45)) o,HR.up (B1.alloc B1.size _)⟩
 have hcBx:w1.heap.size<(w1.alloc (.cells R.cells 45)).heap.size:=by simp
 have hTl:∀ W,Below (w1.alloc (.cells R.cells 45)).heap.size (w1.alloc (.cells R.cells 45)) W→DU W w1.heap.size R:=fun W hW =>
  ⟨fun o=>(hW.cell (p:=⟨w1.heap.size,o,none⟩) hcBx).trans (hBt.box o),hBt.rd.up hW⟩
 have hw1:=B1.size
 have hlR:=ig kR1
 have hsW:w.heap.size≤(w1.alloc (.cells R.cells 45)).heap.size:=by simp;omega
 have hc2:w1.cell? ⟨w.heap.size,2,none⟩=some (.int .i64 R.turn):=cB 2
 have hc3:w1.cell? ⟨w.heap.size,3,none⟩=some (.bool R.fresh):=cB 3
 have hcr:w1.cell? ⟨w.heap.size+1,0,none⟩=some (.bool false):=ie kR1 0
 have hfr:w1.frozen? ⟨w.heap.size+1,0,none⟩=false:=ix kR1 0
 have ho:w.heap.size<w1.heap.size:=by omega
 have hold:∀ (j:Nat) o,j<w1.heap.size→(w1.alloc (.cells R.cells 45)).cell? ⟨j,o,none⟩=w1.cell? ⟨j,o,none⟩:=fun j o hj=>World.cell?_of_block (w:=w1) (a:=⟨j,o,none⟩) (iH _ hj)
 have holdf:(w1.alloc (.cells R.cells 45)).frozen? ⟨w.heap.size+1,0,none⟩=false:=(World.frozen?_of_block (w:=w1) (a:=⟨w.heap.size+1,0,none⟩) (iH _ hlR)).trans hfr
 have HD:Hid (R.nQ≤R.nD):=by rw [Hid,H3.out];exact Nat.le_refl _
 have HS:Hid (R.nQ≤R.nS):=by rw [Hid,H4.out];exact Nat.le_refl _
 refine wpIn_rangeFunc_ownH rfl (by omega) (gf:=136) (lb:=#[.pointer (some ⟨w1.heap.size,0,none⟩)]) rfl trivial (enters_of Tryz.func136 (by kernel_rfl) rfl)
  (vI Fence.wide _ trivial rfl (by omega) R HFit HD HS w1.heap.size (w1.alloc (.cells R.cells 45)) hBt hTl) belowK_t (belowK_b (Nat.le_refl _)) (Below.refl _ _) (fun _=>rfl)
  (fun pre W=>(∀ x∈pre,vH (R.q x.1) (R.d x.1) (R.L x.1) (R.z x.1) (R.begun x.1))∧W.cell? ⟨w.heap.size,2,none⟩=some (.int .i64 R.turn)∧W.cell? ⟨w.heap.size,3,none⟩=some (.bool R.fresh)∧W.cell? ⟨w.heap.size+1,0,none⟩=some (.bool false)∧W.frozen? ⟨w.heap.size+1,0,none⟩=false∧(w1.alloc (.cells R.cells 45)).heap.size≤W.heap.size∧Below w.heap.size w W)
  (fun c pre W=>c=.ret∧(∃ x∈pre,¬ vH (R.q x.1) (R.d x.1) (R.L x.1) (R.z x.1) (R.begun x.1))∧W.cell? ⟨w.heap.size+1,0,none⟩=some (.bool false)∧Below w.heap.size w W)
  (fun s A B row hs hg hr=>⟨hs.1,cell_kept hs.2.1 hg (fun r e=>(hr r e).2),cell_kept hs.2.2.1 hg (fun r e=>(hr r e).2),cell_kept hs.2.2.2.1 hg (fun r e=>(hr r e).2),(frozen_kept hs.2.2.2.1 hg (fun r e=>(hr r e).2)).trans hs.2.2.2.2.1,Nat.le_trans hs.2.2.2.2.2.1 hg.size,hs.2.2.2.2.2.2.grown hg hs.2.2.2.2.2.2.size (fun k e=>Nat.le_trans hsW (hr k e).1)⟩)
  (fun c s A B row hs hg hr=>⟨hs.1,hs.2.1,cell_kept hs.2.2.1 hg (fun r e=>(hr r e).2),hs.2.2.2.grown hg hs.2.2.2.size (fun k e=>Nat.le_trans hsW (hr k e).1)⟩)
  ⟨fun x hx=>by simp at hx,(hold _ _ ho).trans hc2,(hold _ _ ho).trans hc3,(hold _ _ hlR).trans hcr,holdf,Nat.le_refl _,B1.alloc hw1 _⟩
  (fun x a' W=>∃ Bx,w.heap.size+1<Bx∧W.cell? ⟨Bx,0,none⟩=some (.int .i64 (R.q x.1))∧W.cell? ⟨Bx,1,none⟩=some (.int .i64 (R.d x.1))∧W.cell? ⟨Bx,2,none⟩=some (.slice (R.A x.1) (R.L x.1) (R.C x.1))∧a'={ tmps:=#[.agg #[.slice R.aQ R.nQ R.cQ,.slice R.aD R.nD R.cD,.int .i64 R.turn,.bool R.fresh,.slice R.aS R.nS R.cS],.pointer (some ⟨w.heap.size,0,none⟩),.pointer (some ⟨w.heap.size+1,0,none⟩),.int .i64 (R.nQ:Int),.int .i64 ((x.1:Nat):Int),.pointer (some ⟨Bx,0,none⟩),.pointer (some ⟨w.heap.size,0,none⟩),.slice R.aQ R.nQ R.cQ,.int .i64 (R.nQ:Int),.int .i64 (R.nQ:Int),.bool false,.bool false,.int .i64 (R.nQ:Int),.bool false,.bool false,.bool false,.pointer (some ⟨w.heap.size,1,none⟩),.slice R.aD R.nD R.cD,.int .i64 (R.nD:Int),.int .i64 (R.nQ:Int),.bool false,.bool false,.bool false,.pointer (some ⟨w.heap.size,4,none⟩),.slice R.aS R.nS R.cS,.int .i64 (R.nS:Int),.int .i64 (R.nQ:Int),.bool false,.bool false,.bool false,.agg #[.slice R.aQ R.nQ R.cQ,.slice R.aD R.nD R.cD,.int .i64 R.turn,.bool R.fresh,.slice R.aS R.nS R.cS],.pointer (some ⟨w.heap.size,2,none⟩),.int .i64 R.turn,.bool true,.bool false,.bool false,.agg #[.slice R.aQ R.nQ R.cQ,.slice R.aD R.nD R.cD,.int .i64 R.turn,.bool R.fresh,.slice R.aS R.nS R.cS],.func (.func 136) #[] #[.pointer (some ⟨w1.heap.size,0,none⟩)],.int .i64 ((x.1:Nat):Int),.agg #[.int .i64 (R.q x.1),.int .i64 (R.d x.1),.slice (R.A x.1) (R.L x.1) (R.C x.1)],undef,undef,undef,undef,undef,undef,undef,undef,undef,undef,undef,undef],defers:=[] })
  (fun x a' s A B row hs hg hr=>by
   obtain ⟨Bx,b1,c1,c2,c3,e⟩:=hs
   exact ⟨Bx,b1,cell_kept c1 hg (fun r e=>(hr r e).2),cell_kept c2 hg (fun r e=>(hr r e).2),cell_kept c3 hg (fun r e=>(hr r e).2),e⟩)
  ?assign ?body ?done ?stop
 case assign =>
  rintro l pre x W K ⟨i1,i2,i3,i4,i5,i6,i7⟩ hK
  have hcn:=ie (im W (.cells #[.int .i64 (R.q x.1),.int .i64 (R.d x.1),.slice (R.A x.1) (R.L x.1) (R.C x.1)] 197))
  have hgr:=World.grownBy_alloc W (.cells #[.int .i64 (R.q x.1),.int .i64 (R.d x.1),.slice (R.A x.1) (R.L x.1) (R.C x.1)] 197) none
  have HI:Hid (∀ ob,(W.alloc ob).cell? ⟨w.heap.size,2,none⟩=some (.int .i64 R.turn)∧(W.alloc ob).cell? ⟨w.heap.size,3,none⟩=some (.bool R.fresh)∧(W.alloc ob).cell? ⟨w.heap.size+1,0,none⟩=some (.bool false)∧(W.alloc ob).frozen? ⟨w.heap.size+1,0,none⟩=false∧Below w.heap.size w (W.alloc ob)):=fun ob =>
   ⟨cell_kept i2 (World.grownBy_alloc W ob none) (fun r e=>by cases e),cell_kept i3 (World.grownBy_alloc W ob none) (fun r e=>by cases e),cell_kept i4 (World.grownBy_alloc W ob none) (fun r e=>by cases e),(frozen_kept i4 (World.grownBy_alloc W ob none) (fun r e=>by cases e)).trans i5,i7.alloc i7.size _⟩
  have hlt:w.heap.size+1<W.heap.size:=by simp at i6;omega
  unfold GB
  gi_wp2
  exact hK _ _ ((KeepsOthers.alloc _ _).from _) ((Below.refl _ W).alloc i6 _) ⟨i1,(HI _).1,(HI _).2.1,(HI _).2.2.1,(HI _).2.2.2.1,by simp at i6 ⊢;omega,(HI _).2.2.2.2⟩ ⟨W.heap.size,hlt,hcn 0,hcn 1,hcn 2,rfl⟩
 case body =>
  rintro l pre x a' W hl ⟨r,hr⟩ ⟨i1,i2,i3,i4,i5,i6,i7⟩ ⟨Bx,hBx,x0,x1,x2,rfl⟩ hlt
  have hl2:w.heap.size+1<W.heap.size:=by simp at i6;omega
  have hl0:w.heap.size<W.heap.size:=by omega
  obtain ⟨okc,hokc⟩:=uS (vH (R.q x.1) (R.d x.1) (R.L x.1) (R.z x.1) (R.begun x.1))
  have HC:=aa hokc
  have hxS:x.1<R.nS:=by rw [H4.out];exact x.2
  have HRd:=aa ((HR.up i7).z x.1 hxS)
  have HLn:=aa (HFit.l x.1 hxS)
  clear hokc hxS hTl hBt hold holdf hc2 hc3 hcr hfr
  by_cases hx:((x.1:Nat):Int)=R.turn
  ·
   have hxq:(((x.1:Nat):Int) == R.turn)=true:=by simp [hx]
   cases hfs:R.fresh
   ·
    have hbg:R.begun x.1=true:=by simp [Rnd.begun,hx,hfs]
    rw [hfs] at i3
    clear hx hfs
    have HC2:Hid (okc=true↔vH (R.q x.1) (R.d x.1) (R.L x.1) (R.z x.1) true):=by have hh:=HC.out;rw [hbg] at hh;exact hh
    clear hbg
    cases okc
    ·
     have HCf:Hid (¬ vH (R.q x.1) (R.d x.1) (R.L x.1) (R.z x.1) (R.begun x.1)):=fun hh=>by have:=HC.2 hh;simp at this
     gi_wp2_with (gi_at_call 126;refine (CallsIn.inRound l (callsIn_wide.2 (nG (R.q x.1) (R.d x.1) (R.A x.1) (R.L x.1) (R.C x.1) (R.z x.1) true W HLn HRd false HC2.out))).mono ?_;rintro e W2 ⟨rfl,hb2⟩;have cR2:=(hb2.cell (p:=⟨w.heap.size+1,0,none⟩) hl2).trans i4;have fR2:=(hb2.frozen (p:=⟨w.heap.size+1,0,none⟩) hl2).trans i5)
     exact bf
    have HCt:Hid (vH (R.q x.1) (R.d x.1) (R.L x.1) (R.z x.1) (R.begun x.1)):=HC.1 rfl
    gi_wp2_with (gi_at_call 126;refine (CallsIn.inRound l (callsIn_wide.2 (nG (R.q x.1) (R.d x.1) (R.A x.1) (R.L x.1) (R.C x.1) (R.z x.1) true W HLn HRd true HC2.out))).mono ?_;rintro e W2 ⟨rfl,hb2⟩;have cR2:=(hb2.cell (p:=⟨w.heap.size+1,0,none⟩) hl2).trans i4;have fR2:=(hb2.frozen (p:=⟨w.heap.size+1,0,none⟩) hl2).trans i5)
    exact Ha
   have hbg:R.begun x.1=false:=by simp [Rnd.begun,hfs]
   rw [hfs] at i3
   clear hx hfs
   exact G8
  have hxq:(((x.1:Nat):Int) == R.turn)=false:=by simp [hx]
  have hbg:R.begun x.1=false:=by simp [Rnd.begun,hx]
  clear hx
  exact G8
 case done =>
  rintro D xs W hD rfl ⟨i1,i2,i3,i4,i5,i6,i7⟩ hK
  have HT:Hid (ok=true):=HO.2 ⟨H12.out,H3.out,H4.out,H5.out,fun i hi=>i1 ⟨i,hi⟩ (yI _ _ _ i hi)⟩
  have hK':=(KeepsOthers.setCell W ⟨w.heap.size+1,0,none⟩ (.bool true)).same D _ hK rfl
  have hc5:=cell_kept (World.cell?_setCell_same' W ⟨w.heap.size+1,0,none⟩ (.bool true) (by rw [i4];rfl)) (grownBy_putObj' _ D (.deferred none)) (fun r e=>by cases e;exact ⟨_,hK',rfl⟩)
  have hBe:Below w.heap.size w ((W.setCell ⟨w.heap.size+1,0,none⟩ (.bool true)).putObj D (.deferred none)):=(i7.setCell (p:=⟨w.heap.size+1,0,none⟩) (by show _≤_+1;omega) _).trans (belowK_b (w:=w) (Nat.le_refl _) _ D _ _ (Nat.le_trans hsW hD) hK' rfl rfl)
  clear hTl hBt hold holdf hc2 hc3 hcr hfr
  gi_wp2
  refine ⟨by simp,.inl ⟨_,_,rfl,run_takeDeferred hK',?_⟩⟩
  exact ⟨.bool true,by simp [results,Tryz.results103,go_sem,hc5],iv HT.symm,hBe⟩
 rintro D c pre W hD hSp ⟨rfl,⟨x,hx,hn⟩,i4,i7⟩ hK
 have HE:Hid (ok=false):=HF (fun hh=>hn (hh.c x.1 x.2))
 have hc5:=cell_kept i4 (grownBy_putObj' _ D (.deferred none)) (fun r e=>by cases e;exact ⟨_,hK,rfl⟩)
 have hBe:Below w.heap.size w (W.putObj D (.deferred none)):=i7.trans (belowK_b (w:=w) (Nat.le_refl _) _ D _ _ (Nat.le_trans hsW hD) hK rfl rfl)
 clear hTl hBt hold holdf hc2 hc3 hcr hfr
 gi_wp2
 refine ⟨by simp,.inl ⟨_,_,rfl,run_takeDeferred hK,?_⟩⟩
 exact ⟨.bool false,by simp [results,Tryz.results103,go_sem,hc5],iv HE.symm,hBe⟩
theorem nw (C:Cfg) (w:World) :
  Calls Tryz.prog 192 #[.agg #[],.agg C.cells] w fun e w'=>e=.returned (.int .i64 C.lo)∧Below w.heap.size w w':=by
 have HA:Hid (∀ o o',Below w.heap.size w ((w.alloc o).alloc o')):=fun o o'=>((Below.refl _ _).alloc (Nat.le_refl _) _).alloc (by simp) _
 unfold Cfg.cells
 go_enter Tryz.func192,Tryz.ntmps192
 exact ba
theorem oc (C:Cfg) (i:Int) (w:World) (h1:-1000≤C.xo) (h2:C.xo≤1000) (h3:-1000≤C.hd) (h4:C.hd≤1000) :
  Calls Tryz.prog 195 #[.agg #[.int .i64 i],.agg C.cells] w fun e w'=>e=.returned (.int .i64 (C.xo+C.hd))∧Below w.heap.size w w':=by
 have HA:Hid (∀ o o',Below w.heap.size w ((w.alloc o).alloc o')):=fun o o'=>((Below.refl _ _).alloc (Nat.le_refl _) _).alloc (by simp) _
 have e1:IntKind.i64.wrap (C.xo+C.hd)=C.xo+C.hd:=lI _ (by omega) (by omega)
 unfold Cfg.cells
 go_enter Tryz.func195,Tryz.ntmps195
 go_wp2_with fail
 go_ret
 exact ⟨lR (by first | rfl | exact e1 | exact e1.symm),HA _ _⟩
def zP (C:Cfg):Nat→Int
 | 0=>C.lo
 | _+1=>C.xo+C.hd
def xE (C:Cfg):Nat→Int
 | 0=>0
 | k+1=>xE C k+zP C k
theorem Bj (h:C.Num) (k:Nat):0≤zP C k∧zP C k≤2000:=by
 have:=h.xo;have:=h.hd;have:=h.lo
 cases k <;> simp only [zP] <;> omega
theorem Ey (h:C.Num) (k:Nat):0≤xE C k∧xE C k≤2000*(k:Int):=by
 induction k with
 | zero=>simp [xE]
 | succ k ih =>
  have:=Bj h k
  simp only [xE]
  omega
theorem CO {n:Nat} (h1:2≤n) (h2:n≤4):xE C (n+1)=(n:Int)*(C.xo+C.hd)+C.lo:=by
 have:n=2∨n=3∨n=4:=by omega
 rcases this with rfl | rfl | rfl <;> simp only [xE,zP] <;> omega
theorem wF (C:Cfg) (n:Nat) (w:World) (hn:n≤4) (hp:C.p=(n:Int)) (hN:C.Num) :
  Calls Tryz.prog 101 #[.agg C.cells] w fun e w'=>e=.returned (.int .i64 (xE C (n+1)))∧Below w.heap.size w w':=by
 have HN:=aa hN
 have HP:=aa hp
 have hB0:Below (w.heap.size+1) (w.alloc (.cells #[.int .i64 C.p,.int .i64 C.c,.int .i64 C.xo,.int .i64 C.xn,.int .i64 C.hd,.int .i64 C.lo,.int .i64 C.dl] 25)) (w.alloc (.cells #[.int .i64 C.p,.int .i64 C.c,.int .i64 C.xo,.int .i64 C.xn,.int .i64 C.hd,.int .i64 C.lo,.int .i64 C.dl] 25)):=Below.refl _ _
 clear hN hp
 unfold Cfg.cells
 go_enter Tryz.func101,Tryz.ntmps101
 go_wp2_with fail
 refine (rj C n _ hn HP).mono ?_
 rintro e w1 ⟨⟨g,cap,rfl,hown⟩,hb1⟩
 have hB1:=next hB0 hb1
 have HR:=aa (wO hown)
 clear hb1 hB0 hown
 go_wp2_with fail
 go_loopw [3,9] (fun s i wr=>∃ k:Nat,k≤n+1∧i=.int .i64 k∧s=.int .i64 (xE C k)∧Below w1.heap.size w1 wr) (fun _ i _=>n+1-(intOf i).toNat)
 case atStart=>exact ⟨0,Nat.zero_le _,rfl,rfl,Below.refl _ _⟩
 obtain ⟨k,hk,rfl,rfl,hBr⟩:=hrel
 have hB:=next hB1 hBr
 have cb:=boxed hB
 have HS:=aa (Ey HN k)
 by_cases hlt:k<n+1
 ·
  have hlt':(k:Int)<((n+1:Nat):Int):=by omega
  obtain ⟨g',o',ea,c1⟩:=(HR.up hBr) k hlt
  cases ea
  rw [Nat.zero_add] at c1
  have HM:Hid (IntKind.i64.wrap (xE C k+zP C k)=xE C (k+1)):=by
   have:=HS.out
   have:=Bj HN k
   exact lI _ (by omega) (by omega)
  cases k with
  | zero =>
   dsimp only [FM,sv] at c1
   have e1:IntKind.i64.wrap (xE C 0+C.lo)=xE C 1:=HM.out
   go_wp2_with fail
   refine (nw C _).mono ?_
   rintro e w2 ⟨rfl,hb2⟩
   have hBr2:=hBr.trans (hb2.mono hBr.size)
   clear hBr hb2 hB cb c1 HM
   go_wp2_with fail
   go_roundw
   case rel=>exact ⟨1,by omega,by first | rfl | go_num,by first | rfl | (rw [e1]),hBr2⟩
   case measure=>simp [intOf]
  | succ j =>
   dsimp only [FM,uO] at c1
   have e1:IntKind.i64.wrap (xE C (j+1)+(C.xo+C.hd))=xE C (j+1+1):=HM.out
   go_wp2_with fail
   refine (oc C _ _ (by have:=HN.xo;omega) (by have:=HN.xo;omega) (by have:=HN.hd;omega) (by have:=HN.hd;omega)).mono ?_
   rintro e w2 ⟨rfl,hb2⟩
   have hBr2:=hBr.trans (hb2.mono hBr.size)
   clear hBr hb2 hB cb c1 HM
   go_wp2_with fail
   go_roundw
   case rel=>exact ⟨j+1+1,by omega,by go_num,by first | rfl | (rw [e1]),hBr2⟩
   case measure=>simp [intOf];omega
 obtain rfl:k=n+1:=by omega
 have B:=under hB
 go_wp2_with fail
 go_ret
 exact ⟨rfl,B⟩
theorem vv (C:Cfg) (w:World) (ok:Bool) (hok:ok=true↔C.Ok) :
  Calls Tryz.prog 66 #[.agg C.cells] w fun e w'=>e=.returned (.bool ok)∧Below w.heap.size w w':=by
 obtain ⟨b,hb⟩:=oo C.Num
 have HO:=aa hok
 have hB:Below (w.heap.size+1) (w.alloc (.cells #[.int .i64 C.p,.int .i64 C.c,.int .i64 C.xo,.int .i64 C.xn,.int .i64 C.hd,.int .i64 C.lo,.int .i64 C.dl] 25)) (w.alloc (.cells #[.int .i64 C.p,.int .i64 C.c,.int .i64 C.xo,.int .i64 C.xn,.int .i64 C.hd,.int .i64 C.lo,.int .i64 C.dl] 25)):=Below.refl _ _
 have cb:=boxed hB
 clear hok
 unfold Cfg.cells
 cases b
 ·
  have HF:Hid (ok=false):=by
   show ok=false
   rw [Bool.eq_false_iff]
   intro e
   have:=hb.2 (HO.1 e).num
   cases this
  have HNb:=aa hb
  clear hb
  go_enter Tryz.func66,Tryz.ntmps66
  go_wp2_with fail
  refine wp_region_held_drew (S:=fun w'=>∀ o,w'.cell? ⟨w.heap.size,o,none⟩=(#[.int .i64 C.p,.int .i64 C.c,.int .i64 C.xo,.int .i64 C.xn,.int .i64 C.hd,.int .i64 C.lo,.int .i64 C.dl]:Array Value)[o]?) (by kernel_rfl) cb (fun hHeld=>?_)
  refine t0 ?_
  refine rq1 1 (fun K hK=>?_)
  go_simp
  have hB:=hB.drew
  refine (vu C _ false HNb).mono ?_
  rintro e w1 ⟨rfl,hb1⟩
  replace hB:=next hB hb1
  have cb:=boxed hB
  clear hb1
  go_wp2_with fail
  refine ah (hK _ _ cb) ?_
  intro hHeld
  clear hK K
  refine tN ?_
  iterate 5 refine sN ?_
  iterate 2 refine tN ?_
  exact aV
 have HNm:Hid C.Num:=hb.1 rfl
 have HNb:=aa hb
 clear hb
 by_cases hh:C.hd≥5*(2*C.dl+1)
 rotate_left
 ·
  have HF:Hid (ok=false):=by
   show ok=false
   rw [Bool.eq_false_iff]
   intro e
   exact hh (HO.1 e).head
  have hh':decide (5*(2*C.dl+1)≤C.hd)=false:=decide_eq_false hh
  go_enter Tryz.func66,Tryz.ntmps66
  go_wp2_with fail
  refine wp_region_held_drew (S:=fun w'=>∀ o,w'.cell? ⟨w.heap.size,o,none⟩=(#[.int .i64 C.p,.int .i64 C.c,.int .i64 C.xo,.int .i64 C.xn,.int .i64 C.hd,.int .i64 C.lo,.int .i64 C.dl]:Array Value)[o]?) (by kernel_rfl) cb (fun hHeld=>?_)
  refine t0 ?_
  refine rq1 1 (fun K hK=>?_)
  go_simp
  have hB:=hB.drew
  refine (vu C _ true ⟨fun _=>HNm.out,fun _=>rfl⟩).mono ?_
  rintro e w1 ⟨rfl,hb1⟩
  replace hB:=next hB hb1
  have cb:=boxed hB
  clear hb1
  go_wp2_with fail
  refine ah (hK _ _ cb) ?_
  intro hHeld
  clear hK K
  iterate 4 refine tN ?_
  refine rq1 6 (fun K hK=>?_)
  go_simp
  refine (pq C _ HNm.dl.1 HNm.dl.2).mono ?_
  rintro e w2 ⟨rfl,hb2⟩
  replace hB:=next hB hb2
  replace cb:=boxed hB
  clear hb2
  go_wp2_with fail
  refine ah (hK _ _ cb) ?_
  intro hHeld
  clear hK K
  iterate 3 refine tN ?_
  exact aV
 have hh':decide (5*(2*C.dl+1)≤C.hd)=true:=decide_eq_true hh
 have HH:=aa hh
 obtain ⟨n,hn2,hn4,hpn⟩:∃ n:Nat,2≤n∧n≤4∧C.p=(n:Int):=⟨C.p.toNat,by have:=HNm.p;omega,by have:=HNm.p;omega,by have:=HNm.p;omega⟩
 have HP:=aa hpn
 have HE:Hid (decide (xE C (n+1)≤C.c)=ok):=by
  rw [Hid,Bool.eq_iff_iff,HO.out,CO hn2 hn4,←hpn]
  simp only [decide_eq_true_eq]
  exact ⟨fun h=>⟨HNm,HH,h⟩,fun h=>h.sum⟩
 clear hh hpn
 go_enter Tryz.func66,Tryz.ntmps66
 go_wp2_with fail
 refine wp_region_held_drew (S:=fun w'=>∀ o,w'.cell? ⟨w.heap.size,o,none⟩=(#[.int .i64 C.p,.int .i64 C.c,.int .i64 C.xo,.int .i64 C.xn,.int .i64 C.hd,.int .i64 C.lo,.int .i64 C.dl]:Array Value)[o]?) (by kernel_rfl) cb (fun hHeld=>?_)
 refine t0 ?_
 refine rq1 1 (fun K hK=>?_)
 go_simp
 have hB:=hB.drew
 refine (vu C _ true ⟨fun _=>HNm.out,fun _=>rfl⟩).mono ?_
 rintro e w1 ⟨rfl,hb1⟩
 replace hB:=next hB hb1
 have cb:=boxed hB
 clear hb1
 go_wp2_with fail
 refine ah (hK _ _ cb) ?_
 intro hHeld
 clear hK K
 iterate 4 refine tN ?_
 refine rq1 6 (fun K hK=>?_)
 go_simp
 refine (pq C _ HNm.dl.1 HNm.dl.2).mono ?_
 rintro e w2 ⟨rfl,hb2⟩
 replace hB:=next hB hb2
 replace cb:=boxed hB
 clear hb2
 go_wp2_with fail
 refine ah (hK _ _ cb) ?_
 intro hHeld
 clear hK K
 iterate 4 refine tN ?_
 refine tQ 12 15 ?_
 refine tQ 13 16 ?_
 refine rq1 11 (fun K hK=>?_)
 go_simp
 refine (wF C n _ hn4 HP HNm).mono ?_
 rintro e w3 ⟨rfl,hb3⟩
 replace hB:=next hB hb3
 replace cb:=boxed hB
 clear hb3
 go_wp2_with fail
 refine ah (hK _ _ cb) ?_
 intro hHeld
 clear hK K
 refine tQ 14 17 ?_
 refine tQ 15 18 ?_
 refine rq1 16 (fun K hK=>?_)
 go_simp
 refine ah (hK _ _ cb) ?_
 intro hHeld
 clear hK K
 refine dnq ?_
 have B:=under hB
 go_wp2_with fail
 go_ret
 exact ⟨iv HE,B⟩
theorem nq (C:Cfg) (w:World) (ok:Bool) (hok:ok=true↔C.Ok) :
  Calls Tryz.prog 92 #[.agg C.cells] w fun e w'=>e=.returned (.bool ok)∧Below w.heap.size w w':=by
 have HO:=aa hok
 have HA:Hid (∀ o,Below w.heap.size w (w.alloc o)):=fun o=>(Below.refl _ _).alloc (Nat.le_refl _) _
 clear hok
 unfold Cfg.cells
 go_enter Tryz.func92,Tryz.ntmps92
 go_wp2_with fail
 refine (iB _ _ _ _).mono ?_
 rintro e w' ⟨rfl,hw⟩
 rw [hw]
 clear hw w'
 by_cases h_p:2≤C.p∧C.p≤4
 rotate_left
 ·
  have HF:Hid (ok=false):=by
   show ok=false
   rw [Bool.eq_false_iff]
   intro e
   exact h_p (HO.1 e).num.p
  rw [decide_eq_false h_p]
  clear h_p
  exact ao
 rw [decide_eq_true h_p]
 have H_p:=aa h_p
 clear h_p
 go_wp2_with fail
 refine (iB _ _ _ _).mono ?_
 rintro e w' ⟨rfl,hw⟩
 rw [hw]
 clear hw w'
 by_cases h_c:1≤C.c∧C.c≤1000
 rotate_left
 ·
  have HF:Hid (ok=false):=by
   show ok=false
   rw [Bool.eq_false_iff]
   intro e
   exact h_c (HO.1 e).num.c
  rw [decide_eq_false h_c]
  clear h_c
  exact ao
 rw [decide_eq_true h_c]
 have H_c:=aa h_c
 clear h_c
 go_wp2_with fail
 refine (iB _ _ _ _).mono ?_
 rintro e w' ⟨rfl,hw⟩
 rw [hw]
 clear hw w'
 by_cases h_xo:1≤C.xo∧C.xo≤1000
 rotate_left
 ·
  have HF:Hid (ok=false):=by
   show ok=false
   rw [Bool.eq_false_iff]
   intro e
   exact h_xo (HO.1 e).num.xo
  rw [decide_eq_false h_xo]
  clear h_xo
  exact ao
 rw [decide_eq_true h_xo]
 have H_xo:=aa h_xo
 have h_xo1:=h_xo.1
 have h_xo2:=h_xo.2
 clear h_xo
 go_wp2_with fail
 refine (iB _ _ _ _).mono ?_
 rintro e w' ⟨rfl,hw⟩
 rw [hw]
 clear hw w'
 by_cases h_xn:0≤C.xn∧C.xn≤C.xo-1
 rotate_left
 ·
  have HF:Hid (ok=false):=by
   show ok=false
   rw [Bool.eq_false_iff]
   intro e
   exact h_xn (HO.1 e).num.xn
  rw [decide_eq_false h_xn]
  clear h_xn
  exact ao
 rw [decide_eq_true h_xn]
 have H_xn:=aa h_xn
 clear h_xn
 go_wp2_with fail
 refine (iB _ _ _ _).mono ?_
 rintro e w' ⟨rfl,hw⟩
 rw [hw]
 clear hw w'
 by_cases h_hd:0≤C.hd∧C.hd≤1000
 rotate_left
 ·
  have HF:Hid (ok=false):=by
   show ok=false
   rw [Bool.eq_false_iff]
   intro e
   exact h_hd (HO.1 e).num.hd
  rw [decide_eq_false h_hd]
  clear h_hd
  exact ao
 rw [decide_eq_true h_hd]
 have H_hd:=aa h_hd
 clear h_hd
 go_wp2_with fail
 refine (iB _ _ _ _).mono ?_
 rintro e w' ⟨rfl,hw⟩
 rw [hw]
 clear hw w'
 by_cases h_lo:0≤C.lo∧C.lo≤1000
 rotate_left
 ·
  have HF:Hid (ok=false):=by
   show ok=false
   rw [Bool.eq_false_iff]
   intro e
   exact h_lo (HO.1 e).num.lo
  rw [decide_eq_false h_lo]
  clear h_lo
  exact ao
 rw [decide_eq_true h_lo]
 have H_lo:=aa h_lo
 clear h_lo
 go_wp2_with fail
 refine (iB _ _ _ _).mono ?_
 rintro e w' ⟨rfl,hw⟩
 rw [hw]
 clear hw w'
 by_cases h_dl:1≤C.dl∧C.dl≤3
 rotate_left
 ·
  have HF:Hid (ok=false):=by
   show ok=false
   rw [Bool.eq_false_iff]
   intro e
   exact h_dl (HO.1 e).num.dl
  rw [decide_eq_false h_dl]
  clear h_dl
  exact ao
 rw [decide_eq_true h_dl]
 have H_dl:=aa h_dl
 clear h_dl
 have HNm:Hid C.Num:=⟨H_p.out,H_c.out,H_xo.out,H_xn.out,H_hd.out,H_lo.out,H_dl.out⟩
 have e1:IntKind.i64.wrap (2*C.dl)=2*C.dl:=lI _ (by have:=H_dl.out;omega) (by have:=H_dl.out;omega)
 have e2:IntKind.i64.wrap (2*C.dl+1)=2*C.dl+1:=lI _ (by have:=H_dl.out;omega) (by have:=H_dl.out;omega)
 have e3:IntKind.i64.wrap ((2*C.dl+1)*5)=(2*C.dl+1)*5:=lI _ (by have:=H_dl.out;omega) (by have:=H_dl.out;omega)
 have e4:IntKind.i64.wrap (C.xo+C.hd)=C.xo+C.hd:=lI _ (by have:=H_xo.out;have:=H_hd.out;omega) (by have:=H_xo.out;have:=H_hd.out;omega)
 have hpc:2≤C.p∧C.p≤4:=H_p.out
 have hp3:C.p=2∨C.p=3∨C.p=4:=by omega
 have e5:IntKind.i64.wrap (C.p*(C.xo+C.hd))=C.p*(C.xo+C.hd):=by
  have:=H_xo.out
  have:=H_hd.out
  exact bc
 have e6:IntKind.i64.wrap (C.p*(C.xo+C.hd)+C.lo)=C.p*(C.xo+C.hd)+C.lo:=by
  have:=H_xo.out
  have:=H_hd.out
  have:=H_lo.out
  exact bc
 clear hpc hp3
 by_cases hh:(2*C.dl+1)*5≤C.hd
 rotate_left
 ·
  have HF:Hid (ok=false):=by
   show ok=false
   rw [Bool.eq_false_iff]
   intro e
   have:=(HO.1 e).head
   omega
  have hh':decide ((2*C.dl+1)*5≤C.hd)=false:=decide_eq_false hh
  exact ao
 have hh':decide ((2*C.dl+1)*5≤C.hd)=true:=decide_eq_true hh
 have HE:Hid (decide (C.p*(C.xo+C.hd)+C.lo≤C.c)=ok):=by
  rw [Hid,Bool.eq_iff_iff,HO.out]
  simp only [decide_eq_true_eq]
  exact ⟨fun h=>⟨HNm,by omega,h⟩,fun h=>h.sum⟩
 go_wp2_with fail
 go_ret
 exact ⟨iv HE,HA _⟩
theorem je {A B:Array Value} {s:TypeId} (h:Below (w.heap.size+2) ((w.alloc (.cells A t)).alloc (.cells B s)) wi):(∀ o,wi.cell? ⟨w.heap.size,o,none⟩=A[o]?)∧∀ o,wi.cell? ⟨w.heap.size+1,o,none⟩=B[o]?:=by
 have k1:wi.heap[w.heap.size]?=some (.cells A t (0,0)):=(h.block _ (by omega)).trans ((iH _ (by simp)).trans (im _ _))
 have k2:wi.heap[w.heap.size+1]?=some (.cells B s (0,0)):=by
  refine (h.block _ (by omega)).trans ?_
  have:=im (w.alloc (.cells A t)) (.cells B s)
  simpa using this
 exact ⟨ie k1,ie k2⟩
theorem jt (h:Below (w.heap.size+2) ((w.alloc o).alloc o') wi):Below w.heap.size w wi :=
 (((Below.refl _ _).alloc (Nat.le_refl _) o).alloc (by simp) o').trans (h.mono (by omega))
theorem lj (h:Below (w.heap.size+2) ((w.alloc o).alloc o') wi):w.heap.size+2≤wi.heap.size:=by
 have:=h.size
 simpa using this
theorem ki {wj:World} (h:Below (w.heap.size+2) ((w.alloc o).alloc o') wi) (k:Below wi.heap.size wi wj):Below (w.heap.size+2) ((w.alloc o).alloc o') wj :=
 h.trans (k.mono (lj h))
theorem pU (N:Cnt) (w:World) :
  Calls Tryz.prog 191 #[.agg #[],.agg N.cells] w fun e w'=>e=.returned (.int .i64 N.lo)∧Below w.heap.size w w':=by
 have HA:Hid (∀ o o',Below w.heap.size w ((w.alloc o).alloc o')):=fun o o'=>((Below.refl _ _).alloc (Nat.le_refl _) _).alloc (by simp) _
 unfold Cnt.cells
 go_enter Tryz.func191,Tryz.ntmps191
 exact ba
theorem ra (N:Cnt) (i:Nat) (w:World) (hf:N.Fit) (hi:i<N.nU) (h:my w N) :
  Calls Tryz.prog 194 #[.agg #[.int .i64 i],.agg N.cells] w fun e w'=>e=.returned (.int .i64 (N.u i))∧Below w.heap.size w w':=by
 have HA:Hid (∀ o o',Below w.heap.size w ((w.alloc o).alloc o')):=fun o o'=>((Below.refl _ _).alloc (Nat.le_refl _) _).alloc (by simp) _
 obtain ⟨aU,nU,cU,u,lo,aP,nP,cP,p⟩:=N
 have hi':i<nU:=hi
 have hi2:(i:Int)<nU:=by omega
 have hU:iP w aU nU fun i=>.int .i64 (u i):=h.u
 have hm:nU≤maxLen:=hf.u
 obtain ⟨g,o,rfl,hc⟩:=hU i hi'
 have hc2:∀ ob ob',((w.alloc ob).alloc ob').cell? ⟨g,o+i,none⟩=some (.int .i64 (u i)):=fun ob ob'=>((HA ob ob').cell (p:=⟨g,o+i,none⟩) (kQ hc)).trans hc
 clear h hf hi hU hc
 unfold Cnt.cells
 go_enter Tryz.func194,Tryz.ntmps194
 exact ba
theorem nk (C:Cfg) (N:Cnt) (w:World) (hf:N.Fit) (h:my w N) (ok:Bool) (hok:ok=true↔Cnt.Ok C N) :
  Calls Tryz.prog 53 #[.agg C.cells,.agg N.cells] w fun e w'=>e=.returned (.bool ok)∧Below w.heap.size w w':=by
 obtain ⟨b,hb⟩:=oo C.Ok
 have HO:=aa hok
 have HR:=aa h
 have HF:=aa hf
 have HCb:=aa hb
 have hU3:(N.nU:Int)≤9223372036854775807:=by have:=hf.u;unfold maxLen at this;omega
 have hP3:(N.nP:Int)≤9223372036854775807:=by have:=hf.p;unfold maxLen at this;omega
 have HB0:Hid (Below (w.heap.size+2) ((w.alloc (.cells #[.int .i64 C.p,.int .i64 C.c,.int .i64 C.xo,.int .i64 C.xn,.int .i64 C.hd,.int .i64 C.lo,.int .i64 C.dl] 25)).alloc (.cells #[.slice N.aU N.nU N.cU,.int .i64 N.lo,.slice N.aP N.nP N.cP] 30)) ((w.alloc (.cells #[.int .i64 C.p,.int .i64 C.c,.int .i64 C.xo,.int .i64 C.xn,.int .i64 C.hd,.int .i64 C.lo,.int .i64 C.dl] 25)).alloc (.cells #[.slice N.aU N.nU N.cU,.int .i64 N.lo,.slice N.aP N.nP N.cP] 30))):=Below.refl _ _
 clear hok h hf hb
 unfold Cfg.cells Cnt.cells
 go_enter Tryz.func53,Tryz.ntmps53
 go_wp2_with fail
 refine (nq C _ b HCb).mono ?_
 rintro e w1 ⟨rfl,hb1⟩
 have hB:=ki HB0 hb1
 have cb:=(je hB).1
 have cn:=(je hB).2
 clear hb1
 cases b
 ·
  have HE:Hid (ok=false):=by
   show ok=false
   rw [Bool.eq_false_iff]
   intro e
   have:=HCb.2 (HO.1 e).c
   cases this
  have B:=jt hB
  exact aX
 have HC:Hid C.Ok:=HCb.1 rfl
 clear HCb
 by_cases hU:(N.nU:Int)=C.p
 rotate_left
 ·
  have HE:Hid (ok=false):=by
   show ok=false
   rw [Bool.eq_false_iff]
   intro e
   exact hU (HO.1 e).nU
  have hU':((N.nU:Int) != C.p)=true:=by simpa using hU
  have B:=jt hB
  clear hU
  exact aX
 have hU':((N.nU:Int) != C.p)=false:=by simpa using hU
 have HU:=aa hU
 clear hU
 by_cases hP:(N.nP:Int)=C.p
 rotate_left
 ·
  have HE:Hid (ok=false):=by
   show ok=false
   rw [Bool.eq_false_iff]
   intro e
   exact hP (HO.1 e).nP
  have hP':((N.nP:Int) != C.p)=true:=by simpa using hP
  have B:=jt hB
  clear hP
  exact aX
 have hP':((N.nP:Int) != C.p)=false:=by simpa using hP
 have HP:=aa hP
 clear hP
 go_wp2_with fail
 refine (iB _ _ _ _).mono ?_
 rintro e w' ⟨rfl,hw⟩
 rw [hw]
 clear hw w'
 by_cases hL:0≤N.lo∧N.lo≤C.lo
 rotate_left
 ·
  have HE:Hid (ok=false):=by
   show ok=false
   rw [Bool.eq_false_iff]
   intro e
   exact hL (HO.1 e).lo
  have B:=jt hB
  rw [decide_eq_false hL]
  clear hL
  exact aX
 rw [decide_eq_true hL]
 have HL:=aa hL
 clear hL
 go_wp2_with fail
 have e4:IntKind.i64.wrap (C.xo+C.hd)=C.xo+C.hd:=lI _ (by have:=HC.num.xo;have:=HC.num.hd;omega) (by have:=HC.num.xo;have:=HC.num.hd;omega)
 go_loopw [5] (fun i wr=>∃ k:Nat,k≤N.nU∧i=.int .i64 k∧(∀ j,j<k→0≤N.u j∧N.u j≤C.xo+C.hd)∧Below w1.heap.size w1 wr) (fun i _=>N.nU-(intOf i).toNat)
 case atStart=>exact ⟨0,Nat.zero_le _,rfl,fun j hj=>by omega,Below.refl _ _⟩
 obtain ⟨k,hk,rfl,hall,hBr⟩:=hrel
 have HA:=aa hall
 clear hall cb cn
 have hB2:=ki hB hBr
 have cb:=(je hB2).1
 have cn:=(je hB2).2
 by_cases hlt:k<N.nU
 ·
  have hlt':(k:Int)<N.nU:=by omega
  obtain ⟨g,o,ea,c0⟩:=(HR.u.up (jt hB2)) k hlt
  dsimp only at c0
  rw [ea] at cn
  clear ea
  have hz9:(k:Int)≤9223372036854775807:=by omega
  by_cases hz:0≤N.u k∧N.u k≤C.xo+C.hd
  ·
   go_wp2_with fail
   refine wp_region_held_drew (S:=fun w'=>(∀ o,w'.cell? ⟨w.heap.size,o,none⟩=(#[.int .i64 C.p,.int .i64 C.c,.int .i64 C.xo,.int .i64 C.xn,.int .i64 C.hd,.int .i64 C.lo,.int .i64 C.dl]:Array Value)[o]?)∧(∀ o',w'.cell? ⟨w.heap.size+1,o',none⟩=(#[.slice (some ⟨g,o,none⟩) N.nU N.cU,.int .i64 N.lo,.slice N.aP N.nP N.cP]:Array Value)[o']?)∧w'.cell? ⟨g,o+k,none⟩=some (.int .i64 (N.u k))) (by kernel_rfl) ⟨cb,cn,c0⟩ (fun hHeld=>?_)
   refine t0 ?_
   iterate 9 refine tN ?_
   refine rq1 10 (fun K hK=>?_)
   go_simp
   refine (iB _ _ _ _).mono ?_
   rintro e w' ⟨rfl,hw⟩
   rw [hw]
   clear hw w'
   rw [decide_eq_true hz]
   go_wp2_with fail
   refine ah (hK _ _ ⟨cb,cn,c0⟩) ?_
   intro hHeld
   clear hK K
   refine tN ?_
   refine dnq ?_
   have HZ:=aa hz
   clear hz
   go_wp2_with fail
   go_roundw
   case rel=>exact ⟨k+1,by omega,by go_num,fun j hj=>by
    by_cases e:j=k
    ·
     subst e;exact HZ.out
    ·
     exact HA j (by omega),hBr.drew⟩
   case measure=>simp [intOf];omega
  have HE:Hid (ok=false):=by
   show ok=false
   rw [Bool.eq_false_iff]
   intro e
   exact hz ((HO.1 e).u k hlt)
  go_wp2_with fail
  refine wp_region_held_drew (S:=fun w'=>(∀ o,w'.cell? ⟨w.heap.size,o,none⟩=(#[.int .i64 C.p,.int .i64 C.c,.int .i64 C.xo,.int .i64 C.xn,.int .i64 C.hd,.int .i64 C.lo,.int .i64 C.dl]:Array Value)[o]?)∧(∀ o',w'.cell? ⟨w.heap.size+1,o',none⟩=(#[.slice (some ⟨g,o,none⟩) N.nU N.cU,.int .i64 N.lo,.slice N.aP N.nP N.cP]:Array Value)[o']?)∧w'.cell? ⟨g,o+k,none⟩=some (.int .i64 (N.u k))) (by kernel_rfl) ⟨cb,cn,c0⟩ (fun hHeld=>?_)
  refine t0 ?_
  iterate 9 refine tN ?_
  refine rq1 10 (fun K hK=>?_)
  go_simp
  refine (iB _ _ _ _).mono ?_
  rintro e w' ⟨rfl,hw⟩
  rw [hw]
  clear hw w'
  rw [decide_eq_false hz]
  go_wp2_with fail
  refine ah (hK _ _ ⟨cb,cn,c0⟩) ?_
  intro hHeld
  clear hK K
  refine tN ?_
  refine dnq ?_
  have B:=(jt hB2).drew
  exact aX
 obtain rfl:k=N.nU:=by omega
 have HT:Hid (ok=true):=HO.2 ⟨HC.out,HU.out,HP.out,HL.out,HA.out⟩
 have B:=jt hB2
 go_wp2_with fail
 go_ret
 exact ⟨iv HT.symm,B⟩
theorem tl (h:Below (w.heap.size+2) ((w.alloc o).alloc o') wi):wi.heap[w.heap.size]?=some o∧wi.heap[w.heap.size+1]?=some o':=by
 refine ⟨(h.block _ (by omega)).trans ((iH _ (by simp)).trans (im _ _)),(h.block _ (by omega)).trans ?_⟩
 have:=im (w.alloc o) o'
 simpa using this
def vQ:Cnt:=⟨none,0,0,fun _=>0,0,none,0,0,fun _=>false⟩
def Gr (n:Nat) (ok:Bool):Cnt:=if ok then ⟨none,n,n,fun _=>0,0,none,n,n,fun _=>false⟩ else vQ
theorem pJ (w:World) (base:Nat):iN w base vQ:=⟨.inl rfl,.inl rfl⟩
def mB (W:World) (g:Nat) (a b c:Value):World:=((W.setCell ⟨g,0,none⟩ a).setCell ⟨g,1,none⟩ b).setCell ⟨g,2,none⟩ c
theorem jw {g:Nat} {x y z:Value} (h:W.heap[g]?=some (.cells #[x,y,z] t (0,0))) (a b c:Value):(mB W g a b c).heap[g]?=some (.cells #[a,b,c] t (0,0)):=iL (iL (iL h _) _) _
theorem iW (W:World) (g:Nat) (a b c:Value):Touch [g] W (mB W g a b c):=(((Touch.refl _ _).set (by simp) 0 a).set (by simp) 1 b).set (by simp) 2 c
theorem pe (C:Cfg) (n:Nat) (w:World) (hp:2≤C.p∧C.p≤4→C.p=(n:Int)) (ok:Bool) (hok:ok=true↔C.Ok) :
  Calls Tryz.prog 76 #[.agg C.cells] w fun e w'=>∃ M:Cnt,e=.returned (.tuple #[.agg M.cells,.bool ok])∧iN w' w.heap.size M∧Below w.heap.size w w'∧iR (Gr n ok) M:=by
 cases ok
 ·
  have HO:=aa hok
  have HB0:Hid (Below (w.heap.size+2) ((w.alloc (.cells C.cells 25)).alloc (.cells ag 30)) ((w.alloc (.cells C.cells 25)).alloc (.cells ag 30))):=Below.refl _ _
  clear hok hp
  unfold Cfg.cells at *
  go_enter Tryz.func76,Tryz.ntmps76
  go_wp2_with fail
  refine (nq C _ false HO).mono ?_
  rintro e w1 ⟨rfl,hb⟩
  have hB:=ki HB0 hb
  have kz:=(tl hB).2
  have cz:=ie kz
  have fz:=ix kz
  have ht:=iW w1 (w.heap.size+1) (.slice none 0 0) (.int .i64 0) (.slice none 0 0)
  have kz3:=jw kz (.slice none 0 0) (.int .i64 0) (.slice none 0 0)
  have B:=(jt hB).trans (ht.below (jt hB).size (fun x hx=>by simp at hx;omega))
  have cB:=ie kz3
  clear hb kz ht kz3 hB
  unfold mB at *
  go_wp2_with fail
  exact bodyPost_ret (v:=.tuple #[.agg ag,.bool false]) (by simp [results,Tryz.results76,go_sem,cB]) rfl ⟨vQ,rfl,pJ _ _,B,iR.refl _⟩
 obtain ⟨p,c,xo,xn,hd,lo,dl⟩:=C
 have hC:=hok.1 rfl
 have h1:2≤p∧p≤4:=hC.num.p
 obtain rfl:p=(n:Int):=hp h1
 have hn:n≤4:=by omega
 have HO:=aa hC
 have mk1:∀ w,_:=pT n (by omega)
 have mk2:∀ w,_:=zQ n (by omega)
 have HB0:Hid (Below (w.heap.size+2) ((w.alloc (.cells #[.int .i64 (n:Int),.int .i64 c,.int .i64 xo,.int .i64 xn,.int .i64 hd,.int .i64 lo,.int .i64 dl] 25)).alloc (.cells ag 30)) ((w.alloc (.cells #[.int .i64 (n:Int),.int .i64 c,.int .i64 xo,.int .i64 xn,.int .i64 hd,.int .i64 lo,.int .i64 dl] 25)).alloc (.cells ag 30))):=Below.refl _ _
 clear hok hp hC h1
 unfold Cfg.cells
 dsimp only
 go_enter Tryz.func76,Tryz.ntmps76
 go_wp2_with fail
 refine (nq ⟨(n:Int),c,xo,xn,hd,lo,dl⟩ _ true ⟨fun _=>HO.out,fun _=>rfl⟩).mono ?_
 rintro e w1 ⟨rfl,hb⟩
 have hB:=ki HB0 hb
 have cb:=(je hB).1
 have kz:=(tl hB).2
 clear hb
 go_wp2_with fail
 refine wp_region_held_drew (S:=fun w'=>∀ o,w'.cell? ⟨w.heap.size,o,none⟩=(#[.int .i64 (n:Int),.int .i64 c,.int .i64 xo,.int .i64 xn,.int .i64 hd,.int .i64 lo,.int .i64 dl]:Array Value)[o]?) (by kernel_rfl) cb (fun hHeld=>?_)
 have kz:w1.drew.heap[w.heap.size+1]?=_:=kz
 replace hB:=hB.drew
 have cb:∀ o,w1.drew.cell? ⟨w.heap.size,o,none⟩=(#[.int .i64 (n:Int),.int .i64 c,.int .i64 xo,.int .i64 xn,.int .i64 hd,.int .i64 lo,.int .i64 dl]:Array Value)[o]?:=cb
 generalize w1.drew=W at *
 refine tC 0 8 (v:=?_) ?_ ?_
 rotate_left
 · exact aY
 try simp only [Act.put,PZ]
 refine tC 1 9 (v:=?_) ?_ ?_
 rotate_left
 · exact aY
 try simp only [Act.put,PZ]
 refine tC 3 11 (v:=?_) ?_ ?_
 rotate_left
 · exact aY
 try simp only [Act.put,PZ]
 refine tC 4 12 (v:=?_) ?_ ?_
 rotate_left
 · exact aY
 try simp only [Act.put,PZ]
 refine rq2 2 5 (fun K hK=>?_) (fun K hK=>?_)
 ·
  have hA:=(Below.refl W.heap.size W).alloc (Nat.le_refl _) (.cells (jV n) 2)
  have hN:=im W (.cells (jV n) 2)
  have hB2:=ki hB hA
  have cb2:=(je hB2).1
  have kz2:=(hA.block _ (ig kz)).trans kz
  have gUl:w.heap.size+2≤W.heap.size:=lj hB
  have m:=mk1 W
  go_simp
  clear m
  refine ah (hK _ _ cb2) ?_
  intro hHeld
  clear hK K
  have kU:(W.alloc (.cells (jV n) 2)).heap[W.heap.size]?=_:=hN
  have gUr:W.heap.size<(W.alloc (.cells (jV n) 2)).heap.size:=ig hN
  generalize hg1:W.heap.size=gU at *
  generalize W.alloc (.cells (jV n) 2)=W1 at *
  clear hB cb kz hA hN
  have hB:=hB2
  have kz:=kz2
  clear hB2 kz2 cb2
  refine rq1 5 (fun K hK=>?_)
  have hA:=(Below.refl W1.heap.size W1).alloc (Nat.le_refl _) (.cells (mQ n) 4)
  have hN:=im W1 (.cells (mQ n) 4)
  have hB2:=ki hB hA
  have cb2:=(je hB2).1
  have kz2:=(hA.block _ (ig kz)).trans kz
  have kU2:=(hA.block _ (ig kU)).trans kU
  have gPl:w.heap.size+2≤W1.heap.size:=lj hB
  have m:=mk2 W1
  go_simp
  clear m
  refine ah (hK _ _ cb2) ?_
  intro hHeld
  clear hK K
  have kP:(W1.alloc (.cells (mQ n) 4)).heap[W1.heap.size]?=_:=hN
  have gUn:gU≠W1.heap.size:=by omega
  generalize hg2:W1.heap.size=gP at *
  generalize W1.alloc (.cells (mQ n) 4)=W2 at *
  clear hB kz hA hN kU
  have hB:=hB2
  have kz:=kz2
  have kU:=kU2
  clear hB2 kz2 kU2
  exact G9
 have hA:=(Below.refl W.heap.size W).alloc (Nat.le_refl _) (.cells (mQ n) 4)
 have hN:=im W (.cells (mQ n) 4)
 have hB2:=ki hB hA
 have cb2:=(je hB2).1
 have kz2:=(hA.block _ (ig kz)).trans kz
 have gPl:w.heap.size+2≤W.heap.size:=lj hB
 have m:=mk2 W
 go_simp
 clear m
 refine ah (hK _ _ cb2) ?_
 intro hHeld
 clear hK K
 have kP:(W.alloc (.cells (mQ n) 4)).heap[W.heap.size]?=_:=hN
 have gPr:W.heap.size<(W.alloc (.cells (mQ n) 4)).heap.size:=ig hN
 generalize hg1:W.heap.size=gP at *
 generalize W.alloc (.cells (mQ n) 4)=W1 at *
 clear hB cb kz hA hN
 have hB:=hB2
 have kz:=kz2
 clear hB2 kz2 cb2
 refine rq1 2 (fun K hK=>?_)
 have hA:=(Below.refl W1.heap.size W1).alloc (Nat.le_refl _) (.cells (jV n) 2)
 have hN:=im W1 (.cells (jV n) 2)
 have hB2:=ki hB hA
 have cb2:=(je hB2).1
 have kz2:=(hA.block _ (ig kz)).trans kz
 have kP2:=(hA.block _ (ig kP)).trans kP
 have gUl:w.heap.size+2≤W1.heap.size:=lj hB
 have m:=mk1 W1
 go_simp
 clear m
 refine ah (hK _ _ cb2) ?_
 intro hHeld
 clear hK K
 have kU:(W1.alloc (.cells (jV n) 2)).heap[W1.heap.size]?=_:=hN
 have gPn:gP≠W1.heap.size:=by omega
 generalize hg2:W1.heap.size=gU at *
 generalize W1.alloc (.cells (jV n) 2)=W2 at *
 clear hB kz hA hN kP
 have hB:=hB2
 have kz:=kz2
 have kP:=kP2
 clear hB2 kz2 kP2
 exact G9
