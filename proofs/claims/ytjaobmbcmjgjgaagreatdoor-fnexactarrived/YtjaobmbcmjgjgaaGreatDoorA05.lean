import Derived.Test.YtjaobmbcmjgjgaaGreatDoorA03
import Derived.LoopIn
import Derived.LoopNIn
import Derived.OwnWalkIn
import Derived.RangeFuncBound
import Derived.RangeFuncCalls
import Derived.RangeFuncLeaves
import Derived.RangeFuncNested
import Derived.Shelf.Abstract
import Derived.Shelf.RegionOpen
import Derived.TacticsInMore
namespace Go.Proofs.YtjaobmbcmjgjgaaGreatDoor
set_option maxRecDepth 100000
set_option maxHeartbeats 4000000
open Go.RowKit
set_option linter.unusedVariables false
set_option linter.unusedSimpArgs false
theorem ay {p:Prop} (h:p:=by
 refine AllReadyIn.cons rfl (fun K hK=>?_) AllReadyIn.nil
 go_simp
 refine hK _ _ ?_
 clear hK K
 try simp only [Act.put,PZ]
 refine iW (i:=13) (some 26) (v:=?_) hro rfl rfl (by kernel_rfl) (by kernel_rfl) (by kernel_rfl) (fun _ _ _ h=>h) (by kernel_rfl) ?_ (fun _=>rfl) ?_
 rotate_left
 · exact aC
 try simp only [Act.put,PZ]
 refine wpAnyIn_ready (rs:=[14]) (by kernel_rfl) (by simp) ?_
 refine AllReadyIn.cons rfl (fun K hK=>?_) AllReadyIn.nil
 go_simp
 refine hR.mono ?_
 rintro e W3 (⟨rfl,hJ3,hk3⟩ | ⟨rfl,hJx3⟩)
 ·
  refine hK _ _ ?_
  clear hK K
  try simp only [Act.put,PZ]
  refine iW (i:=15) (some 28) (v:=?_) hro rfl rfl (by kernel_rfl) (by kernel_rfl) (by kernel_rfl) (fun _ _ _ h=>h) (by kernel_rfl) ?_ (fun _=>rfl) ?_
  rotate_left
  · exact aC
  try simp only [Act.put,PZ]
  refine wpAnyIn_done (by kernel_rfl) ?_ _
  gi_wp2
  go_roundw
  case rel=>exact ⟨k+1,hlt2,by go_num,hB.drew.trans hk3,hJ3⟩
  case measure=>simp [intOf];omega
 refine hK _ _ ?_
 clear hK K
 try simp only [Act.put,PZ]
 refine iW (i:=15) (some 28) (v:=?_) hro rfl rfl (by kernel_rfl) (by kernel_rfl) (by kernel_rfl) (fun _ _ _ h=>h) (by kernel_rfl) ?_ (fun _=>rfl) ?_
 rotate_left
 · exact aC
 try simp only [Act.put,PZ]
 refine wpAnyIn_done (by kernel_rfl) ?_ _
 gi_wp2
 refine bodyPost_ret (results_none rfl _ _ _) rfl ?_
 exact ⟨⟨_,rfl⟩,.inr ⟨_,⟨k+1,hlt2,rfl⟩,hJx3⟩⟩):p:=h
theorem az {p:Prop} (h:p:=by
 have HC2:Hid (okc=true↔pM (R.q x.1) (R.d x.1) (R.L x.1) (R.z x.1) false):=by have hh:=HC.out;rw [hbg] at hh;exact hh
 clear hbg
 cases okc
 ·
  have HCf:Hid (¬ pM (R.q x.1) (R.d x.1) (R.L x.1) (R.z x.1) (R.begun x.1)):=fun hh=>by have:=HC.out.2 hh;simp at this
  gi_wp2_with (gi_at_call 151;refine (CallsIn.inRound l (callsIn_wide.2 (lG (R.q x.1) (R.d x.1) (R.A x.1) (R.L x.1) (R.C x.1) (R.z x.1) false W HLn.out HRd.out false HC2.out))).mono ?_;rintro e W2 ⟨rfl,hb2⟩;have cR2:=(hb2.cell (p:=⟨w.heap.size+1,0,none⟩) hl2).trans i4;have fR2:=(hb2.frozen (p:=⟨w.heap.size+1,0,none⟩) hl2).trans i5)
  exact aZ
 have HCt:Hid (pM (R.q x.1) (R.d x.1) (R.L x.1) (R.z x.1) (R.begun x.1)):=HC.out.1 rfl
 gi_wp2_with (gi_at_call 151;refine (CallsIn.inRound l (callsIn_wide.2 (lG (R.q x.1) (R.d x.1) (R.A x.1) (R.L x.1) (R.C x.1) (R.z x.1) false W HLn.out HRd.out true HC2.out))).mono ?_;rintro e W2 ⟨rfl,hb2⟩;have cR2:=(hb2.cell (p:=⟨w.heap.size+1,0,none⟩) hl2).trans i4;have fR2:=(hb2.frozen (p:=⟨w.heap.size+1,0,none⟩) hl2).trans i5)
 exact aY):p:=h
theorem aA {p:Prop} (h:p:=by
 go_wp2_with fail
 go_loop [1,5] (fun x i=>x=.int .i64 m∧i=.int .i64 0) (fun _ _=>0)
 case atStart=>exact ⟨rfl,rfl⟩
 obtain ⟨rfl,rfl⟩:=hrel
 go_wp2_with fail
 go_ret
 exact ⟨rfl,rfl⟩):p:=h
theorem aB {p:Prop} (h:p:=by
 try simp only [Act.put,PZ]
 refine wpAnyIn_ready (rs:=[7,12]) (by kernel_rfl) (by simp) ?_
 refine AllReadyIn.cons rfl (fun K hK=>?_) (AllReadyIn.cons rfl (fun K hK=>?_) AllReadyIn.nil)
 ·
  go_simp
  refine hK _ _ ?_
  clear hK K
  exact a6
 go_simp
 refine hK _ _ ?_
 clear hK K
 exact a7):p:=h
theorem aC {p:Prop} (h:p:=by
 intro wx
 go_simp
 try with_reducible rfl):p:=h
theorem aG {p:Prop} (h:p:=by
 refine sN ?_
 refine sA 12 15 ?_
 refine sA 13 16 ?_
 refine sA 11 14 ?_
 refine sA 14 17 ?_
 refine tQ 15 18 ?_
 refine rq1 16 (fun K hK=>?_)
 go_simp
 refine hK.out _ _ cb (fun hHeld=>?_)
 clear hK K
 try simp only [Act.put,PZ]
 refine dnq ?_
 have B:=under hB
 go_wp2_with fail
 go_ret
 exact ⟨fO HF.out.symm,B⟩):p:=h
theorem aH {p:Prop} (h:p:=by
 gi_wp2
 exact ⟨.bool false,by simp [results,Tryz.results131,go_sem],fO HE.out.symm,B0⟩):p:=h
theorem aI {p:Prop} (h:p:=by
 go_wp2_with fail
 go_ret
 exact ⟨fO HE.out.symm,B⟩):p:=h
theorem aJ {p:Prop} (h:p:=by
 rintro e w' ⟨rfl,h1,h2⟩
 refine ⟨rfl,.inr ⟨g,rfl,hg,h1⟩,?_⟩
 unfold ib
 rw [if_neg h0]
 exact h2):p:=h
theorem aV {p:Prop} (h:p:=by
 go_enter Tryz.func151,Tryz.ntmps151
 go_wp2_with fail
 go_ret
 exact ⟨fO HE.out.symm,HA.out _⟩):p:=h
theorem aW {p:Prop} (h:p:=by
 go_wp2_with fail
 go_ret
 exact ⟨rfl,HA.out _ _⟩):p:=h
theorem aX {p:Prop} (h:p:=by
 rcases hp3 with h | h | h <;> rw [h] <;> exact mr _ (by omega) (by omega)):p:=h
theorem aY {p:Prop} (h:p:=by
 exact ⟨pf hb2 _,hb2.mono i6,fun y hy=>by
  rcases List.mem_append.1 hy with hy | hy
  ·
   exact i1 y hy
  ·
   simp at hy;rw [hy];exact HCt.out,(hb2.cell (p:=⟨w.heap.size,2,none⟩) hl0).trans i2,(hb2.cell (p:=⟨w.heap.size,3,none⟩) hl0).trans i3,cR2,fR2,Nat.le_trans i6 hb2.size,i7.trans (hb2.mono i7.size)⟩):p:=h
theorem aZ {p:Prop} (h:p:=by
 exact ⟨(pf hb2 _).trans ((KeepsOthers.setCell _ _ _).from _),rfl,⟨x,by simp,HCf.out⟩,World.cell?_setCell_same' _ _ _ (by rw [cR2];rfl),(i7.trans (hb2.mono i7.size)).setCell (by show _≤_+1;omega) _⟩):p:=h
theorem a6 {p:Prop} (h:p:=by
 try simp only [Act.put,PZ]
 refine wpAnyIn_ready (rs:=[12]) (by kernel_rfl) (by simp) ?_
 exact ay):p:=h
theorem a7 {p:Prop} (h:p:=by
 try simp only [Act.put,PZ]
 refine wpAnyIn_ready (rs:=[7]) (by kernel_rfl) (by simp) ?_
 exact ay):p:=h
theorem lG (q d:Int) (a:Option Addr) (n cap:Nat) (z:Nat→Int) (b:Bool) (w:World) (hn:n≤maxLen) (h:fW w a n fun j=>.int .i64 (z j)) (ok:Bool) (hok:ok=true↔pM q d n z b) :
  Calls Tryz.prog 151 #[.agg #[.int .i64 q,.int .i64 d,.slice a n cap],.bool b] w fun e w'=>e=.returned (.bool ok)∧Below w.heap.size w w':=by
 have HO:Hid (ok=true↔pM q d n z b):=hok
 have HR:Hid (fW w a n fun j=>.int .i64 (z j)):=h
 have HA:Hid (∀ ob,Below w.heap.size w (w.alloc ob)):=fun ob=>(Below.refl _ _).alloc (Nat.le_refl _) _
 have HF:Hid (¬ pM q d n z b→ok=false):=fun hh=>by
  rw [Bool.eq_false_iff]
  intro e
  exact hh (HO.out.1 e)
 clear h hok
 by_cases h1:1≤q
 ·
  by_cases h2:q≤10
  ·
   obtain ⟨ok1,hok1⟩:=qP (lK n z)
   obtain ⟨ok2,hok2⟩:=qP (wC q d n b)
   have H1:Hid (ok1=true↔lK n z):=hok1
   have H2:Hid (ok2=true↔wC q d n b):=hok2
   clear hok1 hok2
   have kX:=fK w (.cells #[.int .i64 q,.int .i64 d,.slice a n cap] 213)
   go_enter Tryz.func151,Tryz.ntmps151
   go_wp2_with fail
   refine (uN a n cap z _ hn (HR.out.up (HA.out _)) ok1 H1.out).mono ?_
   rintro e w1 ⟨rfl,hS⟩
   have B1:=(HA.out _).trans (hS.below _)
   have cX:=fun o=>(hS.cell ⟨w.heap.size,o,none⟩).trans (fF kX o)
   clear hS kX
   cases ok1
   ·
    have HE:Hid (ok=false):=HF.out (fun hh=>by have:=H1.out.2 hh.2.1;simp at this)
    go_wp2_with fail
    go_ret
    exact ⟨fO HE.out.symm,B1⟩
   have HS1:Hid (lK n z):=H1.out.1 rfl
   go_wp2_with fail
   refine (rI q d a n cap b _ hn h1 h2 ok2 H2.out).mono ?_
   rintro e w2 ⟨rfl,hb2⟩
   have B2:=B1.trans (hb2.mono B1.size)
   have HE:Hid (ok2=ok):=by
    rw [Hid,Bool.eq_iff_iff,HO.out,H2.out]
    exact ⟨fun hh=>⟨⟨h1,h2⟩,HS1.out,hh⟩,fun hh=>hh.2.2⟩
   clear hb2 B1 cX
   go_wp2_with fail
   go_ret
   exact ⟨fO HE.out,B2⟩
  have HE:Hid (ok=false):=HF.out (fun hh=>h2 hh.1.2)
  exact aV
 have HE:Hid (ok=false):=HF.out (fun hh=>h1 hh.1.1)
 exact aV
theorem mz (R:Rnd) (c:Int) (w:World) (hf:R.Fit) :
  Calls Tryz.prog 149 #[.agg R.cells,.int .i64 c] w fun e w'=>e=.returned (.bool (decide (0≤c∧c<R.nQ)))∧Below w.heap.size w w':=by
 have hm:(R.nQ:Int)≤9223372036854775807:=by have:=hf.q;unfold maxLen at this;omega
 have HA:Hid (∀ ob,Below w.heap.size w (w.alloc ob)):=fun ob=>(Below.refl _ _).alloc (Nat.le_refl _) _
 have hw:IntKind.i64.wrap (R.nQ:Int)=(R.nQ:Int):=wI _ (by omega) (by omega)
 unfold Rnd.cells
 by_cases h1:0≤c
 ·
  go_enter Tryz.func149,Tryz.ntmps149
  go_wp2_with fail
  go_ret
  exact ⟨fO (by simp [h1]),HA.out _⟩
 go_enter Tryz.func149,Tryz.ntmps149
 go_wp2_with fail
 go_ret
 exact ⟨fO (by simp;omega),HA.out _⟩
theorem vB (R:Rnd) (w:World) :
  Calls Tryz.prog 150 #[.agg R.cells] w fun e w'=>e=.returned (.func (.func 162) #[] #[.pointer (some ⟨w.heap.size,0,none⟩)])∧w'=w.alloc (.cells R.cells 97):=by
 unfold Rnd.cells
 go_enter Tryz.func150,Tryz.ntmps150
 go_wp2_with fail
 go_ret
 exact ⟨rfl,rfl⟩
open Go.RowKit Go.Shelf
attribute [local go_sem] Oper.semAt_some
section
variable {P : Program} {ops : Array Oper} {Q : Exit → Act → World → Prop} {md : Region.Mode} {F : Fence} {n : Nat}
theorem iW {i:Nat} (d:Option Tmp) {oi:Oper} {v:Value} {fuel:Nat} {listed:Array Bool} {a:Act} {w:World} (hro:F.round=none) (hi:ops[i]?=some oi) (hd:oi.dst=d)
  (hs:Region.noSelect ops=true) (hf:Region.free md ops listed i=true) (hr:(Region.ready md ops listed).contains i=true)
  (hQ:∀ c a w,Q (.panic c) (a.put d v) w→Q (.panic c) a w) (hw:Region.wanted oi (yielded ops a.tmps)=true) (hy:∀ w,(execOp a.eval oi).run P w=.ok (.value v) w) (hab:∀ w,oi.about P w a.eval=none)
  (h:wpAnyIn F n P md ops Q fuel (listed.setIfInBounds i true) (a.put d v) w):wpAnyIn F n P md ops Q (fuel+1) listed a w:=by
 subst hd
 exact wpAnyIn_take hro hi hs hf hr hQ ⟨Or.inl ⟨hw,hy⟩,hab⟩ h
end
def Dp (R:Rnd) (x:{ i:Nat // i<R.nQ }):Array Value:=#[.int .i64 ((x.1:Nat):Int),.agg #[.int .i64 (R.q x.1),.int .i64 (R.d x.1),.slice (R.A x.1) (R.L x.1) (R.C x.1)]]
def Ab (n:Nat):(k:Nat)→k≤n→List { i:Nat // i<n }
 | 0,_=>[]
 | k+1,h=>Ab n k (Nat.le_of_succ_le h)++[⟨k,h⟩]
theorem vR (n:Nat):∀ (k:Nat) (h:k≤n),(Ab n k h).length=k
 | 0,_=>rfl
 | k+1,h=>by simp [Ab,vR n k]
theorem vQ (n:Nat):∀ (k:Nat) (h:k≤n) (i:Nat) (hi:i<k),(⟨i,Nat.lt_of_lt_of_le hi h⟩:{ i:Nat // i<n })∈Ab n k h
 | k+1,h,i,hi=>by
  unfold Ab
  by_cases e:i=k
  ·
   subst e;simp
  exact List.mem_append_left _ (vQ n k (Nat.le_of_succ_le h) i (by omega))
structure A3 (w:World) (b:Nat) (R:Rnd):Prop where
 box:∀ o,w.cell? ⟨b,o,none⟩=R.cells[o]?
 rd:jw w R
theorem rQ (F:Fence) (n:Nat) (h45:F.fn 162) (hro:F.round=none) (hn:1≤n) (R:Rnd) (hf:R.Fit) (hD:R.nQ≤R.nD) (hS:R.nQ≤R.nS) (b:Nat) (w:World) (hT:A3 w b R) (hlt:∀ W,Below w.heap.size w W→A3 W b R) :
  SeqStopsK F n Tryz.prog 162 #[.pointer (some ⟨b,0,none⟩)] (Dp R) (Below w.heap.size) (fun xs=>xs=Ab R.nQ R.nQ (Nat.le_refl _)) (fun pre=>∃ k,∃ h:k≤R.nQ,pre=Ab R.nQ k h) R.nQ w:=fun l J Jx W hW hJ hJx hY h0=>by
 obtain ⟨aQ,nQ,cQ,q,aD,nD,cD,d,turn,fresh,aS,nS,cS,A,L,C,z⟩:=R
 have hfq:nQ≤maxLen:=hf.q
 dsimp only at hD hS hY ⊢
 clear hf hT
 refine callsIn_of_wp Tryz.func162 rfl h45 ?_ hro
 simp only [Tryz.ntmps162,List.size_toArray,List.length_cons,List.length_nil,Nat.reduceAdd,Nat.reduceSub,Array.replicate_succ,Array.replicate_zero,List.push_toArray,List.append_toArray,List.nil_append,List.cons_append]
 have hm:(nQ:Int)≤9223372036854775807:=by unfold maxLen at hfq;omega
 have hTW:=hlt W hW
 have cb:=hTW.box
 unfold Rnd.cells at cb
 gi_wp2
 gi_loopw [8] (fun i wr=>∃ (k:Nat) (h:k≤nQ),i=.int .i64 k∧Below w.heap.size w wr∧J (Ab nQ k h) wr) (fun i _=>nQ-(intOf i).toNat)
 case atStart=>exact ⟨0,Nat.zero_le _,rfl,hW,h0⟩
 obtain ⟨k,hk,rfl,hB,hJk⟩:=hrel
 clear cb hTW
 by_cases hlt2:k<nQ
 ·
  have hlt':(k:Int)<nQ:=by omega
  have hltD:(k:Int)<nD:=by omega
  have hltS:(k:Int)<nS:=by omega
  have hTr:=hlt wr hB
  have cb:=hTr.box
  unfold Rnd.cells at cb
  obtain ⟨gq,oq,rfl,cq⟩:=hTr.rd.q k hlt2
  obtain ⟨gd,od,rfl,cd⟩:=hTr.rd.d k (by show k<nD;omega)
  obtain ⟨gs,os,rfl,cs⟩:=hTr.rd.s k (by show k<nS;omega)
  dsimp only at cq cd cs cb
  obtain ⟨fn,tmps,assign,body,hy,hR⟩:=hY (Ab nQ k hk) ⟨k,hlt2⟩ wr.drew (hJ _ _ _ none hJk ⟨rfl,rfl,rfl,Nat.le_refl _,fun _ _ _=>rfl⟩ (fun r e=>by cases e)) (by rw [vR];exact hlt2)
  dsimp only [Dp] at hy
  clear hlt hTr hY
  gi_wp2
  refine wpIn_region_any (by kernel_rfl) ?_
  refine iW (i:=0) (some 13) (v:=?_) hro rfl rfl (by kernel_rfl) (by kernel_rfl) (by kernel_rfl) (fun _ _ _ h=>h) (by kernel_rfl) ?_ (fun _=>rfl) ?_
  rotate_left
  · exact aC
  try simp only [Act.put,PZ]
  refine iW (i:=1) (some 14) (v:=?_) hro rfl rfl (by kernel_rfl) (by kernel_rfl) (by kernel_rfl) (fun _ _ _ h=>h) (by kernel_rfl) ?_ (fun _=>rfl) ?_
  rotate_left
  · exact aC
  try simp only [Act.put,PZ]
  refine iW (i:=2) (some 15) (v:=?_) hro rfl rfl (by kernel_rfl) (by kernel_rfl) (by kernel_rfl) (fun _ _ _ h=>h) (by kernel_rfl) ?_ (fun _=>rfl) ?_
  rotate_left
  · exact aC
  try simp only [Act.put,PZ]
  refine iW (i:=3) (some 16) (v:=?_) hro rfl rfl (by kernel_rfl) (by kernel_rfl) (by kernel_rfl) (fun _ _ _ h=>h) (by kernel_rfl) ?_ (fun _=>rfl) ?_
  rotate_left
  · exact aC
  try simp only [Act.put,PZ]
  refine iW (i:=5) (some 18) (v:=?_) hro rfl rfl (by kernel_rfl) (by kernel_rfl) (by kernel_rfl) (fun _ _ _ h=>h) (by kernel_rfl) ?_ (fun _=>rfl) ?_
  rotate_left
  · exact aC
  try simp only [Act.put,PZ]
  refine iW (i:=8) (some 21) (v:=?_) hro rfl rfl (by kernel_rfl) (by kernel_rfl) (by kernel_rfl) (fun _ _ _ h=>h) (by kernel_rfl) ?_ (fun _=>rfl) ?_
  rotate_left
  · exact aC
  try simp only [Act.put,PZ]
  refine iW (i:=10) (some 23) (v:=?_) hro rfl rfl (by kernel_rfl) (by kernel_rfl) (by kernel_rfl) (fun _ _ _ h=>h) (by kernel_rfl) ?_ (fun _=>rfl) ?_
  rotate_left
  · exact aC
  try simp only [Act.put,PZ]
  refine wpAnyIn_ready (rs:=[4,9]) (by kernel_rfl) (by simp) ?_
  refine AllReadyIn.cons rfl (fun K hK=>?_) (AllReadyIn.cons rfl (fun K hK=>?_) AllReadyIn.nil)
  ·
   go_simp
   refine hK _ _ ?_
   clear hK K
   try simp only [Act.put,PZ]
   refine iW (i:=6) (some 19) (v:=?_) hro rfl rfl (by kernel_rfl) (by kernel_rfl) (by kernel_rfl) (fun _ _ _ h=>h) (by kernel_rfl) ?_ (fun _=>rfl) ?_
   rotate_left
   · exact aC
   try simp only [Act.put,PZ]
   refine wpAnyIn_ready (rs:=[7,9]) (by kernel_rfl) (by simp) ?_
   refine AllReadyIn.cons rfl (fun K hK=>?_) (AllReadyIn.cons rfl (fun K hK=>?_) AllReadyIn.nil)
   ·
    go_simp
    refine hK _ _ ?_
    clear hK K
    try simp only [Act.put,PZ]
    refine wpAnyIn_ready (rs:=[9]) (by kernel_rfl) (by simp) ?_
    refine AllReadyIn.cons rfl (fun K hK=>?_) AllReadyIn.nil
    go_simp
    refine hK _ _ ?_
    clear hK K
    try simp only [Act.put,PZ]
    refine iW (i:=11) (some 24) (v:=?_) hro rfl rfl (by kernel_rfl) (by kernel_rfl) (by kernel_rfl) (fun _ _ _ h=>h) (by kernel_rfl) ?_ (fun _=>rfl) ?_
    rotate_left
    · exact aC
    exact a6
   go_simp
   refine hK _ _ ?_
   clear hK K
   try simp only [Act.put,PZ]
   refine iW (i:=11) (some 24) (v:=?_) hro rfl rfl (by kernel_rfl) (by kernel_rfl) (by kernel_rfl) (fun _ _ _ h=>h) (by kernel_rfl) ?_ (fun _=>rfl) ?_
   rotate_left
   · exact aC
   exact aB
  go_simp
  refine hK _ _ ?_
  clear hK K
  try simp only [Act.put,PZ]
  refine iW (i:=11) (some 24) (v:=?_) hro rfl rfl (by kernel_rfl) (by kernel_rfl) (by kernel_rfl) (fun _ _ _ h=>h) (by kernel_rfl) ?_ (fun _=>rfl) ?_
  rotate_left
  · exact aC
  try simp only [Act.put,PZ]
  refine wpAnyIn_ready (rs:=[4,12]) (by kernel_rfl) (by simp) ?_
  refine AllReadyIn.cons rfl (fun K hK=>?_) (AllReadyIn.cons rfl (fun K hK=>?_) AllReadyIn.nil)
  ·
   go_simp
   refine hK _ _ ?_
   clear hK K
   try simp only [Act.put,PZ]
   refine iW (i:=6) (some 19) (v:=?_) hro rfl rfl (by kernel_rfl) (by kernel_rfl) (by kernel_rfl) (fun _ _ _ h=>h) (by kernel_rfl) ?_ (fun _=>rfl) ?_
   rotate_left
   · exact aC
   exact aB
  go_simp
  refine hK _ _ ?_
  clear hK K
  try simp only [Act.put,PZ]
  refine wpAnyIn_ready (rs:=[4]) (by kernel_rfl) (by simp) ?_
  refine AllReadyIn.cons rfl (fun K hK=>?_) AllReadyIn.nil
  go_simp
  refine hK _ _ ?_
  clear hK K
  try simp only [Act.put,PZ]
  refine iW (i:=6) (some 19) (v:=?_) hro rfl rfl (by kernel_rfl) (by kernel_rfl) (by kernel_rfl) (fun _ _ _ h=>h) (by kernel_rfl) ?_ (fun _=>rfl) ?_
  rotate_left
  · exact aC
  exact a7
 obtain rfl:k=nQ:=by omega
 gi_wp2
 go_end0
 exact ⟨⟨_,rfl⟩,.inl ⟨_,rfl,hJk⟩⟩
attribute [local go_sem] Oper.semAt_some
theorem pf {W W2:World} (hb:Below W.heap.size W W2) (B:Nat):KeepsFrom B W W2 :=
 ⟨hb.size,fun k o _ hk _=>(hb.block k (fG hk)).trans hk⟩
theorem jJ (R:Rnd) (w:World) (hf:R.Fit) (h:jw w R) (ok:Bool) (hok:ok=true↔R.Ok) :
  Calls Tryz.prog 131 #[.agg R.cells] w fun e w'=>e=.returned (.bool ok)∧Below w.heap.size w w':=by
 have HR:Hid (jw w R):=h
 have HF:Hid (¬ R.Ok→ok=false):=fun hh=>by
  rw [Bool.eq_false_iff]
  intro e
  exact hh (hok.1 e)
 have HO:Hid (ok=true↔R.Ok):=hok
 have HFit:Hid R.Fit:=hf
 have hq:=hf.q
 have hd:=hf.d
 have hs:=hf.s
 unfold maxLen at hq hd hs
 clear h hok hf
 refine (callsIn_wide (n:=8)).1 ?_
 refine callsIn_of_wp_marks Tryz.func131 rfl trivial ?_ rfl
 simp only [Tryz.ntmps131,List.size_toArray,List.length_cons,List.length_nil,Nat.reduceAdd,Nat.reduceSub,Array.replicate_succ,Array.replicate_zero,List.push_toArray,List.append_toArray,List.nil_append,List.cons_append]
 unfold Rnd.cells
 have B0:Below w.heap.size w ((w.alloc (.cells R.cells 97)).alloc (.cells #[.bool false] 4)):=((Below.refl _ _).alloc (Nat.le_refl _) _).alloc (by simp) _
 have f32:Fence.wide.fn 149:=trivial
 have f33:Fence.wide.fn 150:=trivial
 have f34:Fence.wide.fn 151:=trivial
 by_cases h1:R.nQ<1
 ·
  have h1':(R.nQ:Int)<1:=by omega
  have HE:Hid (ok=false):=HF.out (fun hh=>by have:=hh.n;omega)
  exact aH
 have h1':¬ (R.nQ:Int)<1:=by omega
 by_cases h2:4<R.nQ
 ·
  have h2':(4:Int)<R.nQ:=by omega
  have HE:Hid (ok=false):=HF.out (fun hh=>by have:=hh.n;omega)
  exact aH
 have h2':¬ (4:Int)<R.nQ:=by omega
 have H12:Hid (1≤R.nQ∧R.nQ≤4):=by show _∧_;omega
 clear h1 h2
 by_cases h3:R.nD=R.nQ
 rotate_left
 ·
  have h3':((R.nD:Int) != (R.nQ:Int))=true:=by simp;omega
  have HE:Hid (ok=false):=HF.out (fun hh=>h3 hh.d)
  clear h3
  exact aH
 have h3':((R.nD:Int) != (R.nQ:Int))=false:=by simp [h3]
 have H3:Hid (R.nD=R.nQ):=h3
 clear h3
 by_cases h4:R.nS=R.nQ
 rotate_left
 ·
  have h4':((R.nS:Int) != (R.nQ:Int))=true:=by simp;omega
  have HE:Hid (ok=false):=HF.out (fun hh=>h4 hh.s)
  clear h4
  exact aH
 have h4':((R.nS:Int) != (R.nQ:Int))=false:=by simp [h4]
 have H4:Hid (R.nS=R.nQ):=h4
 clear h4
 have kB:=fY (.cells #[.bool false] 4) (show w.heap.size<(w.alloc (.cells R.cells 97)).heap.size by simp)
 rw [fK] at kB
 have kR:=fK (w.alloc (.cells R.cells 97)) (.cells #[.bool false] 4)
 have eS:(w.alloc (.cells R.cells 97)).heap.size=w.heap.size+1:=by simp
 rw [eS] at kR
 have e2:((w.alloc (.cells R.cells 97)).alloc (.cells #[.bool false] 4)).heap.size=w.heap.size+1+1:=by simp
 have HK:Hid (((w.alloc (.cells R.cells 97)).alloc (.cells #[.bool false] 4)).heap[w.heap.size]?=some (.cells R.cells 97 (0,0))∧((w.alloc (.cells R.cells 97)).alloc (.cells #[.bool false] 4)).heap[w.heap.size+1]?=some (.cells #[.bool false] 4 (0,0))):=⟨kB,kR⟩
 clear kB kR
 by_cases h5:0≤R.turn∧R.turn<R.nQ
 rotate_left
 ·
  have HE:Hid (ok=false):=HF.out (fun hh=>h5 hh.t)
  gi_wp2_with (gi_at_call 149;refine (callsIn_wide.2 (mz R R.turn _ HFit.out)).mono ?_;rintro e w1 ⟨rfl,hb1⟩;rw [decide_eq_false h5];have B1:=B0.trans (hb1.mono B0.size);have kR1:=(hb1.block (w.heap.size+1) (by rw [←Rnd.cells,e2];omega)).trans HK.out.2;have cR:=fF kR1;have fR:=fZ kR1;clear h5 hb1 B0)
  have cS:=fF (gv (i:=0) kR1 (.bool false)) 0
  exact ⟨.bool false,by simp [results,Tryz.results131,go_sem,cS],fO HE.out.symm,B1.setCell (by show _≤_+1;omega) _⟩
 gi_wp2_with (first | (gi_at_call 149;refine (callsIn_wide.2 (mz R R.turn _ HFit.out)).mono ?_;rintro e w1 ⟨rfl,hb1⟩;rw [decide_eq_true h5];have B1:=B0.trans (hb1.mono B0.size);have kR1:=(hb1.block (w.heap.size+1) (by rw [←Rnd.cells,e2];omega)).trans HK.out.2;have kB1:=(hb1.block w.heap.size (by rw [←Rnd.cells,e2];omega)).trans HK.out.1;have cB:=fF kB1;unfold Rnd.cells at cB;have H5:Hid (0≤R.turn∧R.turn<R.nQ):=h5;clear h5 hb1 B0) | (gi_at_call 150;refine (callsIn_wide.2 (vB R _)).mono ?_;rintro e w2 ⟨rfl,rfl⟩))
 have hBt:A3 (w1.alloc (.cells R.cells 97)) w1.heap.size R:=⟨fun o=>fF (fK w1 (.cells R.cells 97)) o,HR.out.up (B1.alloc B1.size _)⟩
 have hcBx:w1.heap.size<(w1.alloc (.cells R.cells 97)).heap.size:=by simp
 have hTl:∀ W,Below (w1.alloc (.cells R.cells 97)).heap.size (w1.alloc (.cells R.cells 97)) W→A3 W w1.heap.size R:=fun W hW =>
  ⟨fun o=>(hW.cell (p:=⟨w1.heap.size,o,none⟩) hcBx).trans (hBt.box o),hBt.rd.up hW⟩
 have hw1:=B1.size
 have hlR:=fG kR1
 have hsW:w.heap.size≤(w1.alloc (.cells R.cells 97)).heap.size:=by simp;omega
 have hc2:w1.cell? ⟨w.heap.size,2,none⟩=some (.int .i64 R.turn):=cB 2
 have hc3:w1.cell? ⟨w.heap.size,3,none⟩=some (.bool R.fresh):=cB 3
 have hcr:w1.cell? ⟨w.heap.size+1,0,none⟩=some (.bool false):=fF kR1 0
 have hfr:w1.frozen? ⟨w.heap.size+1,0,none⟩=false:=fZ kR1 0
 have ho:w.heap.size<w1.heap.size:=by omega
 have hold:∀ (j:Nat) o,j<w1.heap.size→(w1.alloc (.cells R.cells 97)).cell? ⟨j,o,none⟩=w1.cell? ⟨j,o,none⟩:=fun j o hj=>World.cell?_of_block (w:=w1) (a:=⟨j,o,none⟩) (fY _ hj)
 have holdf:(w1.alloc (.cells R.cells 97)).frozen? ⟨w.heap.size+1,0,none⟩=false:=(World.frozen?_of_block (w:=w1) (a:=⟨w.heap.size+1,0,none⟩) (fY _ hlR)).trans hfr
 have HD:Hid (R.nQ≤R.nD):=by rw [Hid,H3.out];exact Nat.le_refl _
 have HS:Hid (R.nQ≤R.nS):=by rw [Hid,H4.out];exact Nat.le_refl _
 refine wpIn_rangeFunc_ownH rfl (by omega) (gf:=162) (lb:=#[.pointer (some ⟨w1.heap.size,0,none⟩)]) rfl trivial (enters_of Tryz.func162 (by kernel_rfl) rfl)
  (rQ Fence.wide _ trivial rfl (by omega) R HFit.out HD.out HS.out w1.heap.size (w1.alloc (.cells R.cells 97)) hBt hTl) belowK_t (belowK_b (Nat.le_refl _)) (Below.refl _ _) (fun _=>rfl)
  (fun pre W=>(∀ x∈pre,pM (R.q x.1) (R.d x.1) (R.L x.1) (R.z x.1) (R.begun x.1))∧W.cell? ⟨w.heap.size,2,none⟩=some (.int .i64 R.turn)∧W.cell? ⟨w.heap.size,3,none⟩=some (.bool R.fresh)∧W.cell? ⟨w.heap.size+1,0,none⟩=some (.bool false)∧W.frozen? ⟨w.heap.size+1,0,none⟩=false∧(w1.alloc (.cells R.cells 97)).heap.size≤W.heap.size∧Below w.heap.size w W)
  (fun c pre W=>c=.ret∧(∃ x∈pre,¬ pM (R.q x.1) (R.d x.1) (R.L x.1) (R.z x.1) (R.begun x.1))∧W.cell? ⟨w.heap.size+1,0,none⟩=some (.bool false)∧Below w.heap.size w W)
  (fun s A B row hs hg hr=>⟨hs.1,cell_kept hs.2.1 hg (fun r e=>(hr r e).2),cell_kept hs.2.2.1 hg (fun r e=>(hr r e).2),cell_kept hs.2.2.2.1 hg (fun r e=>(hr r e).2),(frozen_kept hs.2.2.2.1 hg (fun r e=>(hr r e).2)).trans hs.2.2.2.2.1,Nat.le_trans hs.2.2.2.2.2.1 hg.size,hs.2.2.2.2.2.2.grown hg hs.2.2.2.2.2.2.size (fun k e=>Nat.le_trans hsW (hr k e).1)⟩)
  (fun c s A B row hs hg hr=>⟨hs.1,hs.2.1,cell_kept hs.2.2.1 hg (fun r e=>(hr r e).2),hs.2.2.2.grown hg hs.2.2.2.size (fun k e=>Nat.le_trans hsW (hr k e).1)⟩)
  ⟨fun x hx=>by simp at hx,(hold _ _ ho).trans hc2,(hold _ _ ho).trans hc3,(hold _ _ hlR).trans hcr,holdf,Nat.le_refl _,B1.alloc hw1 _⟩
  (fun x a' W=>∃ Bx,w.heap.size+1<Bx∧W.cell? ⟨Bx,0,none⟩=some (.int .i64 (R.q x.1))∧W.cell? ⟨Bx,1,none⟩=some (.int .i64 (R.d x.1))∧W.cell? ⟨Bx,2,none⟩=some (.slice (R.A x.1) (R.L x.1) (R.C x.1))∧a'={ tmps:=#[.agg #[.slice R.aQ R.nQ R.cQ,.slice R.aD R.nD R.cD,.int .i64 R.turn,.bool R.fresh,.slice R.aS R.nS R.cS],.pointer (some ⟨w.heap.size,0,none⟩),.pointer (some ⟨w.heap.size+1,0,none⟩),.int .i64 (R.nQ:Int),.int .i64 ((x.1:Nat):Int),.pointer (some ⟨Bx,0,none⟩),.pointer (some ⟨w.heap.size,0,none⟩),.slice R.aQ R.nQ R.cQ,.int .i64 (R.nQ:Int),.int .i64 (R.nQ:Int),.bool false,.bool false,.int .i64 (R.nQ:Int),.bool false,.bool false,.bool false,.pointer (some ⟨w.heap.size,1,none⟩),.slice R.aD R.nD R.cD,.int .i64 (R.nD:Int),.int .i64 (R.nQ:Int),.bool false,.bool false,.bool false,.pointer (some ⟨w.heap.size,4,none⟩),.slice R.aS R.nS R.cS,.int .i64 (R.nS:Int),.int .i64 (R.nQ:Int),.bool false,.bool false,.bool false,.agg #[.slice R.aQ R.nQ R.cQ,.slice R.aD R.nD R.cD,.int .i64 R.turn,.bool R.fresh,.slice R.aS R.nS R.cS],.pointer (some ⟨w.heap.size,2,none⟩),.int .i64 R.turn,.bool true,.bool false,.bool false,.agg #[.slice R.aQ R.nQ R.cQ,.slice R.aD R.nD R.cD,.int .i64 R.turn,.bool R.fresh,.slice R.aS R.nS R.cS],.func (.func 162) #[] #[.pointer (some ⟨w1.heap.size,0,none⟩)],.int .i64 ((x.1:Nat):Int),.agg #[.int .i64 (R.q x.1),.int .i64 (R.d x.1),.slice (R.A x.1) (R.L x.1) (R.C x.1)],undef,undef,undef,undef,undef,undef,undef,undef,undef,undef,undef,undef],defers:=[] })
  (fun x a' s A B row hs hg hr=>by
   obtain ⟨Bx,b1,c1,c2,c3,e⟩:=hs
   exact ⟨Bx,b1,cell_kept c1 hg (fun r e=>(hr r e).2),cell_kept c2 hg (fun r e=>(hr r e).2),cell_kept c3 hg (fun r e=>(hr r e).2),e⟩)
  ?assign ?body ?done ?stop
 case assign =>
  rintro l pre x W K ⟨i1,i2,i3,i4,i5,i6,i7⟩ hK
  have hcn:=fF (fK W (.cells #[.int .i64 (R.q x.1),.int .i64 (R.d x.1),.slice (R.A x.1) (R.L x.1) (R.C x.1)] 213))
  have hgr:=World.grownBy_alloc W (.cells #[.int .i64 (R.q x.1),.int .i64 (R.d x.1),.slice (R.A x.1) (R.L x.1) (R.C x.1)] 213) none
  have HI:Hid (∀ ob,(W.alloc ob).cell? ⟨w.heap.size,2,none⟩=some (.int .i64 R.turn)∧(W.alloc ob).cell? ⟨w.heap.size,3,none⟩=some (.bool R.fresh)∧(W.alloc ob).cell? ⟨w.heap.size+1,0,none⟩=some (.bool false)∧(W.alloc ob).frozen? ⟨w.heap.size+1,0,none⟩=false∧Below w.heap.size w (W.alloc ob)):=fun ob =>
   ⟨cell_kept i2 (World.grownBy_alloc W ob none) (fun r e=>by cases e),cell_kept i3 (World.grownBy_alloc W ob none) (fun r e=>by cases e),cell_kept i4 (World.grownBy_alloc W ob none) (fun r e=>by cases e),(frozen_kept i4 (World.grownBy_alloc W ob none) (fun r e=>by cases e)).trans i5,i7.alloc i7.size _⟩
  have hlt:w.heap.size+1<W.heap.size:=by simp at i6;omega
  unfold Dp
  gi_wp2
  exact hK _ _ ((KeepsOthers.alloc _ _).from _) ((Below.refl _ W).alloc i6 _) ⟨i1,(HI.out _).1,(HI.out _).2.1,(HI.out _).2.2.1,(HI.out _).2.2.2.1,by simp at i6 ⊢;omega,(HI.out _).2.2.2.2⟩ ⟨W.heap.size,hlt,hcn 0,hcn 1,hcn 2,rfl⟩
 case body =>
  rintro l pre x a' W hl ⟨r,hr⟩ ⟨i1,i2,i3,i4,i5,i6,i7⟩ ⟨Bx,hBx,x0,x1,x2,rfl⟩ hlt
  have hl2:w.heap.size+1<W.heap.size:=by simp at i6;omega
  have hl0:w.heap.size<W.heap.size:=by omega
  obtain ⟨okc,hokc⟩:=qP (pM (R.q x.1) (R.d x.1) (R.L x.1) (R.z x.1) (R.begun x.1))
  have HC:Hid (okc=true↔pM (R.q x.1) (R.d x.1) (R.L x.1) (R.z x.1) (R.begun x.1)):=hokc
  have hxS:x.1<R.nS:=by rw [H4.out];exact x.2
  have HRd:Hid (fW W (R.A x.1) (R.L x.1) fun j=>.int .i64 (R.z x.1 j)):=(HR.out.up i7).z x.1 hxS
  have HLn:Hid (R.L x.1≤maxLen):=HFit.out.l x.1 hxS
  clear hokc hxS hTl hBt hold holdf hc2 hc3 hcr hfr
  by_cases hx:((x.1:Nat):Int)=R.turn
  ·
   have hxq:(((x.1:Nat):Int) == R.turn)=true:=by simp [hx]
   cases hfs:R.fresh
   ·
    have hbg:R.begun x.1=true:=by simp [Rnd.begun,hx,hfs]
    rw [hfs] at i3
    clear hx hfs
    have HC2:Hid (okc=true↔pM (R.q x.1) (R.d x.1) (R.L x.1) (R.z x.1) true):=by have hh:=HC.out;rw [hbg] at hh;exact hh
    clear hbg
    cases okc
    ·
     have HCf:Hid (¬ pM (R.q x.1) (R.d x.1) (R.L x.1) (R.z x.1) (R.begun x.1)):=fun hh=>by have:=HC.out.2 hh;simp at this
     gi_wp2_with (gi_at_call 151;refine (CallsIn.inRound l (callsIn_wide.2 (lG (R.q x.1) (R.d x.1) (R.A x.1) (R.L x.1) (R.C x.1) (R.z x.1) true W HLn.out HRd.out false HC2.out))).mono ?_;rintro e W2 ⟨rfl,hb2⟩;have cR2:=(hb2.cell (p:=⟨w.heap.size+1,0,none⟩) hl2).trans i4;have fR2:=(hb2.frozen (p:=⟨w.heap.size+1,0,none⟩) hl2).trans i5)
     exact aZ
    have HCt:Hid (pM (R.q x.1) (R.d x.1) (R.L x.1) (R.z x.1) (R.begun x.1)):=HC.out.1 rfl
    gi_wp2_with (gi_at_call 151;refine (CallsIn.inRound l (callsIn_wide.2 (lG (R.q x.1) (R.d x.1) (R.A x.1) (R.L x.1) (R.C x.1) (R.z x.1) true W HLn.out HRd.out true HC2.out))).mono ?_;rintro e W2 ⟨rfl,hb2⟩;have cR2:=(hb2.cell (p:=⟨w.heap.size+1,0,none⟩) hl2).trans i4;have fR2:=(hb2.frozen (p:=⟨w.heap.size+1,0,none⟩) hl2).trans i5)
    exact aY
   have hbg:R.begun x.1=false:=by simp [Rnd.begun,hfs]
   rw [hfs] at i3
   clear hx hfs
   exact az
  have hxq:(((x.1:Nat):Int) == R.turn)=false:=by simp [hx]
  have hbg:R.begun x.1=false:=by simp [Rnd.begun,hx]
  clear hx
  exact az
 case done =>
  rintro D xs W hD rfl ⟨i1,i2,i3,i4,i5,i6,i7⟩ hK
  have HT:Hid (ok=true):=HO.out.2 ⟨H12.out,H3.out,H4.out,H5.out,fun i hi=>i1 ⟨i,hi⟩ (vQ _ _ _ i hi)⟩
  have hK':=(KeepsOthers.setCell W ⟨w.heap.size+1,0,none⟩ (.bool true)).same D _ hK rfl
  have hc5:=cell_kept (World.cell?_setCell_same' W ⟨w.heap.size+1,0,none⟩ (.bool true) (by rw [i4];rfl)) (grownBy_putObj' _ D (.deferred none)) (fun r e=>by cases e;exact ⟨_,hK',rfl⟩)
  have hBe:Below w.heap.size w ((W.setCell ⟨w.heap.size+1,0,none⟩ (.bool true)).putObj D (.deferred none)):=(i7.setCell (p:=⟨w.heap.size+1,0,none⟩) (by show _≤_+1;omega) _).trans (belowK_b (w:=w) (Nat.le_refl _) _ D _ _ (Nat.le_trans hsW hD) hK' rfl rfl)
  clear hTl hBt hold holdf hc2 hc3 hcr hfr
  gi_wp2
  refine ⟨by simp,.inl ⟨_,_,rfl,run_takeDeferred hK',?_⟩⟩
  exact ⟨.bool true,by simp [results,Tryz.results131,go_sem,hc5],fO HT.out.symm,hBe⟩
 rintro D c pre W hD hSp ⟨rfl,⟨x,hx,hn⟩,i4,i7⟩ hK
 have HE:Hid (ok=false):=HF.out (fun hh=>hn (hh.c x.1 x.2))
 have hc5:=cell_kept i4 (grownBy_putObj' _ D (.deferred none)) (fun r e=>by cases e;exact ⟨_,hK,rfl⟩)
 have hBe:Below w.heap.size w (W.putObj D (.deferred none)):=i7.trans (belowK_b (w:=w) (Nat.le_refl _) _ D _ _ (Nat.le_trans hsW hD) hK rfl rfl)
 clear hTl hBt hold holdf hc2 hc3 hcr hfr
 gi_wp2
 refine ⟨by simp,.inl ⟨_,_,rfl,run_takeDeferred hK,?_⟩⟩
 exact ⟨.bool false,by simp [results,Tryz.results131,go_sem,hc5],fO HE.out.symm,hBe⟩
theorem tO (A B:Cnt) (w:World) (hs:A.Small) (hA:jo w A) (hB:jo w B) (h:gw A B) :
  Calls Tryz.prog 30 #[.agg A.cells,.agg B.cells] w fun e w'=>e=.returned (.bool true)∧Below w.heap.size w w':=by
 obtain ⟨aU,nU,cU,u,lo,aP,nP,cP,p⟩:=A
 obtain ⟨bU,nU',dU,u',lo',bP,nP',dP,p'⟩:=B
 obtain ⟨h1,h2,h3,h4,h5⟩:=h
 dsimp only at h1 h2 h3 h4 h5
 subst h1 h2 h3 h4 h5
 have hs1:nU'≤1048576:=hs.u
 have hs2:nP'≤1048576:=hs.p
 obtain ⟨w2,hw2⟩:∃ w2,w2=(w.alloc (.cells #[.slice aU nU' cU,.int .i64 lo',.slice aP nP' cP] 39)).alloc (.cells #[.slice bU nU' dU,.int .i64 lo',.slice bP nP' dP] 39):=⟨_,rfl⟩
 have k1:w2.heap[w.heap.size]?=some (.cells #[.slice aU nU' cU,.int .i64 lo',.slice aP nP' cP] 39 (0,0)):=by rw [hw2];exact (fY _ (by simp)).trans (fK _ _)
 have k2:w2.heap[w.heap.size+1]?=some (.cells #[.slice bU nU' dU,.int .i64 lo',.slice bP nP' dP] 39 (0,0)):=by
  rw [hw2]
  have:=fK (w.alloc (.cells #[.slice aU nU' cU,.int .i64 lo',.slice aP nP' cP] 39)) (.cells #[.slice bU nU' dU,.int .i64 lo',.slice bP nP' dP] 39)
  simpa using this
 have B2:Below w.heap.size w w2:=by rw [hw2];go_grown
 have HU1:Hid (fW w2 aU nU' fun i=>.int .i64 (u' i)):=hA.u.up B2
 have HU2:Hid (fW w2 bU nU' fun i=>.int .i64 (u' i)):=hB.u.up B2
 have HP1:Hid (fW w2 aP nP' fun i=>.bool (p' i)):=hA.p.up B2
 have HP2:Hid (fW w2 bP nP' fun i=>.bool (p' i)):=hB.p.up B2
 have c1:=fF k1
 have c2:=fF k2
 rw [hw2] at c1 c2
 clear hs hA hB
 unfold Cnt.cells
 dsimp only
 go_enter Tryz.func30,Tryz.ntmps30
 go_wp2_with fail
 rw [←hw2]
 clear hw2 c1 c2
 refine (lp aU bU nU' cU dU u' _ hs1 HU1.out HU2.out).mono ?_
 rintro e w3 ⟨rfl,hS⟩
 have c1:=fF ((congrArg (·[w.heap.size]?) hS.heap).trans k1)
 have c2:=fF ((congrArg (·[w.heap.size+1]?) hS.heap).trans k2)
 have b3:=hS.below w2.heap.size
 have B3:=B2.trans (b3.mono B2.size)
 have HP13:Hid (fW w3 aP nP' fun i=>.bool (p' i)):=HP1.out.up b3
 have HP23:Hid (fW w3 bP nP' fun i=>.bool (p' i)):=HP2.out.up b3
 clear hS k1 k2 b3 B2 HU1 HU2 HP1 HP2
 go_wp2_with fail
 refine (vv aP bP nP' cP dP p' _ hs2 HP13.out HP23.out).mono ?_
 rintro e w4 ⟨rfl,hS⟩
 have B4:=B3.trans ((hS.below w3.heap.size).mono B3.size)
 clear hS B3 HP13 HP23 c1 c2
 go_wp2_with fail
 go_ret
 exact ⟨rfl,B4⟩
theorem yx (a:Option Addr) (cap m:Nat) (w:World):Calls Tryz.prog 82 #[.slice a 0 cap,.int .i64 m] w fun e w'=>e=.returned (.int .i64 m)∧w=w':=by
 go_enter Tryz.func82,Tryz.ntmps82
 exact aA
theorem zi (a:Option Addr) (cap m:Nat) (w:World):Calls Tryz.prog 86 #[.slice a 0 cap,.int .i64 m] w fun e w'=>e=.returned (.int .i64 m)∧w=w':=by
 go_enter Tryz.func86,Tryz.ntmps86
 exact aA
theorem qS (a:Option Addr) (n cap m base:Nat) (F:Nat→Value) (w:World) (h:VT 2 w base a n F) (hn:n≤1048576) (hm:m≤100000000) :
  Calls Tryz.prog 82 #[.slice a n cap,.int .i64 m] w fun e w'=>e=.returned (.int .i64 ((m+n:Nat):Int))∧VT 2 w' base a n (fun i=>.int .i64 ((m+i:Nat):Int))∧Touch (ib a n) w w':=by
 by_cases h0:n=0
 ·
  subst h0
  refine (yx a cap m w).mono ?_
  rintro e w' ⟨rfl,rfl⟩
  exact ⟨by simp,.inl rfl,Touch.refl _ _⟩
 rcases h with h | ⟨g,rfl,hg,hr⟩
 ·
  exact absurd h h0
 refine (sZ g n cap m _ w hr hn hm).mono ?_
 exact aJ
theorem rn (a:Option Addr) (n cap m base:Nat) (w:World) (h:VT 2 w base a n (fun i=>.int .i64 ((m+i:Nat):Int))) (hn:n≤1048576) (hm:m≤100000000) :
  Calls Tryz.prog 86 #[.slice a n cap,.int .i64 m] w fun e w'=>e=.returned (.int .i64 ((m+n:Nat):Int))∧w=w':=by
 by_cases h0:n=0
 ·
  subst h0
  refine (zi a cap m w).mono ?_
  rintro e w' ⟨rfl,rfl⟩
  exact ⟨by simp,rfl⟩
 rcases h with h | ⟨g,rfl,hg,hr⟩
 ·
  exact absurd h h0
 exact tv g n cap m w hr hn hm
theorem xk (a:Option Addr) (cap m:Nat) (w:World):Calls Tryz.prog 83 #[.slice a 0 cap,.int .i64 m] w fun e w'=>e=.returned (.int .i64 m)∧w=w':=by
 go_enter Tryz.func83,Tryz.ntmps83
 exact aA
theorem xA (a:Option Addr) (cap m:Nat) (w:World):Calls Tryz.prog 87 #[.slice a 0 cap,.int .i64 m] w fun e w'=>e=.returned (.int .i64 m)∧w=w':=by
 go_enter Tryz.func87,Tryz.ntmps87
 exact aA
theorem pD (a:Option Addr) (n cap m base:Nat) (F:Nat→Value) (w:World) (h:VT 4 w base a n F) (hn:n≤1048576) (hm:m≤100000000) :
  Calls Tryz.prog 83 #[.slice a n cap,.int .i64 m] w fun e w'=>e=.returned (.int .i64 ((m+n:Nat):Int))∧VT 4 w' base a n (fun i=>.bool (mb (m+i)))∧Touch (ib a n) w w':=by
 by_cases h0:n=0
 ·
  subst h0
  refine (xk a cap m w).mono ?_
  rintro e w' ⟨rfl,rfl⟩
  exact ⟨by simp,.inl rfl,Touch.refl _ _⟩
 rcases h with h | ⟨g,rfl,hg,hr⟩
 ·
  exact absurd h h0
 refine (qV g n cap m _ w hr hn hm).mono ?_
 exact aJ
theorem pI (a:Option Addr) (n cap m base:Nat) (w:World) (h:VT 4 w base a n (fun i=>.bool (mb (m+i)))) (hn:n≤1048576) (hm:m≤100000000) :
  Calls Tryz.prog 87 #[.slice a n cap,.int .i64 m] w fun e w'=>e=.returned (.int .i64 ((m+n:Nat):Int))∧w=w':=by
 by_cases h0:n=0
 ·
  subst h0
  refine (xA a cap m w).mono ?_
  rintro e w' ⟨rfl,rfl⟩
  exact ⟨by simp,rfl⟩
 rcases h with h | ⟨g,rfl,hg,hr⟩
 ·
  exact absurd h h0
 exact rv g n cap m w hr hn hm
theorem lA (C:Cfg) (w:World) :
  Calls Tryz.prog 218 #[.agg #[],.agg C.cells] w fun e w'=>e=.returned (.int .i64 C.lo)∧Below w.heap.size w w':=by
 have HA:Hid (∀ o o',Below w.heap.size w ((w.alloc o).alloc o')):=fun o o'=>((Below.refl _ _).alloc (Nat.le_refl _) _).alloc (by simp) _
 unfold Cfg.cells
 go_enter Tryz.func218,Tryz.ntmps218
 exact aW
theorem lV (C:Cfg) (i:Int) (w:World) (h1:-1000≤C.xo) (h2:C.xo≤1000) (h3:-1000≤C.hd) (h4:C.hd≤1000) :
  Calls Tryz.prog 221 #[.agg #[.int .i64 i],.agg C.cells] w fun e w'=>e=.returned (.int .i64 (C.xo+C.hd))∧Below w.heap.size w w':=by
 have HA:Hid (∀ o o',Below w.heap.size w ((w.alloc o).alloc o')):=fun o o'=>((Below.refl _ _).alloc (Nat.le_refl _) _).alloc (by simp) _
 have e1:IntKind.i64.wrap (C.xo+C.hd)=C.xo+C.hd:=mr _ (by omega) (by omega)
 unfold Cfg.cells
 go_enter Tryz.func221,Tryz.ntmps221
 go_wp2_with fail
 go_ret
 exact ⟨iM (by first | rfl | exact e1 | exact e1.symm),HA.out _ _⟩
def xg (C:Cfg):Nat→Int
 | 0=>C.lo
 | _+1=>C.xo+C.hd
def r8 (C:Cfg):Nat→Int
 | 0=>0
 | k+1=>r8 C k+xg C k
theorem yv {C:Cfg} (h:C.Num) (k:Nat):0≤xg C k∧xg C k≤2000:=by
 have:=h.xo;have:=h.hd;have:=h.lo
 cases k <;> simp only [xg] <;> omega
theorem BB {C:Cfg} (h:C.Num) (k:Nat):0≤r8 C k∧r8 C k≤2000*(k:Int):=by
 induction k with
 | zero=>simp [r8]
 | succ k ih =>
  have:=yv h k
  simp only [r8]
  omega
theorem Ad {C:Cfg} {n:Nat} (h1:2≤n) (h2:n≤4):r8 C (n+1)=(n:Int)*(C.xo+C.hd)+C.lo:=by
 have:n=2∨n=3∨n=4:=by omega
 rcases this with rfl | rfl | rfl <;> simp only [r8,xg] <;> omega
theorem sO (C:Cfg) (n:Nat) (w:World) (hn:n≤4) (hp:C.p=(n:Int)) (hN:C.Num) :
  Calls Tryz.prog 128 #[.agg C.cells] w fun e w'=>e=.returned (.int .i64 (r8 C (n+1)))∧Below w.heap.size w w':=by
 have HN:Hid C.Num:=hN
 have HP:Hid (C.p=(n:Int)):=hp
 have hB0:Below (w.heap.size+1) (w.alloc (.cells #[.int .i64 C.p,.int .i64 C.c,.int .i64 C.xo,.int .i64 C.xn,.int .i64 C.hd,.int .i64 C.lo,.int .i64 C.dl] 37)) (w.alloc (.cells #[.int .i64 C.p,.int .i64 C.c,.int .i64 C.xo,.int .i64 C.xn,.int .i64 C.hd,.int .i64 C.lo,.int .i64 C.dl] 37)):=Below.refl _ _
 clear hN hp
 unfold Cfg.cells
 go_enter Tryz.func128,Tryz.ntmps128
 go_wp2_with fail
 refine (nV C n _ hn HP.out).mono ?_
 rintro e w1 ⟨⟨g,cap,rfl,hown⟩,hb1⟩
 have hB1:=next hB0 hb1
 have HR:Hid (fW w1 (some ⟨g,0,none⟩) (n+1) BQ):=s7 hown
 clear hb1 hB0 hown
 go_wp2_with fail
 go_loopw [3,9] (fun s i wr=>∃ k:Nat,k≤n+1∧i=.int .i64 k∧s=.int .i64 (r8 C k)∧Below w1.heap.size w1 wr) (fun _ i _=>n+1-(intOf i).toNat)
 case atStart=>exact ⟨0,Nat.zero_le _,rfl,rfl,Below.refl _ _⟩
 obtain ⟨k,hk,rfl,rfl,hBr⟩:=hrel
 have hB:=next hB1 hBr
 have cb:=boxed hB
 have HS:Hid (0≤r8 C k∧r8 C k≤2000*(k:Int)):=BB HN.out k
 by_cases hlt:k<n+1
 ·
  have hlt':(k:Int)<((n+1:Nat):Int):=by omega
  obtain ⟨g',o',ea,c1⟩:=(HR.out.up hBr) k hlt
  cases ea
  rw [Nat.zero_add] at c1
  have HM:Hid (IntKind.i64.wrap (r8 C k+xg C k)=r8 C (k+1)):=by
   have:=HS.out
   have:=yv HN.out k
   exact mr _ (by omega) (by omega)
  cases k with
  | zero =>
   dsimp only [BQ,pa] at c1
   have e1:IntKind.i64.wrap (r8 C 0+C.lo)=r8 C 1:=HM.out
   go_wp2_with fail
   refine (lA C _).mono ?_
   rintro e w2 ⟨rfl,hb2⟩
   have hBr2:=hBr.trans (hb2.mono hBr.size)
   clear hBr hb2 hB cb c1 HM
   go_wp2_with fail
   go_roundw
   case rel=>exact ⟨1,by omega,by first | rfl | go_num,by first | rfl | (rw [e1]),hBr2⟩
   case measure=>simp [intOf]
  | succ j =>
   dsimp only [BQ,qK] at c1
   have e1:IntKind.i64.wrap (r8 C (j+1)+(C.xo+C.hd))=r8 C (j+1+1):=HM.out
   go_wp2_with fail
   refine (lV C _ _ (by have:=HN.out.xo;omega) (by have:=HN.out.xo;omega) (by have:=HN.out.hd;omega) (by have:=HN.out.hd;omega)).mono ?_
   rintro e w2 ⟨rfl,hb2⟩
   have hBr2:=hBr.trans (hb2.mono hBr.size)
   clear hBr hb2 hB cb c1 HM
   go_wp2_with fail
   go_roundw
   case rel=>exact ⟨j+1+1,by omega,by go_num,by first | rfl | (rw [e1]),hBr2⟩
   case measure=>simp [intOf];omega
 obtain rfl:k=n+1:=by omega
 have B:=under hB
 go_wp2_with fail
 go_ret
 exact ⟨rfl,B⟩
theorem ri (C:Cfg) (w:World) (ok:Bool) (hok:ok=true↔C.Ok) :
  Calls Tryz.prog 100 #[.agg C.cells] w fun e w'=>e=.returned (.bool ok)∧Below w.heap.size w w':=by
 obtain ⟨b,hb⟩:=mx C.Num
 have HO:Hid (ok=true↔C.Ok):=hok
 have hB:Below (w.heap.size+1) (w.alloc (.cells #[.int .i64 C.p,.int .i64 C.c,.int .i64 C.xo,.int .i64 C.xn,.int .i64 C.hd,.int .i64 C.lo,.int .i64 C.dl] 37)) (w.alloc (.cells #[.int .i64 C.p,.int .i64 C.c,.int .i64 C.xo,.int .i64 C.xn,.int .i64 C.hd,.int .i64 C.lo,.int .i64 C.dl] 37)):=Below.refl _ _
 have cb:=boxed hB
 clear hok
 unfold Cfg.cells
 cases b
 ·
  have HF:Hid (ok=false):=by
   show ok=false
   rw [Bool.eq_false_iff]
   intro e
   have:=hb.2 (HO.out.1 e).num
   cases this
  have HNb:Hid (false=true↔C.Num):=hb
  clear hb
  go_enter Tryz.func100,Tryz.ntmps100
  go_wp2_with fail
  refine wp_region_held_drew (S:=fun w'=>∀ o,w'.cell? ⟨w.heap.size,o,none⟩=(#[.int .i64 C.p,.int .i64 C.c,.int .i64 C.xo,.int .i64 C.xn,.int .i64 C.hd,.int .i64 C.lo,.int .i64 C.dl]:Array Value)[o]?) (by kernel_rfl) cb (fun hHeld=>?_)
  refine t0 ?_
  refine rq1 1 (fun K hK=>?_)
  go_simp
  have hB:=hB.drew
  refine (rh C _ false HNb.out).mono ?_
  rintro e w1 ⟨rfl,hb1⟩
  replace hB:=next hB hb1
  have cb:=boxed hB
  clear hb1
  go_wp2_with fail
  refine hK.out _ _ cb (fun hHeld=>?_)
  clear hK K
  try simp only [Act.put,PZ]
  refine tN ?_
  iterate 5 refine sN ?_
  iterate 2 refine tN ?_
  exact aG
 have HNm:Hid C.Num:=hb.1 rfl
 have HNb:Hid (true=true↔C.Num):=hb
 clear hb
 by_cases hh:C.hd≥5*(2*C.dl+1)
 rotate_left
 ·
  have HF:Hid (ok=false):=by
   show ok=false
   rw [Bool.eq_false_iff]
   intro e
   exact hh (HO.out.1 e).head
  have hh':decide (5*(2*C.dl+1)≤C.hd)=false:=decide_eq_false hh
  go_enter Tryz.func100,Tryz.ntmps100
  go_wp2_with fail
  refine wp_region_held_drew (S:=fun w'=>∀ o,w'.cell? ⟨w.heap.size,o,none⟩=(#[.int .i64 C.p,.int .i64 C.c,.int .i64 C.xo,.int .i64 C.xn,.int .i64 C.hd,.int .i64 C.lo,.int .i64 C.dl]:Array Value)[o]?) (by kernel_rfl) cb (fun hHeld=>?_)
  refine t0 ?_
  refine rq1 1 (fun K hK=>?_)
  go_simp
  have hB:=hB.drew
  refine (rh C _ true ⟨fun _=>HNm.out,fun _=>rfl⟩).mono ?_
  rintro e w1 ⟨rfl,hb1⟩
  replace hB:=next hB hb1
  have cb:=boxed hB
  clear hb1
  go_wp2_with fail
  refine hK.out _ _ cb (fun hHeld=>?_)
  clear hK K
  try simp only [Act.put,PZ]
  iterate 4 refine tN ?_
  refine rq1 6 (fun K hK=>?_)
  go_simp
  refine (mo C _ HNm.out.dl.1 HNm.out.dl.2).mono ?_
  rintro e w2 ⟨rfl,hb2⟩
  replace hB:=next hB hb2
  replace cb:=boxed hB
  clear hb2
  go_wp2_with fail
  refine hK.out _ _ cb (fun hHeld=>?_)
  clear hK K
  try simp only [Act.put,PZ]
  iterate 3 refine tN ?_
  exact aG
 have hh':decide (5*(2*C.dl+1)≤C.hd)=true:=decide_eq_true hh
 have HH:Hid (C.hd≥5*(2*C.dl+1)):=hh
 obtain ⟨n,hn2,hn4,hpn⟩:∃ n:Nat,2≤n∧n≤4∧C.p=(n:Int):=⟨C.p.toNat,by have:=HNm.out.p;omega,by have:=HNm.out.p;omega,by have:=HNm.out.p;omega⟩
 have HP:Hid (C.p=(n:Int)):=hpn
 have HE:Hid (decide (r8 C (n+1)≤C.c)=ok):=by
  rw [Hid,Bool.eq_iff_iff,HO.out,Ad hn2 hn4,←hpn]
  simp only [decide_eq_true_eq]
  exact ⟨fun h=>⟨HNm.out,HH.out,h⟩,fun h=>h.sum⟩
 clear hh hpn
 go_enter Tryz.func100,Tryz.ntmps100
 go_wp2_with fail
 refine wp_region_held_drew (S:=fun w'=>∀ o,w'.cell? ⟨w.heap.size,o,none⟩=(#[.int .i64 C.p,.int .i64 C.c,.int .i64 C.xo,.int .i64 C.xn,.int .i64 C.hd,.int .i64 C.lo,.int .i64 C.dl]:Array Value)[o]?) (by kernel_rfl) cb (fun hHeld=>?_)
 refine t0 ?_
 refine rq1 1 (fun K hK=>?_)
 go_simp
 have hB:=hB.drew
 refine (rh C _ true ⟨fun _=>HNm.out,fun _=>rfl⟩).mono ?_
 rintro e w1 ⟨rfl,hb1⟩
 replace hB:=next hB hb1
 have cb:=boxed hB
 clear hb1
 go_wp2_with fail
 refine hK.out _ _ cb (fun hHeld=>?_)
 clear hK K
 try simp only [Act.put,PZ]
 iterate 4 refine tN ?_
 refine rq1 6 (fun K hK=>?_)
 go_simp
 refine (mo C _ HNm.out.dl.1 HNm.out.dl.2).mono ?_
 rintro e w2 ⟨rfl,hb2⟩
 replace hB:=next hB hb2
 replace cb:=boxed hB
 clear hb2
 go_wp2_with fail
 refine hK.out _ _ cb (fun hHeld=>?_)
 clear hK K
 try simp only [Act.put,PZ]
 iterate 4 refine tN ?_
 refine tQ 12 15 ?_
 refine tQ 13 16 ?_
 refine rq1 11 (fun K hK=>?_)
 go_simp
 refine (sO C n _ hn4 HP.out HNm.out).mono ?_
 rintro e w3 ⟨rfl,hb3⟩
 replace hB:=next hB hb3
 replace cb:=boxed hB
 clear hb3
 go_wp2_with fail
 refine hK.out _ _ cb (fun hHeld=>?_)
 clear hK K
 try simp only [Act.put,PZ]
 refine tQ 14 17 ?_
 refine tQ 15 18 ?_
 refine rq1 16 (fun K hK=>?_)
 go_simp
 refine hK.out _ _ cb (fun hHeld=>?_)
 clear hK K
 try simp only [Act.put,PZ]
 refine dnq ?_
 have B:=under hB
 go_wp2_with fail
 go_ret
 exact ⟨fO HE.out,B⟩
theorem qG (C:Cfg) (w:World) (ok:Bool) (hok:ok=true↔C.Ok) :
  Calls Tryz.prog 91 #[.agg C.cells] w fun e w'=>e=.returned (.bool ok)∧Below w.heap.size w w':=by
 have HO:Hid (ok=true↔C.Ok):=hok
 have HA:Hid (∀ o,Below w.heap.size w (w.alloc o)):=fun o=>(Below.refl _ _).alloc (Nat.le_refl _) _
 clear hok
 unfold Cfg.cells
 go_enter Tryz.func91,Tryz.ntmps91
 go_wp2_with fail
 refine (fT _ _ _ _).mono ?_
 rintro e w' ⟨rfl,hw⟩
 rw [hw]
 clear hw w'
 by_cases h_p:2≤C.p∧C.p≤4
 rotate_left
 ·
  have HF:Hid (ok=false):=by
   show ok=false
   rw [Bool.eq_false_iff]
   intro e
   exact h_p (HO.out.1 e).num.p
  rw [decide_eq_false h_p]
  clear h_p
  exact af
 rw [decide_eq_true h_p]
 have H_p:Hid (2≤C.p∧C.p≤4):=h_p
 clear h_p
 go_wp2_with fail
 refine (fT _ _ _ _).mono ?_
 rintro e w' ⟨rfl,hw⟩
 rw [hw]
 clear hw w'
 by_cases h_c:1≤C.c∧C.c≤1000
 rotate_left
 ·
  have HF:Hid (ok=false):=by
   show ok=false
   rw [Bool.eq_false_iff]
   intro e
   exact h_c (HO.out.1 e).num.c
  rw [decide_eq_false h_c]
  clear h_c
  exact af
 rw [decide_eq_true h_c]
 have H_c:Hid (1≤C.c∧C.c≤1000):=h_c
 clear h_c
 go_wp2_with fail
 refine (fT _ _ _ _).mono ?_
 rintro e w' ⟨rfl,hw⟩
 rw [hw]
 clear hw w'
 by_cases h_xo:1≤C.xo∧C.xo≤1000
 rotate_left
 ·
  have HF:Hid (ok=false):=by
   show ok=false
   rw [Bool.eq_false_iff]
   intro e
   exact h_xo (HO.out.1 e).num.xo
  rw [decide_eq_false h_xo]
  clear h_xo
  exact af
 rw [decide_eq_true h_xo]
 have H_xo:Hid (1≤C.xo∧C.xo≤1000):=h_xo
 have h_xo1:=h_xo.1
 have h_xo2:=h_xo.2
 clear h_xo
 go_wp2_with fail
 refine (fT _ _ _ _).mono ?_
 rintro e w' ⟨rfl,hw⟩
 rw [hw]
 clear hw w'
 by_cases h_xn:0≤C.xn∧C.xn≤C.xo-1
 rotate_left
 ·
  have HF:Hid (ok=false):=by
   show ok=false
   rw [Bool.eq_false_iff]
   intro e
   exact h_xn (HO.out.1 e).num.xn
  rw [decide_eq_false h_xn]
  clear h_xn
  exact af
 rw [decide_eq_true h_xn]
 have H_xn:Hid (0≤C.xn∧C.xn≤C.xo-1):=h_xn
 clear h_xn
 go_wp2_with fail
 refine (fT _ _ _ _).mono ?_
 rintro e w' ⟨rfl,hw⟩
 rw [hw]
 clear hw w'
 by_cases h_hd:0≤C.hd∧C.hd≤1000
 rotate_left
 ·
  have HF:Hid (ok=false):=by
   show ok=false
   rw [Bool.eq_false_iff]
   intro e
   exact h_hd (HO.out.1 e).num.hd
  rw [decide_eq_false h_hd]
  clear h_hd
  exact af
 rw [decide_eq_true h_hd]
 have H_hd:Hid (0≤C.hd∧C.hd≤1000):=h_hd
 clear h_hd
 go_wp2_with fail
 refine (fT _ _ _ _).mono ?_
 rintro e w' ⟨rfl,hw⟩
 rw [hw]
 clear hw w'
 by_cases h_lo:0≤C.lo∧C.lo≤1000
 rotate_left
 ·
  have HF:Hid (ok=false):=by
   show ok=false
   rw [Bool.eq_false_iff]
   intro e
   exact h_lo (HO.out.1 e).num.lo
  rw [decide_eq_false h_lo]
  clear h_lo
  exact af
 rw [decide_eq_true h_lo]
 have H_lo:Hid (0≤C.lo∧C.lo≤1000):=h_lo
 clear h_lo
 go_wp2_with fail
 refine (fT _ _ _ _).mono ?_
 rintro e w' ⟨rfl,hw⟩
 rw [hw]
 clear hw w'
 by_cases h_dl:1≤C.dl∧C.dl≤3
 rotate_left
 ·
  have HF:Hid (ok=false):=by
   show ok=false
   rw [Bool.eq_false_iff]
   intro e
   exact h_dl (HO.out.1 e).num.dl
  rw [decide_eq_false h_dl]
  clear h_dl
  exact af
 rw [decide_eq_true h_dl]
 have H_dl:Hid (1≤C.dl∧C.dl≤3):=h_dl
 clear h_dl
 have HNm:Hid C.Num:=⟨H_p.out,H_c.out,H_xo.out,H_xn.out,H_hd.out,H_lo.out,H_dl.out⟩
 have e1:IntKind.i64.wrap (2*C.dl)=2*C.dl:=mr _ (by have:=H_dl.out;omega) (by have:=H_dl.out;omega)
 have e2:IntKind.i64.wrap (2*C.dl+1)=2*C.dl+1:=mr _ (by have:=H_dl.out;omega) (by have:=H_dl.out;omega)
 have e3:IntKind.i64.wrap ((2*C.dl+1)*5)=(2*C.dl+1)*5:=mr _ (by have:=H_dl.out;omega) (by have:=H_dl.out;omega)
 have e4:IntKind.i64.wrap (C.xo+C.hd)=C.xo+C.hd:=mr _ (by have:=H_xo.out;have:=H_hd.out;omega) (by have:=H_xo.out;have:=H_hd.out;omega)
 have hpc:2≤C.p∧C.p≤4:=H_p.out
 have hp3:C.p=2∨C.p=3∨C.p=4:=by omega
 have e5:IntKind.i64.wrap (C.p*(C.xo+C.hd))=C.p*(C.xo+C.hd):=by
  have:=H_xo.out
  have:=H_hd.out
  exact aX
 have e6:IntKind.i64.wrap (C.p*(C.xo+C.hd)+C.lo)=C.p*(C.xo+C.hd)+C.lo:=by
  have:=H_xo.out
  have:=H_hd.out
  have:=H_lo.out
  exact aX
 clear hpc hp3
 by_cases hh:(2*C.dl+1)*5≤C.hd
 rotate_left
 ·
  have HF:Hid (ok=false):=by
   show ok=false
   rw [Bool.eq_false_iff]
   intro e
   have:=(HO.out.1 e).head
   omega
  have hh':decide ((2*C.dl+1)*5≤C.hd)=false:=decide_eq_false hh
  exact af
 have hh':decide ((2*C.dl+1)*5≤C.hd)=true:=decide_eq_true hh
 have HE:Hid (decide (C.p*(C.xo+C.hd)+C.lo≤C.c)=ok):=by
  rw [Hid,Bool.eq_iff_iff,HO.out]
  simp only [decide_eq_true_eq]
  exact ⟨fun h=>⟨HNm.out,by omega,h⟩,fun h=>h.sum⟩
 go_wp2_with fail
 go_ret
 exact ⟨fO HE.out,HA.out _⟩
theorem il {w wi:World} {A B:Array Value} {t s:TypeId} (h:Below (w.heap.size+2) ((w.alloc (.cells A t)).alloc (.cells B s)) wi):(∀ o,wi.cell? ⟨w.heap.size,o,none⟩=A[o]?)∧∀ o,wi.cell? ⟨w.heap.size+1,o,none⟩=B[o]?:=by
 have k1:wi.heap[w.heap.size]?=some (.cells A t (0,0)):=(h.block _ (by omega)).trans ((fY _ (by simp)).trans (fK _ _))
 have k2:wi.heap[w.heap.size+1]?=some (.cells B s (0,0)):=by
  refine (h.block _ (by omega)).trans ?_
  have:=fK (w.alloc (.cells A t)) (.cells B s)
  simpa using this
 exact ⟨fF k1,fF k2⟩
theorem iN {w wi:World} {o o':Obj} (h:Below (w.heap.size+2) ((w.alloc o).alloc o') wi):Below w.heap.size w wi :=
 (((Below.refl _ _).alloc (Nat.le_refl _) o).alloc (by simp) o').trans (h.mono (by omega))
theorem kM {w wi:World} {o o':Obj} (h:Below (w.heap.size+2) ((w.alloc o).alloc o') wi):w.heap.size+2≤wi.heap.size:=by
 have:=h.size
 simpa using this
theorem lO {w wi wj:World} {o o':Obj} (h:Below (w.heap.size+2) ((w.alloc o).alloc o') wi) (k:Below wi.heap.size wi wj):Below (w.heap.size+2) ((w.alloc o).alloc o') wj :=
 h.trans (k.mono (kM h))
theorem mP (N:Cnt) (w:World) :
  Calls Tryz.prog 217 #[.agg #[],.agg N.cells] w fun e w'=>e=.returned (.int .i64 N.lo)∧Below w.heap.size w w':=by
 have HA:Hid (∀ o o',Below w.heap.size w ((w.alloc o).alloc o')):=fun o o'=>((Below.refl _ _).alloc (Nat.le_refl _) _).alloc (by simp) _
 unfold Cnt.cells
 go_enter Tryz.func217,Tryz.ntmps217
 exact aW
theorem nM (N:Cnt) (i:Nat) (w:World) (hf:N.Fit) (hi:i<N.nU) (h:jo w N) :
  Calls Tryz.prog 220 #[.agg #[.int .i64 i],.agg N.cells] w fun e w'=>e=.returned (.int .i64 (N.u i))∧Below w.heap.size w w':=by
 have HA:Hid (∀ o o',Below w.heap.size w ((w.alloc o).alloc o')):=fun o o'=>((Below.refl _ _).alloc (Nat.le_refl _) _).alloc (by simp) _
 obtain ⟨aU,nU,cU,u,lo,aP,nP,cP,p⟩:=N
 have hi':i<nU:=hi
 have hi2:(i:Int)<nU:=by omega
 have hU:fW w aU nU fun i=>.int .i64 (u i):=h.u
 have hm:nU≤maxLen:=hf.u
 obtain ⟨g,o,rfl,hc⟩:=hU i hi'
 have hc2:∀ ob ob',((w.alloc ob).alloc ob').cell? ⟨g,o+i,none⟩=some (.int .i64 (u i)):=fun ob ob'=>((HA.out ob ob').cell (p:=⟨g,o+i,none⟩) (iI hc)).trans hc
 clear h hf hi hU hc
 unfold Cnt.cells
 go_enter Tryz.func220,Tryz.ntmps220
 exact aW
theorem lv (C:Cfg) (N:Cnt) (w:World) (hf:N.Fit) (h:jo w N) (ok:Bool) (hok:ok=true↔Cnt.Ok C N) :
  Calls Tryz.prog 45 #[.agg C.cells,.agg N.cells] w fun e w'=>e=.returned (.bool ok)∧Below w.heap.size w w':=by
 obtain ⟨b,hb⟩:=mx C.Ok
 have HO:Hid (ok=true↔Cnt.Ok C N):=hok
 have HR:Hid (jo w N):=h
 have HF:Hid N.Fit:=hf
 have HCb:Hid (b=true↔C.Ok):=hb
 have hU3:(N.nU:Int)≤9223372036854775807:=by have:=hf.u;unfold maxLen at this;omega
 have hP3:(N.nP:Int)≤9223372036854775807:=by have:=hf.p;unfold maxLen at this;omega
 have HB0:Hid (Below (w.heap.size+2) ((w.alloc (.cells #[.int .i64 C.p,.int .i64 C.c,.int .i64 C.xo,.int .i64 C.xn,.int .i64 C.hd,.int .i64 C.lo,.int .i64 C.dl] 37)).alloc (.cells #[.slice N.aU N.nU N.cU,.int .i64 N.lo,.slice N.aP N.nP N.cP] 39)) ((w.alloc (.cells #[.int .i64 C.p,.int .i64 C.c,.int .i64 C.xo,.int .i64 C.xn,.int .i64 C.hd,.int .i64 C.lo,.int .i64 C.dl] 37)).alloc (.cells #[.slice N.aU N.nU N.cU,.int .i64 N.lo,.slice N.aP N.nP N.cP] 39))):=Below.refl _ _
 clear hok h hf hb
 unfold Cfg.cells Cnt.cells
 go_enter Tryz.func45,Tryz.ntmps45
 go_wp2_with fail
 refine (qG C _ b HCb.out).mono ?_
 rintro e w1 ⟨rfl,hb1⟩
 have hB:=lO HB0.out hb1
 have cb:=(il hB).1
 have cn:=(il hB).2
 clear hb1
 cases b
 ·
  have HE:Hid (ok=false):=by
   show ok=false
   rw [Bool.eq_false_iff]
   intro e
   have:=HCb.out.2 (HO.out.1 e).c
   cases this
  have B:=iN hB
  exact aI
 have HC:Hid C.Ok:=HCb.out.1 rfl
 clear HCb
 by_cases hU:(N.nU:Int)=C.p
 rotate_left
 ·
  have HE:Hid (ok=false):=by
   show ok=false
   rw [Bool.eq_false_iff]
   intro e
   exact hU (HO.out.1 e).nU
  have hU':((N.nU:Int) != C.p)=true:=by simpa using hU
  have B:=iN hB
  clear hU
  exact aI
 have hU':((N.nU:Int) != C.p)=false:=by simpa using hU
 have HU:Hid ((N.nU:Int)=C.p):=hU
 clear hU
 by_cases hP:(N.nP:Int)=C.p
 rotate_left
 ·
  have HE:Hid (ok=false):=by
   show ok=false
   rw [Bool.eq_false_iff]
   intro e
   exact hP (HO.out.1 e).nP
  have hP':((N.nP:Int) != C.p)=true:=by simpa using hP
  have B:=iN hB
  clear hP
  exact aI
 have hP':((N.nP:Int) != C.p)=false:=by simpa using hP
 have HP:Hid ((N.nP:Int)=C.p):=hP
 clear hP
 go_wp2_with fail
 refine (fT _ _ _ _).mono ?_
 rintro e w' ⟨rfl,hw⟩
 rw [hw]
 clear hw w'
 by_cases hL:0≤N.lo∧N.lo≤C.lo
 rotate_left
 ·
  have HE:Hid (ok=false):=by
   show ok=false
   rw [Bool.eq_false_iff]
   intro e
   exact hL (HO.out.1 e).lo
  have B:=iN hB
  rw [decide_eq_false hL]
  clear hL
  exact aI
 rw [decide_eq_true hL]
 have HL:Hid (0≤N.lo∧N.lo≤C.lo):=hL
 clear hL
 go_wp2_with fail
 have e4:IntKind.i64.wrap (C.xo+C.hd)=C.xo+C.hd:=mr _ (by have:=HC.out.num.xo;have:=HC.out.num.hd;omega) (by have:=HC.out.num.xo;have:=HC.out.num.hd;omega)
 go_loopw [5] (fun i wr=>∃ k:Nat,k≤N.nU∧i=.int .i64 k∧(∀ j,j<k→0≤N.u j∧N.u j≤C.xo+C.hd)∧Below w1.heap.size w1 wr) (fun i _=>N.nU-(intOf i).toNat)
 case atStart=>exact ⟨0,Nat.zero_le _,rfl,fun j hj=>by omega,Below.refl _ _⟩
 obtain ⟨k,hk,rfl,hall,hBr⟩:=hrel
 have HA:Hid (∀ j,j<k→0≤N.u j∧N.u j≤C.xo+C.hd):=hall
 clear hall cb cn
 have hB2:=lO hB hBr
 have cb:=(il hB2).1
 have cn:=(il hB2).2
 by_cases hlt:k<N.nU
 ·
  have hlt':(k:Int)<N.nU:=by omega
  obtain ⟨g,o,ea,c0⟩:=(HR.out.u.up (iN hB2)) k hlt
  dsimp only at c0
  rw [ea] at cn
  clear ea
  have hz9:(k:Int)≤9223372036854775807:=by omega
  by_cases hz:0≤N.u k∧N.u k≤C.xo+C.hd
  ·
   go_wp2_with fail
   refine wp_region_held_drew (S:=fun w'=>(∀ o,w'.cell? ⟨w.heap.size,o,none⟩=(#[.int .i64 C.p,.int .i64 C.c,.int .i64 C.xo,.int .i64 C.xn,.int .i64 C.hd,.int .i64 C.lo,.int .i64 C.dl]:Array Value)[o]?)∧(∀ o',w'.cell? ⟨w.heap.size+1,o',none⟩=(#[.slice (some ⟨g,o,none⟩) N.nU N.cU,.int .i64 N.lo,.slice N.aP N.nP N.cP]:Array Value)[o']?)∧w'.cell? ⟨g,o+k,none⟩=some (.int .i64 (N.u k))) (by kernel_rfl) ⟨cb,cn,c0⟩ (fun hHeld=>?_)
   refine t0 ?_
   iterate 9 refine tN ?_
   refine rq1 10 (fun K hK=>?_)
   go_simp
   refine (fT _ _ _ _).mono ?_
   rintro e w' ⟨rfl,hw⟩
   rw [hw]
   clear hw w'
   rw [decide_eq_true hz]
   go_wp2_with fail
   refine hK.out _ _ ⟨cb,cn,c0⟩ (fun hHeld=>?_)
   clear hK K
   try simp only [Act.put,PZ]
   refine tN ?_
   refine dnq ?_
   have HZ:Hid (0≤N.u k∧N.u k≤C.xo+C.hd):=hz
   clear hz
   go_wp2_with fail
   go_roundw
   case rel=>exact ⟨k+1,by omega,by go_num,fun j hj=>by
    by_cases e:j=k
    ·
     subst e;exact HZ.out
    ·
     exact HA.out j (by omega),hBr.drew⟩
   case measure=>simp [intOf];omega
  have HE:Hid (ok=false):=by
   show ok=false
   rw [Bool.eq_false_iff]
   intro e
   exact hz ((HO.out.1 e).u k hlt)
  go_wp2_with fail
  refine wp_region_held_drew (S:=fun w'=>(∀ o,w'.cell? ⟨w.heap.size,o,none⟩=(#[.int .i64 C.p,.int .i64 C.c,.int .i64 C.xo,.int .i64 C.xn,.int .i64 C.hd,.int .i64 C.lo,.int .i64 C.dl]:Array Value)[o]?)∧(∀ o',w'.cell? ⟨w.heap.size+1,o',none⟩=(#[.slice (some ⟨g,o,none⟩) N.nU N.cU,.int .i64 N.lo,.slice N.aP N.nP N.cP]:Array Value)[o']?)∧w'.cell? ⟨g,o+k,none⟩=some (.int .i64 (N.u k))) (by kernel_rfl) ⟨cb,cn,c0⟩ (fun hHeld=>?_)
  refine t0 ?_
  iterate 9 refine tN ?_
  refine rq1 10 (fun K hK=>?_)
  go_simp
  refine (fT _ _ _ _).mono ?_
  rintro e w' ⟨rfl,hw⟩
  rw [hw]
  clear hw w'
  rw [decide_eq_false hz]
  go_wp2_with fail
  refine hK.out _ _ ⟨cb,cn,c0⟩ (fun hHeld=>?_)
  clear hK K
  try simp only [Act.put,PZ]
  refine tN ?_
  refine dnq ?_
  have B:=(iN hB2).drew
  exact aI
 obtain rfl:k=N.nU:=by omega
 have HT:Hid (ok=true):=HO.out.2 ⟨HC.out,HU.out,HP.out,HL.out,HA.out⟩
 have B:=iN hB2
 go_wp2_with fail
 go_ret
 exact ⟨fO HT.out.symm,B⟩
theorem yL {w wi:World} {o o':Obj} (h:Below (w.heap.size+2) ((w.alloc o).alloc o') wi):wi.heap[w.heap.size]?=some o∧wi.heap[w.heap.size+1]?=some o':=by
 refine ⟨(h.block _ (by omega)).trans ((fY _ (by simp)).trans (fK _ _)),(h.block _ (by omega)).trans ?_⟩
 have:=fK (w.alloc o) o'
 simpa using this
def xX:Cnt:=⟨none,0,0,fun _=>0,0,none,0,0,fun _=>false⟩
theorem oI (w:World) (base:Nat):gV w base xX:=⟨.inl rfl,.inl rfl⟩
def mc (W:World) (g:Nat) (a b c:Value):World:=((W.setCell ⟨g,0,none⟩ a).setCell ⟨g,1,none⟩ b).setCell ⟨g,2,none⟩ c
theorem ja {W:World} {g:Nat} {x y z:Value} {t:TypeId} (h:W.heap[g]?=some (.cells #[x,y,z] t (0,0))) (a b c:Value):(mc W g a b c).heap[g]?=some (.cells #[a,b,c] t (0,0)):=gv (gv (gv h _) _) _
theorem ie (W:World) (g:Nat) (a b c:Value):Touch [g] W (mc W g a b c):=(((Touch.refl _ _).set (by simp) 0 a).set (by simp) 1 b).set (by simp) 2 c
end Go.Proofs.YtjaobmbcmjgjgaaGreatDoor
