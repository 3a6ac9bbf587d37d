import Derived.Test.YtfcfpkibceepgaaGreatS00
import Derived.Below
import Derived.LoopIn
import Derived.LoopNIn
import Derived.OwnWalkIn
import Derived.RangeFuncBound
import Derived.RangeFuncCalls
import Derived.RangeFuncLeaves
import Derived.RangeFuncNested
import Derived.Shelf.Abstract
import Derived.Shelf.RegionOpen
import Derived.TacticsInMore
import Derived.WalkKit
import Derived.WalkLawsBesides
import Derived.WalkSpells
namespace Go.Proofs.YtfcfpkibceepgaaGreat
set_option maxRecDepth 100000
set_option maxHeartbeats 4000000
open Go.RowKit
set_option linter.unusedVariables false
set_option linter.unusedSimpArgs false
theorem ak {p:Prop} (h:p:=by
 refine AllReadyIn.cons rfl (fun K hK=>?_) AllReadyIn.nil
 go_simp
 refine hK _ _ ?_
 clear hK K
 try simp only [Act.put,PZ]
 refine jf (i:=13) (some 26) (v:=?_) hro rfl rfl (by kernel_rfl) (by kernel_rfl) (by kernel_rfl) (fun _ _ _ h=>h) (by kernel_rfl) ?_ (fun _=>rfl) ?_
 rotate_left
 · exact ar
 try simp only [Act.put,PZ]
 refine wpAnyIn_ready (rs:=[14]) (by kernel_rfl) (by simp) ?_
 refine AllReadyIn.cons rfl (fun K hK=>?_) AllReadyIn.nil
 go_simp
 refine hR.mono ?_
 rintro e W3 (⟨rfl,hJ3,hk3⟩ | ⟨rfl,hJx3⟩)
 ·
  refine hK _ _ ?_
  clear hK K
  try simp only [Act.put,PZ]
  refine jf (i:=15) (some 28) (v:=?_) hro rfl rfl (by kernel_rfl) (by kernel_rfl) (by kernel_rfl) (fun _ _ _ h=>h) (by kernel_rfl) ?_ (fun _=>rfl) ?_
  rotate_left
  · exact ar
  try simp only [Act.put,PZ]
  refine wpAnyIn_done (by kernel_rfl) ?_ _
  gi_wp2
  go_roundw
  case rel=>exact ⟨k+1,hlt2,by go_num,hB.drew.trans hk3,hJ3⟩
  case measure=>simp [intOf];omega
 refine hK _ _ ?_
 clear hK K
 try simp only [Act.put,PZ]
 refine jf (i:=15) (some 28) (v:=?_) hro rfl rfl (by kernel_rfl) (by kernel_rfl) (by kernel_rfl) (fun _ _ _ h=>h) (by kernel_rfl) ?_ (fun _=>rfl) ?_
 rotate_left
 · exact ar
 try simp only [Act.put,PZ]
 refine wpAnyIn_done (by kernel_rfl) ?_ _
 gi_wp2
 refine bodyPost_ret (results_none rfl _ _ _) rfl ?_
 exact ⟨⟨_,rfl⟩,.inr ⟨_,⟨k+1,hlt2,rfl⟩,hJx3⟩⟩):p:=h
theorem an {p:Prop} (h:p:=by
 have HC2:Hid (okc=true↔qc (R.q x.1) (R.d x.1) (R.L x.1) (R.z x.1) false):=by have hh:=HC.out;rw [hbg] at hh;exact hh
 clear hbg
 cases okc
 ·
  have HCf:Hid (¬ qc (R.q x.1) (R.d x.1) (R.L x.1) (R.z x.1) (R.begun x.1)):=fun hh=>by have:=HC.out.2 hh;simp at this
  gi_wp2_with (gi_at_call 149;refine (CallsIn.inRound l (callsIn_wide.2 (lC (R.q x.1) (R.d x.1) (R.A x.1) (R.L x.1) (R.C x.1) (R.z x.1) false W HLn.out HRd.out false HC2.out))).mono ?_;rintro e W2 ⟨rfl,hb2⟩;have cR2:=(hb2.cell (p:=⟨w.heap.size+1,0,none⟩) hl2).trans i4;have fR2:=(hb2.frozen (p:=⟨w.heap.size+1,0,none⟩) hl2).trans i5)
  exact aC
 have HCt:Hid (qc (R.q x.1) (R.d x.1) (R.L x.1) (R.z x.1) (R.begun x.1)):=HC.out.1 rfl
 gi_wp2_with (gi_at_call 149;refine (CallsIn.inRound l (callsIn_wide.2 (lC (R.q x.1) (R.d x.1) (R.A x.1) (R.L x.1) (R.C x.1) (R.z x.1) false W HLn.out HRd.out true HC2.out))).mono ?_;rintro e W2 ⟨rfl,hb2⟩;have cR2:=(hb2.cell (p:=⟨w.heap.size+1,0,none⟩) hl2).trans i4;have fR2:=(hb2.frozen (p:=⟨w.heap.size+1,0,none⟩) hl2).trans i5)
 exact aB):p:=h
theorem ao {p:Prop} (h:p:=by
 try simp only [Act.put,PZ]
 refine wpAnyIn_ready (rs:=[7,12]) (by kernel_rfl) (by simp) ?_
 refine AllReadyIn.cons rfl (fun K hK=>?_) (AllReadyIn.cons rfl (fun K hK=>?_) AllReadyIn.nil)
 ·
  go_simp
  refine hK _ _ ?_
  clear hK K
  exact aF
 go_simp
 refine hK _ _ ?_
 clear hK K
 exact aI):p:=h
theorem ar {p:Prop} (h:p:=by
 intro wx
 go_simp
 try with_reducible rfl):p:=h
theorem aw {p:Prop} (h:p:=by
 gi_wp2
 exact ⟨.bool false,by simp [results,Tryz.results129,go_sem],fQ HE.out.symm,B0⟩):p:=h
theorem ay {p:Prop} (h:p:=by
 go_enter Tryz.func149,Tryz.ntmps149
 go_wp2_with fail
 go_ret
 exact ⟨fQ HE.out.symm,HA.out _⟩):p:=h
theorem aA {p:Prop} (h:p:=by
 go_wp2
 go_ret
 exact ⟨by simp;omega,rfl⟩):p:=h
theorem aB {p:Prop} (h:p:=by
 exact ⟨pC hb2 _,hb2.mono i6,fun y hy=>by
  rcases List.mem_append.1 hy with hy | hy
  ·
   exact i1 y hy
  ·
   simp at hy;rw [hy];exact HCt.out,(hb2.cell (p:=⟨w.heap.size,2,none⟩) hl0).trans i2,(hb2.cell (p:=⟨w.heap.size,3,none⟩) hl0).trans i3,cR2,fR2,Nat.le_trans i6 hb2.size,i7.trans (hb2.mono i7.size)⟩):p:=h
theorem aC {p:Prop} (h:p:=by
 exact ⟨(pC hb2 _).trans ((KeepsOthers.setCell _ _ _).from _),rfl,⟨x,by simp,HCf.out⟩,World.cell?_setCell_same' _ _ _ (by rw [cR2];rfl),(i7.trans (hb2.mono i7.size)).setCell (by show _≤_+1;omega) _⟩):p:=h
theorem aF {p:Prop} (h:p:=by
 try simp only [Act.put,PZ]
 refine wpAnyIn_ready (rs:=[12]) (by kernel_rfl) (by simp) ?_
 exact ak):p:=h
theorem aI {p:Prop} (h:p:=by
 try simp only [Act.put,PZ]
 refine wpAnyIn_ready (rs:=[7]) (by kernel_rfl) (by simp) ?_
 exact ak):p:=h
theorem lC (q d:Int) (a:Option Addr) (n cap:Nat) (z:Nat→Int) (b:Bool) (w:World) (hn:n≤maxLen) (h:fY w a n fun j=>.int .i64 (z j)) (ok:Bool) (hok:ok=true↔qc q d n z b) :
  Calls Tryz.prog 149 #[.agg #[.int .i64 q,.int .i64 d,.slice a n cap],.bool b] w fun e w'=>e=.returned (.bool ok)∧Below w.heap.size w w':=by
 have HO:Hid (ok=true↔qc q d n z b):=hok
 have HR:Hid (fY w a n fun j=>.int .i64 (z j)):=h
 have HA:Hid (∀ ob,Below w.heap.size w (w.alloc ob)):=fun ob=>(Below.refl _ _).alloc (Nat.le_refl _) _
 have HF:Hid (¬ qc q d n z b→ok=false):=fun hh=>by
  rw [Bool.eq_false_iff]
  intro e
  exact hh (HO.out.1 e)
 clear h hok
 by_cases h1:1≤q
 ·
  by_cases h2:q≤10
  ·
   obtain ⟨ok1,hok1⟩:=vq (kO n z)
   obtain ⟨ok2,hok2⟩:=vq (n7 q d n b)
   have H1:Hid (ok1=true↔kO n z):=hok1
   have H2:Hid (ok2=true↔n7 q d n b):=hok2
   clear hok1 hok2
   have kX:=fL w (.cells #[.int .i64 q,.int .i64 d,.slice a n cap] 196)
   go_enter Tryz.func149,Tryz.ntmps149
   go_wp2_with fail
   refine (u6 a n cap z _ hn (HR.out.up (HA.out _)) ok1 H1.out).mono ?_
   rintro e w1 ⟨rfl,hS⟩
   have B1:=(HA.out _).trans (hS.below _)
   have cX:=fun o=>(hS.cell ⟨w.heap.size,o,none⟩).trans (fG kX o)
   clear hS kX
   cases ok1
   ·
    have HE:Hid (ok=false):=HF.out (fun hh=>by have:=H1.out.2 hh.2.1;simp at this)
    go_wp2_with fail
    go_ret
    exact ⟨fQ HE.out.symm,B1⟩
   have HS1:Hid (kO n z):=H1.out.1 rfl
   go_wp2_with fail
   refine (sd q d a n cap b _ hn h1 h2 ok2 H2.out).mono ?_
   rintro e w2 ⟨rfl,hb2⟩
   have B2:=B1.trans (hb2.mono B1.size)
   have HE:Hid (ok2=ok):=by
    rw [Hid,Bool.eq_iff_iff,HO.out,H2.out]
    exact ⟨fun hh=>⟨⟨h1,h2⟩,HS1.out,hh⟩,fun hh=>hh.2.2⟩
   clear hb2 B1 cX
   go_wp2_with fail
   go_ret
   exact ⟨fQ HE.out,B2⟩
  have HE:Hid (ok=false):=HF.out (fun hh=>h2 hh.1.2)
  exact ay
 have HE:Hid (ok=false):=HF.out (fun hh=>h1 hh.1.1)
 exact ay
theorem pE (R:Rnd) (c:Int) (w:World) (hf:R.Fit) :
  Calls Tryz.prog 147 #[.agg R.cells,.int .i64 c] w fun e w'=>e=.returned (.bool (decide (0≤c∧c<R.nQ)))∧Below w.heap.size w w':=by
 have hm:(R.nQ:Int)≤9223372036854775807:=by have:=hf.q;unfold maxLen at this;omega
 have HA:Hid (∀ ob,Below w.heap.size w (w.alloc ob)):=fun ob=>(Below.refl _ _).alloc (Nat.le_refl _) _
 have hw:IntKind.i64.wrap (R.nQ:Int)=(R.nQ:Int):=nB _ (by omega) (by omega)
 unfold Rnd.cells
 by_cases h1:0≤c
 ·
  go_enter Tryz.func147,Tryz.ntmps147
  go_wp2_with fail
  go_ret
  exact ⟨fQ (by simp [h1]),HA.out _⟩
 go_enter Tryz.func147,Tryz.ntmps147
 go_wp2_with fail
 go_ret
 exact ⟨fQ (by simp;omega),HA.out _⟩
theorem pL (R:Rnd) (w:World) :
  Calls Tryz.prog 148 #[.agg R.cells] w fun e w'=>e=.returned (.func (.func 156) #[] #[.pointer (some ⟨w.heap.size,0,none⟩)])∧w'=w.alloc (.cells R.cells 100):=by
 unfold Rnd.cells
 go_enter Tryz.func148,Tryz.ntmps148
 go_wp2_with fail
 go_ret
 exact ⟨rfl,rfl⟩
open Go.RowKit Go.Shelf
attribute [local go_sem] Oper.semAt_some
section
variable {P : Program} {ops : Array Oper} {Q : Exit → Act → World → Prop} {md : Region.Mode} {F : Fence} {n : Nat}
theorem jf {i:Nat} (d:Option Tmp) {oi:Oper} {v:Value} {fuel:Nat} {listed:Array Bool} {a:Act} {w:World} (hro:F.round=none) (hi:ops[i]?=some oi) (hd:oi.dst=d)
  (hs:Region.noSelect ops=true) (hf:Region.free md ops listed i=true) (hr:(Region.ready md ops listed).contains i=true)
  (hQ:∀ c a w,Q (.panic c) (a.put d v) w→Q (.panic c) a w) (hw:Region.wanted oi (yielded ops a.tmps)=true) (hy:∀ w,(execOp a.eval oi).run P w=.ok (.value v) w) (hab:∀ w,oi.about P w a.eval=none)
  (h:wpAnyIn F n P md ops Q fuel (listed.setIfInBounds i true) (a.put d v) w):wpAnyIn F n P md ops Q (fuel+1) listed a w:=by
 subst hd
 exact wpAnyIn_take hro hi hs hf hr hQ ⟨Or.inl ⟨hw,hy⟩,hab⟩ h
end
def Db (R:Rnd) (x:{ i:Nat // i<R.nQ }):Array Value:=#[.int .i64 ((x.1:Nat):Int),.agg #[.int .i64 (R.q x.1),.int .i64 (R.d x.1),.slice (R.A x.1) (R.L x.1) (R.C x.1)]]
def Ax (n:Nat):(k:Nat)→k≤n→List { i:Nat // i<n }
 | 0,_=>[]
 | k+1,h=>Ax n k (Nat.le_of_succ_le h)++[⟨k,h⟩]
theorem wD (n:Nat):∀ (k:Nat) (h:k≤n),(Ax n k h).length=k
 | 0,_=>rfl
 | k+1,h=>by simp [Ax,wD n k]
theorem qN (n:Nat):∀ (k:Nat) (h:k≤n) (i:Nat) (hi:i<k),(⟨i,Nat.lt_of_lt_of_le hi h⟩:{ i:Nat // i<n })∈Ax n k h
 | k+1,h,i,hi=>by
  unfold Ax
  by_cases e:i=k
  ·
   subst e;simp
  exact List.mem_append_left _ (qN n k (Nat.le_of_succ_le h) i (by omega))
structure ye (w:World) (b:Nat) (R:Rnd):Prop where
 box:∀ o,w.cell? ⟨b,o,none⟩=R.cells[o]?
 rd:iY w R
theorem nr (F:Fence) (n:Nat) (h45:F.fn 156) (hro:F.round=none) (hn:1≤n) (R:Rnd) (hf:R.Fit) (hD:R.nQ≤R.nD) (hS:R.nQ≤R.nS) (b:Nat) (w:World) (hT:ye w b R) (hlt:∀ W,Below w.heap.size w W→ye W b R) :
  SeqStopsK F n Tryz.prog 156 #[.pointer (some ⟨b,0,none⟩)] (Db R) (Below w.heap.size) (fun xs=>xs=Ax R.nQ R.nQ (Nat.le_refl _)) (fun pre=>∃ k,∃ h:k≤R.nQ,pre=Ax R.nQ k h) R.nQ w:=fun l J Jx W hW hJ hJx hY h0=>by
 obtain ⟨aQ,nQ,cQ,q,aD,nD,cD,d,turn,fresh,aS,nS,cS,A,L,C,z⟩:=R
 have hfq:nQ≤maxLen:=hf.q
 dsimp only at hD hS hY ⊢
 clear hf hT
 refine callsIn_of_wp Tryz.func156 rfl h45 ?_ hro
 simp only [Tryz.ntmps156,List.size_toArray,List.length_cons,List.length_nil,Nat.reduceAdd,Nat.reduceSub,Array.replicate_succ,Array.replicate_zero,List.push_toArray,List.append_toArray,List.nil_append,List.cons_append]
 have hm:(nQ:Int)≤9223372036854775807:=by unfold maxLen at hfq;omega
 have hTW:=hlt W hW
 have cb:=hTW.box
 unfold Rnd.cells at cb
 gi_wp2
 gi_loopw [8] (fun i wr=>∃ (k:Nat) (h:k≤nQ),i=.int .i64 k∧Below w.heap.size w wr∧J (Ax nQ k h) wr) (fun i _=>nQ-(intOf i).toNat)
 case atStart=>exact ⟨0,Nat.zero_le _,rfl,hW,h0⟩
 obtain ⟨k,hk,rfl,hB,hJk⟩:=hrel
 clear cb hTW
 by_cases hlt2:k<nQ
 ·
  have hlt':(k:Int)<nQ:=by omega
  have hltD:(k:Int)<nD:=by omega
  have hltS:(k:Int)<nS:=by omega
  have hTr:=hlt wr hB
  have cb:=hTr.box
  unfold Rnd.cells at cb
  obtain ⟨gq,oq,rfl,cq⟩:=hTr.rd.q k hlt2
  obtain ⟨gd,od,rfl,cd⟩:=hTr.rd.d k (by show k<nD;omega)
  obtain ⟨gs,os,rfl,cs⟩:=hTr.rd.s k (by show k<nS;omega)
  dsimp only at cq cd cs cb
  obtain ⟨fn,tmps,assign,body,hy,hR⟩:=hY (Ax nQ k hk) ⟨k,hlt2⟩ wr.drew (hJ _ _ _ none hJk ⟨rfl,rfl,rfl,Nat.le_refl _,fun _ _ _=>rfl⟩ (fun r e=>by cases e)) (by rw [wD];exact hlt2)
  dsimp only [Db] at hy
  clear hlt hTr hY
  gi_wp2
  refine wpIn_region_any (by kernel_rfl) ?_
  refine jf (i:=0) (some 13) (v:=?_) hro rfl rfl (by kernel_rfl) (by kernel_rfl) (by kernel_rfl) (fun _ _ _ h=>h) (by kernel_rfl) ?_ (fun _=>rfl) ?_
  rotate_left
  · exact ar
  try simp only [Act.put,PZ]
  refine jf (i:=1) (some 14) (v:=?_) hro rfl rfl (by kernel_rfl) (by kernel_rfl) (by kernel_rfl) (fun _ _ _ h=>h) (by kernel_rfl) ?_ (fun _=>rfl) ?_
  rotate_left
  · exact ar
  try simp only [Act.put,PZ]
  refine jf (i:=2) (some 15) (v:=?_) hro rfl rfl (by kernel_rfl) (by kernel_rfl) (by kernel_rfl) (fun _ _ _ h=>h) (by kernel_rfl) ?_ (fun _=>rfl) ?_
  rotate_left
  · exact ar
  try simp only [Act.put,PZ]
  refine jf (i:=3) (some 16) (v:=?_) hro rfl rfl (by kernel_rfl) (by kernel_rfl) (by kernel_rfl) (fun _ _ _ h=>h) (by kernel_rfl) ?_ (fun _=>rfl) ?_
  rotate_left
  · exact ar
  try simp only [Act.put,PZ]
  refine jf (i:=5) (some 18) (v:=?_) hro rfl rfl (by kernel_rfl) (by kernel_rfl) (by kernel_rfl) (fun _ _ _ h=>h) (by kernel_rfl) ?_ (fun _=>rfl) ?_
  rotate_left
  · exact ar
  try simp only [Act.put,PZ]
  refine jf (i:=8) (some 21) (v:=?_) hro rfl rfl (by kernel_rfl) (by kernel_rfl) (by kernel_rfl) (fun _ _ _ h=>h) (by kernel_rfl) ?_ (fun _=>rfl) ?_
  rotate_left
  · exact ar
  try simp only [Act.put,PZ]
  refine jf (i:=10) (some 23) (v:=?_) hro rfl rfl (by kernel_rfl) (by kernel_rfl) (by kernel_rfl) (fun _ _ _ h=>h) (by kernel_rfl) ?_ (fun _=>rfl) ?_
  rotate_left
  · exact ar
  try simp only [Act.put,PZ]
  refine wpAnyIn_ready (rs:=[4,9]) (by kernel_rfl) (by simp) ?_
  refine AllReadyIn.cons rfl (fun K hK=>?_) (AllReadyIn.cons rfl (fun K hK=>?_) AllReadyIn.nil)
  ·
   go_simp
   refine hK _ _ ?_
   clear hK K
   try simp only [Act.put,PZ]
   refine jf (i:=6) (some 19) (v:=?_) hro rfl rfl (by kernel_rfl) (by kernel_rfl) (by kernel_rfl) (fun _ _ _ h=>h) (by kernel_rfl) ?_ (fun _=>rfl) ?_
   rotate_left
   · exact ar
   try simp only [Act.put,PZ]
   refine wpAnyIn_ready (rs:=[7,9]) (by kernel_rfl) (by simp) ?_
   refine AllReadyIn.cons rfl (fun K hK=>?_) (AllReadyIn.cons rfl (fun K hK=>?_) AllReadyIn.nil)
   ·
    go_simp
    refine hK _ _ ?_
    clear hK K
    try simp only [Act.put,PZ]
    refine wpAnyIn_ready (rs:=[9]) (by kernel_rfl) (by simp) ?_
    refine AllReadyIn.cons rfl (fun K hK=>?_) AllReadyIn.nil
    go_simp
    refine hK _ _ ?_
    clear hK K
    try simp only [Act.put,PZ]
    refine jf (i:=11) (some 24) (v:=?_) hro rfl rfl (by kernel_rfl) (by kernel_rfl) (by kernel_rfl) (fun _ _ _ h=>h) (by kernel_rfl) ?_ (fun _=>rfl) ?_
    rotate_left
    · exact ar
    exact aF
   go_simp
   refine hK _ _ ?_
   clear hK K
   try simp only [Act.put,PZ]
   refine jf (i:=11) (some 24) (v:=?_) hro rfl rfl (by kernel_rfl) (by kernel_rfl) (by kernel_rfl) (fun _ _ _ h=>h) (by kernel_rfl) ?_ (fun _=>rfl) ?_
   rotate_left
   · exact ar
   exact ao
  go_simp
  refine hK _ _ ?_
  clear hK K
  try simp only [Act.put,PZ]
  refine jf (i:=11) (some 24) (v:=?_) hro rfl rfl (by kernel_rfl) (by kernel_rfl) (by kernel_rfl) (fun _ _ _ h=>h) (by kernel_rfl) ?_ (fun _=>rfl) ?_
  rotate_left
  · exact ar
  try simp only [Act.put,PZ]
  refine wpAnyIn_ready (rs:=[4,12]) (by kernel_rfl) (by simp) ?_
  refine AllReadyIn.cons rfl (fun K hK=>?_) (AllReadyIn.cons rfl (fun K hK=>?_) AllReadyIn.nil)
  ·
   go_simp
   refine hK _ _ ?_
   clear hK K
   try simp only [Act.put,PZ]
   refine jf (i:=6) (some 19) (v:=?_) hro rfl rfl (by kernel_rfl) (by kernel_rfl) (by kernel_rfl) (fun _ _ _ h=>h) (by kernel_rfl) ?_ (fun _=>rfl) ?_
   rotate_left
   · exact ar
   exact ao
  go_simp
  refine hK _ _ ?_
  clear hK K
  try simp only [Act.put,PZ]
  refine wpAnyIn_ready (rs:=[4]) (by kernel_rfl) (by simp) ?_
  refine AllReadyIn.cons rfl (fun K hK=>?_) AllReadyIn.nil
  go_simp
  refine hK _ _ ?_
  clear hK K
  try simp only [Act.put,PZ]
  refine jf (i:=6) (some 19) (v:=?_) hro rfl rfl (by kernel_rfl) (by kernel_rfl) (by kernel_rfl) (fun _ _ _ h=>h) (by kernel_rfl) ?_ (fun _=>rfl) ?_
  rotate_left
  · exact ar
  exact aI
 obtain rfl:k=nQ:=by omega
 gi_wp2
 go_end0
 exact ⟨⟨_,rfl⟩,.inl ⟨_,rfl,hJk⟩⟩
attribute [local go_sem] Oper.semAt_some
theorem pC {W W2:World} (hb:Below W.heap.size W W2) (B:Nat):KeepsFrom B W W2 :=
 ⟨hb.size,fun k o _ hk _=>(hb.block k (fH hk)).trans hk⟩
theorem kn (R:Rnd) (w:World) (hf:R.Fit) (h:iY w R) (ok:Bool) (hok:ok=true↔R.Ok) :
  Calls Tryz.prog 129 #[.agg R.cells] w fun e w'=>e=.returned (.bool ok)∧Below w.heap.size w w':=by
 have HR:Hid (iY w R):=h
 have HF:Hid (¬ R.Ok→ok=false):=fun hh=>by
  rw [Bool.eq_false_iff]
  intro e
  exact hh (hok.1 e)
 have HO:Hid (ok=true↔R.Ok):=hok
 have HFit:Hid R.Fit:=hf
 have hq:=hf.q
 have hd:=hf.d
 have hs:=hf.s
 unfold maxLen at hq hd hs
 clear h hok hf
 refine (callsIn_wide (n:=8)).1 ?_
 refine callsIn_of_wp_marks Tryz.func129 rfl trivial ?_ rfl
 simp only [Tryz.ntmps129,List.size_toArray,List.length_cons,List.length_nil,Nat.reduceAdd,Nat.reduceSub,Array.replicate_succ,Array.replicate_zero,List.push_toArray,List.append_toArray,List.nil_append,List.cons_append]
 unfold Rnd.cells
 have B0:Below w.heap.size w ((w.alloc (.cells R.cells 100)).alloc (.cells #[.bool false] 4)):=((Below.refl _ _).alloc (Nat.le_refl _) _).alloc (by simp) _
 have f32:Fence.wide.fn 147:=trivial
 have f33:Fence.wide.fn 148:=trivial
 have f34:Fence.wide.fn 149:=trivial
 by_cases h1:R.nQ<1
 ·
  have h1':(R.nQ:Int)<1:=by omega
  have HE:Hid (ok=false):=HF.out (fun hh=>by have:=hh.n;omega)
  exact aw
 have h1':¬ (R.nQ:Int)<1:=by omega
 by_cases h2:4<R.nQ
 ·
  have h2':(4:Int)<R.nQ:=by omega
  have HE:Hid (ok=false):=HF.out (fun hh=>by have:=hh.n;omega)
  exact aw
 have h2':¬ (4:Int)<R.nQ:=by omega
 have H12:Hid (1≤R.nQ∧R.nQ≤4):=by show _∧_;omega
 clear h1 h2
 by_cases h3:R.nD=R.nQ
 rotate_left
 ·
  have h3':((R.nD:Int) != (R.nQ:Int))=true:=by simp;omega
  have HE:Hid (ok=false):=HF.out (fun hh=>h3 hh.d)
  clear h3
  exact aw
 have h3':((R.nD:Int) != (R.nQ:Int))=false:=by simp [h3]
 have H3:Hid (R.nD=R.nQ):=h3
 clear h3
 by_cases h4:R.nS=R.nQ
 rotate_left
 ·
  have h4':((R.nS:Int) != (R.nQ:Int))=true:=by simp;omega
  have HE:Hid (ok=false):=HF.out (fun hh=>h4 hh.s)
  clear h4
  exact aw
 have h4':((R.nS:Int) != (R.nQ:Int))=false:=by simp [h4]
 have H4:Hid (R.nS=R.nQ):=h4
 clear h4
 have kB:=gg (.cells #[.bool false] 4) (show w.heap.size<(w.alloc (.cells R.cells 100)).heap.size by simp)
 rw [fL] at kB
 have kR:=fL (w.alloc (.cells R.cells 100)) (.cells #[.bool false] 4)
 have eS:(w.alloc (.cells R.cells 100)).heap.size=w.heap.size+1:=by simp
 rw [eS] at kR
 have e2:((w.alloc (.cells R.cells 100)).alloc (.cells #[.bool false] 4)).heap.size=w.heap.size+1+1:=by simp
 have HK:Hid (((w.alloc (.cells R.cells 100)).alloc (.cells #[.bool false] 4)).heap[w.heap.size]?=some (.cells R.cells 100 (0,0))∧((w.alloc (.cells R.cells 100)).alloc (.cells #[.bool false] 4)).heap[w.heap.size+1]?=some (.cells #[.bool false] 4 (0,0))):=⟨kB,kR⟩
 clear kB kR
 by_cases h5:0≤R.turn∧R.turn<R.nQ
 rotate_left
 ·
  have HE:Hid (ok=false):=HF.out (fun hh=>h5 hh.t)
  gi_wp2_with (gi_at_call 147;refine (callsIn_wide.2 (pE R R.turn _ HFit.out)).mono ?_;rintro e w1 ⟨rfl,hb1⟩;rw [decide_eq_false h5];have B1:=B0.trans (hb1.mono B0.size);have kR1:=(hb1.block (w.heap.size+1) (by rw [←Rnd.cells,e2];omega)).trans HK.out.2;have cR:=fG kR1;have fR:=fX kR1;clear h5 hb1 B0)
  have cS:=fG (gj (i:=0) kR1 (.bool false)) 0
  exact ⟨.bool false,by simp [results,Tryz.results129,go_sem,cS],fQ HE.out.symm,B1.setCell (by show _≤_+1;omega) _⟩
 gi_wp2_with (first | (gi_at_call 147;refine (callsIn_wide.2 (pE R R.turn _ HFit.out)).mono ?_;rintro e w1 ⟨rfl,hb1⟩;rw [decide_eq_true h5];have B1:=B0.trans (hb1.mono B0.size);have kR1:=(hb1.block (w.heap.size+1) (by rw [←Rnd.cells,e2];omega)).trans HK.out.2;have kB1:=(hb1.block w.heap.size (by rw [←Rnd.cells,e2];omega)).trans HK.out.1;have cB:=fG kB1;unfold Rnd.cells at cB;have H5:Hid (0≤R.turn∧R.turn<R.nQ):=h5;clear h5 hb1 B0) | (gi_at_call 148;refine (callsIn_wide.2 (pL R _)).mono ?_;rintro e w2 ⟨rfl,rfl⟩))
 have hBt:ye (w1.alloc (.cells R.cells 100)) w1.heap.size R:=⟨fun o=>fG (fL w1 (.cells R.cells 100)) o,HR.out.up (B1.alloc B1.size _)⟩
 have hcBx:w1.heap.size<(w1.alloc (.cells R.cells 100)).heap.size:=by simp
 have hTl:∀ W,Below (w1.alloc (.cells R.cells 100)).heap.size (w1.alloc (.cells R.cells 100)) W→ye W w1.heap.size R:=fun W hW =>
  ⟨fun o=>(hW.cell (p:=⟨w1.heap.size,o,none⟩) hcBx).trans (hBt.box o),hBt.rd.up hW⟩
 have hw1:=B1.size
 have hlR:=fH kR1
 have hsW:w.heap.size≤(w1.alloc (.cells R.cells 100)).heap.size:=by simp;omega
 have hc2:w1.cell? ⟨w.heap.size,2,none⟩=some (.int .i64 R.turn):=cB 2
 have hc3:w1.cell? ⟨w.heap.size,3,none⟩=some (.bool R.fresh):=cB 3
 have hcr:w1.cell? ⟨w.heap.size+1,0,none⟩=some (.bool false):=fG kR1 0
 have hfr:w1.frozen? ⟨w.heap.size+1,0,none⟩=false:=fX kR1 0
 have ho:w.heap.size<w1.heap.size:=by omega
 have hold:∀ (j:Nat) o,j<w1.heap.size→(w1.alloc (.cells R.cells 100)).cell? ⟨j,o,none⟩=w1.cell? ⟨j,o,none⟩:=fun j o hj=>World.cell?_of_block (w:=w1) (a:=⟨j,o,none⟩) (gg _ hj)
 have holdf:(w1.alloc (.cells R.cells 100)).frozen? ⟨w.heap.size+1,0,none⟩=false:=(World.frozen?_of_block (w:=w1) (a:=⟨w.heap.size+1,0,none⟩) (gg _ hlR)).trans hfr
 have HD:Hid (R.nQ≤R.nD):=by rw [Hid,H3.out];exact Nat.le_refl _
 have HS:Hid (R.nQ≤R.nS):=by rw [Hid,H4.out];exact Nat.le_refl _
 refine wpIn_rangeFunc_ownH rfl (by omega) (gf:=156) (lb:=#[.pointer (some ⟨w1.heap.size,0,none⟩)]) rfl trivial (enters_of Tryz.func156 (by kernel_rfl) rfl)
  (nr Fence.wide _ trivial rfl (by omega) R HFit.out HD.out HS.out w1.heap.size (w1.alloc (.cells R.cells 100)) hBt hTl) belowK_t (belowK_b (Nat.le_refl _)) (Below.refl _ _) (fun _=>rfl)
  (fun pre W=>(∀ x∈pre,qc (R.q x.1) (R.d x.1) (R.L x.1) (R.z x.1) (R.begun x.1))∧W.cell? ⟨w.heap.size,2,none⟩=some (.int .i64 R.turn)∧W.cell? ⟨w.heap.size,3,none⟩=some (.bool R.fresh)∧W.cell? ⟨w.heap.size+1,0,none⟩=some (.bool false)∧W.frozen? ⟨w.heap.size+1,0,none⟩=false∧(w1.alloc (.cells R.cells 100)).heap.size≤W.heap.size∧Below w.heap.size w W)
  (fun c pre W=>c=.ret∧(∃ x∈pre,¬ qc (R.q x.1) (R.d x.1) (R.L x.1) (R.z x.1) (R.begun x.1))∧W.cell? ⟨w.heap.size+1,0,none⟩=some (.bool false)∧Below w.heap.size w W)
  (fun s A B row hs hg hr=>⟨hs.1,cell_kept hs.2.1 hg (fun r e=>(hr r e).2),cell_kept hs.2.2.1 hg (fun r e=>(hr r e).2),cell_kept hs.2.2.2.1 hg (fun r e=>(hr r e).2),(frozen_kept hs.2.2.2.1 hg (fun r e=>(hr r e).2)).trans hs.2.2.2.2.1,Nat.le_trans hs.2.2.2.2.2.1 hg.size,hs.2.2.2.2.2.2.grown hg hs.2.2.2.2.2.2.size (fun k e=>Nat.le_trans hsW (hr k e).1)⟩)
  (fun c s A B row hs hg hr=>⟨hs.1,hs.2.1,cell_kept hs.2.2.1 hg (fun r e=>(hr r e).2),hs.2.2.2.grown hg hs.2.2.2.size (fun k e=>Nat.le_trans hsW (hr k e).1)⟩)
  ⟨fun x hx=>by simp at hx,(hold _ _ ho).trans hc2,(hold _ _ ho).trans hc3,(hold _ _ hlR).trans hcr,holdf,Nat.le_refl _,B1.alloc hw1 _⟩
  (fun x a' W=>∃ Bx,w.heap.size+1<Bx∧W.cell? ⟨Bx,0,none⟩=some (.int .i64 (R.q x.1))∧W.cell? ⟨Bx,1,none⟩=some (.int .i64 (R.d x.1))∧W.cell? ⟨Bx,2,none⟩=some (.slice (R.A x.1) (R.L x.1) (R.C x.1))∧a'={ tmps:=#[.agg #[.slice R.aQ R.nQ R.cQ,.slice R.aD R.nD R.cD,.int .i64 R.turn,.bool R.fresh,.slice R.aS R.nS R.cS],.pointer (some ⟨w.heap.size,0,none⟩),.pointer (some ⟨w.heap.size+1,0,none⟩),.int .i64 (R.nQ:Int),.int .i64 ((x.1:Nat):Int),.pointer (some ⟨Bx,0,none⟩),.pointer (some ⟨w.heap.size,0,none⟩),.slice R.aQ R.nQ R.cQ,.int .i64 (R.nQ:Int),.int .i64 (R.nQ:Int),.bool false,.bool false,.int .i64 (R.nQ:Int),.bool false,.bool false,.bool false,.pointer (some ⟨w.heap.size,1,none⟩),.slice R.aD R.nD R.cD,.int .i64 (R.nD:Int),.int .i64 (R.nQ:Int),.bool false,.bool false,.bool false,.pointer (some ⟨w.heap.size,4,none⟩),.slice R.aS R.nS R.cS,.int .i64 (R.nS:Int),.int .i64 (R.nQ:Int),.bool false,.bool false,.bool false,.agg #[.slice R.aQ R.nQ R.cQ,.slice R.aD R.nD R.cD,.int .i64 R.turn,.bool R.fresh,.slice R.aS R.nS R.cS],.pointer (some ⟨w.heap.size,2,none⟩),.int .i64 R.turn,.bool true,.bool false,.bool false,.agg #[.slice R.aQ R.nQ R.cQ,.slice R.aD R.nD R.cD,.int .i64 R.turn,.bool R.fresh,.slice R.aS R.nS R.cS],.func (.func 156) #[] #[.pointer (some ⟨w1.heap.size,0,none⟩)],.int .i64 ((x.1:Nat):Int),.agg #[.int .i64 (R.q x.1),.int .i64 (R.d x.1),.slice (R.A x.1) (R.L x.1) (R.C x.1)],undef,undef,undef,undef,undef,undef,undef,undef,undef,undef,undef,undef],defers:=[] })
  (fun x a' s A B row hs hg hr=>by
   obtain ⟨Bx,b1,c1,c2,c3,e⟩:=hs
   exact ⟨Bx,b1,cell_kept c1 hg (fun r e=>(hr r e).2),cell_kept c2 hg (fun r e=>(hr r e).2),cell_kept c3 hg (fun r e=>(hr r e).2),e⟩)
  ?assign ?body ?done ?stop
 case assign =>
  rintro l pre x W K ⟨i1,i2,i3,i4,i5,i6,i7⟩ hK
  have hcn:=fG (fL W (.cells #[.int .i64 (R.q x.1),.int .i64 (R.d x.1),.slice (R.A x.1) (R.L x.1) (R.C x.1)] 196))
  have hgr:=World.grownBy_alloc W (.cells #[.int .i64 (R.q x.1),.int .i64 (R.d x.1),.slice (R.A x.1) (R.L x.1) (R.C x.1)] 196) none
  have HI:Hid (∀ ob,(W.alloc ob).cell? ⟨w.heap.size,2,none⟩=some (.int .i64 R.turn)∧(W.alloc ob).cell? ⟨w.heap.size,3,none⟩=some (.bool R.fresh)∧(W.alloc ob).cell? ⟨w.heap.size+1,0,none⟩=some (.bool false)∧(W.alloc ob).frozen? ⟨w.heap.size+1,0,none⟩=false∧Below w.heap.size w (W.alloc ob)):=fun ob =>
   ⟨cell_kept i2 (World.grownBy_alloc W ob none) (fun r e=>by cases e),cell_kept i3 (World.grownBy_alloc W ob none) (fun r e=>by cases e),cell_kept i4 (World.grownBy_alloc W ob none) (fun r e=>by cases e),(frozen_kept i4 (World.grownBy_alloc W ob none) (fun r e=>by cases e)).trans i5,i7.alloc i7.size _⟩
  have hlt:w.heap.size+1<W.heap.size:=by simp at i6;omega
  unfold Db
  gi_wp2
  exact hK _ _ ((KeepsOthers.alloc _ _).from _) ((Below.refl _ W).alloc i6 _) ⟨i1,(HI.out _).1,(HI.out _).2.1,(HI.out _).2.2.1,(HI.out _).2.2.2.1,by simp at i6 ⊢;omega,(HI.out _).2.2.2.2⟩ ⟨W.heap.size,hlt,hcn 0,hcn 1,hcn 2,rfl⟩
 case body =>
  rintro l pre x a' W hl ⟨r,hr⟩ ⟨i1,i2,i3,i4,i5,i6,i7⟩ ⟨Bx,hBx,x0,x1,x2,rfl⟩ hlt
  have hl2:w.heap.size+1<W.heap.size:=by simp at i6;omega
  have hl0:w.heap.size<W.heap.size:=by omega
  obtain ⟨okc,hokc⟩:=vq (qc (R.q x.1) (R.d x.1) (R.L x.1) (R.z x.1) (R.begun x.1))
  have HC:Hid (okc=true↔qc (R.q x.1) (R.d x.1) (R.L x.1) (R.z x.1) (R.begun x.1)):=hokc
  have hxS:x.1<R.nS:=by rw [H4.out];exact x.2
  have HRd:Hid (fY W (R.A x.1) (R.L x.1) fun j=>.int .i64 (R.z x.1 j)):=(HR.out.up i7).z x.1 hxS
  have HLn:Hid (R.L x.1≤maxLen):=HFit.out.l x.1 hxS
  clear hokc hxS hTl hBt hold holdf hc2 hc3 hcr hfr
  by_cases hx:((x.1:Nat):Int)=R.turn
  ·
   have hxq:(((x.1:Nat):Int) == R.turn)=true:=by simp [hx]
   cases hfs:R.fresh
   ·
    have hbg:R.begun x.1=true:=by simp [Rnd.begun,hx,hfs]
    rw [hfs] at i3
    clear hx hfs
    have HC2:Hid (okc=true↔qc (R.q x.1) (R.d x.1) (R.L x.1) (R.z x.1) true):=by have hh:=HC.out;rw [hbg] at hh;exact hh
    clear hbg
    cases okc
    ·
     have HCf:Hid (¬ qc (R.q x.1) (R.d x.1) (R.L x.1) (R.z x.1) (R.begun x.1)):=fun hh=>by have:=HC.out.2 hh;simp at this
     gi_wp2_with (gi_at_call 149;refine (CallsIn.inRound l (callsIn_wide.2 (lC (R.q x.1) (R.d x.1) (R.A x.1) (R.L x.1) (R.C x.1) (R.z x.1) true W HLn.out HRd.out false HC2.out))).mono ?_;rintro e W2 ⟨rfl,hb2⟩;have cR2:=(hb2.cell (p:=⟨w.heap.size+1,0,none⟩) hl2).trans i4;have fR2:=(hb2.frozen (p:=⟨w.heap.size+1,0,none⟩) hl2).trans i5)
     exact aC
    have HCt:Hid (qc (R.q x.1) (R.d x.1) (R.L x.1) (R.z x.1) (R.begun x.1)):=HC.out.1 rfl
    gi_wp2_with (gi_at_call 149;refine (CallsIn.inRound l (callsIn_wide.2 (lC (R.q x.1) (R.d x.1) (R.A x.1) (R.L x.1) (R.C x.1) (R.z x.1) true W HLn.out HRd.out true HC2.out))).mono ?_;rintro e W2 ⟨rfl,hb2⟩;have cR2:=(hb2.cell (p:=⟨w.heap.size+1,0,none⟩) hl2).trans i4;have fR2:=(hb2.frozen (p:=⟨w.heap.size+1,0,none⟩) hl2).trans i5)
    exact aB
   have hbg:R.begun x.1=false:=by simp [Rnd.begun,hfs]
   rw [hfs] at i3
   clear hx hfs
   exact an
  have hxq:(((x.1:Nat):Int) == R.turn)=false:=by simp [hx]
  have hbg:R.begun x.1=false:=by simp [Rnd.begun,hx]
  clear hx
  exact an
 case done =>
  rintro D xs W hD rfl ⟨i1,i2,i3,i4,i5,i6,i7⟩ hK
  have HT:Hid (ok=true):=HO.out.2 ⟨H12.out,H3.out,H4.out,H5.out,fun i hi=>i1 ⟨i,hi⟩ (qN _ _ _ i hi)⟩
  have hK':=(KeepsOthers.setCell W ⟨w.heap.size+1,0,none⟩ (.bool true)).same D _ hK rfl
  have hc5:=cell_kept (World.cell?_setCell_same' W ⟨w.heap.size+1,0,none⟩ (.bool true) (by rw [i4];rfl)) (grownBy_putObj' _ D (.deferred none)) (fun r e=>by cases e;exact ⟨_,hK',rfl⟩)
  have hBe:Below w.heap.size w ((W.setCell ⟨w.heap.size+1,0,none⟩ (.bool true)).putObj D (.deferred none)):=(i7.setCell (p:=⟨w.heap.size+1,0,none⟩) (by show _≤_+1;omega) _).trans (belowK_b (w:=w) (Nat.le_refl _) _ D _ _ (Nat.le_trans hsW hD) hK' rfl rfl)
  clear hTl hBt hold holdf hc2 hc3 hcr hfr
  gi_wp2
  refine ⟨by simp,.inl ⟨_,_,rfl,run_takeDeferred hK',?_⟩⟩
  exact ⟨.bool true,by simp [results,Tryz.results129,go_sem,hc5],fQ HT.out.symm,hBe⟩
 rintro D c pre W hD hSp ⟨rfl,⟨x,hx,hn⟩,i4,i7⟩ hK
 have HE:Hid (ok=false):=HF.out (fun hh=>hn (hh.c x.1 x.2))
 have hc5:=cell_kept i4 (grownBy_putObj' _ D (.deferred none)) (fun r e=>by cases e;exact ⟨_,hK,rfl⟩)
 have hBe:Below w.heap.size w (W.putObj D (.deferred none)):=i7.trans (belowK_b (w:=w) (Nat.le_refl _) _ D _ _ (Nat.le_trans hsW hD) hK rfl rfl)
 clear hTl hBt hold holdf hc2 hc3 hcr hfr
 gi_wp2
 refine ⟨by simp,.inl ⟨_,_,rfl,run_takeDeferred hK,?_⟩⟩
 exact ⟨.bool false,by simp [results,Tryz.results129,go_sem,hc5],fQ HE.out.symm,hBe⟩
theorem j1 (n:Int) (w:World) :
  Calls Tryz.prog 95 #[.int .i64 n] w fun e w'=>e=.returned (.bool (decide (1≤n∧n≤20)))∧w'=w:=by
 go_enter Tryz.func95,Tryz.ntmps95
 go_wp2_with (go_at_call 19;refine (fW _ _ _ _).mono ?_;rintro e w' ⟨rfl,rfl⟩)
 go_ret
 exact ⟨fQ (by simp),rfl⟩
theorem nm (n:Int) (w:World) :
  Calls Tryz.prog 145 #[.int .i64 n] w fun e w'=>e=.returned (.bool (decide (1≤n∧n≤20)))∧w'=w:=by
 by_cases h1:1≤n
 ·
  go_enter Tryz.func145,Tryz.ntmps145
  go_wp2
  go_ret
  exact ⟨by simp [h1],rfl⟩
 go_enter Tryz.func145,Tryz.ntmps145
 exact aA
theorem xM (n:Int) (w:World) :
  Calls Tryz.prog 146 #[.int .i64 n] w fun e w'=>e=.returned (.bool (decide (0≤n∧n≤3)))∧w'=w:=by
 by_cases h1:0≤n
 ·
  go_enter Tryz.func146,Tryz.ntmps146
  go_wp2
  go_ret
  exact ⟨fQ (by rw [Bool.eq_iff_iff];simp [h1];omega),rfl⟩
 go_enter Tryz.func146,Tryz.ntmps146
 exact aA
theorem jq (n:Int) (w:World) :
  Calls Tryz.prog 106 #[.int .i64 n] w fun e w'=>e=.returned (.bool (decide (0≤n∧n≤1000000000)))∧w'=w:=by
 by_cases h1:0≤n
 ·
  go_enter Tryz.func106,Tryz.ntmps106
  go_wp2
  go_ret
  exact ⟨by simp [h1],rfl⟩
 go_enter Tryz.func106,Tryz.ntmps106
 exact aA
end Go.Proofs.YtfcfpkibceepgaaGreat
