import Derived.Test.YthicmlolanifhaaGreatK04
import Derived.LoopIn
import Derived.LoopNIn
import Derived.OwnWalkIn
import Derived.RangeFuncBound
import Derived.RangeFuncCalls
import Derived.RangeFuncLeaves
import Derived.RangeFuncNested
import Derived.Shelf.Abstract
import Derived.Shelf.RegionOpen
import Derived.TacticsInMore
namespace Go.Proofs.YthicmlolanifhaaGreat
set_option maxRecDepth 100000
set_option maxHeartbeats 4000000
open Go.RowKit
set_option linter.unusedVariables false
set_option linter.unusedSimpArgs false
theorem ar {p:Prop} (h:p:=by
 refine AllReadyIn.cons rfl (fun K hK=>?_) AllReadyIn.nil
 go_simp
 refine hK _ _ ?_
 clear hK K
 try simp only [Act.put,PZ]
 refine j8 (i:=13) (some 26) (v:=?_) hro rfl rfl (by kernel_rfl) (by kernel_rfl) (by kernel_rfl) (fun _ _ _ h=>h) (by kernel_rfl) ?_ (fun _=>rfl) ?_
 rotate_left
 · exact aA
 try simp only [Act.put,PZ]
 refine wpAnyIn_ready (rs:=[14]) (by kernel_rfl) (by simp) ?_
 refine AllReadyIn.cons rfl (fun K hK=>?_) AllReadyIn.nil
 go_simp
 refine hR.mono ?_
 rintro e W3 (⟨rfl,hJ3,hk3⟩ | ⟨rfl,hJx3⟩)
 ·
  refine hK _ _ ?_
  clear hK K
  try simp only [Act.put,PZ]
  refine j8 (i:=15) (some 28) (v:=?_) hro rfl rfl (by kernel_rfl) (by kernel_rfl) (by kernel_rfl) (fun _ _ _ h=>h) (by kernel_rfl) ?_ (fun _=>rfl) ?_
  rotate_left
  · exact aA
  try simp only [Act.put,PZ]
  refine wpAnyIn_done (by kernel_rfl) ?_ _
  gi_wp2
  go_roundw
  case rel=>exact ⟨k+1,hlt2,by go_num,hB.drew.trans hk3,hJ3⟩
  case measure=>simp [intOf];omega
 refine hK _ _ ?_
 clear hK K
 try simp only [Act.put,PZ]
 refine j8 (i:=15) (some 28) (v:=?_) hro rfl rfl (by kernel_rfl) (by kernel_rfl) (by kernel_rfl) (fun _ _ _ h=>h) (by kernel_rfl) ?_ (fun _=>rfl) ?_
 rotate_left
 · exact aA
 try simp only [Act.put,PZ]
 refine wpAnyIn_done (by kernel_rfl) ?_ _
 gi_wp2
 refine bodyPost_ret (results_none rfl _ _ _) rfl ?_
 exact ⟨⟨_,rfl⟩,.inr ⟨_,⟨k+1,hlt2,rfl⟩,hJx3⟩⟩):p:=h
theorem au {p:Prop} (h:p:=by
 have HC2:Hid (okc=true↔si (R.q x.1) (R.d x.1) (R.L x.1) (R.z x.1) false):=by have hh:=HC.out;rw [hbg] at hh;exact hh
 clear hbg
 cases okc
 ·
  have HCf:Hid (¬ si (R.q x.1) (R.d x.1) (R.L x.1) (R.z x.1) (R.begun x.1)):=fun hh=>by have:=HC.out.2 hh;simp at this
  gi_wp2_with (gi_at_call 134;refine (CallsIn.inRound l (callsIn_wide.2 (mZ (R.q x.1) (R.d x.1) (R.A x.1) (R.L x.1) (R.C x.1) (R.z x.1) false W HLn.out HRd.out false HC2.out))).mono ?_;rintro e W2 ⟨rfl,hb2⟩;have cR2:=(hb2.cell (p:=⟨w.heap.size+1,0,none⟩) hl2).trans i4;have fR2:=(hb2.frozen (p:=⟨w.heap.size+1,0,none⟩) hl2).trans i5)
  exact aY
 have HCt:Hid (si (R.q x.1) (R.d x.1) (R.L x.1) (R.z x.1) (R.begun x.1)):=HC.out.1 rfl
 gi_wp2_with (gi_at_call 134;refine (CallsIn.inRound l (callsIn_wide.2 (mZ (R.q x.1) (R.d x.1) (R.A x.1) (R.L x.1) (R.C x.1) (R.z x.1) false W HLn.out HRd.out true HC2.out))).mono ?_;rintro e W2 ⟨rfl,hb2⟩;have cR2:=(hb2.cell (p:=⟨w.heap.size+1,0,none⟩) hl2).trans i4;have fR2:=(hb2.frozen (p:=⟨w.heap.size+1,0,none⟩) hl2).trans i5)
 exact aX):p:=h
theorem aw {p:Prop} (h:p:=by
 refine tC 6 14 (v:=?_) ?_ ?_
 rotate_left
 · exact aI
 try simp only [Act.put,PZ]
 have cz:=gM kz
 have fz:=ic kz
 have ht:=iZ W2 (w.heap.size+1) (.slice (some ⟨gU,0,none⟩) n n) (.int .i64 0) (.slice (some ⟨gP,0,none⟩) n n)
 have kz3:=kh kz (.slice (some ⟨gU,0,none⟩) n n) (.int .i64 0) (.slice (some ⟨gP,0,none⟩) n n)
 have cb3:=gM ((ht.block w.heap.size (by have:=kH hB;omega) (by simp)).trans (sH hB).1)
 refine rq1 7 (fun K hK=>?_)
 go_simp
 refine hK.out _ _ cb3 (fun hHeld=>?_)
 clear hK K
 try simp only [Act.put,PZ]
 refine rq1 8 (fun K hK=>?_)
 go_simp
 refine hK.out _ _ cb3 (fun hHeld=>?_)
 clear hK K
 try simp only [Act.put,PZ]
 refine dnq ?_
 have rU:=(o8 kU).jB (ht.block gU (gO kU) (by simp;omega))
 have rP:=(yv kP).jB (ht.block gP (gO kP) (by simp;omega))
 have B:=(jC hB).trans (ht.below (jC hB).size (fun x hx=>by simp at hx;omega))
 have cB:=gM kz3
 clear cz fz kU kP kz ht cb3
 unfold oD at *
 go_wp2_with fail
 refine bodyPost_ret (v:=.tuple #[.agg #[.slice (some ⟨gU,0,none⟩) n n,.int .i64 0,.slice (some ⟨gP,0,none⟩) n n],.bool true]) (by simp [results,Tryz.results83,go_sem,cB]) rfl ⟨⟨some ⟨gU,0,none⟩,n,n,fun _=>0,0,some ⟨gP,0,none⟩,n,n,fun _=>false⟩,rfl,⟨VT.of (by omega) rU,VT.of (by omega) rP⟩,B,⟨rfl,rfl,rfl,rfl,rfl⟩⟩):p:=h
theorem ay {p:Prop} (h:p:=by
 try simp only [Act.put,PZ]
 refine wpAnyIn_ready (rs:=[7,12]) (by kernel_rfl) (by simp) ?_
 refine AllReadyIn.cons rfl (fun K hK=>?_) (AllReadyIn.cons rfl (fun K hK=>?_) AllReadyIn.nil)
 ·
  go_simp
  refine hK _ _ ?_
  clear hK K
  exact aZ
 go_simp
 refine hK _ _ ?_
 clear hK K
 exact a6):p:=h
theorem aA {p:Prop} (h:p:=by
 intro wx
 go_simp
 try with_reducible rfl):p:=h
theorem aB {p:Prop} (h:p:=by
 refine sN ?_
 refine sA 12 15 ?_
 refine sA 13 16 ?_
 refine sA 11 14 ?_
 refine sA 14 17 ?_
 refine tQ 15 18 ?_
 refine rq1 16 (fun K hK=>?_)
 go_simp
 refine hK.out _ _ cb (fun hHeld=>?_)
 clear hK K
 try simp only [Act.put,PZ]
 refine dnq ?_
 have B:=under hB
 go_wp2_with fail
 go_ret
 exact ⟨gZ HF.out.symm,B⟩):p:=h
theorem aC {p:Prop} (h:p:=by
 gi_wp2
 exact ⟨.bool false,by simp [results,Tryz.results107,go_sem],gZ HE.out.symm,B0⟩):p:=h
theorem aF {p:Prop} (h:p:=by
 go_wp2_with fail
 go_ret
 exact ⟨gZ HE.out.symm,B⟩):p:=h
theorem aI {p:Prop} (h:p:=by
 intro wx hSw
 try dsimp only at hSw
 go_simp
 try with_reducible rfl):p:=h
theorem aJ {p:Prop} (h:p:=by
 go_enter Tryz.func134,Tryz.ntmps134
 go_wp2_with fail
 go_ret
 exact ⟨gZ HE.out.symm,HA.out _⟩):p:=h
theorem aV {p:Prop} (h:p:=by
 go_wp2_with fail
 go_ret
 exact ⟨rfl,HA.out _ _⟩):p:=h
theorem aW {p:Prop} (h:p:=by
 rcases hp3 with h | h | h <;> rw [h] <;> exact ll _ (by omega) (by omega)):p:=h
theorem aX {p:Prop} (h:p:=by
 exact ⟨rL hb2 _,hb2.mono i6,fun y hy=>by
  rcases List.mem_append.1 hy with hy | hy
  ·
   exact i1 y hy
  ·
   simp at hy;rw [hy];exact HCt.out,(hb2.cell (p:=⟨w.heap.size,2,none⟩) hl0).trans i2,(hb2.cell (p:=⟨w.heap.size,3,none⟩) hl0).trans i3,cR2,fR2,Nat.le_trans i6 hb2.size,i7.trans (hb2.mono i7.size)⟩):p:=h
theorem aY {p:Prop} (h:p:=by
 exact ⟨(rL hb2 _).trans ((KeepsOthers.setCell _ _ _).from _),rfl,⟨x,by simp,HCf.out⟩,World.cell?_setCell_same' _ _ _ (by rw [cR2];rfl),(i7.trans (hb2.mono i7.size)).setCell (by show _≤_+1;omega) _⟩):p:=h
theorem aZ {p:Prop} (h:p:=by
 try simp only [Act.put,PZ]
 refine wpAnyIn_ready (rs:=[12]) (by kernel_rfl) (by simp) ?_
 exact ar):p:=h
theorem a6 {p:Prop} (h:p:=by
 try simp only [Act.put,PZ]
 refine wpAnyIn_ready (rs:=[7]) (by kernel_rfl) (by simp) ?_
 exact ar):p:=h
theorem mZ (q d:Int) (a:Option Addr) (n cap:Nat) (z:Nat→Int) (b:Bool) (w:World) (hn:n≤maxLen) (h:iq w a n fun j=>.int .i64 (z j)) (ok:Bool) (hok:ok=true↔si q d n z b) :
  Calls Tryz.prog 134 #[.agg #[.int .i64 q,.int .i64 d,.slice a n cap],.bool b] w fun e w'=>e=.returned (.bool ok)∧Below w.heap.size w w':=by
 have HO:Hid (ok=true↔si q d n z b):=hok
 have HR:Hid (iq w a n fun j=>.int .i64 (z j)):=h
 have HA:Hid (∀ ob,Below w.heap.size w (w.alloc ob)):=fun ob=>(Below.refl _ _).alloc (Nat.le_refl _) _
 have HF:Hid (¬ si q d n z b→ok=false):=fun hh=>by
  rw [Bool.eq_false_iff]
  intro e
  exact hh (HO.out.1 e)
 clear h hok
 by_cases h1:1≤q
 ·
  by_cases h2:q≤10
  ·
   obtain ⟨ok1,hok1⟩:=xl (mv n z)
   obtain ⟨ok2,hok2⟩:=xl (o7 q d n b)
   have H1:Hid (ok1=true↔mv n z):=hok1
   have H2:Hid (ok2=true↔o7 q d n b):=hok2
   clear hok1 hok2
   have kX:=gV w (.cells #[.int .i64 q,.int .i64 d,.slice a n cap] 182)
   go_enter Tryz.func134,Tryz.ntmps134
   go_wp2_with fail
   refine (wZ a n cap z _ hn (HR.out.up (HA.out _)) ok1 H1.out).mono ?_
   rintro e w1 ⟨rfl,hS⟩
   have B1:=(HA.out _).trans (hS.below _)
   have cX:=fun o=>(hS.cell ⟨w.heap.size,o,none⟩).trans (gM kX o)
   clear hS kX
   cases ok1
   ·
    have HE:Hid (ok=false):=HF.out (fun hh=>by have:=H1.out.2 hh.2.1;simp at this)
    go_wp2_with fail
    go_ret
    exact ⟨gZ HE.out.symm,B1⟩
   have HS1:Hid (mv n z):=H1.out.1 rfl
   go_wp2_with fail
   refine (uZ q d a n cap b _ hn h1 h2 ok2 H2.out).mono ?_
   rintro e w2 ⟨rfl,hb2⟩
   have B2:=B1.trans (hb2.mono B1.size)
   have HE:Hid (ok2=ok):=by
    rw [Hid,Bool.eq_iff_iff,HO.out,H2.out]
    exact ⟨fun hh=>⟨⟨h1,h2⟩,HS1.out,hh⟩,fun hh=>hh.2.2⟩
   clear hb2 B1 cX
   go_wp2_with fail
   go_ret
   exact ⟨gZ HE.out,B2⟩
  have HE:Hid (ok=false):=HF.out (fun hh=>h2 hh.1.2)
  exact aJ
 have HE:Hid (ok=false):=HF.out (fun hh=>h1 hh.1.1)
 exact aJ
theorem rO (R:Rnd) (c:Int) (w:World) (hf:R.Fit) :
  Calls Tryz.prog 132 #[.agg R.cells,.int .i64 c] w fun e w'=>e=.returned (.bool (decide (0≤c∧c<R.nQ)))∧Below w.heap.size w w':=by
 have hm:(R.nQ:Int)≤9223372036854775807:=by have:=hf.q;unfold maxLen at this;omega
 have HA:Hid (∀ ob,Below w.heap.size w (w.alloc ob)):=fun ob=>(Below.refl _ _).alloc (Nat.le_refl _) _
 have hw:IntKind.i64.wrap (R.nQ:Int)=(R.nQ:Int):=pN _ (by omega) (by omega)
 unfold Rnd.cells
 by_cases h1:0≤c
 ·
  go_enter Tryz.func132,Tryz.ntmps132
  go_wp2_with fail
  go_ret
  exact ⟨gZ (by simp [h1]),HA.out _⟩
 go_enter Tryz.func132,Tryz.ntmps132
 go_wp2_with fail
 go_ret
 exact ⟨gZ (by simp;omega),HA.out _⟩
theorem rY (R:Rnd) (w:World) :
  Calls Tryz.prog 133 #[.agg R.cells] w fun e w'=>e=.returned (.func (.func 144) #[] #[.pointer (some ⟨w.heap.size,0,none⟩)])∧w'=w.alloc (.cells R.cells 46):=by
 unfold Rnd.cells
 go_enter Tryz.func133,Tryz.ntmps133
 go_wp2_with fail
 go_ret
 exact ⟨rfl,rfl⟩
open Go.RowKit Go.Shelf
attribute [local go_sem] Oper.semAt_some
section
variable {P : Program} {ops : Array Oper} {Q : Exit → Act → World → Prop} {md : Region.Mode} {F : Fence} {n : Nat}
theorem j8 {i:Nat} (d:Option Tmp) {oi:Oper} {v:Value} {fuel:Nat} {listed:Array Bool} {a:Act} {w:World} (hro:F.round=none) (hi:ops[i]?=some oi) (hd:oi.dst=d)
  (hs:Region.noSelect ops=true) (hf:Region.free md ops listed i=true) (hr:(Region.ready md ops listed).contains i=true)
  (hQ:∀ c a w,Q (.panic c) (a.put d v) w→Q (.panic c) a w) (hw:Region.wanted oi (yielded ops a.tmps)=true) (hy:∀ w,(execOp a.eval oi).run P w=.ok (.value v) w) (hab:∀ w,oi.about P w a.eval=none)
  (h:wpAnyIn F n P md ops Q fuel (listed.setIfInBounds i true) (a.put d v) w):wpAnyIn F n P md ops Q (fuel+1) listed a w:=by
 subst hd
 exact wpAnyIn_take hro hi hs hf hr hQ ⟨Or.inl ⟨hw,hy⟩,hab⟩ h
end
def Fa (R:Rnd) (x:{ i:Nat // i<R.nQ }):Array Value:=#[.int .i64 ((x.1:Nat):Int),.agg #[.int .i64 (R.q x.1),.int .i64 (R.d x.1),.slice (R.A x.1) (R.L x.1) (R.C x.1)]]
def BB (n:Nat):(k:Nat)→k≤n→List { i:Nat // i<n }
 | 0,_=>[]
 | k+1,h=>BB n k (Nat.le_of_succ_le h)++[⟨k,h⟩]
theorem xO (n:Nat):∀ (k:Nat) (h:k≤n),(BB n k h).length=k
 | 0,_=>rfl
 | k+1,h=>by simp [BB,xO n k]
theorem tO (n:Nat):∀ (k:Nat) (h:k≤n) (i:Nat) (hi:i<k),(⟨i,Nat.lt_of_lt_of_le hi h⟩:{ i:Nat // i<n })∈BB n k h
 | k+1,h,i,hi=>by
  unfold BB
  by_cases e:i=k
  ·
   subst e;simp
  exact List.mem_append_left _ (tO n k (Nat.le_of_succ_le h) i (by omega))
structure zq (w:World) (b:Nat) (R:Rnd):Prop where
 box:∀ o,w.cell? ⟨b,o,none⟩=R.cells[o]?
 rd:j4 w R
theorem pJ (F:Fence) (n:Nat) (h45:F.fn 144) (hro:F.round=none) (hn:1≤n) (R:Rnd) (hf:R.Fit) (hD:R.nQ≤R.nD) (hS:R.nQ≤R.nS) (b:Nat) (w:World) (hT:zq w b R) (hlt:∀ W,Below w.heap.size w W→zq W b R) :
  SeqStopsK F n Tryz.prog 144 #[.pointer (some ⟨b,0,none⟩)] (Fa R) (Below w.heap.size) (fun xs=>xs=BB R.nQ R.nQ (Nat.le_refl _)) (fun pre=>∃ k,∃ h:k≤R.nQ,pre=BB R.nQ k h) R.nQ w:=fun l J Jx W hW hJ hJx hY h0=>by
 obtain ⟨aQ,nQ,cQ,q,aD,nD,cD,d,turn,fresh,aS,nS,cS,A,L,C,z⟩:=R
 have hfq:nQ≤maxLen:=hf.q
 dsimp only at hD hS hY ⊢
 clear hf hT
 refine callsIn_of_wp Tryz.func144 rfl h45 ?_ hro
 simp only [Tryz.ntmps144,List.size_toArray,List.length_cons,List.length_nil,Nat.reduceAdd,Nat.reduceSub,Array.replicate_succ,Array.replicate_zero,List.push_toArray,List.append_toArray,List.nil_append,List.cons_append]
 have hm:(nQ:Int)≤9223372036854775807:=by unfold maxLen at hfq;omega
 have hTW:=hlt W hW
 have cb:=hTW.box
 unfold Rnd.cells at cb
 gi_wp2
 gi_loopw [8] (fun i wr=>∃ (k:Nat) (h:k≤nQ),i=.int .i64 k∧Below w.heap.size w wr∧J (BB nQ k h) wr) (fun i _=>nQ-(intOf i).toNat)
 case atStart=>exact ⟨0,Nat.zero_le _,rfl,hW,h0⟩
 obtain ⟨k,hk,rfl,hB,hJk⟩:=hrel
 clear cb hTW
 by_cases hlt2:k<nQ
 ·
  have hlt':(k:Int)<nQ:=by omega
  have hltD:(k:Int)<nD:=by omega
  have hltS:(k:Int)<nS:=by omega
  have hTr:=hlt wr hB
  have cb:=hTr.box
  unfold Rnd.cells at cb
  obtain ⟨gq,oq,rfl,cq⟩:=hTr.rd.q k hlt2
  obtain ⟨gd,od,rfl,cd⟩:=hTr.rd.d k (by show k<nD;omega)
  obtain ⟨gs,os,rfl,cs⟩:=hTr.rd.s k (by show k<nS;omega)
  dsimp only at cq cd cs cb
  obtain ⟨fn,tmps,assign,body,hy,hR⟩:=hY (BB nQ k hk) ⟨k,hlt2⟩ wr.drew (hJ _ _ _ none hJk ⟨rfl,rfl,rfl,Nat.le_refl _,fun _ _ _=>rfl⟩ (fun r e=>by cases e)) (by rw [xO];exact hlt2)
  dsimp only [Fa] at hy
  clear hlt hTr hY
  gi_wp2
  refine wpIn_region_any (by kernel_rfl) ?_
  refine j8 (i:=0) (some 13) (v:=?_) hro rfl rfl (by kernel_rfl) (by kernel_rfl) (by kernel_rfl) (fun _ _ _ h=>h) (by kernel_rfl) ?_ (fun _=>rfl) ?_
  rotate_left
  · exact aA
  try simp only [Act.put,PZ]
  refine j8 (i:=1) (some 14) (v:=?_) hro rfl rfl (by kernel_rfl) (by kernel_rfl) (by kernel_rfl) (fun _ _ _ h=>h) (by kernel_rfl) ?_ (fun _=>rfl) ?_
  rotate_left
  · exact aA
  try simp only [Act.put,PZ]
  refine j8 (i:=2) (some 15) (v:=?_) hro rfl rfl (by kernel_rfl) (by kernel_rfl) (by kernel_rfl) (fun _ _ _ h=>h) (by kernel_rfl) ?_ (fun _=>rfl) ?_
  rotate_left
  · exact aA
  try simp only [Act.put,PZ]
  refine j8 (i:=3) (some 16) (v:=?_) hro rfl rfl (by kernel_rfl) (by kernel_rfl) (by kernel_rfl) (fun _ _ _ h=>h) (by kernel_rfl) ?_ (fun _=>rfl) ?_
  rotate_left
  · exact aA
  try simp only [Act.put,PZ]
  refine j8 (i:=5) (some 18) (v:=?_) hro rfl rfl (by kernel_rfl) (by kernel_rfl) (by kernel_rfl) (fun _ _ _ h=>h) (by kernel_rfl) ?_ (fun _=>rfl) ?_
  rotate_left
  · exact aA
  try simp only [Act.put,PZ]
  refine j8 (i:=8) (some 21) (v:=?_) hro rfl rfl (by kernel_rfl) (by kernel_rfl) (by kernel_rfl) (fun _ _ _ h=>h) (by kernel_rfl) ?_ (fun _=>rfl) ?_
  rotate_left
  · exact aA
  try simp only [Act.put,PZ]
  refine j8 (i:=10) (some 23) (v:=?_) hro rfl rfl (by kernel_rfl) (by kernel_rfl) (by kernel_rfl) (fun _ _ _ h=>h) (by kernel_rfl) ?_ (fun _=>rfl) ?_
  rotate_left
  · exact aA
  try simp only [Act.put,PZ]
  refine wpAnyIn_ready (rs:=[4,9]) (by kernel_rfl) (by simp) ?_
  refine AllReadyIn.cons rfl (fun K hK=>?_) (AllReadyIn.cons rfl (fun K hK=>?_) AllReadyIn.nil)
  ·
   go_simp
   refine hK _ _ ?_
   clear hK K
   try simp only [Act.put,PZ]
   refine j8 (i:=6) (some 19) (v:=?_) hro rfl rfl (by kernel_rfl) (by kernel_rfl) (by kernel_rfl) (fun _ _ _ h=>h) (by kernel_rfl) ?_ (fun _=>rfl) ?_
   rotate_left
   · exact aA
   try simp only [Act.put,PZ]
   refine wpAnyIn_ready (rs:=[7,9]) (by kernel_rfl) (by simp) ?_
   refine AllReadyIn.cons rfl (fun K hK=>?_) (AllReadyIn.cons rfl (fun K hK=>?_) AllReadyIn.nil)
   ·
    go_simp
    refine hK _ _ ?_
    clear hK K
    try simp only [Act.put,PZ]
    refine wpAnyIn_ready (rs:=[9]) (by kernel_rfl) (by simp) ?_
    refine AllReadyIn.cons rfl (fun K hK=>?_) AllReadyIn.nil
    go_simp
    refine hK _ _ ?_
    clear hK K
    try simp only [Act.put,PZ]
    refine j8 (i:=11) (some 24) (v:=?_) hro rfl rfl (by kernel_rfl) (by kernel_rfl) (by kernel_rfl) (fun _ _ _ h=>h) (by kernel_rfl) ?_ (fun _=>rfl) ?_
    rotate_left
    · exact aA
    exact aZ
   go_simp
   refine hK _ _ ?_
   clear hK K
   try simp only [Act.put,PZ]
   refine j8 (i:=11) (some 24) (v:=?_) hro rfl rfl (by kernel_rfl) (by kernel_rfl) (by kernel_rfl) (fun _ _ _ h=>h) (by kernel_rfl) ?_ (fun _=>rfl) ?_
   rotate_left
   · exact aA
   exact ay
  go_simp
  refine hK _ _ ?_
  clear hK K
  try simp only [Act.put,PZ]
  refine j8 (i:=11) (some 24) (v:=?_) hro rfl rfl (by kernel_rfl) (by kernel_rfl) (by kernel_rfl) (fun _ _ _ h=>h) (by kernel_rfl) ?_ (fun _=>rfl) ?_
  rotate_left
  · exact aA
  try simp only [Act.put,PZ]
  refine wpAnyIn_ready (rs:=[4,12]) (by kernel_rfl) (by simp) ?_
  refine AllReadyIn.cons rfl (fun K hK=>?_) (AllReadyIn.cons rfl (fun K hK=>?_) AllReadyIn.nil)
  ·
   go_simp
   refine hK _ _ ?_
   clear hK K
   try simp only [Act.put,PZ]
   refine j8 (i:=6) (some 19) (v:=?_) hro rfl rfl (by kernel_rfl) (by kernel_rfl) (by kernel_rfl) (fun _ _ _ h=>h) (by kernel_rfl) ?_ (fun _=>rfl) ?_
   rotate_left
   · exact aA
   exact ay
  go_simp
  refine hK _ _ ?_
  clear hK K
  try simp only [Act.put,PZ]
  refine wpAnyIn_ready (rs:=[4]) (by kernel_rfl) (by simp) ?_
  refine AllReadyIn.cons rfl (fun K hK=>?_) AllReadyIn.nil
  go_simp
  refine hK _ _ ?_
  clear hK K
  try simp only [Act.put,PZ]
  refine j8 (i:=6) (some 19) (v:=?_) hro rfl rfl (by kernel_rfl) (by kernel_rfl) (by kernel_rfl) (fun _ _ _ h=>h) (by kernel_rfl) ?_ (fun _=>rfl) ?_
  rotate_left
  · exact aA
  exact a6
 obtain rfl:k=nQ:=by omega
 gi_wp2
 go_end0
 exact ⟨⟨_,rfl⟩,.inl ⟨_,rfl,hJk⟩⟩
attribute [local go_sem] Oper.semAt_some
theorem rL {W W2:World} (hb:Below W.heap.size W W2) (B:Nat):KeepsFrom B W W2 :=
 ⟨hb.size,fun k o _ hk _=>(hb.block k (gO hk)).trans hk⟩
theorem me (R:Rnd) (w:World) (hf:R.Fit) (h:j4 w R) (ok:Bool) (hok:ok=true↔R.Ok) :
  Calls Tryz.prog 107 #[.agg R.cells] w fun e w'=>e=.returned (.bool ok)∧Below w.heap.size w w':=by
 have HR:Hid (j4 w R):=h
 have HF:Hid (¬ R.Ok→ok=false):=fun hh=>by
  rw [Bool.eq_false_iff]
  intro e
  exact hh (hok.1 e)
 have HO:Hid (ok=true↔R.Ok):=hok
 have HFit:Hid R.Fit:=hf
 have hq:=hf.q
 have hd:=hf.d
 have hs:=hf.s
 unfold maxLen at hq hd hs
 clear h hok hf
 refine (callsIn_wide (n:=8)).1 ?_
 refine callsIn_of_wp_marks Tryz.func107 rfl trivial ?_ rfl
 simp only [Tryz.ntmps107,List.size_toArray,List.length_cons,List.length_nil,Nat.reduceAdd,Nat.reduceSub,Array.replicate_succ,Array.replicate_zero,List.push_toArray,List.append_toArray,List.nil_append,List.cons_append]
 unfold Rnd.cells
 have B0:Below w.heap.size w ((w.alloc (.cells R.cells 46)).alloc (.cells #[.bool false] 4)):=((Below.refl _ _).alloc (Nat.le_refl _) _).alloc (by simp) _
 have f32:Fence.wide.fn 132:=trivial
 have f33:Fence.wide.fn 133:=trivial
 have f34:Fence.wide.fn 134:=trivial
 by_cases h1:R.nQ<1
 ·
  have h1':(R.nQ:Int)<1:=by omega
  have HE:Hid (ok=false):=HF.out (fun hh=>by have:=hh.n;omega)
  exact aC
 have h1':¬ (R.nQ:Int)<1:=by omega
 by_cases h2:4<R.nQ
 ·
  have h2':(4:Int)<R.nQ:=by omega
  have HE:Hid (ok=false):=HF.out (fun hh=>by have:=hh.n;omega)
  exact aC
 have h2':¬ (4:Int)<R.nQ:=by omega
 have H12:Hid (1≤R.nQ∧R.nQ≤4):=by show _∧_;omega
 clear h1 h2
 by_cases h3:R.nD=R.nQ
 rotate_left
 ·
  have h3':((R.nD:Int) != (R.nQ:Int))=true:=by simp;omega
  have HE:Hid (ok=false):=HF.out (fun hh=>h3 hh.d)
  clear h3
  exact aC
 have h3':((R.nD:Int) != (R.nQ:Int))=false:=by simp [h3]
 have H3:Hid (R.nD=R.nQ):=h3
 clear h3
 by_cases h4:R.nS=R.nQ
 rotate_left
 ·
  have h4':((R.nS:Int) != (R.nQ:Int))=true:=by simp;omega
  have HE:Hid (ok=false):=HF.out (fun hh=>h4 hh.s)
  clear h4
  exact aC
 have h4':((R.nS:Int) != (R.nQ:Int))=false:=by simp [h4]
 have H4:Hid (R.nS=R.nQ):=h4
 clear h4
 have kB:=iv (.cells #[.bool false] 4) (show w.heap.size<(w.alloc (.cells R.cells 46)).heap.size by simp)
 rw [gV] at kB
 have kR:=gV (w.alloc (.cells R.cells 46)) (.cells #[.bool false] 4)
 have eS:(w.alloc (.cells R.cells 46)).heap.size=w.heap.size+1:=by simp
 rw [eS] at kR
 have e2:((w.alloc (.cells R.cells 46)).alloc (.cells #[.bool false] 4)).heap.size=w.heap.size+1+1:=by simp
 have HK:Hid (((w.alloc (.cells R.cells 46)).alloc (.cells #[.bool false] 4)).heap[w.heap.size]?=some (.cells R.cells 46 (0,0))∧((w.alloc (.cells R.cells 46)).alloc (.cells #[.bool false] 4)).heap[w.heap.size+1]?=some (.cells #[.bool false] 4 (0,0))):=⟨kB,kR⟩
 clear kB kR
 by_cases h5:0≤R.turn∧R.turn<R.nQ
 rotate_left
 ·
  have HE:Hid (ok=false):=HF.out (fun hh=>h5 hh.t)
  gi_wp2_with (gi_at_call 132;refine (callsIn_wide.2 (rO R R.turn _ HFit.out)).mono ?_;rintro e w1 ⟨rfl,hb1⟩;rw [decide_eq_false h5];have B1:=B0.trans (hb1.mono B0.size);have kR1:=(hb1.block (w.heap.size+1) (by rw [←Rnd.cells,e2];omega)).trans HK.out.2;have cR:=gM kR1;have fR:=ic kR1;clear h5 hb1 B0)
  have cS:=gM (iu (i:=0) kR1 (.bool false)) 0
  exact ⟨.bool false,by simp [results,Tryz.results107,go_sem,cS],gZ HE.out.symm,B1.setCell (by show _≤_+1;omega) _⟩
 gi_wp2_with (first | (gi_at_call 132;refine (callsIn_wide.2 (rO R R.turn _ HFit.out)).mono ?_;rintro e w1 ⟨rfl,hb1⟩;rw [decide_eq_true h5];have B1:=B0.trans (hb1.mono B0.size);have kR1:=(hb1.block (w.heap.size+1) (by rw [←Rnd.cells,e2];omega)).trans HK.out.2;have kB1:=(hb1.block w.heap.size (by rw [←Rnd.cells,e2];omega)).trans HK.out.1;have cB:=gM kB1;unfold Rnd.cells at cB;have H5:Hid (0≤R.turn∧R.turn<R.nQ):=h5;clear h5 hb1 B0) | (gi_at_call 133;refine (callsIn_wide.2 (rY R _)).mono ?_;rintro e w2 ⟨rfl,rfl⟩))
 have hBt:zq (w1.alloc (.cells R.cells 46)) w1.heap.size R:=⟨fun o=>gM (gV w1 (.cells R.cells 46)) o,HR.out.up (B1.alloc B1.size _)⟩
 have hcBx:w1.heap.size<(w1.alloc (.cells R.cells 46)).heap.size:=by simp
 have hTl:∀ W,Below (w1.alloc (.cells R.cells 46)).heap.size (w1.alloc (.cells R.cells 46)) W→zq W w1.heap.size R:=fun W hW =>
  ⟨fun o=>(hW.cell (p:=⟨w1.heap.size,o,none⟩) hcBx).trans (hBt.box o),hBt.rd.up hW⟩
 have hw1:=B1.size
 have hlR:=gO kR1
 have hsW:w.heap.size≤(w1.alloc (.cells R.cells 46)).heap.size:=by simp;omega
 have hc2:w1.cell? ⟨w.heap.size,2,none⟩=some (.int .i64 R.turn):=cB 2
 have hc3:w1.cell? ⟨w.heap.size,3,none⟩=some (.bool R.fresh):=cB 3
 have hcr:w1.cell? ⟨w.heap.size+1,0,none⟩=some (.bool false):=gM kR1 0
 have hfr:w1.frozen? ⟨w.heap.size+1,0,none⟩=false:=ic kR1 0
 have ho:w.heap.size<w1.heap.size:=by omega
 have hold:∀ (j:Nat) o,j<w1.heap.size→(w1.alloc (.cells R.cells 46)).cell? ⟨j,o,none⟩=w1.cell? ⟨j,o,none⟩:=fun j o hj=>World.cell?_of_block (w:=w1) (a:=⟨j,o,none⟩) (iv _ hj)
 have holdf:(w1.alloc (.cells R.cells 46)).frozen? ⟨w.heap.size+1,0,none⟩=false:=(World.frozen?_of_block (w:=w1) (a:=⟨w.heap.size+1,0,none⟩) (iv _ hlR)).trans hfr
 have HD:Hid (R.nQ≤R.nD):=by rw [Hid,H3.out];exact Nat.le_refl _
 have HS:Hid (R.nQ≤R.nS):=by rw [Hid,H4.out];exact Nat.le_refl _
 refine wpIn_rangeFunc_ownH rfl (by omega) (gf:=144) (lb:=#[.pointer (some ⟨w1.heap.size,0,none⟩)]) rfl trivial (enters_of Tryz.func144 (by kernel_rfl) rfl)
  (pJ Fence.wide _ trivial rfl (by omega) R HFit.out HD.out HS.out w1.heap.size (w1.alloc (.cells R.cells 46)) hBt hTl) belowK_t (belowK_b (Nat.le_refl _)) (Below.refl _ _) (fun _=>rfl)
  (fun pre W=>(∀ x∈pre,si (R.q x.1) (R.d x.1) (R.L x.1) (R.z x.1) (R.begun x.1))∧W.cell? ⟨w.heap.size,2,none⟩=some (.int .i64 R.turn)∧W.cell? ⟨w.heap.size,3,none⟩=some (.bool R.fresh)∧W.cell? ⟨w.heap.size+1,0,none⟩=some (.bool false)∧W.frozen? ⟨w.heap.size+1,0,none⟩=false∧(w1.alloc (.cells R.cells 46)).heap.size≤W.heap.size∧Below w.heap.size w W)
  (fun c pre W=>c=.ret∧(∃ x∈pre,¬ si (R.q x.1) (R.d x.1) (R.L x.1) (R.z x.1) (R.begun x.1))∧W.cell? ⟨w.heap.size+1,0,none⟩=some (.bool false)∧Below w.heap.size w W)
  (fun s A B row hs hg hr=>⟨hs.1,cell_kept hs.2.1 hg (fun r e=>(hr r e).2),cell_kept hs.2.2.1 hg (fun r e=>(hr r e).2),cell_kept hs.2.2.2.1 hg (fun r e=>(hr r e).2),(frozen_kept hs.2.2.2.1 hg (fun r e=>(hr r e).2)).trans hs.2.2.2.2.1,Nat.le_trans hs.2.2.2.2.2.1 hg.size,hs.2.2.2.2.2.2.grown hg hs.2.2.2.2.2.2.size (fun k e=>Nat.le_trans hsW (hr k e).1)⟩)
  (fun c s A B row hs hg hr=>⟨hs.1,hs.2.1,cell_kept hs.2.2.1 hg (fun r e=>(hr r e).2),hs.2.2.2.grown hg hs.2.2.2.size (fun k e=>Nat.le_trans hsW (hr k e).1)⟩)
  ⟨fun x hx=>by simp at hx,(hold _ _ ho).trans hc2,(hold _ _ ho).trans hc3,(hold _ _ hlR).trans hcr,holdf,Nat.le_refl _,B1.alloc hw1 _⟩
  (fun x a' W=>∃ Bx,w.heap.size+1<Bx∧W.cell? ⟨Bx,0,none⟩=some (.int .i64 (R.q x.1))∧W.cell? ⟨Bx,1,none⟩=some (.int .i64 (R.d x.1))∧W.cell? ⟨Bx,2,none⟩=some (.slice (R.A x.1) (R.L x.1) (R.C x.1))∧a'={ tmps:=#[.agg #[.slice R.aQ R.nQ R.cQ,.slice R.aD R.nD R.cD,.int .i64 R.turn,.bool R.fresh,.slice R.aS R.nS R.cS],.pointer (some ⟨w.heap.size,0,none⟩),.pointer (some ⟨w.heap.size+1,0,none⟩),.int .i64 (R.nQ:Int),.int .i64 ((x.1:Nat):Int),.pointer (some ⟨Bx,0,none⟩),.pointer (some ⟨w.heap.size,0,none⟩),.slice R.aQ R.nQ R.cQ,.int .i64 (R.nQ:Int),.int .i64 (R.nQ:Int),.bool false,.bool false,.int .i64 (R.nQ:Int),.bool false,.bool false,.bool false,.pointer (some ⟨w.heap.size,1,none⟩),.slice R.aD R.nD R.cD,.int .i64 (R.nD:Int),.int .i64 (R.nQ:Int),.bool false,.bool false,.bool false,.pointer (some ⟨w.heap.size,4,none⟩),.slice R.aS R.nS R.cS,.int .i64 (R.nS:Int),.int .i64 (R.nQ:Int),.bool false,.bool false,.bool false,.agg #[.slice R.aQ R.nQ R.cQ,.slice R.aD R.nD R.cD,.int .i64 R.turn,.bool R.fresh,.slice R.aS R.nS R.cS],.pointer (some ⟨w.heap.size,2,none⟩),.int .i64 R.turn,.bool true,.bool false,.bool false,.agg #[.slice R.aQ R.nQ R.cQ,.slice R.aD R.nD R.cD,.int .i64 R.turn,.bool R.fresh,.slice R.aS R.nS R.cS],.func (.func 144) #[] #[.pointer (some ⟨w1.heap.size,0,none⟩)],.int .i64 ((x.1:Nat):Int),.agg #[.int .i64 (R.q x.1),.int .i64 (R.d x.1),.slice (R.A x.1) (R.L x.1) (R.C x.1)],undef,undef,undef,undef,undef,undef,undef,undef,undef,undef,undef,undef],defers:=[] })
  (fun x a' s A B row hs hg hr=>by
   obtain ⟨Bx,b1,c1,c2,c3,e⟩:=hs
   exact ⟨Bx,b1,cell_kept c1 hg (fun r e=>(hr r e).2),cell_kept c2 hg (fun r e=>(hr r e).2),cell_kept c3 hg (fun r e=>(hr r e).2),e⟩)
  ?assign ?body ?done ?stop
 case assign =>
  rintro l pre x W K ⟨i1,i2,i3,i4,i5,i6,i7⟩ hK
  have hcn:=gM (gV W (.cells #[.int .i64 (R.q x.1),.int .i64 (R.d x.1),.slice (R.A x.1) (R.L x.1) (R.C x.1)] 182))
  have hgr:=World.grownBy_alloc W (.cells #[.int .i64 (R.q x.1),.int .i64 (R.d x.1),.slice (R.A x.1) (R.L x.1) (R.C x.1)] 182) none
  have HI:Hid (∀ ob,(W.alloc ob).cell? ⟨w.heap.size,2,none⟩=some (.int .i64 R.turn)∧(W.alloc ob).cell? ⟨w.heap.size,3,none⟩=some (.bool R.fresh)∧(W.alloc ob).cell? ⟨w.heap.size+1,0,none⟩=some (.bool false)∧(W.alloc ob).frozen? ⟨w.heap.size+1,0,none⟩=false∧Below w.heap.size w (W.alloc ob)):=fun ob =>
   ⟨cell_kept i2 (World.grownBy_alloc W ob none) (fun r e=>by cases e),cell_kept i3 (World.grownBy_alloc W ob none) (fun r e=>by cases e),cell_kept i4 (World.grownBy_alloc W ob none) (fun r e=>by cases e),(frozen_kept i4 (World.grownBy_alloc W ob none) (fun r e=>by cases e)).trans i5,i7.alloc i7.size _⟩
  have hlt:w.heap.size+1<W.heap.size:=by simp at i6;omega
  unfold Fa
  gi_wp2
  exact hK _ _ ((KeepsOthers.alloc _ _).from _) ((Below.refl _ W).alloc i6 _) ⟨i1,(HI.out _).1,(HI.out _).2.1,(HI.out _).2.2.1,(HI.out _).2.2.2.1,by simp at i6 ⊢;omega,(HI.out _).2.2.2.2⟩ ⟨W.heap.size,hlt,hcn 0,hcn 1,hcn 2,rfl⟩
 case body =>
  rintro l pre x a' W hl ⟨r,hr⟩ ⟨i1,i2,i3,i4,i5,i6,i7⟩ ⟨Bx,hBx,x0,x1,x2,rfl⟩ hlt
  have hl2:w.heap.size+1<W.heap.size:=by simp at i6;omega
  have hl0:w.heap.size<W.heap.size:=by omega
  obtain ⟨okc,hokc⟩:=xl (si (R.q x.1) (R.d x.1) (R.L x.1) (R.z x.1) (R.begun x.1))
  have HC:Hid (okc=true↔si (R.q x.1) (R.d x.1) (R.L x.1) (R.z x.1) (R.begun x.1)):=hokc
  have hxS:x.1<R.nS:=by rw [H4.out];exact x.2
  have HRd:Hid (iq W (R.A x.1) (R.L x.1) fun j=>.int .i64 (R.z x.1 j)):=(HR.out.up i7).z x.1 hxS
  have HLn:Hid (R.L x.1≤maxLen):=HFit.out.l x.1 hxS
  clear hokc hxS hTl hBt hold holdf hc2 hc3 hcr hfr
  by_cases hx:((x.1:Nat):Int)=R.turn
  ·
   have hxq:(((x.1:Nat):Int) == R.turn)=true:=by simp [hx]
   cases hfs:R.fresh
   ·
    have hbg:R.begun x.1=true:=by simp [Rnd.begun,hx,hfs]
    rw [hfs] at i3
    clear hx hfs
    have HC2:Hid (okc=true↔si (R.q x.1) (R.d x.1) (R.L x.1) (R.z x.1) true):=by have hh:=HC.out;rw [hbg] at hh;exact hh
    clear hbg
    cases okc
    ·
     have HCf:Hid (¬ si (R.q x.1) (R.d x.1) (R.L x.1) (R.z x.1) (R.begun x.1)):=fun hh=>by have:=HC.out.2 hh;simp at this
     gi_wp2_with (gi_at_call 134;refine (CallsIn.inRound l (callsIn_wide.2 (mZ (R.q x.1) (R.d x.1) (R.A x.1) (R.L x.1) (R.C x.1) (R.z x.1) true W HLn.out HRd.out false HC2.out))).mono ?_;rintro e W2 ⟨rfl,hb2⟩;have cR2:=(hb2.cell (p:=⟨w.heap.size+1,0,none⟩) hl2).trans i4;have fR2:=(hb2.frozen (p:=⟨w.heap.size+1,0,none⟩) hl2).trans i5)
     exact aY
    have HCt:Hid (si (R.q x.1) (R.d x.1) (R.L x.1) (R.z x.1) (R.begun x.1)):=HC.out.1 rfl
    gi_wp2_with (gi_at_call 134;refine (CallsIn.inRound l (callsIn_wide.2 (mZ (R.q x.1) (R.d x.1) (R.A x.1) (R.L x.1) (R.C x.1) (R.z x.1) true W HLn.out HRd.out true HC2.out))).mono ?_;rintro e W2 ⟨rfl,hb2⟩;have cR2:=(hb2.cell (p:=⟨w.heap.size+1,0,none⟩) hl2).trans i4;have fR2:=(hb2.frozen (p:=⟨w.heap.size+1,0,none⟩) hl2).trans i5)
    exact aX
   have hbg:R.begun x.1=false:=by simp [Rnd.begun,hfs]
   rw [hfs] at i3
   clear hx hfs
   exact au
  have hxq:(((x.1:Nat):Int) == R.turn)=false:=by simp [hx]
  have hbg:R.begun x.1=false:=by simp [Rnd.begun,hx]
  clear hx
  exact au
 case done =>
  rintro D xs W hD rfl ⟨i1,i2,i3,i4,i5,i6,i7⟩ hK
  have HT:Hid (ok=true):=HO.out.2 ⟨H12.out,H3.out,H4.out,H5.out,fun i hi=>i1 ⟨i,hi⟩ (tO _ _ _ i hi)⟩
  have hK':=(KeepsOthers.setCell W ⟨w.heap.size+1,0,none⟩ (.bool true)).same D _ hK rfl
  have hc5:=cell_kept (World.cell?_setCell_same' W ⟨w.heap.size+1,0,none⟩ (.bool true) (by rw [i4];rfl)) (grownBy_putObj' _ D (.deferred none)) (fun r e=>by cases e;exact ⟨_,hK',rfl⟩)
  have hBe:Below w.heap.size w ((W.setCell ⟨w.heap.size+1,0,none⟩ (.bool true)).putObj D (.deferred none)):=(i7.setCell (p:=⟨w.heap.size+1,0,none⟩) (by show _≤_+1;omega) _).trans (belowK_b (w:=w) (Nat.le_refl _) _ D _ _ (Nat.le_trans hsW hD) hK' rfl rfl)
  clear hTl hBt hold holdf hc2 hc3 hcr hfr
  gi_wp2
  refine ⟨by simp,.inl ⟨_,_,rfl,run_takeDeferred hK',?_⟩⟩
  exact ⟨.bool true,by simp [results,Tryz.results107,go_sem,hc5],gZ HT.out.symm,hBe⟩
 rintro D c pre W hD hSp ⟨rfl,⟨x,hx,hn⟩,i4,i7⟩ hK
 have HE:Hid (ok=false):=HF.out (fun hh=>hn (hh.c x.1 x.2))
 have hc5:=cell_kept i4 (grownBy_putObj' _ D (.deferred none)) (fun r e=>by cases e;exact ⟨_,hK,rfl⟩)
 have hBe:Below w.heap.size w (W.putObj D (.deferred none)):=i7.trans (belowK_b (w:=w) (Nat.le_refl _) _ D _ _ (Nat.le_trans hsW hD) hK rfl rfl)
 clear hTl hBt hold holdf hc2 hc3 hcr hfr
 gi_wp2
 refine ⟨by simp,.inl ⟨_,_,rfl,run_takeDeferred hK,?_⟩⟩
 exact ⟨.bool false,by simp [results,Tryz.results107,go_sem,hc5],gZ HE.out.symm,hBe⟩
theorem mQ (C:Cfg) (w:World) :
  Calls Tryz.prog 188 #[.agg #[],.agg C.cells] w fun e w'=>e=.returned (.int .i64 C.lo)∧Below w.heap.size w w':=by
 have HA:Hid (∀ o o',Below w.heap.size w ((w.alloc o).alloc o')):=fun o o'=>((Below.refl _ _).alloc (Nat.le_refl _) _).alloc (by simp) _
 unfold Cfg.cells
 go_enter Tryz.func188,Tryz.ntmps188
 exact aV
theorem nC (C:Cfg) (i:Int) (w:World) (h1:-1000≤C.xo) (h2:C.xo≤1000) (h3:-1000≤C.hd) (h4:C.hd≤1000) :
  Calls Tryz.prog 191 #[.agg #[.int .i64 i],.agg C.cells] w fun e w'=>e=.returned (.int .i64 (C.xo+C.hd))∧Below w.heap.size w w':=by
 have HA:Hid (∀ o o',Below w.heap.size w ((w.alloc o).alloc o')):=fun o o'=>((Below.refl _ _).alloc (Nat.le_refl _) _).alloc (by simp) _
 have e1:IntKind.i64.wrap (C.xo+C.hd)=C.xo+C.hd:=ll _ (by omega) (by omega)
 unfold Cfg.cells
 go_enter Tryz.func191,Tryz.ntmps191
 go_wp2_with fail
 go_ret
 exact ⟨oU (by first | rfl | exact e1 | exact e1.symm),HA.out _ _⟩
def yO (C:Cfg):Nat→Int
 | 0=>C.lo
 | _+1=>C.xo+C.hd
def vb (C:Cfg):Nat→Int
 | 0=>0
 | k+1=>vb C k+yO C k
theorem Ai {C:Cfg} (h:C.Num) (k:Nat):0≤yO C k∧yO C k≤2000:=by
 have:=h.xo;have:=h.hd;have:=h.lo
 cases k <;> simp only [yO] <;> omega
theorem Dm {C:Cfg} (h:C.Num) (k:Nat):0≤vb C k∧vb C k≤2000*(k:Int):=by
 induction k with
 | zero=>simp [vb]
 | succ k ih =>
  have:=Ai h k
  simp only [vb]
  omega
theorem BG {C:Cfg} {n:Nat} (h1:2≤n) (h2:n≤4):vb C (n+1)=(n:Int)*(C.xo+C.hd)+C.lo:=by
 have:n=2∨n=3∨n=4:=by omega
 rcases this with rfl | rfl | rfl <;> simp only [vb,yO] <;> omega
theorem vF (C:Cfg) (n:Nat) (w:World) (hn:n≤4) (hp:C.p=(n:Int)) (hN:C.Num) :
  Calls Tryz.prog 105 #[.agg C.cells] w fun e w'=>e=.returned (.int .i64 (vb C (n+1)))∧Below w.heap.size w w':=by
 have HN:Hid C.Num:=hN
 have HP:Hid (C.p=(n:Int)):=hp
 have hB0:Below (w.heap.size+1) (w.alloc (.cells #[.int .i64 C.p,.int .i64 C.c,.int .i64 C.xo,.int .i64 C.xn,.int .i64 C.hd,.int .i64 C.lo,.int .i64 C.dl] 25)) (w.alloc (.cells #[.int .i64 C.p,.int .i64 C.c,.int .i64 C.xo,.int .i64 C.xn,.int .i64 C.hd,.int .i64 C.lo,.int .i64 C.dl] 25)):=Below.refl _ _
 clear hN hp
 unfold Cfg.cells
 go_enter Tryz.func105,Tryz.ntmps105
 go_wp2_with fail
 refine (qx C n _ hn HP.out).mono ?_
 rintro e w1 ⟨⟨g,cap,rfl,hown⟩,hb1⟩
 have hB1:=next hB0 hb1
 have HR:Hid (iq w1 (some ⟨g,0,none⟩) (n+1) DS):=vS hown
 clear hb1 hB0 hown
 go_wp2_with fail
 go_loopw [3,9] (fun s i wr=>∃ k:Nat,k≤n+1∧i=.int .i64 k∧s=.int .i64 (vb C k)∧Below w1.heap.size w1 wr) (fun _ i _=>n+1-(intOf i).toNat)
 case atStart=>exact ⟨0,Nat.zero_le _,rfl,rfl,Below.refl _ _⟩
 obtain ⟨k,hk,rfl,rfl,hBr⟩:=hrel
 have hB:=next hB1 hBr
 have cb:=boxed hB
 have HS:Hid (0≤vb C k∧vb C k≤2000*(k:Int)):=Dm HN.out k
 by_cases hlt:k<n+1
 ·
  have hlt':(k:Int)<((n+1:Nat):Int):=by omega
  obtain ⟨g',o',ea,c1⟩:=(HR.out.up hBr) k hlt
  cases ea
  rw [Nat.zero_add] at c1
  have HM:Hid (IntKind.i64.wrap (vb C k+yO C k)=vb C (k+1)):=by
   have:=HS.out
   have:=Ai HN.out k
   exact ll _ (by omega) (by omega)
  cases k with
  | zero =>
   dsimp only [DS,rD] at c1
   have e1:IntKind.i64.wrap (vb C 0+C.lo)=vb C 1:=HM.out
   go_wp2_with fail
   refine (mQ C _).mono ?_
   rintro e w2 ⟨rfl,hb2⟩
   have hBr2:=hBr.trans (hb2.mono hBr.size)
   clear hBr hb2 hB cb c1 HM
   go_wp2_with fail
   go_roundw
   case rel=>exact ⟨1,by omega,by first | rfl | go_num,by first | rfl | (rw [e1]),hBr2⟩
   case measure=>simp [intOf]
  | succ j =>
   dsimp only [DS,uj] at c1
   have e1:IntKind.i64.wrap (vb C (j+1)+(C.xo+C.hd))=vb C (j+1+1):=HM.out
   go_wp2_with fail
   refine (nC C _ _ (by have:=HN.out.xo;omega) (by have:=HN.out.xo;omega) (by have:=HN.out.hd;omega) (by have:=HN.out.hd;omega)).mono ?_
   rintro e w2 ⟨rfl,hb2⟩
   have hBr2:=hBr.trans (hb2.mono hBr.size)
   clear hBr hb2 hB cb c1 HM
   go_wp2_with fail
   go_roundw
   case rel=>exact ⟨j+1+1,by omega,by go_num,by first | rfl | (rw [e1]),hBr2⟩
   case measure=>simp [intOf];omega
 obtain rfl:k=n+1:=by omega
 have B:=under hB
 go_wp2_with fail
 go_ret
 exact ⟨rfl,B⟩
theorem uU (C:Cfg) (w:World) (ok:Bool) (hok:ok=true↔C.Ok) :
  Calls Tryz.prog 72 #[.agg C.cells] w fun e w'=>e=.returned (.bool ok)∧Below w.heap.size w w':=by
 obtain ⟨b,hb⟩:=rr C.Num
 have HO:Hid (ok=true↔C.Ok):=hok
 have hB:Below (w.heap.size+1) (w.alloc (.cells #[.int .i64 C.p,.int .i64 C.c,.int .i64 C.xo,.int .i64 C.xn,.int .i64 C.hd,.int .i64 C.lo,.int .i64 C.dl] 25)) (w.alloc (.cells #[.int .i64 C.p,.int .i64 C.c,.int .i64 C.xo,.int .i64 C.xn,.int .i64 C.hd,.int .i64 C.lo,.int .i64 C.dl] 25)):=Below.refl _ _
 have cb:=boxed hB
 clear hok
 unfold Cfg.cells
 cases b
 ·
  have HF:Hid (ok=false):=by
   show ok=false
   rw [Bool.eq_false_iff]
   intro e
   have:=hb.2 (HO.out.1 e).num
   cases this
  have HNb:Hid (false=true↔C.Num):=hb
  clear hb
  go_enter Tryz.func72,Tryz.ntmps72
  go_wp2_with fail
  refine wp_region_held_drew (S:=fun w'=>∀ o,w'.cell? ⟨w.heap.size,o,none⟩=(#[.int .i64 C.p,.int .i64 C.c,.int .i64 C.xo,.int .i64 C.xn,.int .i64 C.hd,.int .i64 C.lo,.int .i64 C.dl]:Array Value)[o]?) (by kernel_rfl) cb (fun hHeld=>?_)
  refine t0 ?_
  refine rq1 1 (fun K hK=>?_)
  go_simp
  have hB:=hB.drew
  refine (uQ C _ false HNb.out).mono ?_
  rintro e w1 ⟨rfl,hb1⟩
  replace hB:=next hB hb1
  have cb:=boxed hB
  clear hb1
  go_wp2_with fail
  refine hK.out _ _ cb (fun hHeld=>?_)
  clear hK K
  try simp only [Act.put,PZ]
  refine tN ?_
  iterate 5 refine sN ?_
  iterate 2 refine tN ?_
  exact aB
 have HNm:Hid C.Num:=hb.1 rfl
 have HNb:Hid (true=true↔C.Num):=hb
 clear hb
 by_cases hh:C.hd≥5*(2*C.dl+1)
 rotate_left
 ·
  have HF:Hid (ok=false):=by
   show ok=false
   rw [Bool.eq_false_iff]
   intro e
   exact hh (HO.out.1 e).head
  have hh':decide (5*(2*C.dl+1)≤C.hd)=false:=decide_eq_false hh
  go_enter Tryz.func72,Tryz.ntmps72
  go_wp2_with fail
  refine wp_region_held_drew (S:=fun w'=>∀ o,w'.cell? ⟨w.heap.size,o,none⟩=(#[.int .i64 C.p,.int .i64 C.c,.int .i64 C.xo,.int .i64 C.xn,.int .i64 C.hd,.int .i64 C.lo,.int .i64 C.dl]:Array Value)[o]?) (by kernel_rfl) cb (fun hHeld=>?_)
  refine t0 ?_
  refine rq1 1 (fun K hK=>?_)
  go_simp
  have hB:=hB.drew
  refine (uQ C _ true ⟨fun _=>HNm.out,fun _=>rfl⟩).mono ?_
  rintro e w1 ⟨rfl,hb1⟩
  replace hB:=next hB hb1
  have cb:=boxed hB
  clear hb1
  go_wp2_with fail
  refine hK.out _ _ cb (fun hHeld=>?_)
  clear hK K
  try simp only [Act.put,PZ]
  iterate 4 refine tN ?_
  refine rq1 6 (fun K hK=>?_)
  go_simp
  refine (oL C _ HNm.out.dl.1 HNm.out.dl.2).mono ?_
  rintro e w2 ⟨rfl,hb2⟩
  replace hB:=next hB hb2
  replace cb:=boxed hB
  clear hb2
  go_wp2_with fail
  refine hK.out _ _ cb (fun hHeld=>?_)
  clear hK K
  try simp only [Act.put,PZ]
  iterate 3 refine tN ?_
  exact aB
 have hh':decide (5*(2*C.dl+1)≤C.hd)=true:=decide_eq_true hh
 have HH:Hid (C.hd≥5*(2*C.dl+1)):=hh
 obtain ⟨n,hn2,hn4,hpn⟩:∃ n:Nat,2≤n∧n≤4∧C.p=(n:Int):=⟨C.p.toNat,by have:=HNm.out.p;omega,by have:=HNm.out.p;omega,by have:=HNm.out.p;omega⟩
 have HP:Hid (C.p=(n:Int)):=hpn
 have HE:Hid (decide (vb C (n+1)≤C.c)=ok):=by
  rw [Hid,Bool.eq_iff_iff,HO.out,BG hn2 hn4,←hpn]
  simp only [decide_eq_true_eq]
  exact ⟨fun h=>⟨HNm.out,HH.out,h⟩,fun h=>h.sum⟩
 clear hh hpn
 go_enter Tryz.func72,Tryz.ntmps72
 go_wp2_with fail
 refine wp_region_held_drew (S:=fun w'=>∀ o,w'.cell? ⟨w.heap.size,o,none⟩=(#[.int .i64 C.p,.int .i64 C.c,.int .i64 C.xo,.int .i64 C.xn,.int .i64 C.hd,.int .i64 C.lo,.int .i64 C.dl]:Array Value)[o]?) (by kernel_rfl) cb (fun hHeld=>?_)
 refine t0 ?_
 refine rq1 1 (fun K hK=>?_)
 go_simp
 have hB:=hB.drew
 refine (uQ C _ true ⟨fun _=>HNm.out,fun _=>rfl⟩).mono ?_
 rintro e w1 ⟨rfl,hb1⟩
 replace hB:=next hB hb1
 have cb:=boxed hB
 clear hb1
 go_wp2_with fail
 refine hK.out _ _ cb (fun hHeld=>?_)
 clear hK K
 try simp only [Act.put,PZ]
 iterate 4 refine tN ?_
 refine rq1 6 (fun K hK=>?_)
 go_simp
 refine (oL C _ HNm.out.dl.1 HNm.out.dl.2).mono ?_
 rintro e w2 ⟨rfl,hb2⟩
 replace hB:=next hB hb2
 replace cb:=boxed hB
 clear hb2
 go_wp2_with fail
 refine hK.out _ _ cb (fun hHeld=>?_)
 clear hK K
 try simp only [Act.put,PZ]
 iterate 4 refine tN ?_
 refine tQ 12 15 ?_
 refine tQ 13 16 ?_
 refine rq1 11 (fun K hK=>?_)
 go_simp
 refine (vF C n _ hn4 HP.out HNm.out).mono ?_
 rintro e w3 ⟨rfl,hb3⟩
 replace hB:=next hB hb3
 replace cb:=boxed hB
 clear hb3
 go_wp2_with fail
 refine hK.out _ _ cb (fun hHeld=>?_)
 clear hK K
 try simp only [Act.put,PZ]
 refine tQ 14 17 ?_
 refine tQ 15 18 ?_
 refine rq1 16 (fun K hK=>?_)
 go_simp
 refine hK.out _ _ cb (fun hHeld=>?_)
 clear hK K
 try simp only [Act.put,PZ]
 refine dnq ?_
 have B:=under hB
 go_wp2_with fail
 go_ret
 exact ⟨gZ HE.out,B⟩
theorem mL (C:Cfg) (w:World) (ok:Bool) (hok:ok=true↔C.Ok) :
  Calls Tryz.prog 96 #[.agg C.cells] w fun e w'=>e=.returned (.bool ok)∧Below w.heap.size w w':=by
 have HO:Hid (ok=true↔C.Ok):=hok
 have HA:Hid (∀ o,Below w.heap.size w (w.alloc o)):=fun o=>(Below.refl _ _).alloc (Nat.le_refl _) _
 clear hok
 unfold Cfg.cells
 go_enter Tryz.func96,Tryz.ntmps96
 go_wp2_with fail
 refine (il _ _ _ _).mono ?_
 rintro e w' ⟨rfl,hw⟩
 rw [hw]
 clear hw w'
 by_cases h_p:2≤C.p∧C.p≤4
 rotate_left
 ·
  have HF:Hid (ok=false):=by
   show ok=false
   rw [Bool.eq_false_iff]
   intro e
   exact h_p (HO.out.1 e).num.p
  rw [decide_eq_false h_p]
  clear h_p
  exact ae
 rw [decide_eq_true h_p]
 have H_p:Hid (2≤C.p∧C.p≤4):=h_p
 clear h_p
 go_wp2_with fail
 refine (il _ _ _ _).mono ?_
 rintro e w' ⟨rfl,hw⟩
 rw [hw]
 clear hw w'
 by_cases h_c:1≤C.c∧C.c≤1000
 rotate_left
 ·
  have HF:Hid (ok=false):=by
   show ok=false
   rw [Bool.eq_false_iff]
   intro e
   exact h_c (HO.out.1 e).num.c
  rw [decide_eq_false h_c]
  clear h_c
  exact ae
 rw [decide_eq_true h_c]
 have H_c:Hid (1≤C.c∧C.c≤1000):=h_c
 clear h_c
 go_wp2_with fail
 refine (il _ _ _ _).mono ?_
 rintro e w' ⟨rfl,hw⟩
 rw [hw]
 clear hw w'
 by_cases h_xo:1≤C.xo∧C.xo≤1000
 rotate_left
 ·
  have HF:Hid (ok=false):=by
   show ok=false
   rw [Bool.eq_false_iff]
   intro e
   exact h_xo (HO.out.1 e).num.xo
  rw [decide_eq_false h_xo]
  clear h_xo
  exact ae
 rw [decide_eq_true h_xo]
 have H_xo:Hid (1≤C.xo∧C.xo≤1000):=h_xo
 have h_xo1:=h_xo.1
 have h_xo2:=h_xo.2
 clear h_xo
 go_wp2_with fail
 refine (il _ _ _ _).mono ?_
 rintro e w' ⟨rfl,hw⟩
 rw [hw]
 clear hw w'
 by_cases h_xn:0≤C.xn∧C.xn≤C.xo-1
 rotate_left
 ·
  have HF:Hid (ok=false):=by
   show ok=false
   rw [Bool.eq_false_iff]
   intro e
   exact h_xn (HO.out.1 e).num.xn
  rw [decide_eq_false h_xn]
  clear h_xn
  exact ae
 rw [decide_eq_true h_xn]
 have H_xn:Hid (0≤C.xn∧C.xn≤C.xo-1):=h_xn
 clear h_xn
 go_wp2_with fail
 refine (il _ _ _ _).mono ?_
 rintro e w' ⟨rfl,hw⟩
 rw [hw]
 clear hw w'
 by_cases h_hd:0≤C.hd∧C.hd≤1000
 rotate_left
 ·
  have HF:Hid (ok=false):=by
   show ok=false
   rw [Bool.eq_false_iff]
   intro e
   exact h_hd (HO.out.1 e).num.hd
  rw [decide_eq_false h_hd]
  clear h_hd
  exact ae
 rw [decide_eq_true h_hd]
 have H_hd:Hid (0≤C.hd∧C.hd≤1000):=h_hd
 clear h_hd
 go_wp2_with fail
 refine (il _ _ _ _).mono ?_
 rintro e w' ⟨rfl,hw⟩
 rw [hw]
 clear hw w'
 by_cases h_lo:0≤C.lo∧C.lo≤1000
 rotate_left
 ·
  have HF:Hid (ok=false):=by
   show ok=false
   rw [Bool.eq_false_iff]
   intro e
   exact h_lo (HO.out.1 e).num.lo
  rw [decide_eq_false h_lo]
  clear h_lo
  exact ae
 rw [decide_eq_true h_lo]
 have H_lo:Hid (0≤C.lo∧C.lo≤1000):=h_lo
 clear h_lo
 go_wp2_with fail
 refine (il _ _ _ _).mono ?_
 rintro e w' ⟨rfl,hw⟩
 rw [hw]
 clear hw w'
 by_cases h_dl:1≤C.dl∧C.dl≤3
 rotate_left
 ·
  have HF:Hid (ok=false):=by
   show ok=false
   rw [Bool.eq_false_iff]
   intro e
   exact h_dl (HO.out.1 e).num.dl
  rw [decide_eq_false h_dl]
  clear h_dl
  exact ae
 rw [decide_eq_true h_dl]
 have H_dl:Hid (1≤C.dl∧C.dl≤3):=h_dl
 clear h_dl
 have HNm:Hid C.Num:=⟨H_p.out,H_c.out,H_xo.out,H_xn.out,H_hd.out,H_lo.out,H_dl.out⟩
 have e1:IntKind.i64.wrap (2*C.dl)=2*C.dl:=ll _ (by have:=H_dl.out;omega) (by have:=H_dl.out;omega)
 have e2:IntKind.i64.wrap (2*C.dl+1)=2*C.dl+1:=ll _ (by have:=H_dl.out;omega) (by have:=H_dl.out;omega)
 have e3:IntKind.i64.wrap ((2*C.dl+1)*5)=(2*C.dl+1)*5:=ll _ (by have:=H_dl.out;omega) (by have:=H_dl.out;omega)
 have e4:IntKind.i64.wrap (C.xo+C.hd)=C.xo+C.hd:=ll _ (by have:=H_xo.out;have:=H_hd.out;omega) (by have:=H_xo.out;have:=H_hd.out;omega)
 have hpc:2≤C.p∧C.p≤4:=H_p.out
 have hp3:C.p=2∨C.p=3∨C.p=4:=by omega
 have e5:IntKind.i64.wrap (C.p*(C.xo+C.hd))=C.p*(C.xo+C.hd):=by
  have:=H_xo.out
  have:=H_hd.out
  exact aW
 have e6:IntKind.i64.wrap (C.p*(C.xo+C.hd)+C.lo)=C.p*(C.xo+C.hd)+C.lo:=by
  have:=H_xo.out
  have:=H_hd.out
  have:=H_lo.out
  exact aW
 clear hpc hp3
 by_cases hh:(2*C.dl+1)*5≤C.hd
 rotate_left
 ·
  have HF:Hid (ok=false):=by
   show ok=false
   rw [Bool.eq_false_iff]
   intro e
   have:=(HO.out.1 e).head
   omega
  have hh':decide ((2*C.dl+1)*5≤C.hd)=false:=decide_eq_false hh
  exact ae
 have hh':decide ((2*C.dl+1)*5≤C.hd)=true:=decide_eq_true hh
 have HE:Hid (decide (C.p*(C.xo+C.hd)+C.lo≤C.c)=ok):=by
  rw [Hid,Bool.eq_iff_iff,HO.out]
  simp only [decide_eq_true_eq]
  exact ⟨fun h=>⟨HNm.out,by omega,h⟩,fun h=>h.sum⟩
 go_wp2_with fail
 go_ret
 exact ⟨gZ HE.out,HA.out _⟩
theorem iS {w wi:World} {A B:Array Value} {t s:TypeId} (h:Below (w.heap.size+2) ((w.alloc (.cells A t)).alloc (.cells B s)) wi):(∀ o,wi.cell? ⟨w.heap.size,o,none⟩=A[o]?)∧∀ o,wi.cell? ⟨w.heap.size+1,o,none⟩=B[o]?:=by
 have k1:wi.heap[w.heap.size]?=some (.cells A t (0,0)):=(h.block _ (by omega)).trans ((iv _ (by simp)).trans (gV _ _))
 have k2:wi.heap[w.heap.size+1]?=some (.cells B s (0,0)):=by
  refine (h.block _ (by omega)).trans ?_
  have:=gV (w.alloc (.cells A t)) (.cells B s)
  simpa using this
 exact ⟨gM k1,gM k2⟩
theorem jC {w wi:World} {o o':Obj} (h:Below (w.heap.size+2) ((w.alloc o).alloc o') wi):Below w.heap.size w wi :=
 (((Below.refl _ _).alloc (Nat.le_refl _) o).alloc (by simp) o').trans (h.mono (by omega))
theorem kH {w wi:World} {o o':Obj} (h:Below (w.heap.size+2) ((w.alloc o).alloc o') wi):w.heap.size+2≤wi.heap.size:=by
 have:=h.size
 simpa using this
theorem kc {w wi wj:World} {o o':Obj} (h:Below (w.heap.size+2) ((w.alloc o).alloc o') wi) (k:Below wi.heap.size wi wj):Below (w.heap.size+2) ((w.alloc o).alloc o') wj :=
 h.trans (k.mono (kH h))
theorem py (N:Cnt) (w:World) :
  Calls Tryz.prog 187 #[.agg #[],.agg N.cells] w fun e w'=>e=.returned (.int .i64 N.lo)∧Below w.heap.size w w':=by
 have HA:Hid (∀ o o',Below w.heap.size w ((w.alloc o).alloc o')):=fun o o'=>((Below.refl _ _).alloc (Nat.le_refl _) _).alloc (by simp) _
 unfold Cnt.cells
 go_enter Tryz.func187,Tryz.ntmps187
 exact aV
theorem qs (N:Cnt) (i:Nat) (w:World) (hf:N.Fit) (hi:i<N.nU) (h:lJ w N) :
  Calls Tryz.prog 190 #[.agg #[.int .i64 i],.agg N.cells] w fun e w'=>e=.returned (.int .i64 (N.u i))∧Below w.heap.size w w':=by
 have HA:Hid (∀ o o',Below w.heap.size w ((w.alloc o).alloc o')):=fun o o'=>((Below.refl _ _).alloc (Nat.le_refl _) _).alloc (by simp) _
 obtain ⟨aU,nU,cU,u,lo,aP,nP,cP,p⟩:=N
 have hi':i<nU:=hi
 have hi2:(i:Int)<nU:=by omega
 have hU:iq w aU nU fun i=>.int .i64 (u i):=h.u
 have hm:nU≤maxLen:=hf.u
 obtain ⟨g,o,rfl,hc⟩:=hU i hi'
 have hc2:∀ ob ob',((w.alloc ob).alloc ob').cell? ⟨g,o+i,none⟩=some (.int .i64 (u i)):=fun ob ob'=>((HA.out ob ob').cell (p:=⟨g,o+i,none⟩) (j7 hc)).trans hc
 clear h hf hi hU hc
 unfold Cnt.cells
 go_enter Tryz.func190,Tryz.ntmps190
 exact aV
theorem mK (C:Cfg) (N:Cnt) (w:World) (hf:N.Fit) (h:lJ w N) (ok:Bool) (hok:ok=true↔Cnt.Ok C N) :
  Calls Tryz.prog 60 #[.agg C.cells,.agg N.cells] w fun e w'=>e=.returned (.bool ok)∧Below w.heap.size w w':=by
 obtain ⟨b,hb⟩:=rr C.Ok
 have HO:Hid (ok=true↔Cnt.Ok C N):=hok
 have HR:Hid (lJ w N):=h
 have HF:Hid N.Fit:=hf
 have HCb:Hid (b=true↔C.Ok):=hb
 have hU3:(N.nU:Int)≤9223372036854775807:=by have:=hf.u;unfold maxLen at this;omega
 have hP3:(N.nP:Int)≤9223372036854775807:=by have:=hf.p;unfold maxLen at this;omega
 have HB0:Hid (Below (w.heap.size+2) ((w.alloc (.cells #[.int .i64 C.p,.int .i64 C.c,.int .i64 C.xo,.int .i64 C.xn,.int .i64 C.hd,.int .i64 C.lo,.int .i64 C.dl] 25)).alloc (.cells #[.slice N.aU N.nU N.cU,.int .i64 N.lo,.slice N.aP N.nP N.cP] 30)) ((w.alloc (.cells #[.int .i64 C.p,.int .i64 C.c,.int .i64 C.xo,.int .i64 C.xn,.int .i64 C.hd,.int .i64 C.lo,.int .i64 C.dl] 25)).alloc (.cells #[.slice N.aU N.nU N.cU,.int .i64 N.lo,.slice N.aP N.nP N.cP] 30))):=Below.refl _ _
 clear hok h hf hb
 unfold Cfg.cells Cnt.cells
 go_enter Tryz.func60,Tryz.ntmps60
 go_wp2_with fail
 refine (mL C _ b HCb.out).mono ?_
 rintro e w1 ⟨rfl,hb1⟩
 have hB:=kc HB0.out hb1
 have cb:=(iS hB).1
 have cn:=(iS hB).2
 clear hb1
 cases b
 ·
  have HE:Hid (ok=false):=by
   show ok=false
   rw [Bool.eq_false_iff]
   intro e
   have:=HCb.out.2 (HO.out.1 e).c
   cases this
  have B:=jC hB
  exact aF
 have HC:Hid C.Ok:=HCb.out.1 rfl
 clear HCb
 by_cases hU:(N.nU:Int)=C.p
 rotate_left
 ·
  have HE:Hid (ok=false):=by
   show ok=false
   rw [Bool.eq_false_iff]
   intro e
   exact hU (HO.out.1 e).nU
  have hU':((N.nU:Int) != C.p)=true:=by simpa using hU
  have B:=jC hB
  clear hU
  exact aF
 have hU':((N.nU:Int) != C.p)=false:=by simpa using hU
 have HU:Hid ((N.nU:Int)=C.p):=hU
 clear hU
 by_cases hP:(N.nP:Int)=C.p
 rotate_left
 ·
  have HE:Hid (ok=false):=by
   show ok=false
   rw [Bool.eq_false_iff]
   intro e
   exact hP (HO.out.1 e).nP
  have hP':((N.nP:Int) != C.p)=true:=by simpa using hP
  have B:=jC hB
  clear hP
  exact aF
 have hP':((N.nP:Int) != C.p)=false:=by simpa using hP
 have HP:Hid ((N.nP:Int)=C.p):=hP
 clear hP
 go_wp2_with fail
 refine (il _ _ _ _).mono ?_
 rintro e w' ⟨rfl,hw⟩
 rw [hw]
 clear hw w'
 by_cases hL:0≤N.lo∧N.lo≤C.lo
 rotate_left
 ·
  have HE:Hid (ok=false):=by
   show ok=false
   rw [Bool.eq_false_iff]
   intro e
   exact hL (HO.out.1 e).lo
  have B:=jC hB
  rw [decide_eq_false hL]
  clear hL
  exact aF
 rw [decide_eq_true hL]
 have HL:Hid (0≤N.lo∧N.lo≤C.lo):=hL
 clear hL
 go_wp2_with fail
 have e4:IntKind.i64.wrap (C.xo+C.hd)=C.xo+C.hd:=ll _ (by have:=HC.out.num.xo;have:=HC.out.num.hd;omega) (by have:=HC.out.num.xo;have:=HC.out.num.hd;omega)
 go_loopw [5] (fun i wr=>∃ k:Nat,k≤N.nU∧i=.int .i64 k∧(∀ j,j<k→0≤N.u j∧N.u j≤C.xo+C.hd)∧Below w1.heap.size w1 wr) (fun i _=>N.nU-(intOf i).toNat)
 case atStart=>exact ⟨0,Nat.zero_le _,rfl,fun j hj=>by omega,Below.refl _ _⟩
 obtain ⟨k,hk,rfl,hall,hBr⟩:=hrel
 have HA:Hid (∀ j,j<k→0≤N.u j∧N.u j≤C.xo+C.hd):=hall
 clear hall cb cn
 have hB2:=kc hB hBr
 have cb:=(iS hB2).1
 have cn:=(iS hB2).2
 by_cases hlt:k<N.nU
 ·
  have hlt':(k:Int)<N.nU:=by omega
  obtain ⟨g,o,ea,c0⟩:=(HR.out.u.up (jC hB2)) k hlt
  dsimp only at c0
  rw [ea] at cn
  clear ea
  have hz9:(k:Int)≤9223372036854775807:=by omega
  by_cases hz:0≤N.u k∧N.u k≤C.xo+C.hd
  ·
   go_wp2_with fail
   refine wp_region_held_drew (S:=fun w'=>(∀ o,w'.cell? ⟨w.heap.size,o,none⟩=(#[.int .i64 C.p,.int .i64 C.c,.int .i64 C.xo,.int .i64 C.xn,.int .i64 C.hd,.int .i64 C.lo,.int .i64 C.dl]:Array Value)[o]?)∧(∀ o',w'.cell? ⟨w.heap.size+1,o',none⟩=(#[.slice (some ⟨g,o,none⟩) N.nU N.cU,.int .i64 N.lo,.slice N.aP N.nP N.cP]:Array Value)[o']?)∧w'.cell? ⟨g,o+k,none⟩=some (.int .i64 (N.u k))) (by kernel_rfl) ⟨cb,cn,c0⟩ (fun hHeld=>?_)
   refine t0 ?_
   iterate 9 refine tN ?_
   refine rq1 10 (fun K hK=>?_)
   go_simp
   refine (il _ _ _ _).mono ?_
   rintro e w' ⟨rfl,hw⟩
   rw [hw]
   clear hw w'
   rw [decide_eq_true hz]
   go_wp2_with fail
   refine hK.out _ _ ⟨cb,cn,c0⟩ (fun hHeld=>?_)
   clear hK K
   try simp only [Act.put,PZ]
   refine tN ?_
   refine dnq ?_
   have HZ:Hid (0≤N.u k∧N.u k≤C.xo+C.hd):=hz
   clear hz
   go_wp2_with fail
   go_roundw
   case rel=>exact ⟨k+1,by omega,by go_num,fun j hj=>by
    by_cases e:j=k
    ·
     subst e;exact HZ.out
    ·
     exact HA.out j (by omega),hBr.drew⟩
   case measure=>simp [intOf];omega
  have HE:Hid (ok=false):=by
   show ok=false
   rw [Bool.eq_false_iff]
   intro e
   exact hz ((HO.out.1 e).u k hlt)
  go_wp2_with fail
  refine wp_region_held_drew (S:=fun w'=>(∀ o,w'.cell? ⟨w.heap.size,o,none⟩=(#[.int .i64 C.p,.int .i64 C.c,.int .i64 C.xo,.int .i64 C.xn,.int .i64 C.hd,.int .i64 C.lo,.int .i64 C.dl]:Array Value)[o]?)∧(∀ o',w'.cell? ⟨w.heap.size+1,o',none⟩=(#[.slice (some ⟨g,o,none⟩) N.nU N.cU,.int .i64 N.lo,.slice N.aP N.nP N.cP]:Array Value)[o']?)∧w'.cell? ⟨g,o+k,none⟩=some (.int .i64 (N.u k))) (by kernel_rfl) ⟨cb,cn,c0⟩ (fun hHeld=>?_)
  refine t0 ?_
  iterate 9 refine tN ?_
  refine rq1 10 (fun K hK=>?_)
  go_simp
  refine (il _ _ _ _).mono ?_
  rintro e w' ⟨rfl,hw⟩
  rw [hw]
  clear hw w'
  rw [decide_eq_false hz]
  go_wp2_with fail
  refine hK.out _ _ ⟨cb,cn,c0⟩ (fun hHeld=>?_)
  clear hK K
  try simp only [Act.put,PZ]
  refine tN ?_
  refine dnq ?_
  have B:=(jC hB2).drew
  exact aF
 obtain rfl:k=N.nU:=by omega
 have HT:Hid (ok=true):=HO.out.2 ⟨HC.out,HU.out,HP.out,HL.out,HA.out⟩
 have B:=jC hB2
 go_wp2_with fail
 go_ret
 exact ⟨gZ HT.out.symm,B⟩
theorem sH {w wi:World} {o o':Obj} (h:Below (w.heap.size+2) ((w.alloc o).alloc o') wi):wi.heap[w.heap.size]?=some o∧wi.heap[w.heap.size+1]?=some o':=by
 refine ⟨(h.block _ (by omega)).trans ((iv _ (by simp)).trans (gV _ _)),(h.block _ (by omega)).trans ?_⟩
 have:=gV (w.alloc o) o'
 simpa using this
def vf:Cnt:=⟨none,0,0,fun _=>0,0,none,0,0,fun _=>false⟩
def DN (n:Nat) (ok:Bool):Cnt:=if ok then ⟨none,n,n,fun _=>0,0,none,n,n,fun _=>false⟩ else vf
theorem qV (w:World) (base:Nat):iG w base vf:=⟨.inl rfl,.inl rfl⟩
def oD (W:World) (g:Nat) (a b c:Value):World:=((W.setCell ⟨g,0,none⟩ a).setCell ⟨g,1,none⟩ b).setCell ⟨g,2,none⟩ c
theorem kh {W:World} {g:Nat} {x y z:Value} {t:TypeId} (h:W.heap[g]?=some (.cells #[x,y,z] t (0,0))) (a b c:Value):(oD W g a b c).heap[g]?=some (.cells #[a,b,c] t (0,0)):=iu (iu (iu h _) _) _
theorem iZ (W:World) (g:Nat) (a b c:Value):Touch [g] W (oD W g a b c):=(((Touch.refl _ _).set (by simp) 0 a).set (by simp) 1 b).set (by simp) 2 c
theorem oB (C:Cfg) (n:Nat) (w:World) (hp:2≤C.p∧C.p≤4→C.p=(n:Int)) (ok:Bool) (hok:ok=true↔C.Ok) :
  Calls Tryz.prog 83 #[.agg C.cells] w fun e w'=>∃ M:Cnt,e=.returned (.tuple #[.agg M.cells,.bool ok])∧iG w' w.heap.size M∧Below w.heap.size w w'∧iA (DN n ok) M:=by
 cases ok
 ·
  have HO:Hid (false=true↔C.Ok):=hok
  have HB0:Hid (Below (w.heap.size+2) ((w.alloc (.cells C.cells 25)).alloc (.cells #[.slice none 0 0,.int .i64 0,.slice none 0 0] 30)) ((w.alloc (.cells C.cells 25)).alloc (.cells #[.slice none 0 0,.int .i64 0,.slice none 0 0] 30))):=Below.refl _ _
  clear hok hp
  unfold Cfg.cells at *
  go_enter Tryz.func83,Tryz.ntmps83
  go_wp2_with fail
  refine (mL C _ false HO.out).mono ?_
  rintro e w1 ⟨rfl,hb⟩
  have hB:=kc HB0.out hb
  have kz:=(sH hB).2
  have cz:=gM kz
  have fz:=ic kz
  have ht:=iZ w1 (w.heap.size+1) (.slice none 0 0) (.int .i64 0) (.slice none 0 0)
  have kz3:=kh kz (.slice none 0 0) (.int .i64 0) (.slice none 0 0)
  have B:=(jC hB).trans (ht.below (jC hB).size (fun x hx=>by simp at hx;omega))
  have cB:=gM kz3
  clear hb kz ht kz3 hB
  unfold oD at *
  go_wp2_with fail
  exact bodyPost_ret (v:=.tuple #[.agg #[.slice none 0 0,.int .i64 0,.slice none 0 0],.bool false]) (by simp [results,Tryz.results83,go_sem,cB]) rfl ⟨vf,rfl,qV _ _,B,iA.refl _⟩
 obtain ⟨p,c,xo,xn,hd,lo,dl⟩:=C
 have hC:=hok.1 rfl
 have h1:2≤p∧p≤4:=hC.num.p
 obtain rfl:p=(n:Int):=hp h1
 have hn:n≤4:=by omega
 have HO:Hid (Cfg.Ok ⟨(n:Int),c,xo,xn,hd,lo,dl⟩):=hC
 have mk1:∀ w,_:=px n (by omega)
 have mk2:∀ w,_:=yP n (by omega)
 have HB0:Hid (Below (w.heap.size+2) ((w.alloc (.cells #[.int .i64 (n:Int),.int .i64 c,.int .i64 xo,.int .i64 xn,.int .i64 hd,.int .i64 lo,.int .i64 dl] 25)).alloc (.cells #[.slice none 0 0,.int .i64 0,.slice none 0 0] 30)) ((w.alloc (.cells #[.int .i64 (n:Int),.int .i64 c,.int .i64 xo,.int .i64 xn,.int .i64 hd,.int .i64 lo,.int .i64 dl] 25)).alloc (.cells #[.slice none 0 0,.int .i64 0,.slice none 0 0] 30))):=Below.refl _ _
 clear hok hp hC h1
 unfold Cfg.cells
 dsimp only
 go_enter Tryz.func83,Tryz.ntmps83
 go_wp2_with fail
 refine (mL ⟨(n:Int),c,xo,xn,hd,lo,dl⟩ _ true ⟨fun _=>HO.out,fun _=>rfl⟩).mono ?_
 rintro e w1 ⟨rfl,hb⟩
 have hB:=kc HB0.out hb
 have cb:=(iS hB).1
 have kz:=(sH hB).2
 clear hb
 go_wp2_with fail
 refine wp_region_held_drew (S:=fun w'=>∀ o,w'.cell? ⟨w.heap.size,o,none⟩=(#[.int .i64 (n:Int),.int .i64 c,.int .i64 xo,.int .i64 xn,.int .i64 hd,.int .i64 lo,.int .i64 dl]:Array Value)[o]?) (by kernel_rfl) cb (fun hHeld=>?_)
 have kz:w1.drew.heap[w.heap.size+1]?=_:=kz
 replace hB:=hB.drew
 have cb:∀ o,w1.drew.cell? ⟨w.heap.size,o,none⟩=(#[.int .i64 (n:Int),.int .i64 c,.int .i64 xo,.int .i64 xn,.int .i64 hd,.int .i64 lo,.int .i64 dl]:Array Value)[o]?:=cb
 generalize w1.drew=W at *
 refine tC 0 8 (v:=?_) ?_ ?_
 rotate_left
 · exact aI
 try simp only [Act.put,PZ]
 refine tC 1 9 (v:=?_) ?_ ?_
 rotate_left
 · exact aI
 try simp only [Act.put,PZ]
 refine tC 3 11 (v:=?_) ?_ ?_
 rotate_left
 · exact aI
 try simp only [Act.put,PZ]
 refine tC 4 12 (v:=?_) ?_ ?_
 rotate_left
 · exact aI
 try simp only [Act.put,PZ]
 refine rq2 2 5 (fun K hK=>?_) (fun K hK=>?_)
 ·
  have hA:=(Below.refl W.heap.size W).alloc (Nat.le_refl _) (.cells (jV n) 2)
  have hN:=gV W (.cells (jV n) 2)
  have hB2:=kc hB hA
  have cb2:=(iS hB2).1
  have kz2:=(hA.block _ (gO kz)).trans kz
  have gUl:w.heap.size+2≤W.heap.size:=kH hB
  have m:=mk1 W
  go_simp
  clear m
  refine hK.out _ _ cb2 (fun hHeld=>?_)
  clear hK K
  try simp only [Act.put,PZ]
  have kU:(W.alloc (.cells (jV n) 2)).heap[W.heap.size]?=_:=hN
  have gUr:W.heap.size<(W.alloc (.cells (jV n) 2)).heap.size:=gO hN
  generalize hg1:W.heap.size=gU at *
  generalize W.alloc (.cells (jV n) 2)=W1 at *
  clear hB cb kz hA hN
  have hB:=hB2
  have kz:=kz2
  clear hB2 kz2 cb2
  refine rq1 5 (fun K hK=>?_)
  have hA:=(Below.refl W1.heap.size W1).alloc (Nat.le_refl _) (.cells (mq n) 4)
  have hN:=gV W1 (.cells (mq n) 4)
  have hB2:=kc hB hA
  have cb2:=(iS hB2).1
  have kz2:=(hA.block _ (gO kz)).trans kz
  have kU2:=(hA.block _ (gO kU)).trans kU
  have gPl:w.heap.size+2≤W1.heap.size:=kH hB
  have m:=mk2 W1
  go_simp
  clear m
  refine hK.out _ _ cb2 (fun hHeld=>?_)
  clear hK K
  try simp only [Act.put,PZ]
  have kP:(W1.alloc (.cells (mq n) 4)).heap[W1.heap.size]?=_:=hN
  have gUn:gU≠W1.heap.size:=by omega
  generalize hg2:W1.heap.size=gP at *
  generalize W1.alloc (.cells (mq n) 4)=W2 at *
  clear hB kz hA hN kU
  have hB:=hB2
  have kz:=kz2
  have kU:=kU2
  clear hB2 kz2 kU2
  exact aw
 have hA:=(Below.refl W.heap.size W).alloc (Nat.le_refl _) (.cells (mq n) 4)
 have hN:=gV W (.cells (mq n) 4)
 have hB2:=kc hB hA
 have cb2:=(iS hB2).1
 have kz2:=(hA.block _ (gO kz)).trans kz
 have gPl:w.heap.size+2≤W.heap.size:=kH hB
 have m:=mk2 W
 go_simp
 clear m
 refine hK.out _ _ cb2 (fun hHeld=>?_)
 clear hK K
 try simp only [Act.put,PZ]
 have kP:(W.alloc (.cells (mq n) 4)).heap[W.heap.size]?=_:=hN
 have gPr:W.heap.size<(W.alloc (.cells (mq n) 4)).heap.size:=gO hN
 generalize hg1:W.heap.size=gP at *
 generalize W.alloc (.cells (mq n) 4)=W1 at *
 clear hB cb kz hA hN
 have hB:=hB2
 have kz:=kz2
 clear hB2 kz2 cb2
 refine rq1 2 (fun K hK=>?_)
 have hA:=(Below.refl W1.heap.size W1).alloc (Nat.le_refl _) (.cells (jV n) 2)
 have hN:=gV W1 (.cells (jV n) 2)
 have hB2:=kc hB hA
 have cb2:=(iS hB2).1
 have kz2:=(hA.block _ (gO kz)).trans kz
 have kP2:=(hA.block _ (gO kP)).trans kP
 have gUl:w.heap.size+2≤W1.heap.size:=kH hB
 have m:=mk1 W1
 go_simp
 clear m
 refine hK.out _ _ cb2 (fun hHeld=>?_)
 clear hK K
 try simp only [Act.put,PZ]
 have kU:(W1.alloc (.cells (jV n) 2)).heap[W1.heap.size]?=_:=hN
 have gPn:gP≠W1.heap.size:=by omega
 generalize hg2:W1.heap.size=gU at *
 generalize W1.alloc (.cells (jV n) 2)=W2 at *
 clear hB kz hA hN kP
 have hB:=hB2
 have kz:=kz2
 have kP:=kP2
 clear hB2 kz2 kP2
 exact aw
end Go.Proofs.YthicmlolanifhaaGreat
