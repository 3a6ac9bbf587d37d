import Derived.Test.YtjippgbmmlcgoaaGreatDoorB09
import Derived.Deep.MidRow
namespace Go.Proofs.YtjippgbmmlcgoaaGreatDoor
set_option maxRecDepth 100000
open Go.RowKit
set_option linter.unusedVariables false
set_option linter.unusedSimpArgs false
variable {a:Act} {ops:Array Oper} {Q:Exit→Act→World→Prop} {rest:List Oper} {o:Oper} {p:Prop} {w:World}
theorem bu (h:p:=by
 exact se 51 (.tmp 4) rfl wr.heap.size rfl _ (C4 hS2)):p:=h
theorem bw (h:p:=by
 exact se 34 (.tmp 1) rfl w.heap.size rfl _ (yM hS1)):p:=h
theorem bx (h:p:=by
 go_wp2_with fail
 go_ret
 exact ⟨iv HF.symm,B9⟩):p:=h
theorem lx (hg:o.guard=none) (x:Operand) (ho:o.op=.load 51 x) (b off:Nat) (hx:a.eval x=.pointer (some ⟨b,off,none⟩))
  (X:Pkt) (hc:∀ j,j<8→w.cell? ⟨b,off+j,none⟩=X.cells[j]?) (h:wpList Tryz.prog ops Q rest (a.put o.dst (.agg X.cells)) w):wpList Tryz.prog ops Q (o :: rest) a w :=
 wpList_load_mid hg 51 x ho b off hx X.cells.toList _ (fun j v hv=>by
  have hj:j<8:=by
   have:=(List.getElem?_eq_some_iff.1 hv).1
   simpa [Pkt.cells] using this
  rw [hc j hj,←Array.getElem?_toList]
  exact hv) Tryz.underlying51 rfl rq h
theorem xA (w0:World) (old cs:Array Value) (t:TypeId):(w0.alloc (.cells old t)).setRow w0.heap.size cs=w0.alloc (.cells cs t):=by
 have e:(w0.heap.push (.cells old t)).modify w0.heap.size (fun ob=>match ob with | .cells _ t fr=>.cells cs t fr | x=>x)=w0.heap.push (.cells cs t):=by
  refine Array.ext_getElem? fun i=>?_
  rw [Array.getElem?_modify,Array.getElem?_push,Array.getElem?_push]
  by_cases h:w0.heap.size=i
  ·
   subst h;simp
  have h2:¬ i=w0.heap.size:=fun e=>h e.symm
  simp [h,h2]
 show ({ w0 with heap:=_ }:World)={ w0 with heap:=_ }
 congr 1
theorem jo {w0:World} (t:TypeId) (n:Nat) (hi:(Tryz.prog.info? t).map (·.size)=some n) (hg:o.guard=none) (x y:Operand) (ho:o.op=.store t x y) (cs old:Array Value) (hw:w=w0.alloc (.cells old t))
  (hx:a.eval x=.pointer (some ⟨w0.heap.size,0,none⟩)) (hy:a.eval y=.agg cs) (hs:cs.size=n) (ho2:old.size=n) (h1:cs.all (·.oneCell')=true)
  (h:wpList Tryz.prog ops Q rest (a.put o.dst undef) (w0.alloc (.cells cs t))):wpList Tryz.prog ops Q (o :: rest) a w:=by
 subst hw
 refine wpList_plain hg fun _ hK=>wp_store_row t x y ho w0.heap.size cs hx hy t old (im _ _) (by rw [hs];exact hi) (by omega) h1 (hK _ _ ?_)
 rw [xA]
 exact h
theorem Pkt.one (x:Pkt):x.cells.all (·.oneCell')=true:=by simp [Pkt.cells,Value.oneCell']
set_option maxHeartbeats 9000000 in
theorem wX (S:Swg) (w:World) (hs:S.Small) (hr:pI w S.aK S.nK S.K) (h1:0≤S.C.p) (h2:S.C.p≤1000000) (h3:1≤S.nx) (h4:S.nx≤1000000000) (ok:Bool) (hok:ok=true↔lQ S.nx S.C.p S.nK S.K) :
  Calls Tryz.prog 28 #[.agg S.cells] w fun e w'=>e=.returned (.bool ok)∧Below w.heap.size w w':=by
 have HO:=aa hok
 have HR:=aa hr
 have Hbs:=aa hs.b
 have hnK:S.nK≤1048576:=hs.k
 have hB:Below (w.heap.size+1) (w.alloc (.cells S.cells 34)) (w.alloc (.cells S.cells 34)):=Below.refl _ _
 have c13:World.cell? (w.alloc (.cells S.cells 34)) ⟨w.heap.size,13,none⟩=some (.slice S.aK S.nK S.cK):=boxed hB 13
 clear hok hr hs
 by_cases hn:S.nK≤1000
 ·
  have hn':¬ (1000:Int)<(S.nK:Int):=by omega
  go_enter Tryz.func28,Tryz.ntmps28
  go_wp2_with fail
  go_loopw [12] (fun i wr=>∃ k:Nat,k≤S.nK∧i=.int .i64 k∧(∀ i,i<k→(S.K i).ok S.nx S.C.p∧(0<i→(S.K (i-1)).id<(S.K i).id))∧Below (w.heap.size+1) (w.alloc (.cells S.cells 34)) wr) (fun i _=>S.nK-(intOf i).toNat)
  case atStart=>exact ⟨0,Nat.zero_le _,rfl,fun i hi=>by omega,hB⟩
  clear hB c13
  obtain ⟨k,hk,rfl,hall,hB⟩:=hrel
  have HA:=aa hall
  clear hall
  by_cases hlt:k<S.nK
  ·
   have hlt':(k:Int)<S.nK:=by omega
   obtain ⟨g,o,ea,hc⟩:=(HR.up (under hB)) k hlt
   have hpc:=(HR.up (under hB.drew))
   have HaK:=aa ea
   obtain ⟨V,eV⟩:∃ V,wr.alloc (.cells (S.K k).cells 51)=V:=⟨_,rfl⟩
   have hbV:Below wr.heap.size wr V:=by rw [←eV];exact (Below.refl _ _).alloc (Nat.le_refl _) _
   have kV0:V.heap[wr.heap.size]?=some (.cells (S.K k).cells 51 (0,0)):=by rw [←eV];exact im _ _
   have kV:V.drew.heap[wr.heap.size]?=some (.cells (S.K k).cells 51 (0,0)):=kV0
   have hBV:=next hB hbV
   have HkS:Hid (V.drew.heap[w.heap.size]?=some (.cells S.cells 34 (0,0))):=(hBV.drew.block _ (by omega)).trans (im _ _)
   have HpP:Hid (0<k→V.drew.cell? ⟨g,o+(k-1)*8,none⟩=some (.int .i64 (S.K (k-1)).id)):=fun h0=>by
    obtain ⟨g',o',ea',hc'⟩:=(HR.up (under hBV.drew)) (k-1) (by omega)
    rw [ea] at ea'
    cases ea'
    have:=hc' 0 (by omega)
    rw [Nat.add_zero] at this
    exact this
   obtain ⟨pk,hpk⟩:=ju ((S.K k).ok S.nx S.C.p)
   have HPk:=aa hpk
   rw [ea]
   clear hpk ea hpc
   go_wp2_with (first | refine lx rfl (.tmp 15) rfl g (o+k*8) rfl (S.K k) hc ?_ | refine jo 51 8 rq rfl (.tmp 4) (.tmp 16) rfl (S.K k).cells _ rfl rfl rfl rfl rfl (Pkt.one _) (eV▸?_))
   clear hc kV0 hbV
   by_cases h0:k=0
   ·
    subst h0
    cases pk
    ·
     have HF:Hid (ok=false):=by
      rw [Hid,Bool.eq_false_iff]
      intro e
      exact absurd (HPk.2 ((HO.1 e).one 0 hlt)) (by simp)
     refine wp_region_held_drew (S:=fun w'=>w'.heap[w.heap.size]?=some (.cells S.cells 34 (0,0))∧w'.heap[wr.heap.size]?=some (.cells (S.K 0).cells 51 (0,0))) (by kernel_rfl) ⟨HkS,kV⟩ (fun hHeld=>?_)
     refine tC 0 17 (v:=.agg S.cells) ?_ ?_
     ·
      intro wx hSw
      obtain ⟨hS1,hS2⟩:=hSw
      exact bw
     try simp only [Act.put,PZ]
     refine tC 1 18 (v:=.agg (S.K 0).cells) ?_ ?_
     ·
      intro wx hSw
      obtain ⟨hS1,hS2⟩:=hSw
      exact bu
     try simp only [Act.put,PZ]
     refine rq1 2 (fun K hK=>?_)
     go_simp
     refine (mE S (S.K 0) _ (by have:=Hbs 0 hlt;unfold maxLen;omega) (by omega) (by omega) (by omega) (by omega) false HPk).mono ?_
     rintro e w2 ⟨rfl,hb2⟩
     have hB2:=next hBV.drew hb2
     have q1:w2.heap[w.heap.size]?=some (.cells S.cells 34 (0,0)):=(hB2.block _ (by omega)).trans (im _ _)
     have q2:w2.heap[wr.heap.size]?=some (.cells (S.K 0).cells 51 (0,0)):=(hb2.block _ (ig kV)).trans kV
     go_wp2_with fail
     refine ah (hK _ _ ⟨q1,q2⟩) ?_
     intro hHeld
     clear hK K
     have Hcs:Hid (∀ wx:World,(fun w':World=>w'.heap[w.heap.size]?=some (.cells S.cells 34 (0,0))∧w'.heap[wr.heap.size]?=some (.cells (S.K 0).cells 51 (0,0))) wx→wx.cell? ⟨w.heap.size,13,none⟩=some (.slice (some ⟨g,o,none⟩) S.nK S.cK)∧wx.cell? ⟨wr.heap.size,0,none⟩=some (.int .i64 (S.K 0).id)):=fun wx hSw=>by
      obtain ⟨hS1,hS2⟩:=hSw
      have c13:wx.cell? ⟨w.heap.size,13,none⟩=some (.slice (some ⟨g,o,none⟩) S.nK S.cK):=HaK.out▸ie hS1 13
      have d0:wx.cell? ⟨wr.heap.size,0,none⟩=some (.int .i64 (S.K 0).id):=ie hS2 0
      exact ⟨c13,d0⟩
     iterate 2 refine tX ?_
     iterate 14 refine sN ?_
     refine tX ?_
     refine dnq ?_
     have B9:=under hB2
     clear q1 q2 hHeld hB2 hb2 hB hBV
     exact bx
    have HP2:Hid ((S.K 0).ok S.nx S.C.p):=HPk.1 rfl
    refine wp_region_held_drew (S:=fun w'=>w'.heap[w.heap.size]?=some (.cells S.cells 34 (0,0))∧w'.heap[wr.heap.size]?=some (.cells (S.K 0).cells 51 (0,0))) (by kernel_rfl) ⟨HkS,kV⟩ (fun hHeld=>?_)
    refine tC 0 17 (v:=.agg S.cells) ?_ ?_
    ·
     intro wx hSw
     obtain ⟨hS1,hS2⟩:=hSw
     exact bw
    try simp only [Act.put,PZ]
    refine tC 1 18 (v:=.agg (S.K 0).cells) ?_ ?_
    ·
     intro wx hSw
     obtain ⟨hS1,hS2⟩:=hSw
     exact bu
    try simp only [Act.put,PZ]
    refine rq1 2 (fun K hK=>?_)
    go_simp
    refine (mE S (S.K 0) _ (by have:=Hbs 0 hlt;unfold maxLen;omega) (by omega) (by omega) (by omega) (by omega) true HPk).mono ?_
    rintro e w2 ⟨rfl,hb2⟩
    have hB2:=next hBV.drew hb2
    have q1:w2.heap[w.heap.size]?=some (.cells S.cells 34 (0,0)):=(hB2.block _ (by omega)).trans (im _ _)
    have q2:w2.heap[wr.heap.size]?=some (.cells (S.K 0).cells 51 (0,0)):=(hb2.block _ (ig kV)).trans kV
    go_wp2_with fail
    refine ah (hK _ _ ⟨q1,q2⟩) ?_
    intro hHeld
    clear hK K
    have Hcs:Hid (∀ wx:World,(fun w':World=>w'.heap[w.heap.size]?=some (.cells S.cells 34 (0,0))∧w'.heap[wr.heap.size]?=some (.cells (S.K 0).cells 51 (0,0))) wx→wx.cell? ⟨w.heap.size,13,none⟩=some (.slice (some ⟨g,o,none⟩) S.nK S.cK)∧wx.cell? ⟨wr.heap.size,0,none⟩=some (.int .i64 (S.K 0).id)):=fun wx hSw=>by
     obtain ⟨hS1,hS2⟩:=hSw
     have c13:wx.cell? ⟨w.heap.size,13,none⟩=some (.slice (some ⟨g,o,none⟩) S.nK S.cK):=HaK.out▸ie hS1 13
     have d0:wx.cell? ⟨wr.heap.size,0,none⟩=some (.int .i64 (S.K 0).id):=ie hS2 0
     exact ⟨c13,d0⟩
    iterate 3 refine tX ?_
    refine tF ?_
    refine tX ?_
    iterate 10 refine sN ?_
    iterate 2 refine tX ?_
    refine dnq ?_
    clear q1 q2 hHeld hb2 hB hBV
    go_wp2_with fail
    go_roundw
    case rel=>exact ⟨0+1,by omega,by go_num,fun i hi=>by
     obtain rfl:i=0:=by omega
     exact ⟨HP2,fun h=>by omega⟩,hB2⟩
    case measure=>simp [intOf];omega
   have h0':(0:Int)<(k:Int):=by omega
   have hk1:(1:Int)≤(k:Int):=by omega
   have hk2:(k:Int)-1<(S.nK:Int):=by omega
   have hk3:(((k:Int)-1).toNat)=k-1:=by omega
   have hw1:IntKind.i64.wrap ((k:Int)-1)=(k:Int)-1:=jS _ (by omega) (by omega)
   have p0:=HpP (by omega)
   cases pk
   ·
    have HF:Hid (ok=false):=by
     rw [Hid,Bool.eq_false_iff]
     intro e
     exact absurd (HPk.2 ((HO.1 e).one k hlt)) (by simp)
    refine wp_region_held_drew (S:=fun w'=>w'.heap[w.heap.size]?=some (.cells S.cells 34 (0,0))∧w'.heap[wr.heap.size]?=some (.cells (S.K k).cells 51 (0,0))∧w'.cell? ⟨g,o+(k-1)*8,none⟩=some (.int .i64 (S.K (k-1)).id)) (by kernel_rfl) ⟨HkS,kV,p0⟩ (fun hHeld=>?_)
    refine tC 0 17 (v:=.agg S.cells) ?_ ?_
    ·
     intro wx hSw
     obtain ⟨hS1,hS2,hS3⟩:=hSw
     exact bw
    try simp only [Act.put,PZ]
    refine tC 1 18 (v:=.agg (S.K k).cells) ?_ ?_
    ·
     intro wx hSw
     obtain ⟨hS1,hS2,hS3⟩:=hSw
     exact bu
    try simp only [Act.put,PZ]
    refine rq1 2 (fun K hK=>?_)
    go_simp
    refine (mE S (S.K k) _ (by have:=Hbs k hlt;unfold maxLen;omega) (by omega) (by omega) (by omega) (by omega) false HPk).mono ?_
    rintro e w2 ⟨rfl,hb2⟩
    have hB2:=next hBV.drew hb2
    have q1:w2.heap[w.heap.size]?=some (.cells S.cells 34 (0,0)):=(hB2.block _ (by omega)).trans (im _ _)
    have q2:w2.heap[wr.heap.size]?=some (.cells (S.K k).cells 51 (0,0)):=(hb2.block _ (ig kV)).trans kV
    have q3:w2.cell? ⟨g,o+(k-1)*8,none⟩=some (.int .i64 (S.K (k-1)).id):=(hb2.cell (p:=⟨g,o+(k-1)*8,none⟩) (kQ p0)).trans p0
    go_wp2_with fail
    refine ah (hK _ _ ⟨q1,q2,q3⟩) ?_
    intro hHeld
    clear hK K
    have Hcs:Hid (∀ wx:World,(fun w':World=>w'.heap[w.heap.size]?=some (.cells S.cells 34 (0,0))∧w'.heap[wr.heap.size]?=some (.cells (S.K k).cells 51 (0,0))∧w'.cell? ⟨g,o+(k-1)*8,none⟩=some (.int .i64 (S.K (k-1)).id)) wx→wx.cell? ⟨w.heap.size,13,none⟩=some (.slice (some ⟨g,o,none⟩) S.nK S.cK)∧wx.cell? ⟨wr.heap.size,0,none⟩=some (.int .i64 (S.K k).id)):=fun wx hSw=>by
     obtain ⟨hS1,hS2,hS3⟩:=hSw
     have c13:wx.cell? ⟨w.heap.size,13,none⟩=some (.slice (some ⟨g,o,none⟩) S.nK S.cK):=HaK.out▸ie hS1 13
     have d0:wx.cell? ⟨wr.heap.size,0,none⟩=some (.int .i64 (S.K k).id):=ie hS2 0
     exact ⟨c13,d0⟩
    iterate 2 refine tX ?_
    iterate 14 refine sN ?_
    refine tX ?_
    refine dnq ?_
    have B9:=under hB2
    clear q1 q2 q3 hHeld hB2 hb2 hB hBV
    exact bx
   have HP2:Hid ((S.K k).ok S.nx S.C.p):=HPk.1 rfl
   refine wp_region_held_drew (S:=fun w'=>w'.heap[w.heap.size]?=some (.cells S.cells 34 (0,0))∧w'.heap[wr.heap.size]?=some (.cells (S.K k).cells 51 (0,0))∧w'.cell? ⟨g,o+(k-1)*8,none⟩=some (.int .i64 (S.K (k-1)).id)) (by kernel_rfl) ⟨HkS,kV,p0⟩ (fun hHeld=>?_)
   refine tC 0 17 (v:=.agg S.cells) ?_ ?_
   ·
    intro wx hSw
    obtain ⟨hS1,hS2,hS3⟩:=hSw
    exact bw
   try simp only [Act.put,PZ]
   refine tC 1 18 (v:=.agg (S.K k).cells) ?_ ?_
   ·
    intro wx hSw
    obtain ⟨hS1,hS2,hS3⟩:=hSw
    exact bu
   try simp only [Act.put,PZ]
   refine rq1 2 (fun K hK=>?_)
   go_simp
   refine (mE S (S.K k) _ (by have:=Hbs k hlt;unfold maxLen;omega) (by omega) (by omega) (by omega) (by omega) true HPk).mono ?_
   rintro e w2 ⟨rfl,hb2⟩
   have hB2:=next hBV.drew hb2
   have q1:w2.heap[w.heap.size]?=some (.cells S.cells 34 (0,0)):=(hB2.block _ (by omega)).trans (im _ _)
   have q2:w2.heap[wr.heap.size]?=some (.cells (S.K k).cells 51 (0,0)):=(hb2.block _ (ig kV)).trans kV
   have q3:w2.cell? ⟨g,o+(k-1)*8,none⟩=some (.int .i64 (S.K (k-1)).id):=(hb2.cell (p:=⟨g,o+(k-1)*8,none⟩) (kQ p0)).trans p0
   go_wp2_with fail
   refine ah (hK _ _ ⟨q1,q2,q3⟩) ?_
   intro hHeld
   clear hK K
   have Hcs:Hid (∀ wx:World,(fun w':World=>w'.heap[w.heap.size]?=some (.cells S.cells 34 (0,0))∧w'.heap[wr.heap.size]?=some (.cells (S.K k).cells 51 (0,0))∧w'.cell? ⟨g,o+(k-1)*8,none⟩=some (.int .i64 (S.K (k-1)).id)) wx→wx.cell? ⟨w.heap.size,13,none⟩=some (.slice (some ⟨g,o,none⟩) S.nK S.cK)∧wx.cell? ⟨wr.heap.size,0,none⟩=some (.int .i64 (S.K k).id)):=fun wx hSw=>by
    obtain ⟨hS1,hS2,hS3⟩:=hSw
    have c13:wx.cell? ⟨w.heap.size,13,none⟩=some (.slice (some ⟨g,o,none⟩) S.nK S.cK):=HaK.out▸ie hS1 13
    have d0:wx.cell? ⟨wr.heap.size,0,none⟩=some (.int .i64 (S.K k).id):=ie hS2 0
    exact ⟨c13,d0⟩
   iterate 3 refine tX ?_
   refine tT ?_
   iterate 13 refine tX ?_
   refine dnq ?_
   clear q1 q2 q3 hHeld hb2 hB hBV
   by_cases hup:(S.K (k-1)).id<(S.K k).id
   ·
    have hup':¬ (S.K k).id≤(S.K (k-1)).id:=by omega
    have HU:=aa hup
    clear hup
    go_wp2_with fail
    go_roundw
    case rel=>exact ⟨k+1,by omega,by go_num,fun i hi=>by
     by_cases e:i=k
     ·
      subst e;exact ⟨HP2.out,fun _=>HU.out⟩
     ·
      exact HA i (by omega),hB2⟩
    case measure=>simp [intOf];omega
   have hup':(S.K k).id≤(S.K (k-1)).id:=by omega
   have HF:Hid (ok=false):=by
    rw [Hid,Bool.eq_false_iff]
    intro e
    exact hup ((HO.1 e).up k hlt (by omega))
   have B9:=under hB2
   clear hup hB2
   exact bx
  obtain rfl:k=S.nK:=by omega
  have hge:¬ ((S.nK:Nat):Int)<((S.nK:Nat):Int):=by omega
  have HT:Hid (ok=true):=HO.2 ⟨hn,fun i hi=>(HA i hi).1,fun i hi=>(HA i hi).2⟩
  go_wp2_with fail
  go_ret
  exact ⟨iv HT.symm,under hB⟩
 have hn':(1000:Int)<(S.nK:Int):=by omega
 obtain rfl:ok=false:=by
  rw [Bool.eq_false_iff]
  intro e
  exact hn (HO.1 e).le
 clear hn
 go_enter Tryz.func28,Tryz.ntmps28
 exact bo
