import Derived.Test.YthicmlolanifhaaGreatV11
import Derived.Test.YthicmlolanifhaaGreatV26
import Derived.Test.YthicmlolanifhaaGreatV33
namespace Go.Proofs.YthicmlolanifhaaGreat
set_option maxRecDepth 100000
set_option maxHeartbeats 9000000
open Go.RowKit Go.Shelf
variable {arr cs cur:Array Value} {id:Int} {base c gD gL gS gz i j k n n' o oz top:Nat} {f:Nat→List Nat} {F K:Nat→Pkt} {p:Prop} {X:Rnd} {t:TypeId} {a b w w':World}
theorem Im (h:p:=by
 go_enter Tryz.func93,Tryz.ntmps93
 go_wp2_with (go_at_call 124;refine (xq l.R M (c:Int) s base top (l.spot g o cur hf) gD gS _ HT HR HOk HP.out).mono ?_;rintro e w2 ⟨rfl,hX,hTo⟩;have HX:Hid (∃ X',Alike M X'∧jQ w2 base top (l.spot g o cur hf) gD gS X'):=hX;have HTo:Hid (Touch [g,gD,gS] w w2):=hTo;have kU:=(hTo.block gu (iw HU.1) HU.2).trans HU.1;have kZ:=(hTo.block gz (iw HZ.1) HZ.2).trans HZ.1;have d2:w2.cell? (Hh g (o+2))=some (.slice (some (Hh gu ou)) l.nU l.cU):=(HC2 w2 hX);have eU:w2.cell? (Hh gu (ou+c))=some (.slice (some (Hh gz oz)) (l.uL c) (l.uC c)):=(iv kU _).trans HCu.out;have eZ:w2.cell? (Hh gz oz)=some (.int .i64 (l.uz c 0)):=(iv kZ _).trans HCz.out;have fU:w2.frozen? (Hh gu (ou+c))=false:=iF kU _;clear hX hTo kU kZ c0 c1)
 go_wp2_with (go_at_call 123;refine (qA gu (ou+c) gz oz (l.uL c) (l.uC c) (l.uz c 0) _ eU hLc eZ fU).mono ?_;rintro e w3 ⟨rfl,rfl⟩)
 go_ret2
 exact ⟨rfl,w2,HX,HTo,rfl⟩):p:=h
theorem gx (h:p:=by
 go_enter Tryz.func93,Tryz.ntmps93
 go_wp2_with (go_at_call 124;refine (xq l.R M (-1) s base top (l.spot g o cur hf) gD gS _ HT HR HOk HP.out).mono ?_;rintro e w2 ⟨rfl,hX,hTo⟩)
 go_ret2
 exact ⟨rfl,hX,hTo⟩):p:=h
theorem gy (h:p:=by
 subst hbf
 exact ⟨rfl,l2,hA,hO,(hto.block g (iw kb) ((ho.g.ls i hi).Fs kb kL (by decide) (by decide) (by decide))).trans kb,(ho.g.ls i hi).DR kL hbL hto⟩):p:=h
theorem gF (h:p:=by
 cases e:l.st with
 | true=>rfl
 | false=>exact absurd ⟨h0,e⟩ hno):p:=h
attribute [local go_sem] Oper.semAt_some
set_option linter.unusedVariables false
set_option linter.unusedSimpArgs false
theorem Bs (X0:Rnd) (base top:Nat) (gb:so) (gD gS:Nat) (w:World) (h:jQ w base top gb gD gS X0) (hok:X0.Ok) (hno:∀ i,i<X0.nQ→X0.L i=0) :
  Calls Tryz.prog 124 #[.pointer (some (Hh gb.g gb.o))] w fun e w'=>e=.returned (.tuple #[.int .i64 (-1),.int .i64 0])∧Below w.heap.size w w':=by
 have HR:=aa h
 have HOk:=aa hok
 have HNo:=aa hno
 clear h hok hno
 refine (callsIn_wide (n:=8)).1 ?_
 refine callsIn_of_wp_marks Tryz.func124 rfl trivial ?_ rfl
 simp only [Tryz.ntmps124,List.size_toArray,List.length_cons,List.length_nil,Nat.reduceAdd,Nat.reduceSub,Array.replicate_succ,Array.replicate_zero,List.push_toArray,List.append_toArray,List.nil_append,List.cons_append]
 have f33:Fence.wide.fn 138:=trivial
 gi_wp2_with (gi_at_call 138;refine (callsIn_wide.2 (zg gb.g gb.o _)).mono ?_;rintro e w2 ⟨rfl,rfl⟩)
 obtain ⟨q1,q2,q3,q4,q5,qb⟩:=four (w:=w) (o1:=.cells #[.pointer (some (Hh gb.g gb.o))] 169) (o2:=.cells #[.int .i64 0] 2) (o3:=.cells #[.int .i64 0] 2) (o4:=.cells #[.pointer (some (Hh gb.g gb.o))] 169)
 generalize (((w.alloc (.cells #[.pointer (some (Hh gb.g gb.o))] 169)).alloc (.cells #[.int .i64 0] 2)).alloc (.cells #[.int .i64 0] 2)).alloc (.cells #[.pointer (some (Hh gb.g gb.o))] 169)=w0 at *
 have HQ:Hid (w0.heap[w.heap.size+1]?=some (.cells #[.int .i64 0] 2 (0,0))∧w0.heap[w.heap.size+1+1]?=some (.cells #[.int .i64 0] 2 (0,0))∧w0.heap[w.heap.size+1+1+1]?=some (.cells #[.pointer (some (Hh gb.g gb.o))] 169 (0,0))∧w0.heap.size=w.heap.size+4∧Below w.heap.size w w0):=⟨q2,q3,q4,q5,qb⟩
 clear q1 q2 q3 q4 q5 qb
 refine nu rfl (by omega) (gf:=158) (lb:=#[.pointer (some (Hh (w.heap.size+1+1+1) 0))]) rfl trivial (enters_of Tryz.func158 (by kernel_rfl) rfl) (fun W=>Below w0.heap.size w0 W∧W.heap[w0.heap.size]?=some (.deferred (some []))∧∃ lo,W.heap[w0.heap.size+1]?=some lo∧lo.isCells=false) (fun _ _=>False) ?it ?done (fun c W o h=>h.elim)
 case done =>
  rintro W o ⟨hB,hD,lo,hlo,hlc⟩
  have hq5:=HQ.2.2.2.1
  have hp:=pw W (w0.heap.size+1) o
  have k2:(W.putObj (w0.heap.size+1) o).heap[w.heap.size+1]?=some (.cells #[.int .i64 0] 2 (0,0)):=(World.putObj_heap_other (by omega)).trans ((hB.block _ (by omega)).trans HQ.1)
  have k3:(W.putObj (w0.heap.size+1) o).heap[w.heap.size+1+1]?=some (.cells #[.int .i64 0] 2 (0,0)):=(World.putObj_heap_other (by omega)).trans ((hB.block _ (by omega)).trans HQ.2.1)
  have kD:(W.putObj (w0.heap.size+1) o).heap[w0.heap.size]?=some (.deferred (some [])):=(World.putObj_heap_other (by omega)).trans hD
  have hBw:Below w.heap.size w (W.putObj (w0.heap.size+1) o):=(HQ.2.2.2.2.trans (hB.mono (by omega))).trans (hp.below (by have:=hB.size;omega) (fun x hx=>by simp at hx;omega))
  generalize W.putObj (w0.heap.size+1) o=W2 at *
  have c2:=iv k2
  have f2:=iF k2
  have c3:=iv k3
  have f3:=iF k3
  have hT3:Touch [w.heap.size+1,w.heap.size+1+1] W2 ((W2.setCell (Hh (w.heap.size+1) 0) (.int .i64 (-1))).setCell (Hh (w.heap.size+1+1) 0) (.int .i64 0)):=((Touch.refl _ _).set (by simp) 0 _).set (by simp) 0 _
  have hK':=(hT3.block w0.heap.size (Array.getElem?_eq_some_iff.1 kD).1 (by simp;omega)).trans kD
  have hb2:=(iJ (i:=0) (show w.heap.size+1≠w.heap.size+1+1 by omega) (.int .i64 0)).trans (iO (i:=0) k2 (.int .i64 (-1)))
  have hb3:=iO (i:=0) ((iJ (i:=0) (show w.heap.size+1+1≠w.heap.size+1 by omega) (.int .i64 (-1))).trans k3) (.int .i64 0)
  have hBe:=(hBw.trans (hT3.below hBw.size (fun x hx=>by simp at hx;omega))).trans ((pw _ w0.heap.size (.deferred none)).below (by have:=hBw.size;have:=hT3.size;omega) (fun x hx=>by simp at hx;omega))
  have hc2:=(om (o:=.deferred none) (l:=w0.heap.size) (i:=0) (show w.heap.size+1≠w0.heap.size by omega)).trans (iv hb2 0)
  have hc3:=(om (o:=.deferred none) (l:=w0.heap.size) (i:=0) (show w.heap.size+1+1≠w0.heap.size by omega)).trans (iv hb3 0)
  have HF:Hid (_∧_∧_∧_):=⟨hK',hc2,hc3,hBe⟩
  clear hT3 hK' hb2 hb3 hBe hc2 hc3 hBw kD k2 k3 hp hq5
  gi_wp2
  refine ⟨by simp,.inl ⟨_,_,rfl,run_takeDeferred HF.1,?_⟩⟩
  have e2:=HF.2.1
  have e3:=HF.2.2.1
  exact ⟨.tuple #[.int .i64 (-1),.int .i64 0],by simp [results,Tryz.results124,go_sem,e2,e3],rfl,HF.2.2.2⟩
 intro fn hfn rc hrc
 obtain ⟨W1,hW1⟩:∃ W1,(w0.alloc (.deferred (some []))).alloc (.loop (rc .ready none))=W1:=⟨_,rfl⟩
 have hq5:=HQ.2.2.2.1
 have e1:(w0.alloc (.deferred (some []))).heap.size=w0.heap.size+1:=by simp
 have HW:Hid (W1.heap[w0.heap.size+1]?=some (.loop (rc .ready none))∧W1.heap[w0.heap.size]?=some (.deferred (some []))∧Below w0.heap.size w0 W1):=by
  rw [Hid,←hW1]
  refine ⟨?_,?_,((Below.refl _ _).alloc (Nat.le_refl _) _).alloc (by omega) _⟩
  ·
   rw [←e1,iy]
  rw [iN _ (by omega),iy]
 have hbw:Below w.heap.size w W1:=HQ.2.2.2.2.trans (HW.2.2.mono (by omega))
 have hRW:=HR.up hbw
 have cb:=hRW.cx
 have cc4:=iv ((HW.2.2.block (w.heap.size+1+1+1) (by omega)).trans HQ.2.2.1) 0
 have HRd:=aa hRW.own.rd
 have HBt:Hid (false=true↔∃ i,i<X0.nQ∧X0.L i≠0):=⟨fun e=>(by cases e),fun ⟨i,hi,hne⟩=>absurd (HNo i hi) hne⟩
 have f43:Fence.wide.fn 159:=trivial
 have HSz:=aa ((Array.getElem?_eq_some_iff.1 HW.1).1)
 rw [hW1]
 clear hrc hW1 hq5 e1 hbw hRW f33
 refine callsIn_of_wp Tryz.func158 rfl trivial ?_ rfl
 simp only [Tryz.ntmps158,List.size_toArray,List.length_cons,List.length_nil,Nat.reduceAdd,Nat.reduceSub,Array.replicate_succ,Array.replicate_zero,List.push_toArray,List.append_toArray,List.nil_append,List.cons_append]
 gi_wp2
 gi_loopw [3] (fun _ wr=>wr=W1) (fun _ _=>0)
 case atStart=>rfl
 obtain rfl:=hrel
 gi_wp2_with (gi_at_call 159;refine (callsIn_wide.2 (mQ X0 wr (Ei HOk.out) HRd (by rw [HOk.d];exact Nat.le_refl _) (by rw [HOk.s];exact Nat.le_refl _) false HBt.out)).mono ?_;rintro e w2 ⟨rfl,hb⟩)
 refine ⟨fun _ h=>(by cases h),?_⟩
 gi_wp2
 go_end0
 have hl2:=(hb.block _ HSz.out).trans HW.1
 exact ⟨⟨_,rfl⟩,.inl ⟨⟨HW.2.2.trans (hb.mono (by have:=HSz.out;omega)),(hb.block _ (by have:=HSz.out;omega)).trans HW.2.1,_,hl2,rfl⟩,hl2⟩⟩
theorem xq (X M:Rnd) (x s:Int) (base top:Nat) (gb:so) (gD gS:Nat) (w:World) (htop:top≤w.heap.size) (h:jQ w base top gb gD gS X) (hok:X.Ok) (hp:tz X M x s) :
  Calls Tryz.prog 124 #[.pointer (some (Hh gb.g gb.o))] w fun e w'=>e=.returned (.tuple #[.int .i64 x,.int .i64 s])∧(∃ X',Alike M X'∧jQ w' base top gb gD gS X')∧Touch [gb.g,gD,gS] w w':=by
 rcases hp with ⟨hn,_⟩ | ⟨_,hn,rfl,rfl,rfl⟩ | ⟨_,⟨c0,h1,h2⟩,k,c,hp,rfl⟩
 ·
  exact absurd hok hn
 ·
  refine (Bs _ base top gb gD gS w h hok hn).mono ?_
  rintro e w' ⟨rfl,hb⟩
  exact ⟨rfl,⟨_,Alike.refl _,h.up hb⟩,Touch.ji hb⟩
 exact DB X base top gb gD gS c0 w htop h hok h1 h2 k M c s hp
open Go.RowKit
def rD (oz c:Nat):Nat:=if c=1 then oz else oz+1
theorem qA (g o gz oz n c:Nat) (z0:Int) (w:World) (hp:w.cell? (Hh g o)=some (.slice (some (Hh gz oz)) n c)) (hn:n≠0) (hz:w.cell? (Hh gz oz)=some (.int .i64 z0)) (hfr:w.frozen? (Hh g o)=false) :
  Calls Tryz.prog 123 #[.pointer (some (Hh g o))] w fun e w'=>e=.returned (.int .i64 z0)∧w'=w.setCell (Hh g o) (.slice (some (Hh gz (rD oz c))) (n-1) (c-1)):=by
 have hrc:∀ wx,(Instr.slice 27 (.slice (some (Hh gz oz)) n c) (some (.int .i64 1)) none none).run Tryz.prog wx=.ok (.slice (some (Hh gz (rD oz c))) (n-1) (c-1)) wx:=fun wx=>qF gz oz _ n c wx hn rfl
 have hn':(0:Int)<(n:Int):=by omega
 go_enter Tryz.func123,Tryz.ntmps123
 go_wp2_with fail
 go_ret
 exact ⟨rfl,rfl⟩
theorem VG.drop {f:Nat→Value} (h:VG t w base (some (Hh gz oz)) n f) (hn:n≠0) (hc:n≤c):VG t w base (some (Hh gz (rD oz c))) (n-1) (fun i=>f (i+1)):=by
 by_cases h1:n-1=0
 ·
  exact .inl h1
 rcases h with h | ⟨g,o,e,hb,arr,k1,k2,k3⟩
 ·
  exact absurd h hn
 cases e
 unfold rD
 rw [if_neg (by omega)]
 refine .inr ⟨gz,oz+1,rfl,hb,arr,k1,by omega,fun i hi=>?_⟩
 have:=k3 (i+1) (by omega)
 rw [show oz+1+i=oz+(i+1) by omega]
 exact this
theorem yb {o':Nat}:∀ x∈ju (some (Hh gz o')) (n-1),x∈ju (some (Hh gz oz)) n:=by
 intro x hx
 unfold ju at hx ⊢
 split at hx
 ·
  simp at hx
 rw [if_neg (by omega)]
 exact hx
theorem Fc {a b:Array Value} (h:o+a.size≤cur.size) (hk:k+b.size≤a.size):lay (lay cur o a) (o+k) b=lay cur o (lay a k b):=by
 have s1:=jJ h
 have s2:=jJ (cur:=a) (cs:=b) (o:=k) hk
 have h1:o+k+b.size≤(lay cur o a).size:=by omega
 have h2:o+(lay a k b).size≤cur.size:=by omega
 refine Array.ext_getElem? fun j=>?_
 by_cases e1:j<o
 ·
  rw [kh h1 j (by omega),kh h j e1,kh h2 j e1]
 by_cases e2:j<o+a.size
 ·
  have q:=jC h2 (j-o) (by omega)
  have q2:=jC h (j-o) (by omega)
  rw [show o+(j-o)=j by omega] at q q2
  rw [q]
  by_cases e3:j-o<k
  ·
   rw [kh hk _ e3,kh h1 j (by omega)]
   exact q2
  by_cases e4:j-o<k+b.size
  ·
   have q3:=jC hk (j-o-k) (by omega)
   have q4:=jC h1 (j-o-k) (by omega)
   rw [show k+(j-o-k)=j-o by omega] at q3
   rw [show o+k+(j-o-k)=j by omega] at q4
   rw [q3,q4]
  rw [lM hk _ (by omega),lM h1 j (by omega)]
  exact q2
 rw [lM h1 j (by omega),lM h j (by omega),lM h2 j (by omega)]
theorem Am (l:Lng) (X:Rnd):lay l.cells 3 X.cells=({ l with R:=X }:Lng).cells:=by
 simp [lay,Lng.cells,Rnd.cells]
theorem zt (hf:o+8≤cur.size) (l:Lng) (X:Rnd):lay (lay cur o l.cells) (o+3) X.cells=lay cur o ({ l with R:=X }:Lng).cells:=by
 rw [←Am]
 exact Fc (a:=l.cells) (b:=X.cells) hf (by show 3+5≤8;omega)
def Lng.spot (l:Lng) (g o:Nat) (cur:Array Value) (hf:o+8≤cur.size):so where
 g:=g
 o:=o+3
 cur:=lay cur o l.cells
 t:=48
 fit:=by
  rw [jJ (cs:=l.cells) hf]
  omega
 n2:=by decide
 n3:=by decide
 B:=fun k x=>(k=0→x∈jA l.R.aQ l.R.nQ)∧∀ i,k=i+1→x∈jA (l.R.A i) (l.R.L i)
theorem iS.rep {l:Lng} (h:iS w base l) (hr:l.R.Ok) {g:Nat} (hf:o+8≤cur.size) (hb:w.heap[g]?=some (.cells (lay cur o l.cells) 48 (0,0))) :
  ∃ gD gS,l.R.aD=some (Hh gD 0)∧l.R.aS=some (Hh gS 0)∧jQ w base w.heap.size (l.spot g o cur hf) gD gS l.R:=by
 have hn:=hr.n
 have hd:=hr.d
 have hs:=hr.s
 have hD:∃ gD,l.R.aD=some (Hh gD 0)∧gD<w.heap.size:=by
  rcases h.r.own.d with e | ⟨x,e,_,hx⟩
  ·
   omega
  exact ⟨x,e,hx.lt⟩
 have hS:∃ gS,l.R.aS=some (Hh gS 0)∧gS<w.heap.size:=by
  rcases h.r.own.s with e | ⟨x,e,_,hx⟩
  ·
   omega
  exact ⟨x,e,hx.lt⟩
 obtain ⟨gD,eD,lD⟩:=hD
 obtain ⟨gS,eS,lS⟩:=hS
 refine ⟨gD,gS,eD,eS,?_,h.r.own.o,eD,eS,fun i hi=>OG.cap (t:=2) (sz:=1) (h.r.z i hi),⟨by omega,hd,hs⟩,⟨fun x hx=>(h.r.own.q.blk x hx).2,lD,lS,iw hb,fun i hi x hx=>((h.r.own.z i hi).blk x hx).2⟩,fun x hx=>⟨fun _=>hx,fun i e=>absurd e (by omega)⟩,fun i hi x hx=>⟨fun e=>absurd e (by omega),fun j e=>?_⟩⟩
 ·
  show w.heap[g]?=some (.cells (lay (lay cur o l.cells) (o+3) l.R.cells) 48 (0,0))
  rw [zt hf]
  exact hb
 have:j=i:=by omega
 rw [this]
 exact hx
def Lng.Fy (l:Lng) (gt ot:Nat):Lng:={ l.Ex with aT:=some (Hh gt (rD ot l.cT)),cT:=l.cT-1 }
theorem sO (l:Lng) (g o:Nat) (cur:Array Value) (gt ot:Nat) (w:World) (hf:o+8≤cur.size) (hb:w.heap[g]?=some (.cells (lay cur o l.cells) 48 (0,0))) (hT:l.aT=some (Hh gt ot)) (hz:w.cell? (Hh gt ot)=some (.int .i64 (l.t 0))) (h0:0<l.nT) (hst:l.st=false) :
  Calls Tryz.prog 93 #[.pointer (some (Hh g o))] w fun e w'=>e=.returned (.tuple #[.int .i64 (l.t 0),.bool true])∧w'.heap[g]?=some (.cells (lay cur o (l.Fy gt ot).cells) 48 (0,0))∧Touch [g] w w'∧w'.heap.size=w.heap.size:=by
 have k:∀ j,j<8→w.cell? (Hh g (o+j))=l.cells[j]?:=fun j hj=>(iv hb _).trans (jC (cs:=l.cells) hf j hj)
 have c0:w.cell? (Hh g o)=some (.bool false):=by rw [←hst];exact k 0 (by omega)
 have c1:w.cell? (Hh g (o+1))=some (.slice (some (Hh gt ot)) l.nT l.cT):=by rw [←hT];exact k 1 (by omega)
 have f1:w.frozen? (Hh g (o+1))=false:=iF hb _
 have hn:(0:Int)<(l.nT:Int):=by omega
 have HB:=aa hb
 clear hb k
 go_enter Tryz.func93,Tryz.ntmps93
 go_wp2_with (go_at_call 123;refine (qA g (o+1) gt ot l.nT l.cT (l.t 0) _ c1 (by omega) hz f1).mono ?_;rintro e w2 ⟨rfl,rfl⟩)
 go_ret2
 refine ⟨rfl,?_,(Touch.refl _ _).set (by simp) _ _,by simp⟩
 rw [iO HB.out,←BM (cs:=l.cells) hf (by show 1<8;omega)]
 rfl
theorem vj (l:Lng) (M:Rnd) (s:Int) (g o:Nat) (cur:Array Value) (base top gD gS:Nat) (w:World) (hf:o+8≤cur.size) (hb:w.heap[g]?=some (.cells (lay cur o l.cells) 48 (0,0))) (htop:top≤w.heap.size) (hR:jQ w base top (l.spot g o cur hf) gD gS l.R) (hok:l.R.Ok) (hno:¬ (0<l.nT∧l.st=false)) (hp:tz l.R M (-1) s) :
  Calls Tryz.prog 93 #[.pointer (some (Hh g o))] w fun e w'=>e=.returned (.tuple #[.int .i64 0,.bool false])∧(∃ X',Alike M X'∧jQ w' base top (l.spot g o cur hf) gD gS X')∧Touch [g,gD,gS] w w':=by
 have k:∀ j,j<8→w.cell? (Hh g (o+j))=l.cells[j]?:=fun j hj=>(iv hb _).trans (jC (cs:=l.cells) hf j hj)
 have c0:w.cell? (Hh g o)=some (.bool l.st):=k 0 (by omega)
 have c1:w.cell? (Hh g (o+1))=some (.slice l.aT l.nT l.cT):=k 1 (by omega)
 have HR:=aa hR
 have HT:=aa htop
 have HOk:=aa hok
 have HP:=aa hp
 clear hb k hR htop hok hp
 by_cases h0:0<l.nT
 ·
  have hst:l.st=true:=gF
  rw [hst] at c0
  have hn:(0:Int)<(l.nT:Int):=by omega
  exact gx
 have hn:¬ (0:Int)<(l.nT:Int):=by omega
 exact gx
theorem jQ.Fe {l:Lng} {g:Nat} {hf:o+8≤cur.size} (h:jQ w base top (l.spot g o cur hf) gD gS X):w.heap[g]?=some (.cells (lay cur o ({ l with R:=X }:Lng).cells) 48 (0,0)):=by
 rw [←zt hf]
 exact h.box
theorem tW (l:Lng) (M:Rnd) (s:Int) (c:Nat) (gu ou gz oz:Nat) (ua za:Array Value) (g o:Nat) (cur:Array Value) (base top gD gS:Nat) (w:World) (hf:o+8≤cur.size) (hb:w.heap[g]?=some (.cells (lay cur o l.cells) 48 (0,0))) (htop:top≤w.heap.size) (hR:jQ w base top (l.spot g o cur hf) gD gS l.R) (hok:l.R.Ok) (hno:¬ (0<l.nT∧l.st=false)) (hp:tz l.R M (c:Int) s) (hAU:l.aU=some (Hh gu ou)) (hcU:c<l.nU) (hLc:l.uL c≠0)
  (hU:w.heap[gu]?=some (.cells ua 27 (0,0))) (hu:ua[ou+c]?=some (.slice (some (Hh gz oz)) (l.uL c) (l.uC c))) (hZ:w.heap[gz]?=some (.cells za 2 (0,0))) (hz:za[oz]?=some (.int .i64 (l.uz c 0))) (nU:gu∉[g,gD,gS]) (nZ:gz∉[g,gD,gS]) :
  Calls Tryz.prog 93 #[.pointer (some (Hh g o))] w fun e w'=>e=.returned (.tuple #[.int .i64 (l.uz c 0),.bool true])∧∃ w1,(∃ X',Alike M X'∧jQ w1 base top (l.spot g o cur hf) gD gS X')∧Touch [g,gD,gS] w w1∧w'=w1.setCell (Hh gu (ou+c)) (.slice (some (Hh gz (rD oz (l.uC c)))) (l.uL c-1) (l.uC c-1)):=by
 have k:∀ j,j<8→w.cell? (Hh g (o+j))=l.cells[j]?:=fun j hj=>(iv hb _).trans (jC (cs:=l.cells) hf j hj)
 have c0:w.cell? (Hh g o)=some (.bool l.st):=k 0 (by omega)
 have c1:w.cell? (Hh g (o+1))=some (.slice l.aT l.nT l.cT):=k 1 (by omega)
 have HR:=aa hR
 have HT:=aa htop
 have HOk:=aa hok
 have HP:=aa hp
 have HU:Hid (w.heap[gu]?=some (.cells ua 27 (0,0))∧gu∉[g,gD,gS]):=⟨hU,nU⟩
 have HZ:Hid (w.heap[gz]?=some (.cells za 2 (0,0))∧gz∉[g,gD,gS]):=⟨hZ,nZ⟩
 have HCu:=aa hu
 have HCz:=aa hz
 have HC2:Hid (∀ w2,(∃ X',Alike M X'∧jQ w2 base top (l.spot g o cur hf) gD gS X')→w2.cell? (Hh g (o+2))=some (.slice (some (Hh gu ou)) l.nU l.cU)):=by
  rintro w2 ⟨X',_,h2⟩
  rw [←hAU]
  exact (iv h2.Fe _).trans (jC (cs:=({ l with R:=X' }:Lng).cells) hf 2 (by show 2<8;omega))
 have hc1:(0:Int)≤(c:Int):=by omega
 have hc2:(c:Int)<(l.nU:Int):=by omega
 have hc3:¬ ((c:Int)=-1):=by omega
 clear hb k hR htop hok hp hU hu hZ hz nU nZ
 by_cases h0:0<l.nT
 ·
  have hst:l.st=true:=gF
  rw [hst] at c0
  have hn:(0:Int)<(l.nT:Int):=by omega
  exact Im
 have hn:¬ (0:Int)<(l.nT:Int):=by omega
 exact Im
theorem sD {a a':Option Addr} (h:∀ x∈ju a n,x∈ju a' n'):List.Sublist (ju a n) (ju a' n'):=by
 by_cases h0:n=0
 ·
  unfold ju
  rw [if_pos h0]
  exact List.nil_sublist _
 cases a with
 | none =>
  unfold ju
  rw [if_neg h0]
  exact List.nil_sublist _
 | some x =>
  have e:ju (some x) n=[x.block]:=by unfold ju;rw [if_neg h0];rfl
  rw [e]
  exact List.singleton_sublist.2 (h _ (by rw [e];simp))
theorem wF {A A':Nat→Option Addr} {L L':Nat→Nat}:∀ n,(∀ i,i<n→∀ x∈ju (A i) (L i),x∈ju (A' i) (L' i))→List.Sublist (sF n A L) (sF n A' L')
 | 0,_=>List.Sublist.refl _
 | n+1,h=>by
  have ih:=wF n (fun i hi=>h i (by omega))
  unfold sF at ih ⊢
  rw [List.range_succ,List.flatMap_append,List.flatMap_append]
  refine ih.append ?_
  simp only [List.flatMap_cons,List.flatMap_nil,List.append_nil]
  exact sD (h n (by omega))
theorem VO.g {a:Option Addr} {f:Nat→Int} (h:VO w base a n f):VG 2 w base a n fun i=>.int .i64 (f i):=h
theorem ke.As {l:Lng} {S:List Nat} (h:ke w base l) (ht:Touch S w w') (h1:∀ x∈l.nq,x∉S) (h2:∀ x∈ju l.aU l.nU,x∉S) (h3:∀ x∈ju l.R.aS l.R.nS,x∉S):ke w' base l:=by
 have m:∀ x,x∈l.nq↔x∈ju l.aT l.nT∨x∈sF l.nU l.uA l.uL∨x∈ju l.R.aQ l.R.nQ∨x∈ju l.R.aD l.R.nD∨x∈sF l.R.nS l.R.A l.R.L:=fun x=>by unfold Lng.nq;simp only [List.mem_append]
 exact ⟨h.t.iB ht (fun x hx=>h1 x ((m x).2 (.inl hx))),h.u.iB ht h2,fun i hi=>(h.z i hi).iB ht (fun x hx=>h1 x ((m x).2 (.inr (.inl (oK.2 ⟨i,hi,hx⟩))))),h.q.iB ht (fun x hx=>h1 x ((m x).2 (.inr (.inr (.inl hx))))),h.d.iB ht (fun x hx=>h1 x ((m x).2 (.inr (.inr (.inr (.inl hx)))))),h.s.iB ht h3,fun i hi=>(h.y i hi).iB ht (fun x hx=>h1 x ((m x).2 (.inr (.inr (.inr (.inr (oK.2 ⟨i,hi,hx⟩)))))))  ,h.nd⟩
theorem ke.ty2 {l:Lng} (h:ke w base l):∀ x∈l.nq,∃ cs,w.heap[x]?=some (.cells cs 2 (0,0)):=by
 intro x hx
 unfold Lng.nq at hx
 simp only [List.mem_append,oK] at hx
 rcases hx with hx | ⟨i,hi,hx⟩ | hx | hx | ⟨i,hi,hx⟩
 ·
  exact h.t.type x hx
 ·
  exact (h.z i hi).type x hx
 ·
  exact h.q.type x hx
 ·
  exact h.d.type x hx
 exact (h.y i hi).type x hx
theorem jN {x y:Nat} {a b:Array Value} {t':TypeId} (hx:w.heap[x]?=some (.cells a t (0,0))) (hy:w.heap[y]?=some (.cells b t' (0,0))) (hne:t≠t'):x≠y:=by
 rintro rfl
 rw [hx] at hy
 simp at hy
 exact hne hy.2
theorem vm {l l2:Lng} (hT:∀ x∈ju l2.aT l2.nT,x∈ju l.aT l.nT) (nU:l2.nU=l.nU) (hU:∀ i,i<l.nU→∀ x∈ju (l2.uA i) (l2.uL i),x∈ju (l.uA i) (l.uL i)) (hQ:∀ x∈ju l2.R.aQ l2.R.nQ,x∈ju l.R.aQ l.R.nQ) (hD:∀ x∈ju l2.R.aD l2.R.nD,x∈ju l.R.aD l.R.nD) (nS:l2.R.nS=l.R.nS) (hS:∀ i,i<l.R.nS→∀ x∈ju (l2.R.A i) (l2.R.L i),x∈ju (l.R.A i) (l.R.L i)):List.Sublist l2.nq l.nq:=by
 unfold Lng.nq
 rw [nU,nS]
 exact (sD hT).append ((wF _ hU).append ((sD hQ).append ((sD hD).append (wF _ hS))))
theorem iS.picked {w1:World} {l:Lng} {g:Nat} {hf:o+8≤cur.size} (h:iS w base l) (hb:w.heap[g]?=some (.cells (lay cur o l.cells) 48 (0,0))) (eD:l.R.aD=some (Hh gD 0)) (eS:l.R.aS=some (Hh gS 0)) (hr:l.R.Ok) (hR:jQ w1 base top (l.spot g o cur hf) gD gS X) (hq:X.nQ=l.R.nQ) (ht:Touch [g,gD,gS] w w1) :
  ke w1 base { l with R:=X }∧List.Sublist ({ l with R:=X }:Lng).nq l.nq:=by
 have hg:=h.g
 have hn:=hr.n
 have hd:=hr.d
 have hs:=hr.s
 obtain ⟨p1,p2,p3⟩:=hR.pos
 have sub:List.Sublist ({ l with R:=X }:Lng).nq l.nq:=by
  refine vm (fun x hx=>hx) rfl (fun i hi x hx=>hx) (fun x hx=>(hR.inn.1 x hx).1 rfl) (fun x hx=>?_) (by show X.nS=l.R.nS;omega) (fun i hi x hx=>(hR.inn.2 i (by omega) x hx).2 i rfl)
  change x∈ju X.aD X.nD at hx
  rw [hR.ad,p2,hq] at hx
  rw [eD,hd]
  exact hx
 have inD:gD∈ju l.R.aD l.R.nD:=by rw [eD];exact ng (by omega)
 have inS:gS∈jA l.R.aS l.R.nS:=by rw [eS];exact ng (by omega)
 obtain ⟨cD,tD⟩:=hg.d.type gD inD
 obtain ⟨cS,tS⟩:=hg.s.type gS inS
 have nd:=hg.nd
 have far:∀ x,(∃ cs,w.heap[x]?=some (.cells cs 2 (0,0)))→x≠gD→x∉[g,gD,gS]:=by
  rintro x ⟨cs,hx⟩ hxD hy
  simp only [List.mem_cons,List.not_mem_nil,or_false] at hy
  rcases hy with e | e | e
  ·
   exact jN hx hb (by decide) e
  ·
   exact hxD e
  exact jN hx tS (by decide) e
 have nd2:=nd
 unfold Lng.nq at nd2
 refine ⟨⟨hg.t.iB ht (fun x hx=>far x (hg.t.type x hx) (fun e=>?_)),hg.u.iB ht (fun x hx hy=>?_),fun i hi=>(hg.z i hi).iB ht (fun x hx=>far x ((hg.z i hi).type x hx) (fun e=>?_)),hR.own.q.g,hR.own.d.g,hR.own.s.g,fun i hi=>(hR.own.z i hi).g,sub.nodup nd⟩,sub⟩
 ·
  subst e
  exact (List.nodup_append.1 nd2).2.2 x hx x (by simp only [List.mem_append];exact .inr (.inr (.inl inD))) rfl
 ·
  obtain ⟨cs,tx⟩:=hg.u.type x hx
  simp only [List.mem_cons,List.not_mem_nil,or_false] at hy
  rcases hy with e | e | e
  ·
   exact jN tx hb (by decide) e
  ·
   exact jN tx tD (by decide) e
  subst e
  exact h.su x inS ((nc _ _).subset hx)
 subst e
 exact (List.nodup_append.1 (List.nodup_append.1 nd2).2.1).2.2 x (oK.2 ⟨i,hi,hx⟩) x (by simp only [List.mem_append];exact .inr (.inl inD)) rfl
def Lng.hit (l:Lng):List Nat:=ju l.aU l.nU++(ju l.R.aD l.R.nD++ju l.R.aS l.R.nS)
structure Hb (w w':World) (base g o:Nat) (cur:Array Value) (l l':Lng):Prop where
 ex:∃ l2,iT l' l2∧w'.heap[g]?=some (.cells (lay cur o l2.cells) 48 (0,0))∧ke w' base l2∧List.Sublist l2.nq l.nq∧ju l2.aU l2.nU=ju l.aU l.nU∧ju l2.R.aS l2.R.nS=ju l.R.aS l.R.nS
 tcH:Touch (g :: l.hit) w w'
def Lng.AL (l:Lng) (c gz oz:Nat):Lng:={ l with uA:=fun i=>if i=c then some (Hh gz (rD oz (l.uC c))) else l.uA i,uL:=mj l.uL c (l.uL c-1),uC:=fun i=>if i=c then l.uC c-1 else l.uC i,uz:=sj l.uz c (fun j=>l.uz c (j+1)) }
theorem ke.AL {l:Lng} (h:ke w base l) {gu ou:Nat} (hc:c<l.nU) (eU:l.aU=some (Hh gu ou)) (eZ:l.uA c=some (Hh gz oz)) (hL:l.uL c≠0) (hcap:l.uL c≤l.uC c) (hS:gu∉ju l.R.aS l.R.nS) :
  ke (w.setCell (Hh gu (ou+c)) (.slice (some (Hh gz (rD oz (l.uC c)))) (l.uL c-1) (l.uC c-1))) base (l.AL c gz oz)∧List.Sublist (l.AL c gz oz).nq l.nq:=by
 have inU:gu∈ju l.aU l.nU:=by rw [eU];exact ng (by omega)
 obtain ⟨cU,tU⟩:=h.u.type gu inU
 have ht:Touch [gu] w (w.setCell (Hh gu (ou+c)) (.slice (some (Hh gz (rD oz (l.uC c)))) (l.uL c-1) (l.uC c-1))):=(Touch.refl _ _).set (by simp) _ _
 have far:∀ x,(∃ cs,w.heap[x]?=some (.cells cs 2 (0,0)))→x∉[gu]:=by
  rintro x ⟨cs,hx⟩ hy
  exact jN hx tU (by decide) (by simpa using hy)
 have sub:List.Sublist (l.AL c gz oz).nq l.nq:=by
  refine vm (fun x hx=>hx) rfl (fun i hi x hx=>?_) (fun x hx=>hx) (fun x hx=>hx) rfl (fun i hi x hx=>hx)
  change x∈ju (if i=c then _ else l.uA i) (mj l.uL c (l.uL c-1) i) at hx
  by_cases e:i=c
  ·
   subst e
   unfold mj at hx
   rw [if_pos rfl,if_pos rfl] at hx
   rw [eZ]
   exact yb x hx
  unfold mj at hx
  rw [if_neg e,if_neg e] at hx
  exact hx
 refine ⟨⟨h.t.iB ht (fun x hx=>far x (h.t.type x hx)),?_,fun i hi=>?_,h.q.iB ht (fun x hx=>far x (h.q.type x hx)),h.d.iB ht (fun x hx=>far x (h.d.type x hx)),h.s.iB ht (fun x hx hy=>?_),fun i hi=>(h.y i hi).iB ht (fun x hx=>far x ((h.y i hi).type x hx)),sub.nodup h.nd⟩,sub⟩
 ·
  rcases h.u with e | ⟨g1,o1,e,hb,arr,k1,k2,k3⟩
  ·
   omega
  rw [eU] at e
  cases e
  refine .inr ⟨gu,ou,eU,hb,_,iO k1 _,by rw [Array.size_setIfInBounds];exact k2,fun i hi=>?_⟩
  show _=some (Value.slice (if i=c then _ else l.uA i) (mj l.uL c (l.uL c-1) i) (if i=c then l.uC c-1 else l.uC i))
  unfold mj
  by_cases e:i=c
  ·
   subst e
   rw [if_pos rfl,if_pos rfl,if_pos rfl,Array.getElem?_setIfInBounds_self_of_lt (by have:i<l.nU:=hi;omega)]
  rw [if_neg e,if_neg e,if_neg e,Array.getElem?_setIfInBounds_ne (by omega)]
  exact k3 i hi
 ·
  show VG 2 _ base (if i=c then _ else l.uA i) (mj l.uL c (l.uL c-1) i) fun j=>.int .i64 (sj l.uz c (fun j=>l.uz c (j+1)) i j)
  unfold mj sj
  by_cases e:i=c
  ·
   subst e
   have hz:=h.z i hc
   rw [eZ] at hz
   have:=hz.drop (c:=l.uC i) hL hcap
   simp only [if_true]
   exact this.iB ht (fun x hx=>far x (this.type x hx))
  simp only [if_neg e]
  exact (h.z i hi).iB ht (fun x hx=>far x ((h.z i hi).type x hx))
 have:x=gu:=by simpa using hy
 subst this
 exact hS hx
theorem rV (l l':Lng) (id:Int) (m:Nat) (K:Nat→Pkt) (g o base:Nat) (cur:Array Value) (w:World) (hf:o+8≤cur.size) (hb:w.heap[g]?=some (.cells (lay cur o l.cells) 48 (0,0))) (h:iS w base l) (hl:ni m K l) (hm:pO l l' id) :
  Calls Tryz.prog 93 #[.pointer (some (Hh g o))] w fun e w'=>(∃ b,e=.returned (.tuple #[.int .i64 id,.bool b])∧(b=false→id=0)∧(b=true→(∃ i,i<l.nT∧id=l.t i)∨∃ c i,c<2∧i<l.uL c∧id=l.uz c i))∧Hb w w' base g o cur l l':=by
 obtain ⟨gD,gS,eD,eS,hR⟩:=h.rep hl.r hf hb
 have hg:=h.g
 have hn:=hl.n
 have hd:=hl.r.d
 have hs:=hl.r.s
 have inD:gD∈ju l.R.aD l.R.nD:=by rw [eD];exact ng (by omega)
 have inS:gS∈ju l.R.aS l.R.nS:=by rw [eS];exact ng (by omega)
 have hit3:∀ x∈[g,gD,gS],x∈g :: l.hit:=fun x hx=>by
  simp only [List.mem_cons,List.not_mem_nil,or_false] at hx
  unfold Lng.hit
  simp only [List.mem_cons,List.mem_append]
  rcases hx with e | e | e
  ·
   exact .inl e
  ·
   subst e;exact .inr (.inr (.inl inD))
  subst e;exact .inr (.inr (.inr inS))
 rcases hm with ⟨h1,h2,rfl,rfl⟩ | ⟨hno,M,x,s,hp,⟨rfl,rfl,rfl⟩ | ⟨c,rfl,rfl,rfl⟩⟩
 ·
  rcases hg.t with e | ⟨gt,ot,eT,hbt,hrow⟩
  ·
   omega
  have hz:w.cell? (Hh gt ot)=some (.int .i64 (l.t 0)):=by
   obtain ⟨arr,k1,k2,k3⟩:=hrow
   exact (iv k1 _).trans (k3 0 h1)
  refine (sO l g o cur gt ot w hf hb eT hz h1 h2).mono ?_
  rintro e w' ⟨rfl,hb',ht,hsz⟩
  have far:∀ x t,t≠48→(∃ cs,w.heap[x]?=some (.cells cs t (0,0)))→x∉[g]:=by
   rintro x t hne ⟨cs,hx⟩ hy
   exact jN hx hb hne (by simpa using hy)
  have hk:=hg.As ht (fun x hx=>far x 2 (by decide) (hg.ty2 x hx)) (fun x hx=>far x _ (by decide) (hg.u.type x hx)) (fun x hx=>far x _ (by decide) (hg.s.type x hx))
  have hcap:l.nT≤l.cT:=OG.cap (t:=2) (sz:=1) h.t
  have hkt:=hk.t
  rw [eT] at hkt
  have sub:List.Sublist (l.Fy gt ot).nq l.nq:=by
   refine vm (fun x hx=>?_) rfl (fun i hi x hx=>hx) (fun x hx=>hx) (fun x hx=>hx) rfl (fun i hi x hx=>hx)
   rw [eT]
   exact yb x hx
  exact ⟨⟨true,rfl,fun e=>absurd e (by simp),fun _=>.inl ⟨0,h1,rfl⟩⟩,⟨⟨l.Fy gt ot,⟨rfl,rfl,rfl,rfl,rfl,rfl,Alike.refl _⟩,hb',⟨hkt.drop (c:=l.cT) (by omega) hcap,hk.u,hk.z,hk.q,hk.d,hk.s,hk.y,sub.nodup hg.nd⟩,sub,rfl,rfl⟩,ht.mono (fun x hx=>by simp at hx;simp [hx])⟩⟩
 ·
  refine (vj l M s g o cur base w.heap.size gD gS w hf hb (Nat.le_refl _) hR hl.r hno hp).mono ?_
  rintro e w' ⟨rfl,⟨X,hA,hX⟩,ht⟩
  have hq:X.nQ=l.R.nQ:=by
   rcases hp with ⟨hx,_⟩ | ⟨_,_,rfl,_⟩ | ⟨_,_,k,c,_,e⟩
   ·
    exact absurd hl.r hx
   ·
    exact hA.nQ
   omega
  obtain ⟨hO,sub⟩:=h.picked hb eD eS hl.r hX hq ht
  have hps:=hX.pos
  exact ⟨⟨false,rfl,fun _=>rfl,fun e=>absurd e (by simp)⟩,⟨⟨{ l with R:=X },⟨rfl,rfl,rfl,rfl,rfl,rfl,hA⟩,hX.Fe,hO,sub,rfl,by show ju X.aS X.nS=_;rw [hX.as_,eS,hps.2.2,hq,hs]⟩,ht.mono hit3⟩⟩
 have hpk:∃ k,lj k l.R M c s:=by
  rcases hp with ⟨hx,_⟩ | ⟨_,_,_,e,_⟩ | ⟨_,_,k,c',hpk,e⟩
  ·
   exact absurd hl.r hx
  ·
   omega
  have e2:c'=c:=by omega
  subst e2
  exact ⟨k,hpk⟩
 obtain ⟨k,hpk⟩:=hpk
 obtain ⟨r1,_,_,_,_,r6⟩:=hpk.rows
 have hc2:c<2:=by
  have:=(hpk.ok hl.r).2.2.1
  omega
 obtain ⟨_,hz2,_⟩:=hl.z c hc2
 have hLc:l.uL c≠0:=by rw [hz2];exact r1
 have hcU:c<l.nU:=by have:=hl.u;omega
 rcases hg.u with e | ⟨gu,ou,eU,hbu,ua,u1,u2,u3⟩
 ·
  omega
 rcases hg.z c hcU with e | ⟨gz,oz,eZ,hbz,za,z1,z2,z3⟩
 ·
  exact absurd e hLc
 have inU:gu∈ju l.aU l.nU:=by rw [eU];exact ng (by omega)
 have inZ:gz∈ju (l.uA c) (l.uL c):=by rw [eZ];exact ng hLc
 obtain ⟨cD,tD⟩:=hg.d.type gD inD
 obtain ⟨cS,tS⟩:=hg.s.type gS inS
 have hSU:gu∉ju l.R.aS l.R.nS:=fun hx=>h.su gu hx ((nc _ _).subset inU)
 have nU:gu∉[g,gD,gS]:=fun hy=>by
  simp only [List.mem_cons,List.not_mem_nil,or_false] at hy
  rcases hy with e | e | e
  ·
   exact jN u1 hb (by decide) e
  ·
   exact jN u1 tD (by decide) e
  subst e;exact hSU inS
 have nZ:gz∉[g,gD,gS]:=fun hy=>by
  simp only [List.mem_cons,List.not_mem_nil,or_false] at hy
  rcases hy with e | e | e
  ·
   exact jN z1 hb (by decide) e
  ·
   subst e
   have nd2:=hg.nd
   unfold Lng.nq at nd2
   exact (List.nodup_append.1 (List.nodup_append.1 nd2).2.1).2.2 gz (oK.2 ⟨c,hcU,inZ⟩) gz (by simp only [List.mem_append];exact .inr (.inl inD)) rfl
  exact jN z1 tS (by decide) e
 have hu:ua[ou+c]?=some (.slice (l.uA c) (l.uL c) (l.uC c)):=u3 c hcU
 rw [eZ] at hu
 refine (tW l M s c gu ou gz oz ua za g o cur base w.heap.size gD gS w hf hb (Nat.le_refl _) hR hl.r hno hp eU hcU hLc u1 hu z1 (z3 0 (by omega)) nU nZ).mono ?_
 rintro e w' ⟨rfl,w1,⟨X,hA,hX⟩,ht,rfl⟩
 have hq:X.nQ=l.R.nQ:=hA.nQ.trans r6
 obtain ⟨hO,sub⟩:=h.picked hb eD eS hl.r hX hq ht
 have hps:=hX.pos
 have eSS:ju X.aS X.nS=ju l.R.aS l.R.nS:=by rw [hX.as_,eS,hps.2.2,hq,hs]
 obtain ⟨hO2,sub2⟩:=hO.AL (c:=c) (gu:=gu) (ou:=ou) (gz:=gz) (oz:=oz) hcU eU eZ hLc (OG.cap (t:=2) (sz:=1) (h.z c hcU)) (by show gu∉ju X.aS X.nS;rw [eSS];exact hSU)
 have gne:g≠gu:=fun e=>nU (by simp [e])
 exact ⟨⟨true,rfl,fun e=>absurd e (by simp),fun _=>.inr ⟨c,0,hc2,by omega,rfl⟩⟩,⟨⟨({ l with R:=X }:Lng).AL c gz oz,⟨rfl,rfl,rfl,rfl,rfl,rfl,hA⟩,(iJ gne _).trans hX.Fe,hO2,sub2.trans sub,rfl,eSS⟩,(ht.mono hit3).set (by unfold Lng.hit;simp only [List.mem_cons,List.mem_append];exact .inr (.inl inU)) _ _⟩⟩
theorem nJ {f:Nat→List Nat}:∀ n,((List.range n).flatMap f).Nodup→∀ i k,i<n→k<n→i≠k→∀ x∈f i,x∉f k
 | 0,_,i,_,hi,_,_=>by omega
 | n+1,h,i,k,hi,hk,hne=>by
  rw [List.range_succ,List.flatMap_append] at h
  simp only [List.flatMap_cons,List.flatMap_nil,List.append_nil] at h
  obtain ⟨h1,h2,h3⟩:=List.nodup_append.1 h
  intro x hx hy
  by_cases ei:i=n
  ·
   subst ei
   exact h3 x (by simp only [List.mem_flatMap,List.mem_range];exact ⟨k,by omega,hy⟩) x hx rfl
  by_cases ek:k=n
  ·
   subst ek
   exact h3 x (by simp only [List.mem_flatMap,List.mem_range];exact ⟨i,by omega,hx⟩) x hy rfl
  exact nJ n h1 i k (by omega) (by omega) hne x hx hy
theorem zG {f g:Nat→List Nat}:∀ n,(∀ k,k<n→List.Sublist (f k) (g k))→List.Sublist ((List.range n).flatMap f) ((List.range n).flatMap g)
 | 0,_=>List.Sublist.refl _
 | n+1,h=>by
  rw [List.range_succ,List.flatMap_append,List.flatMap_append]
  refine (zG n (fun k hk=>h k (by omega))).append ?_
  simp only [List.flatMap_cons,List.flatMap_nil,List.append_nil]
  exact h n (by omega)
theorem xC (h:o+cs.size≤cur.size) (hc:∀ j,j<cs.size→cur[o+j]?=cs[j]?):lay cur o cs=cur:=by
 refine Array.ext_getElem? fun j=>?_
 by_cases h1:j<o
 ·
  exact kh h j h1
 by_cases h2:j<o+cs.size
 ·
  have e:=jC h (j-o) (by omega)
  have e2:=hc (j-o) (by omega)
  rw [show o+(j-o)=j by omega] at e e2
  rw [e,e2]
 exact lM h j (by omega)
def Swg.lane (S:Swg) (i:Nat) (l:Lng):Swg:={ S with L:=fun k=>if k=i then l else S.L k }
theorem iP.GU {S:Swg} {l':Lng} (ho:iP w base S) (hi:i<S.nL) (eL:S.aL=some (Hh gL 0)) (kL:w.heap[gL]?=some (.cells cur 48 (0,0))) (hsz:S.nL*8≤cur.size) (hc:∀ k,k<S.nL→∀ q,q<8→cur[k*8+q]?=(S.L k).cells[q]?) (hbL:base≤gL) (ht:Hb w w' base gL (i*8) cur (S.L i) l') :
  ∃ l2,iT l' l2∧jK w' base (S.lane i l2)∧Touch (gL :: (S.L i).hit) w w':=by
 have hg:=ho.g
 obtain ⟨⟨l2,hA,hb2,hO2,sub2,eU2,eS2⟩,hto⟩:=ht
 have hLi:=(hg.ls i hi)
 have hz:=ho.l.ls i hi
 have hf:i*8+l2.cells.size≤cur.size:=by rw [Lng.iW];omega
 have hitD:∀ x∈(S.L i).hit,(∃ cs,w.heap[x]?=some (.cells cs 27 (0,0)))∧x∈(S.L i).pg∨(∃ cs,w.heap[x]?=some (.cells cs 2 (0,0)))∧x∈(S.L i).kj:=by
  intro x hx
  unfold Lng.hit at hx
  simp only [List.mem_append] at hx
  rcases hx with hx | hx | hx
  ·
   exact .inl ⟨hLi.u.type x hx,by unfold Lng.pg;exact List.mem_append.2 (.inl ((nc _ _).subset hx))⟩
  ·
   exact .inr ⟨hLi.d.type x hx,by unfold Lng.kj Rnd.kj;simp only [List.mem_append];exact .inl (.inr (.inr (.inl hx)))⟩
  exact .inl ⟨hLi.s.type x hx,by unfold Lng.pg;exact List.mem_append.2 (.inr hx)⟩
 have far:∀ x t,(∃ cs,w.heap[x]?=some (.cells cs t (0,0)))→t≠48→t≠27→t≠2→x∉gL :: (S.L i).hit:=by
  rintro x t ⟨cs,hx⟩ h1 h2 h3 hy
  rcases List.mem_cons.1 hy with e | hy
  ·
   exact jN hx kL h1 e
  rcases hitD x hy with ⟨⟨c2,k2⟩,_⟩ | ⟨⟨c2,k2⟩,_⟩
  ·
   exact jN hx k2 h2 rfl
  exact jN hx k2 h3 rfl
 have far2:∀ x,(∃ cs,w.heap[x]?=some (.cells cs 2 (0,0)))→x∉(S.L i).kj→x∉gL :: (S.L i).hit:=by
  rintro x ⟨cs,hx⟩ hn hy
  rcases List.mem_cons.1 hy with e | hy
  ·
   exact jN hx kL (by decide) e
  rcases hitD x hy with ⟨⟨c2,k2⟩,_⟩ | ⟨_,h2⟩
  ·
   exact jN hx k2 (by decide) rfl
  exact hn h2
 have farS:∀ x,(∃ cs,w.heap[x]?=some (.cells cs 27 (0,0)))→x∉(S.L i).pg→x∉gL :: (S.L i).hit:=by
  rintro x ⟨cs,hx⟩ hn hy
  rcases List.mem_cons.1 hy with e | hy
  ·
   exact jN hx kL (by decide) e
  rcases hitD x hy with ⟨_,h2⟩ | ⟨⟨c2,k2⟩,_⟩
  ·
   exact hn h2
  exact jN hx k2 (by decide) rfl
 refine ⟨l2,hA,⟨hg.e.iB hto (fun x hx=>far x _ (hg.e.type x hx) (by decide) (by decide) (by decide)),hg.u.iB hto (fun x hx=>far2 x (hg.u.type x hx) (fun h=>ho.un x hx (by simp only [List.mem_flatMap,List.mem_range];exact ⟨i,hi,h⟩))),hg.p.iB hto (fun x hx=>far x _ (hg.p.type x hx) (by decide) (by decide) (by decide)),hg.k.iB hto (fun x hx=>far x _ (hg.k.type x hx) (by decide) (by decide) (by decide)),?_,fun k hk=>?_,?_⟩,hto⟩
 ·
  show VT 48 w' base S.aL (S.nL*8) _
  rw [eL]
  refine .inr ⟨gL,rfl,hbL,_,hb2,by rw [jJ hf];omega,fun j hj=>?_⟩
  have hfl:=mB (S.lane i l2).L (j / 8) (j % 8) (by omega)
  rw [show j / 8*8+j % 8=j by omega] at hfl
  rw [hfl]
  show _=(if j / 8=i then l2 else S.L (j / 8)).cells[j % 8]?
  by_cases e:j / 8=i
  ·
   rw [if_pos e]
   have q:=jC hf (j % 8) (by rw [Lng.iW];omega)
   rw [show i*8+j % 8=j by omega] at q
   exact q
  rw [if_neg e,←hc (j / 8) (by omega) (j % 8) (by omega),show j / 8*8+j % 8=j by omega]
  rcases Nat.lt_or_ge j (i*8) with c | c
  ·
   exact kh hf j c
  exact lM hf j (by rw [Lng.iW];omega)
 ·
  show ke w' base (if k=i then l2 else S.L k)
  by_cases e:k=i
  ·
   rw [if_pos e]
   exact hO2
  rw [if_neg e]
  have hk':k<S.nL:=hk
  have ok:=hg.ls k hk'
  refine ok.As hto (fun x hx=>far2 x (ok.ty2 x hx) (nJ _ ho.l.nd k i hk' hi e x (BG _ x hx))) (fun x hx=>farS x (ok.u.type x hx) (nJ _ ho.l.td k i hk' hi e x ?_)) (fun x hx=>farS x (ok.s.type x hx) (nJ _ ho.l.td k i hk' hi e x ?_))
  ·
   unfold Lng.pg;exact List.mem_append.2 (.inl ((nc _ _).subset hx))
  unfold Lng.pg;exact List.mem_append.2 (.inr hx)
 refine List.Sublist.nodup ((List.Sublist.refl _).append (zG _ (fun k hk=>?_))) hg.nd
 show List.Sublist (if k=i then l2 else S.L k).nq (S.L k).nq
 by_cases e:k=i
 ·
  subst e
  rw [if_pos rfl]
  exact sub2
 rw [if_neg e]
 exact List.Sublist.refl _
theorem iP.yP {S:Swg} (ho:iP w base S) (hi:i<S.nL):∃ gL cur,S.aL=some (Hh gL 0)∧base≤gL∧w.heap[gL]?=some (.cells cur 48 (0,0))∧S.nL*8≤cur.size∧∀ k,k<S.nL→∀ q,q<8→cur[k*8+q]?=(S.L k).cells[q]?:=by
 rcases ho.g.l with e | ⟨gL,e,hb,arr,k1,k2,k3⟩
 ·
  omega
 exact ⟨gL,arr,e,hb,k1,k2,fun k hk q hq=>(k3 (k*8+q) (by omega)).trans (mB S.L k q hq)⟩
theorem ke.Er {l:Lng} (h:ke w base l):∀ x∈l.hit,(∃ cs,w.heap[x]?=some (.cells cs 27 (0,0)))∨∃ cs,w.heap[x]?=some (.cells cs 2 (0,0)):=by
 intro x hx
 unfold Lng.hit at hx
 simp only [List.mem_append] at hx
 rcases hx with hx | hx | hx
 ·
  exact .inl (h.u.type x hx)
 ·
  exact .inr (h.d.type x hx)
 exact .inl (h.s.type x hx)
theorem ke.Fs {l:Lng} (h:ke w base l) {g:Nat} (kg:w.heap[g]?=some (.cells cs t (0,0))) (kL:w.heap[gL]?=some (.cells cur 48 (0,0))) (h1:t≠48) (h2:t≠27) (h3:t≠2):g∉gL :: l.hit:=by
 intro hy
 rcases List.mem_cons.1 hy with e | hy
 ·
  exact jN kg kL h1 e
 rcases h.Er g hy with ⟨c2,k2⟩ | ⟨c2,k2⟩
 ·
  exact jN kg k2 h2 rfl
 exact jN kg k2 h3 rfl
theorem ke.Gd {l:Lng} (h:ke w base l):∀ x∈l.hit,base≤x:=by
 intro x hx
 unfold Lng.hit at hx
 simp only [List.mem_append] at hx
 rcases hx with hx | hx | hx
 ·
  exact (h.u.blk x hx).1
 ·
  exact (h.d.blk x hx).1
 exact (h.s.blk x hx).1
structure qw (base:Nat) (w w':World):Prop where
 bel:Below base w w'
 msg:∀ (x:Nat) (cs:Array Value),w.heap[x]?=some (.cells cs 99 (0,0))→w'.heap[x]?=some (.cells cs 99 (0,0))
theorem qw.trans {c:World} (h:qw base a b) (k:qw base b c):qw base a c:=⟨h.bel.trans k.bel,fun x cs hx=>k.msg x cs (h.msg x cs hx)⟩
theorem qw.up (h:Below a.heap.size a b) (hb:base≤a.heap.size):qw base a b:=⟨h.mono hb,fun x cs hx=>(h.block x (iw hx)).trans hx⟩
theorem qw.to {T:List Nat} (h:Touch T a b) (hb:base≤a.heap.size) (hT:∀ x∈T,base≤x∧∃ cs t,a.heap[x]?=some (.cells cs t (0,0))∧t≠99):qw base a b :=
 ⟨h.below hb (fun x hx=>(hT x hx).1),fun x cs hx=>(h.block x (iw hx) (fun hy=>by
  obtain ⟨_,c2,t,k2,hne⟩:=hT x hy
  exact jN k2 hx hne rfl)).trans hx⟩
theorem ke.DR {l:Lng} (h:ke w base l) (kL:w.heap[gL]?=some (.cells cur 48 (0,0))) (hbL:base≤gL) (ht:Touch (gL :: l.hit) w w'):qw base w w' :=
 .to ht (by have:=iw kL;omega) (fun x hx=>by
  rcases List.mem_cons.1 hx with e | hx
  ·
   subst e;exact ⟨hbL,_,_,kL,by decide⟩
  ·
   refine ⟨h.Gd x hx,?_⟩
   rcases h.Er x hx with ⟨c2,k2⟩ | ⟨c2,k2⟩
   ·
    exact ⟨c2,_,k2,by decide⟩
   ·
    exact ⟨c2,_,k2,by decide⟩)
theorem ni.pos {nx p:Int} {m:Nat} {l:Lng} (h:ni m K l) (hk:lC nx p m K) (hid:(∃ i,i<l.nT∧id=l.t i)∨∃ c i,c<2∧i<l.uL c∧id=l.uz c i):∃ j,j<m∧(K j).id=id∧1≤id:=by
 rcases hid with ⟨i,hi,rfl⟩ | ⟨c,i,hc,hi,rfl⟩
 ·
  obtain ⟨⟨j,hj,e,_⟩,_⟩:=h.t i hi
  exact ⟨j,hj,e,by have:=(hk.one j hj).1.1;omega⟩
 obtain ⟨⟨j,hj,e,_⟩,_⟩:=(h.z c hc).1 i hi
 exact ⟨j,hj,e,by have:=(hk.one j hj).1.1;omega⟩
theorem vn (S:Swg) (l':Lng) (i g base:Nat) (w:World) (kb:w.heap[g]?=some (.cells S.cells 34 (0,0))) (ho:iP w base S) (hi:i<S.nL) (hl:ni S.nK S.K (S.L i)) (hk:lC S.nx S.C.p S.nK S.K) (hm:pO (S.L i) l' 0) :
  Calls Tryz.prog 59 #[.pointer (some (Hh g 0)),.int .i64 (i:Int)] w fun e w'=>e=.returned (.slice none 0 0)∧∃ l2,iT l' l2∧jK w' base (S.lane i l2)∧w'.heap[g]?=some (.cells (S.lane i l2).cells 34 (0,0))∧qw base w w':=by
 obtain ⟨gL,cur,eL,hbL,kL,hsz,hc⟩:=ho.yP hi
 have hf:i*8+8≤cur.size:=by omega
 have kL2:w.heap[gL]?=some (.cells (lay cur (i*8) (S.L i).cells) 48 (0,0)):=by
  rw [xC (cs:=(S.L i).cells) hf (fun j hj=>hc i hi j hj)]
  exact kL
 have c14:w.cell? (Hh g 14)=some (.slice (some (Hh gL 0)) S.nL S.cL):=by rw [←eL];exact iv kb 14
 have hi1:(i:Int)<(S.nL:Int):=by omega
 have hi0:(0:Int)≤(i:Int):=by omega
 have HT:Hid (Calls Tryz.prog 93 #[.pointer (some (Hh gL (i*8)))] w fun e w'=>e=.returned (.tuple #[.int .i64 0,.bool false])∧∃ l2,iT l' l2∧jK w' base (S.lane i l2)∧w'.heap[g]?=some (.cells (S.lane i l2).cells 34 (0,0))∧qw base w w'):=by
  refine (rV (S.L i) l' 0 S.nK S.K gL (i*8) base cur w hf kL2 (ho.l.ls i hi) hl hm).mono ?_
  rintro e w' ⟨⟨b,rfl,hb1,hb2⟩,ht⟩
  obtain ⟨l2,hA,hO,hto⟩:=ho.GU hi eL kL hsz hc hbL ht
  have hbf:b=false:=by
   cases b with
   | false=>rfl
   | true =>
    obtain ⟨j,_,_,h1⟩:=hl.pos hk (hb2 rfl)
    omega
  exact gy
 clear kb ho hl hk hm kL kL2 hc hsz hf eL hbL
 go_enter Tryz.func59,Tryz.ntmps59
 go_wp2_with (go_at_call 93;refine HT.mono ?_;rintro e w2 ⟨rfl,hF⟩)
 go_ret
 exact ⟨rfl,hF⟩
theorem zv (x:Pkt) (gp:Nat) (id:Int) (w:World) (hp:w.cell? (Hh gp 0)=some (.int .i64 id)) :
  Calls Tryz.prog 130 #[.agg x.cells,.pointer (some (Hh gp 0))] w fun e w'=>e=.returned (.bool (x.id == id))∧Below w.heap.size w w':=by
 have hB:Below (w.heap.size+1) (w.alloc (.cells x.cells 50)) (w.alloc (.cells x.cells 50)):=Below.refl _ _
 have c0:(w.alloc (.cells x.cells 50)).cell? (Hh w.heap.size 0)=some (.int .i64 x.id):=boxed hB 0
 have hl:gp<w.heap.size:=by
  rcases Nat.lt_or_ge gp w.heap.size with h | h
  ·
   exact h
  have:w.heap[gp]?=none:=Array.getElem?_eq_none h
  simp [World.cell?,this] at hp
 have c1:(w.alloc (.cells x.cells 50)).cell? (Hh gp 0)=some (.int .i64 id):=(World.cell?_of_block (w:=w) (a:=(Hh gp 0)) (iN _ hl)).trans hp
 go_enter Tryz.func130,Tryz.ntmps130
 exact bt
theorem Ck (a:Option Addr) (n c:Nat) (K:Nat→Pkt) (gp:Nat) (id:Int) (w:World) (hn:n≤1048576) (h:pP w a n K) (hgp:gp<w.heap.size) (hp:w.cell? (Hh gp 0)=some (.int .i64 id)) (j:Nat) (hj:j<n) (hid:(K j).id=id) (hne:∀ i,i<n→i≠j→(K i).id≠id) :
  Calls Tryz.prog 143 #[.slice a n c,.func (.func 130) #[] #[.pointer (some (Hh gp 0))]] w fun e w'=>e=.returned (.int .i64 (j:Int))∧Below w.heap.size w w':=by
 have HR:=aa h
 have HN:=aa hne
 have HP:=aa hp
 have HG:=aa hgp
 clear h hne hp hgp
 go_enter Tryz.func143,Tryz.ntmps143
 go_wp2_with fail
 go_loopw [8] (fun i wr=>∃ k:Nat,k≤j∧i=.int .i64 k∧Below w.heap.size w wr) (fun i _=>j-(intOf i).toNat)
 case atStart=>exact ⟨0,Nat.zero_le _,rfl,Below.refl _ _⟩
 obtain ⟨k,hk,rfl,hB⟩:=hrel
 have hkn:k<n:=by omega
 have hkn':(k:Int)<(n:Int):=by omega
 have hq:wr.cell? (Hh gp 0)=some (.int .i64 id):=(World.cell?_of_block (w:=w) (a:=(Hh gp 0)) (hB.block _ HG.out)).trans HP.out
 obtain ⟨g,o,rfl,hc⟩:=(HR.up hB) _ hkn
 go_wp2_with (refine jS rfl (.tmp 14) rfl g (o+k*8) rfl (K k) hc ?_)
 refine (zv (K k) gp id _ hq).mono ?_
 rintro e w2 ⟨rfl,hb⟩
 have hB2:=hB.trans (hb.mono hB.size)
 clear hb hc hB hq
 by_cases e:k=j
 ·
  subst e
  have hv:((K k).id == id)=true:=by simp [hid]
  rw [hv]
  go_wp2_with fail
  go_ret
  exact ⟨rfl,hB2⟩
 have hv:((K k).id == id)=false:=by simpa using HN k hkn e
 rw [hv]
 go_wp2_with fail
 go_roundw
 case rel=>exact ⟨k+1,by omega,by go_num,hB2⟩
 case measure=>simp [intOf];omega
def kd (w:World) (g o n:Nat) (F:Nat→Pkt):Prop:=∃ arr:Array Value,w.heap[g]?=some (.cells arr 50 (0,0))∧o+n*8≤arr.size∧∀ i,i<n→∀ q,q<8→arr[o+i*8+q]?=(F i).cells[q]?
theorem kd.lt {g:Nat} (h:kd w g o n F):g<w.heap.size:=by
 obtain ⟨arr,h1,_⟩:=h
 exact iw h1
theorem kd.jR {g:Nat} (h:kd w g o n F) (hb:w'.heap[g]?=w.heap[g]?):kd w' g o n F:=by
 obtain ⟨arr,h1,h2⟩:=h
 exact ⟨arr,hb.trans h1,h2⟩
theorem kd.rd {g:Nat} (h:kd w g o n F):pP w (some (Hh g o)) n F:=fun i hi=>by
 obtain ⟨arr,h1,h2,h3⟩:=h
 exact ⟨g,o,rfl,fun j hj=>(iv h1 _).trans (h3 i hi j hj)⟩
theorem kd.ext {g:Nat} {F':Nat→Pkt} (h:kd w g o n F) (e:∀ i,i<n→F i=F' i):kd w g o n F':=by
 obtain ⟨arr,h1,h2,h3⟩:=h
 exact ⟨arr,h1,h2,fun i hi q hq=>by rw [←e i hi];exact h3 i hi q hq⟩
theorem El (h2:o+n*8≤arr.size) (h3:∀ i,i<n→∀ q,q<8→arr[o+i*8+q]?=(F i).cells[q]?) (hk:k<n) (X:Pkt) :
  o+n*8≤(lay arr (o+k*8) X.cells).size∧∀ i,i<n→∀ q,q<8→(lay arr (o+k*8) X.cells)[o+i*8+q]?=(if i=k then X else F i).cells[q]?:=by
 have hf:o+k*8+X.cells.size≤arr.size:=by rw [Pkt.iW];omega
 have hpast:∀ j,o+k*8+X.cells.size≤j→(lay arr (o+k*8) X.cells)[j]?=arr[j]?:=fun j hj=>by
  unfold lay
  simp only [List.getElem?_toArray]
  rw [List.append_assoc,List.getElem?_append_right (by simp;omega),List.getElem?_append_right (by simp;omega),List.getElem?_drop]
  simp only [List.length_take,Array.length_toList,Array.getElem?_toList]
  congr 1
  omega
 have hs:X.cells.size=8:=Pkt.iW X
 refine ⟨by rw [jJ hf];exact h2,fun i hi q hq=>?_⟩
 by_cases e:i=k
 ·
  subst e
  rw [if_pos rfl]
  exact jC hf q (by omega)
 rw [if_neg e,←h3 i hi q hq]
 rcases Nat.lt_or_ge i k with c | c
 ·
  exact kh hf _ (by omega)
 exact hpast _ (by omega)
def zPk:Pkt:=⟨0,0,0,0,0,0,0,⟨#[]⟩⟩
theorem FQ (w:World):(zeroValue 50).run Tryz.prog w=.ok (.agg zPk.cells) w:=by
 kernel_rfl
theorem yz (w:World) (g off c:Nat) (ty:TypeId) (cur:Array Value) (hg:w.heap[g]?=some (.cells cur 50 (0,0))) (hf:off+8≤cur.size) :
  (Builtin.clear_ #[31] ty #[.slice (some (Hh g off)) 1 c]).run Tryz.prog w=.ok (.tuple #[]) (w.setRow g (lay cur off zPk.cells)):=by
 have:=run_storeCells_at (P:=Tryz.prog) g off 50 zPk.cells.toList 0 cur w hg (by show off+0+8≤cur.size;exact hf) (fun x hx=>(Array.all_eq_true_iff_forall_mem.1 (Pkt.one zPk)) x (by simpa using hx))
 simp only [Nat.add_zero,Array.length_toList] at this
 have hz:(Builtin.zeroCells (Value.agg zPk.cells).cells 1).toList=zPk.cells.toList:=by kernel_rfl
 have hu:Tryz.prog.underlying 31=some (.slice 50):=by kernel_rfl
 have hz2:(Builtin.zeroCells zPk.cells 1).toList=zPk.cells.toList:=hz
 simp [Builtin.clear_,underlying,hu,FQ,Value.cells]
 show ((storeCells (Hh g off) (Builtin.zeroCells zPk.cells 1).toList).run Tryz.prog w).andThen (fun a w'=>Result.ok (Value.tuple #[]) w')=_
 rw [hz2,this]
 rfl
theorem Bl (gk o n c k:Nat) (w:World) (hk:k<n) (hc:n≤c) :
  (Instr.slice 31 (.slice (some (Hh gk o)) n c) (some (.int .i64 (k:Int))) none none).run Tryz.prog w=.ok (.slice (some (Hh gk (o+k*8))) (n-k) (c-k)) w:=by
 have h1:(k:Int)≤(n:Int):=by omega
 have h2:¬ c-k=0:=by omega
 have h3:(0:Int)≤(k:Int):=by omega
 have h4:(n:Int)≤(c:Int):=by omega
 have h5:¬ c=k:=by omega
 simp [go_sem,h1,h2,h3,h4,h5]
theorem xe (gk o n c k:Nat) (w:World) (hk:k≤n) (hc:n≤c) :
  (Instr.slice 31 (.slice (some (Hh gk o)) n c) none (some (.int .i64 (k:Int))) none).run Tryz.prog w=.ok (.slice (some (Hh gk o)) k c) w:=by
 have h1:(k:Int)≤(c:Int):=by omega
 have h3:(0:Int)≤(k:Int):=by omega
 simp [go_sem,h1,h3]
theorem kd.dec {W:World} {g:Nat} (hj:j<n) (h2:o+n*8≤arr.size) (h3:∀ i,i<n→∀ q,q<8→arr[o+i*8+q]?=(K i).cells[q]?) (hP:Put w W g (lay arr (o+j*8+2) #[.int .i64 ((K j).refs-1)]) 50):kd W g o n (jM K j):=by
 have hf:o+j*8+2+(#[.int .i64 ((K j).refs-1)]:Array Value).size≤arr.size:=by show o+j*8+2+1≤arr.size;omega
 refine ⟨_,hP.blk,by rw [jJ hf];exact h2,fun i hi q hq=>?_⟩
 by_cases e:i=j
 ·
  subst e
  have hd:jM K i i={ K i with refs:=(K i).refs-1 }:=by unfold jM;rw [if_pos rfl]
  rw [hd]
  by_cases e2:q=2
  ·
   subst e2
   exact jC hf 0 (by show 0<1;omega)
  have hk:(lay arr (o+i*8+2) #[.int .i64 ((K i).refs-1)])[o+i*8+q]?=arr[o+i*8+q]?:=by
   rcases Nat.lt_or_ge q 2 with c | c
   ·
    exact kh hf _ (by omega)
   exact lM hf _ (by show o+i*8+2+1≤_;omega)
  rw [hk,h3 i hi q hq]
  have:q=0∨q=1∨q=3∨q=4∨q=5∨q=6∨q=7:=by omega
  rcases this with rfl | rfl | rfl | rfl | rfl | rfl | rfl <;> rfl
 have hd:jM K j i=K i:=by unfold jM;rw [if_neg e]
 rw [hd,←h3 i hi q hq]
 rcases Nat.lt_or_ge i j with c | c
 ·
  exact kh hf _ (by omega)
 exact lM hf _ (by show o+j*8+2+1≤_;omega)
theorem Swg.Ok.xt {S:Swg} (h:S.Ok) (x:Int):∀ n,n≤S.nL→mh S.L x n≤3000*n
 | 0,_=>Nat.le_refl _
 | n+1,hn=>by
  have ih:=Swg.Ok.xt h x n (by omega)
  have hl:=h.l n (by omega)
  have hk:=h.k.le
  have ht:=hl.t.le h.k
  have h0:=(hl.z 0 (by omega)).1.le h.k
  have h1:=(hl.z 1 (by omega)).1.le h.k
  have o1:=pz (S.L n).t x (S.L n).nT
  have o2:=pz ((S.L n).uz 0) x ((S.L n).uL 0)
  have o3:=pz ((S.L n).uz 1) x ((S.L n).uL 1)
  have hu:sl (S.L n) x (S.L n).nU=0+occ ((S.L n).uz 0) x ((S.L n).uL 0)+occ ((S.L n).uz 1) x ((S.L n).uL 1):=by rw [hl.u];rfl
  show mh S.L x n+(occ (S.L n).t x (S.L n).nT+sl (S.L n) x (S.L n).nU)≤3000*(n+1)
  rw [hu]
  omega
theorem Swg.Ok.uK {S:Swg} (h:S.Ok) (hj:j<S.nK):1≤(S.K j).refs∧(S.K j).refs≤3000*S.nL:=by
 obtain ⟨h1,h2⟩:=h.refs j hj
 have:=h.xt (S.K j).id S.nL (Nat.le_refl _)
 exact ⟨h1,by rw [h2];omega⟩
theorem jK.F1 {S:Swg} (h:jK w base S) (hj:j<S.nK):∃ gk,S.aK=some (Hh gk 0)∧base≤gk∧kd w gk 0 S.nK S.K:=by
 rcases h.k with e | ⟨gk,e,hb,arr,k1,k2,k3⟩
 ·
  omega
 exact ⟨gk,e,hb,arr,k1,by omega,fun i hi q hq=>by rw [Nat.zero_add];exact (k3 (i*8+q) (by omega)).trans (mZ S.K i q hq)⟩
theorem jK.GY {gk:Nat} {S:Swg} {K':Nat→Pkt} (h:jK w base S) (kk:w.heap[gk]?=some (.cells arr 50 (0,0))) (eK:S.aK=some (Hh gk 0)) (hb:base≤gk) (ht:Touch [gk] w w') (hr:kd w' gk 0 n' K'):jK w' base { S with nK:=n',K:=K' }:=by
 have far:∀ x t,(∃ cs,w.heap[x]?=some (.cells cs t (0,0)))→t≠50→x∉[gk]:=by
  rintro x t ⟨cs,hx⟩ hne hy
  exact jN hx kk hne (by simpa using hy)
 refine ⟨h.e.iB ht (fun x hx=>far x _ (h.e.type x hx) (by decide)),h.u.iB ht (fun x hx=>far x _ (h.u.type x hx) (by decide)),h.p.iB ht (fun x hx=>far x _ (h.p.type x hx) (by decide)),?_,h.l.iB ht (fun x hx=>far x _ (h.l.type x hx) (by decide)),fun i hi=>(h.ls i hi).As ht (fun x hx=>far x _ ((h.ls i hi).ty2 x hx) (by decide)) (fun x hx=>far x _ ((h.ls i hi).u.type x hx) (by decide)) (fun x hx=>far x _ ((h.ls i hi).s.type x hx) (by decide)),h.nd⟩
 show VT 50 w' base S.aK (n'*8) (uq K')
 rw [eK]
 obtain ⟨arr',k1,k2,k3⟩:=hr
 refine .inr ⟨gk,rfl,hb,arr',k1,by omega,fun q hq=>?_⟩
 have:=k3 (q / 8) (by omega) (q % 8) (by omega)
 rw [show 0+q / 8*8+q % 8=q by omega,←mZ K' (q / 8) (q % 8) (by omega),show q / 8*8+q % 8=q by omega] at this
 exact this
theorem iP.next {S:Swg} {l':Lng} {g:Nat} (kb:w.heap[g]?=some (.cells S.cells 34 (0,0))) (ho:iP w base S) (hi:i<S.nL) (hl:ni S.nK S.K (S.L i)) (hm:pO (S.L i) l' id) (h0:id≠0) :
  ∃ gL,S.aL=some (Hh gL 0)∧base≤gL∧Calls Tryz.prog 93 #[.pointer (some (Hh gL (i*8)))] w fun e w'=>e=.returned (.tuple #[.int .i64 id,.bool true])∧∃ l2,iT l' l2∧jK w' base (S.lane i l2)∧w'.heap[g]?=some (.cells (S.lane i l2).cells 34 (0,0))∧qw base w w':=by
 obtain ⟨gL,cur,eL,hbL,kL,hsz,hc⟩:=ho.yP hi
 have hf:i*8+8≤cur.size:=by omega
 have kL2:w.heap[gL]?=some (.cells (lay cur (i*8) (S.L i).cells) 48 (0,0)):=by
  rw [xC (cs:=(S.L i).cells) hf (fun j hj=>hc i hi j hj)]
  exact kL
 refine ⟨gL,eL,hbL,(rV (S.L i) l' id S.nK S.K gL (i*8) base cur w hf kL2 (ho.l.ls i hi) hl hm).mono ?_⟩
 rintro e w' ⟨⟨b,rfl,hb1,hb2⟩,ht⟩
 obtain ⟨l2,hA,hO,hto⟩:=ho.GU hi eL kL hsz hc hbL ht
 have hbf:b=true:=by
  cases b with
  | true=>rfl
  | false=>exact absurd (hb1 rfl) h0
 exact gy
theorem pD:(Tryz.prog.info? 43).map (·.size)=some 5:=by kernel_rfl
theorem vp (S:Swg) (l':Lng) (id:Int) (i j g base:Nat) (w:World) (kb:w.heap[g]?=some (.cells S.cells 34 (0,0))) (ho:iP w base S) (hi:i<S.nL) (hl:ni S.nK S.K (S.L i)) (hk:lC S.nx S.C.p S.nK S.K) (hm:pO (S.L i) l' id) (h0:id≠0) (hj:j<S.nK) (hid:(S.K j).id=id) (hr:2≤(S.K j).refs∧(S.K j).refs≤1000000000) :
  Calls Tryz.prog 59 #[.pointer (some (Hh g 0)),.int .i64 (i:Int)] w fun e w'=>∃ gm,e=.returned (.slice (some (Hh gm 0)) 1 1)∧w.heap.size≤gm∧w'.heap[gm]?=some (.cells #[.iface 150 (.agg (S.K j).frame)] 99 (0,0))∧∃ l2,iT l' l2∧jK w' base { S.lane i l2 with K:=jM S.K j }∧w'.heap[g]?=some (.cells S.cells 34 (0,0))∧qw base w w':=by
 obtain ⟨gL,eL,hbL,hT⟩:=ho.next kb hi hl hm h0
 have HT:=aa hT
 have c14:w.cell? (Hh g 14)=some (.slice (some (Hh gL 0)) S.nL S.cL):=by rw [←eL];exact iv kb 14
 have hi1:(i:Int)<(S.nL:Int):=by omega
 have hi0:(0:Int)≤(i:Int):=by omega
 have HJ:Hid (j<S.nK∧(S.K j).id=id∧S.nK≤1048576∧∀ i,i<S.nK→0<i→(S.K (i-1)).id<(S.K i).id):=⟨hj,hid,by have:=hk.le;omega,hk.up⟩
 have hw1:IntKind.i64.wrap ((S.K j).refs-1)=(S.K j).refs-1:=lz _ (by omega) (by omega)
 have hne:¬ ((S.K j).refs-1=0):=by omega
 clear kb ho hl hk hm hT hj hid h0 hr eL
 go_enter Tryz.func59,Tryz.ntmps59
 go_wp2_with fail
 refine HT.mono ?_
 rintro e w1 ⟨rfl,l2,hA,hO,hg1,hto⟩
 have HF1:Hid (iT l' l2∧jK w1 base (S.lane i l2)∧w1.heap[g]?=some (.cells S.cells 34 (0,0))∧qw base w w1):=⟨hA,hO,hg1,hto⟩
 obtain ⟨gk,eK,hbk,hrow⟩:=hO.F1 (j:=j) HJ.1
 have eK':S.aK=some (Hh gk 0):=eK
 have c13:w1.cell? (Hh g 13)=some (.slice (some (Hh gk 0)) S.nK S.cK):=by rw [←eK'];exact iv HF1.2.2.1 13
 have HP1:Hid (kd w1 gk 0 S.nK S.K∧base≤gk∧S.aK=some (Hh gk 0)):=⟨hrow,hbk,eK'⟩
 clear hA hO hg1 hto eK eK' hbk hrow c14
 go_wp2_with fail
 refine (mW gk 0 S.nK S.cK S.K id _ HJ.2.2.1 HP1.1.rd HJ.2.2.2 j HJ.1 HJ.2.1).mono ?_
 rintro e w2 ⟨rfl,hb⟩
 obtain ⟨arr,a1,a2,a3⟩:=HP1.1
 have b1:w2.heap[gk]?=some (.cells arr 50 (0,0)):=(hb.block gk (iw a1)).trans a1
 have HA:Hid (w2.heap[gk]?=some (.cells arr 50 (0,0))∧0+S.nK*8≤arr.size∧(∀ i,i<S.nK→∀ q,q<8→arr[0+i*8+q]?=(S.K i).cells[q]?)∧Below w1.heap.size w1 w2):=⟨b1,a2,a3,hb⟩
 have hjn:=HJ.1
 have c2:w2.cell? (Hh gk (0+j*8+2))=some (.int .i64 (S.K j).refs):=(iv b1 _).trans (a3 j hjn 2 (by omega))
 clear a1 a2 a3 hb c13 b1
 simp only [Nat.zero_add] at c2 ⊢
 go_wp2_with (refine iA rfl 2 (.tmp 33) (.tmp 31) rfl gk (j*8+2) rfl (.int .i64 ((S.K j).refs-1)) rfl 1 rfl 50 arr HA.1 (by kernel_rfl) (by have:=HA.2.1;omega) (by simp [Value.cells,Value.oneCell']) ?_)
 intro W hP
 have hrowW:kd W gk 0 S.nK (jM S.K j):=kd.dec hjn HA.2.1 HA.2.2.1 (by simpa using hP)
 have HW:Hid (kd W gk 0 S.nK (jM S.K j)∧Touch [gk] w2 W∧W.heap.size=w2.heap.size):=⟨hrowW,hP.to,hP.size⟩
 obtain ⟨ar2,d1,d2,d3⟩:=hrowW
 have hdj:jM S.K j j={ S.K j with refs:=(S.K j).refs-1 }:=by unfold jM;rw [if_pos rfl]
 have HL:Hid (∀ q,q<5→W.cell? (Hh gk (j*8+3+q))=(S.K j).frame[q]?):=fun q hq=>by
  have:=(iv d1 (j*8+3+q)).trans ((by rw [show j*8+3+q=0+j*8+(3+q) by omega];exact d3 j hjn (3+q) (by omega)):_=(jM S.K j j).cells[3+q]?)
  rw [this,hdj]
  have:q=0∨q=1∨q=2∨q=3∨q=4:=by omega
  rcases this with rfl | rfl | rfl | rfl | rfl <;> rfl
 obtain ⟨V,eV⟩:∃ V,W.alloc (.cells (S.K j).frame 150)=V:=⟨_,rfl⟩
 have HV:Hid (Below W.heap.size W V∧V.heap[W.heap.size]?=some (.cells (S.K j).frame 150 (0,0))∧V.heap.size=W.heap.size+1):=by rw [Hid,←eV];exact ⟨(Below.refl _ _).alloc (Nat.le_refl _) _,iy _ _,by simp⟩
 have c2V:V.cell? (Hh gk (j*8+2))=some (.int .i64 ((S.K j).refs-1)):=(iv ((HV.1.block gk (iw d1)).trans d1) _).trans (by have:=d3 j hjn 2 (by omega);rw [Nat.zero_add,hdj] at this;exact this)
 have HB:Hid (∀ q,q<5→V.cell? (Hh W.heap.size (0+q))=(S.K j).frame[q]?):=fun q _=>by rw [Nat.zero_add];exact iv HV.2.1 q
 clear hP d1 d2 d3 c2 hdj
 go_wp2_with (first | refine iC rfl 43 5 _ Tryz.underlying43 rfl pD (.tmp 36) rfl gk (j*8+3) rfl #[.int .i64 (S.K j).k,.int .i64 (S.K j).d,.int .i64 (S.K j).s,.int .i64 (S.K j).p,.string (S.K j).b] rfl HL.out ?_ | refine jl 150 5 (by kernel_rfl) rfl (.tmp 8) (.tmp 38) rfl (S.K j).frame _ rfl rfl rfl rfl rfl (by simp [Pkt.frame,Value.oneCell']) (eV▸?_) | refine iC rfl 150 5 _ Tryz.underlying150 rfl (by kernel_rfl) (.tmp 8) rfl W.heap.size 0 rfl (S.K j).frame rfl HB.out ?_)
 go_ret
 have hO2:=HF1.2.1.up HA.2.2.2
 have hO3:jK W base { S.lane i l2 with nK:=S.nK,K:=jM S.K j }:=hO2.GY HA.1 HP1.2.2 HP1.2.1 HW.2.1 HW.1
 have kg2:=(HA.2.2.2.block g (iw HF1.2.2.1)).trans HF1.2.2.1
 have hgk:g∉[gk]:=fun h=>jN kg2 HA.1 (by decide) (by simpa using h)
 have kgW:=(HW.2.1.block g (iw kg2) hgk).trans kg2
 have kgV:=(HV.1.block g (iw kgW)).trans kgW
 have hgk2:=HP1.2.1
 have hlk:=iw HA.1
 have hlg:=iw HF1.2.2.1
 have h1:=HF1.2.2.2.bel.size
 have s1:qw base w1 w2:=.up HA.2.2.2 (by have:=HP1.1.lt;omega)
 have s2:qw base w2 W:=.to HW.2.1 (by omega) (fun x hx=>by
  obtain rfl:x=gk:=by simpa using hx
  exact ⟨hgk2,_,_,HA.1,by decide⟩)
 have s3:qw base W V:=.up HV.1 (by have:=HW.2.2;omega)
 refine ⟨V.heap.size,rfl,?_,iy _ _,l2,HF1.1,(hO3.up HV.1).up ((Below.refl _ _).alloc (Nat.le_refl _) _),(iN _ (iw kgV)).trans kgV,((HF1.2.2.2.trans s1).trans (s2.trans s3)).trans (.up ((Below.refl _ _).alloc (Nat.le_refl _) _) (by have:=HW.2.2;have:=HV.2.2;omega))⟩
 have h2:=HA.2.2.2.size
 have h3:=HW.2.2
 have h4:=HV.2.2
 omega
def BE (K:Nat→Pkt) (j k:Nat):Nat→Pkt:=fun i=>if i<k then rmK K j i else K i
theorem Ak (K:Nat→Pkt) (j i:Nat):BE K j j i=K i:=by
 unfold BE rmK
 split
 ·
  rfl
 rfl
theorem BD (h:j≤k) (i:Nat):(if i=k then K (k+1) else BE K j k i)=BE K j (k+1) i:=by
 unfold BE
 by_cases e:i=k
 ·
  subst e
  rw [if_pos rfl,if_pos (by omega)]
  unfold rmK
  rw [if_neg (by omega)]
 by_cases c:i<k
 ·
  rw [if_neg e,if_pos c,if_pos (by omega)]
 rw [if_neg e,if_neg c,if_neg (by omega)]
theorem xW (gk o n c:Nat) (K:Nat→Pkt) (gp:Nat) (id:Int) (w:World) (hn:n≤1048576) (hnc:n≤c) (h:kd w gk o n K) (hgp:gp<w.heap.size) (hgk:gp≠gk) (hp:w.cell? (Hh gp 0)=some (.int .i64 id)) (j:Nat) (hj:j<n) (hid:(K j).id=id) (hne:∀ i,i<n→i≠j→(K i).id≠id) :
  Calls Tryz.prog 129 #[.slice (some (Hh gk o)) n c,.func (.func 130) #[] #[.pointer (some (Hh gp 0))]] w fun e w'=>e=.returned (.slice (some (Hh gk o)) (n-1) c)∧kd w' gk o (n-1) (rmK K j)∧Touch [gk] w w':=by
 have HR:=aa h
 have HN:=aa hne
 have HP:=aa hp
 have HG:Hid (gp<w.heap.size∧gp≠gk∧gk<w.heap.size):=⟨hgp,hgk,h.lt⟩
 have HI:=aa hid
 clear h hne hp hgp hgk hid
 go_enter Tryz.func129,Tryz.ntmps129
 have hj1:((j:Int) == -1)=false:=beq_eq_false_iff_ne.2 (by omega)
 go_wp2_with (go_at_call 143;refine (Ck _ n c K gp id _ hn HR.rd HG.1 HP j hj HI HN.out).mono ?_;rintro e w1 ⟨rfl,hB0⟩)
 have HB0:=aa hB0
 clear hB0
 go_loopw [5,6] (fun x y wr=>∃ k:Nat,j≤k∧k<n∧x=.int .i64 k∧y=.int .i64 ((k+1:Nat):Int)∧kd wr gk o n (BE K j k)∧Touch [gk] w wr) (fun x y _=>n-(intOf x).toNat)
 case atStart=>exact ⟨j,Nat.le_refl _,hj,rfl,by go_num,(HR.ext (fun i _=>(Ak K j i).symm)).jR (HB0.block _ HG.2.2),Touch.ji HB0.out⟩
 obtain ⟨k,hk1,hk2,rfl,rfl,hrow,hT⟩:=hrel
 have HT:=aa hT
 have HW:=aa hrow
 have hgpw:wr.heap[gp]?=w.heap[gp]?:=hT.block _ HG.1 (by simpa using HG.2.1)
 have hszw:=hT.size
 clear hT
 by_cases hlt:k+1<n
 ·
  have hlt':((k+1:Nat):Int)<(n:Int):=by omega
  have hk':(k:Int)<(n:Int):=by omega
  obtain ⟨arr,a1,a2,a3⟩:=hrow
  have hm:BE K j k (k+1)=K (k+1):=by unfold BE;rw [if_neg (by omega)]
  have hc:∀ q,q<8→wr.cell? (Hh gk (o+(k+1)*8+q))=(K (k+1)).cells[q]?:=fun q hq=>by rw [←hm];exact (iv a1 _).trans (a3 (k+1) hlt q hq)
  obtain ⟨V,eV⟩:∃ V,wr.alloc (.cells (K (k+1)).cells 50)=V:=⟨_,rfl⟩
  have HV:Hid (Below wr.heap.size wr V∧V.heap[wr.heap.size]?=some (.cells (K (k+1)).cells 50 (0,0))∧V.heap.size=wr.heap.size+1):=by rw [Hid,←eV];exact ⟨(Below.refl _ _).alloc (Nat.le_refl _) _,iy _ _,by simp⟩
  have hbx:∀ q,q<8→V.cell? (Hh wr.heap.size (0+q))=(K (k+1)).cells[q]?:=fun q hq=>by rw [Nat.zero_add];exact iv HV.2.1 q
  have hq0:V.cell? (Hh gp 0)=some (.int .i64 id):=(World.cell?_of_block (w:=w) (a:=(Hh gp 0)) ((HV.1.block gp (by have:=HG.1;omega)).trans hgpw)).trans HP.out
  have HA:Hid (wr.heap[gk]?=some (.cells arr 50 (0,0))∧o+n*8≤arr.size∧∀ i,i<n→∀ q,q<8→arr[o+i*8+q]?=(BE K j k i).cells[q]?):=⟨a1,a2,a3⟩
  clear a1 a2 a3
  go_wp2_with (first | refine jS rfl (.tmp 24) rfl gk (o+(k+1)*8) rfl (K (k+1)) hc ?_ | refine jl 50 8 pX rfl (.tmp 7) (.tmp 25) rfl (K (k+1)).cells _ rfl rfl rfl rfl rfl (Pkt.one _) (eV▸?_) | refine jS rfl (.tmp 7) rfl wr.heap.size 0 rfl (K (k+1)) hbx ?_)
  refine (zv (K (k+1)) gp id _ hq0).mono ?_
  rintro e w2 ⟨rfl,hb⟩
  have hv:((K (k+1)).id == id)=false:=by simpa using HN (k+1) hlt (by omega)
  rw [hv]
  have hbl:Below wr.heap.size wr w2:=HV.1.trans (hb.mono (by have:=HV.2.2;omega))
  have hbx2:∀ q,q<8→w2.cell? (Hh wr.heap.size (0+q))=(K (k+1)).cells[q]?:=fun q hq=>by rw [Nat.zero_add];exact iv ((hb.block _ (by have:=HV.2.2;omega)).trans HV.2.1) q
  have hk2b:w2.heap[gk]?=some (.cells arr 50 (0,0)):=(hbl.block _ (iw HA.1)).trans HA.1
  have HL:=aa hbl
  clear hbx hq0 hc hb hbl eV
  go_wp2_with (first | refine jS rfl (.tmp 7) rfl wr.heap.size 0 rfl (K (k+1)) hbx2 ?_ | refine iA rfl 50 (.tmp 33) (.tmp 32) rfl gk (o+k*8) rfl (.agg (K (k+1)).cells) rfl 8 rfl 50 arr hk2b pX (by have:=HA.2.1;omega) (Pkt.one _) ?_)
  intro W hW
  have HP2:=aa hW
  clear hbx2 hk2b hW
  go_wp2_with fail
  go_roundw
  case rel =>
   obtain ⟨l1,l2⟩:=El HA.2.1 HA.2.2 hk2 (K (k+1))
   exact ⟨k+1,by omega,hlt,by go_num,by go_num,⟨_,HP2.blk,l1,fun i hi q hq=>by rw [←BD hk1 i];exact l2 i hi q hq⟩,(HT.trans (Touch.ji HL)).trans HP2.to⟩
  case measure=>simp [intOf];omega
 obtain rfl:n=k+1:=by omega
 have hlt':¬ ((k+1:Nat):Int)<((k+1:Nat):Int):=by omega
 obtain ⟨arr,a1,a2,a3⟩:=hrow
 have hcl:=yz wr gk (o+k*8) (c-k) 0 arr a1 (by omega)
 have hs1:∀ wx,_:=fun wx=>Bl gk o (k+1) c k wx (by omega) hnc
 have hs2:∀ wx,_:=fun wx=>xe gk o (k+1) c k wx (by omega) hnc
 rw [show k+1-k=1 by omega] at hs1
 have HP3:Hid (Put wr (wr.setRow gk (lay arr (o+k*8) zPk.cells)) gk (lay arr (o+k*8) zPk.cells) 50):=rv a1 _
 obtain ⟨l1,l2⟩:=El a2 a3 hk2 zPk
 have HL:Hid (o+(k+1)*8≤(lay arr (o+k*8) zPk.cells).size∧∀ i,i<k+1→∀ q,q<8→(lay arr (o+k*8) zPk.cells)[o+i*8+q]?=(if i=k then zPk else BE K j k i).cells[q]?):=⟨l1,l2⟩
 clear a1 a2 a3 l1 l2
 go_wp2_with fail
 go_ret
 exact ⟨rfl,⟨_,HP3.blk,by have:=HL.1;omega,fun i hi q hq=>by
  have:=HL.2 i (by omega) q hq
  rw [if_neg (by omega)] at this
  rw [this]
  unfold BE
  rw [if_pos (by omega)]⟩,HT.trans HP3.to⟩
