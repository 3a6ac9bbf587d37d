import Derived.Test.YtfcfpkibceepgaaGreatProg
import Derived.Test.YtfcfpkibceepgaaGreatS24
import Derived.Shelf.LaysM
import Derived.Shelf.Strconv.Clone
namespace Go.Proofs.YtfcfpkibceepgaaGreat
set_option maxRecDepth 10000
set_option maxHeartbeats 4000000
open Go.RowKit
set_option linter.unusedVariables false
set_option linter.unusedSimpArgs false
theorem dM {p:Prop} (h:p:=by
 go_enter Tryz.func118,Tryz.ntmps118
 go_wp2_with (go_at_call 138;refine (tc l.R M (c:Int) s base top (l.spot g o cur hf) gD gS _ HT.out HR.out HOk.out HP.out).mono ?_;rintro e w2 ⟨rfl,hX,hTo⟩;have HX:Hid (∃ X',Alike M X'∧iy w2 base top (l.spot g o cur hf) gD gS X'):=hX;have HTo:Hid (Touch [g,gD,gS] w w2):=hTo;have kU:=(hTo.block gu (fH HU.out.1) HU.out.2).trans HU.out.1;have kZ:=(hTo.block gz (fH HZ.out.1) HZ.out.2).trans HZ.out.1;have d2:w2.cell? ⟨g,o+2,none⟩=some (.slice (some ⟨gu,ou,none⟩) l.nU l.cU):=(HC2.out w2 hX);have eU:w2.cell? ⟨gu,ou+c,none⟩=some (.slice (some ⟨gz,oz,none⟩) (l.uL c) (l.uC c)):=(fG kU _).trans HCu.out;have eZ:w2.cell? ⟨gz,oz,none⟩=some (.int .i64 (l.uz c 0)):=(fG kZ _).trans HCz.out;have fU:w2.frozen? ⟨gu,ou+c,none⟩=false:=fX kU _;clear hX hTo kU kZ c0 c1)
 go_wp2_with (go_at_call 137;refine (nb gu (ou+c) gz oz (l.uL c) (l.uC c) (l.uz c 0) _ eU hLc eZ fU).mono ?_;rintro e w3 ⟨rfl,rfl⟩)
 go_ret2
 exact ⟨rfl,w2,HX.out,HTo.out,rfl⟩):p:=h
theorem dN {p:Prop} (h:p:=by
 go_enter Tryz.func118,Tryz.ntmps118
 go_wp2_with (go_at_call 138;refine (tc l.R M (-1) s base top (l.spot g o cur hf) gD gS _ HT.out HR.out HOk.out HP.out).mono ?_;rintro e w2 ⟨rfl,hX,hTo⟩)
 go_ret2
 exact ⟨rfl,hX,hTo⟩):p:=h
theorem dO {p:Prop} (h:p:=by
 cases e:l.st with
 | true=>rfl
 | false=>exact absurd ⟨h0,e⟩ hno):p:=h
theorem Ca {cur a b:Array Value} {o k:Nat} (h:o+a.size≤cur.size) (hk:k+b.size≤a.size):lay (lay cur o a) (o+k) b=lay cur o (lay a k b):=by
 have s1:=jb h
 have s2:=jb (cur:=a) (cs:=b) (o:=k) hk
 have h1:o+k+b.size≤(lay cur o a).size:=by omega
 have h2:o+(lay a k b).size≤cur.size:=by omega
 refine Array.ext_getElem? fun j=>?_
 by_cases e1:j<o
 ·
  rw [jI h1 j (by omega),jI h j e1,jI h2 j e1]
 by_cases e2:j<o+a.size
 ·
  have q:=iX h2 (j-o) (by omega)
  have q2:=iX h (j-o) (by omega)
  rw [show o+(j-o)=j by omega] at q q2
  rw [q]
  by_cases e3:j-o<k
  ·
   rw [jI hk _ e3,jI h1 j (by omega)]
   exact q2
  by_cases e4:j-o<k+b.size
  ·
   have q3:=iX hk (j-o-k) (by omega)
   have q4:=iX h1 (j-o-k) (by omega)
   rw [show k+(j-o-k)=j-o by omega] at q3
   rw [show o+k+(j-o-k)=j by omega] at q4
   rw [q3,q4]
  rw [ju hk _ (by omega),ju h1 j (by omega)]
  exact q2
 rw [ju h1 j (by omega),ju h j (by omega),ju h2 j (by omega)]
theorem xF (l:Lng) (X:Rnd):lay l.cells 3 X.cells=({ l with R:=X }:Lng).cells:=by
 simp [lay,Lng.cells,Rnd.cells]
theorem wP {cur:Array Value} {o:Nat} (hf:o+8≤cur.size) (l:Lng) (X:Rnd):lay (lay cur o l.cells) (o+3) X.cells=lay cur o ({ l with R:=X }:Lng).cells:=by
 rw [←xF]
 exact Ca (a:=l.cells) (b:=X.cells) hf (by show 3+5≤8;omega)
def Lng.spot (l:Lng) (g o:Nat) (cur:Array Value) (hf:o+8≤cur.size):oN where
 g:=g
 o:=o+3
 cur:=lay cur o l.cells
 t:=102
 fit:=by
  rw [jb (cs:=l.cells) hf]
  omega
 n2:=by decide
 n3:=by decide
 B:=fun k x=>(k=0→x∈iS l.R.aQ l.R.nQ)∧∀ i,k=i+1→x∈iS (l.R.A i) (l.R.L i)
theorem iq.rep {w:World} {base:Nat} {l:Lng} (h:iq w base l) (hr:l.R.Ok) {g o:Nat} {cur:Array Value} (hf:o+8≤cur.size) (hb:w.heap[g]?=some (.cells (lay cur o l.cells) 102 (0,0))) :
  ∃ gD gS,l.R.aD=some ⟨gD,0,none⟩∧l.R.aS=some ⟨gS,0,none⟩∧iy w base w.heap.size (l.spot g o cur hf) gD gS l.R:=by
 have hn:=hr.n
 have hd:=hr.d
 have hs:=hr.s
 have hD:∃ gD,l.R.aD=some ⟨gD,0,none⟩∧gD<w.heap.size:=by
  rcases h.r.own.d with e | ⟨x,e,_,hx⟩
  ·
   omega
  exact ⟨x,e,hx.lt⟩
 have hS:∃ gS,l.R.aS=some ⟨gS,0,none⟩∧gS<w.heap.size:=by
  rcases h.r.own.s with e | ⟨x,e,_,hx⟩
  ·
   omega
  exact ⟨x,e,hx.lt⟩
 obtain ⟨gD,eD,lD⟩:=hD
 obtain ⟨gS,eS,lS⟩:=hS
 refine ⟨gD,gS,eD,eS,?_,h.r.own.o,eD,eS,fun i hi=>OG.cap (t:=2) (sz:=1) (h.r.z i hi),⟨by omega,hd,hs⟩,⟨fun x hx=>(h.r.own.q.blk x hx).2,lD,lS,fH hb,fun i hi x hx=>((h.r.own.z i hi).blk x hx).2⟩,fun x hx=>⟨fun _=>hx,fun i e=>absurd e (by omega)⟩,fun i hi x hx=>⟨fun e=>absurd e (by omega),fun j e=>?_⟩⟩
 ·
  show w.heap[g]?=some (.cells (lay (lay cur o l.cells) (o+3) l.R.cells) 102 (0,0))
  rw [wP hf]
  exact hb
 have:j=i:=by omega
 rw [this]
 exact hx
def Lng.Co (l:Lng) (gt ot:Nat):Lng:={ l.CW with aT:=some ⟨gt,nX ot l.cT,none⟩,cT:=l.cT-1 }
theorem ph (l:Lng) (g o:Nat) (cur:Array Value) (gt ot:Nat) (w:World) (hf:o+8≤cur.size) (hb:w.heap[g]?=some (.cells (lay cur o l.cells) 102 (0,0))) (hT:l.aT=some ⟨gt,ot,none⟩) (hz:w.cell? ⟨gt,ot,none⟩=some (.int .i64 (l.t 0))) (h0:0<l.nT) (hst:l.st=false) :
  Calls Tryz.prog 118 #[.pointer (some ⟨g,o,none⟩)] w fun e w'=>e=.returned (.tuple #[.int .i64 (l.t 0),.bool true])∧w'.heap[g]?=some (.cells (lay cur o (l.Co gt ot).cells) 102 (0,0))∧Touch [g] w w'∧w'.heap.size=w.heap.size:=by
 have k:∀ j,j<8→w.cell? ⟨g,o+j,none⟩=l.cells[j]?:=fun j hj=>(fG hb _).trans (iX (cs:=l.cells) hf j hj)
 have c0:w.cell? ⟨g,o,none⟩=some (.bool false):=by rw [←hst];exact k 0 (by omega)
 have c1:w.cell? ⟨g,o+1,none⟩=some (.slice (some ⟨gt,ot,none⟩) l.nT l.cT):=by rw [←hT];exact k 1 (by omega)
 have f1:w.frozen? ⟨g,o+1,none⟩=false:=fX hb _
 have hn:(0:Int)<(l.nT:Int):=by omega
 have HB:Hid (w.heap[g]?=some (.cells (lay cur o l.cells) 102 (0,0))):=hb
 clear hb k
 go_enter Tryz.func118,Tryz.ntmps118
 go_wp2_with (go_at_call 137;refine (nb g (o+1) gt ot l.nT l.cT (l.t 0) _ c1 (by omega) hz f1).mono ?_;rintro e w2 ⟨rfl,rfl⟩)
 go_ret2
 refine ⟨rfl,?_,(Touch.refl _ _).set (by simp) _ _,by simp⟩
 rw [gj HB.out,←zl (cs:=l.cells) hf (by show 1<8;omega)]
 rfl
theorem qQ (l:Lng) (M:Rnd) (s:Int) (g o:Nat) (cur:Array Value) (base top gD gS:Nat) (w:World) (hf:o+8≤cur.size) (hb:w.heap[g]?=some (.cells (lay cur o l.cells) 102 (0,0))) (htop:top≤w.heap.size) (hR:iy w base top (l.spot g o cur hf) gD gS l.R) (hok:l.R.Ok) (hno:¬ (0<l.nT∧l.st=false)) (hp:mm l.R M (-1) s) :
  Calls Tryz.prog 118 #[.pointer (some ⟨g,o,none⟩)] w fun e w'=>e=.returned (.tuple #[.int .i64 0,.bool false])∧(∃ X',Alike M X'∧iy w' base top (l.spot g o cur hf) gD gS X')∧Touch [g,gD,gS] w w':=by
 have k:∀ j,j<8→w.cell? ⟨g,o+j,none⟩=l.cells[j]?:=fun j hj=>(fG hb _).trans (iX (cs:=l.cells) hf j hj)
 have c0:w.cell? ⟨g,o,none⟩=some (.bool l.st):=k 0 (by omega)
 have c1:w.cell? ⟨g,o+1,none⟩=some (.slice l.aT l.nT l.cT):=k 1 (by omega)
 have HR:Hid (iy w base top (l.spot g o cur hf) gD gS l.R):=hR
 have HT:Hid (top≤w.heap.size):=htop
 have HOk:Hid l.R.Ok:=hok
 have HP:Hid (mm l.R M (-1) s):=hp
 clear hb k hR htop hok hp
 by_cases h0:0<l.nT
 ·
  have hst:l.st=true:=dO
  rw [hst] at c0
  have hn:(0:Int)<(l.nT:Int):=by omega
  exact dN
 have hn:¬ (0:Int)<(l.nT:Int):=by omega
 exact dN
theorem iy.Cc {w:World} {base top gD gS:Nat} {l:Lng} {g o:Nat} {cur:Array Value} {hf:o+8≤cur.size} {X:Rnd} (h:iy w base top (l.spot g o cur hf) gD gS X):w.heap[g]?=some (.cells (lay cur o ({ l with R:=X }:Lng).cells) 102 (0,0)):=by
 rw [←wP hf]
 exact h.box
theorem pT (l:Lng) (M:Rnd) (s:Int) (c:Nat) (gu ou gz oz:Nat) (ua za:Array Value) (g o:Nat) (cur:Array Value) (base top gD gS:Nat) (w:World) (hf:o+8≤cur.size) (hb:w.heap[g]?=some (.cells (lay cur o l.cells) 102 (0,0))) (htop:top≤w.heap.size) (hR:iy w base top (l.spot g o cur hf) gD gS l.R) (hok:l.R.Ok) (hno:¬ (0<l.nT∧l.st=false)) (hp:mm l.R M (c:Int) s) (hAU:l.aU=some ⟨gu,ou,none⟩) (hcU:c<l.nU) (hLc:l.uL c≠0)
  (hU:w.heap[gu]?=some (.cells ua 25 (0,0))) (hu:ua[ou+c]?=some (.slice (some ⟨gz,oz,none⟩) (l.uL c) (l.uC c))) (hZ:w.heap[gz]?=some (.cells za 2 (0,0))) (hz:za[oz]?=some (.int .i64 (l.uz c 0))) (nU:gu∉[g,gD,gS]) (nZ:gz∉[g,gD,gS]) :
  Calls Tryz.prog 118 #[.pointer (some ⟨g,o,none⟩)] w fun e w'=>e=.returned (.tuple #[.int .i64 (l.uz c 0),.bool true])∧∃ w1,(∃ X',Alike M X'∧iy w1 base top (l.spot g o cur hf) gD gS X')∧Touch [g,gD,gS] w w1∧w'=w1.setCell ⟨gu,ou+c,none⟩ (.slice (some ⟨gz,nX oz (l.uC c),none⟩) (l.uL c-1) (l.uC c-1)):=by
 have k:∀ j,j<8→w.cell? ⟨g,o+j,none⟩=l.cells[j]?:=fun j hj=>(fG hb _).trans (iX (cs:=l.cells) hf j hj)
 have c0:w.cell? ⟨g,o,none⟩=some (.bool l.st):=k 0 (by omega)
 have c1:w.cell? ⟨g,o+1,none⟩=some (.slice l.aT l.nT l.cT):=k 1 (by omega)
 have HR:Hid (iy w base top (l.spot g o cur hf) gD gS l.R):=hR
 have HT:Hid (top≤w.heap.size):=htop
 have HOk:Hid l.R.Ok:=hok
 have HP:Hid (mm l.R M (c:Int) s):=hp
 have HU:Hid (w.heap[gu]?=some (.cells ua 25 (0,0))∧gu∉[g,gD,gS]):=⟨hU,nU⟩
 have HZ:Hid (w.heap[gz]?=some (.cells za 2 (0,0))∧gz∉[g,gD,gS]):=⟨hZ,nZ⟩
 have HCu:Hid (ua[ou+c]?=some (.slice (some ⟨gz,oz,none⟩) (l.uL c) (l.uC c))):=hu
 have HCz:Hid (za[oz]?=some (.int .i64 (l.uz c 0))):=hz
 have HC2:Hid (∀ w2,(∃ X',Alike M X'∧iy w2 base top (l.spot g o cur hf) gD gS X')→w2.cell? ⟨g,o+2,none⟩=some (.slice (some ⟨gu,ou,none⟩) l.nU l.cU)):=by
  rintro w2 ⟨X',_,h2⟩
  rw [←hAU]
  exact (fG h2.Cc _).trans (iX (cs:=({ l with R:=X' }:Lng).cells) hf 2 (by show 2<8;omega))
 have hc1:(0:Int)≤(c:Int):=by omega
 have hc2:(c:Int)<(l.nU:Int):=by omega
 have hc3:¬ ((c:Int)=-1):=by omega
 clear hb k hR htop hok hp hU hu hZ hz nU nZ
 by_cases h0:0<l.nT
 ·
  have hst:l.st=true:=dO
  rw [hst] at c0
  have hn:(0:Int)<(l.nT:Int):=by omega
  exact dM
 have hn:¬ (0:Int)<(l.nT:Int):=by omega
 exact dM
theorem oX {a a':Option Addr} {n n':Nat} (h:∀ x∈gF a n,x∈gF a' n'):List.Sublist (gF a n) (gF a' n'):=by
 by_cases h0:n=0
 ·
  unfold gF
  rw [if_pos h0]
  exact List.nil_sublist _
 cases a with
 | none =>
  unfold gF
  rw [if_neg h0]
  exact List.nil_sublist _
 | some x =>
  have e:gF (some x) n=[x.block]:=by unfold gF;rw [if_neg h0];rfl
  rw [e]
  exact List.singleton_sublist.2 (h _ (by rw [e];simp))
theorem sg {A A':Nat→Option Addr} {L L':Nat→Nat}:∀ n,(∀ i,i<n→∀ x∈gF (A i) (L i),x∈gF (A' i) (L' i))→List.Sublist (mi n A L) (mi n A' L')
 | 0,_=>List.Sublist.refl _
 | n+1,h=>by
  have ih:=sg n (fun i hi=>h i (by omega))
  unfold mi at ih ⊢
  rw [List.range_succ,List.flatMap_append,List.flatMap_append]
  refine ih.append ?_
  simp only [List.flatMap_cons,List.flatMap_nil,List.append_nil]
  exact oX (h n (by omega))
theorem VO.g {w:World} {base:Nat} {a:Option Addr} {n:Nat} {f:Nat→Int} (h:VO w base a n f):VG 2 w base a n fun i=>.int .i64 (f i):=h
theorem gO.zn {w w':World} {base:Nat} {l:Lng} {S:List Nat} (h:gO w base l) (ht:Touch S w w') (h1:∀ x∈l.jh,x∉S) (h2:∀ x∈gF l.aU l.nU,x∉S) (h3:∀ x∈gF l.R.aS l.R.nS,x∉S):gO w' base l:=by
 have m:∀ x,x∈l.jh↔x∈gF l.aT l.nT∨x∈mi l.nU l.uA l.uL∨x∈gF l.R.aQ l.R.nQ∨x∈gF l.R.aD l.R.nD∨x∈mi l.R.nS l.R.A l.R.L:=fun x=>by unfold Lng.jh;simp only [List.mem_append]
 exact ⟨h.t.fK ht (fun x hx=>h1 x ((m x).2 (.inl hx))),h.u.fK ht h2,fun i hi=>(h.z i hi).fK ht (fun x hx=>h1 x ((m x).2 (.inr (.inl (ib.2 ⟨i,hi,hx⟩))))),h.q.fK ht (fun x hx=>h1 x ((m x).2 (.inr (.inr (.inl hx))))),h.d.fK ht (fun x hx=>h1 x ((m x).2 (.inr (.inr (.inr (.inl hx)))))),h.s.fK ht h3,fun i hi=>(h.y i hi).fK ht (fun x hx=>h1 x ((m x).2 (.inr (.inr (.inr (.inr (ib.2 ⟨i,hi,hx⟩)))))))  ,h.nd⟩
theorem gO.ty2 {w:World} {base:Nat} {l:Lng} (h:gO w base l):∀ x∈l.jh,∃ cs,w.heap[x]?=some (.cells cs 2 (0,0)):=by
 intro x hx
 unfold Lng.jh at hx
 simp only [List.mem_append,ib] at hx
 rcases hx with hx | ⟨i,hi,hx⟩ | hx | hx | ⟨i,hi,hx⟩
 ·
  exact h.t.type x hx
 ·
  exact (h.z i hi).type x hx
 ·
  exact h.q.type x hx
 ·
  exact h.d.type x hx
 exact (h.y i hi).type x hx
theorem iz {w:World} {x y:Nat} {a b:Array Value} {t t':TypeId} (hx:w.heap[x]?=some (.cells a t (0,0))) (hy:w.heap[y]?=some (.cells b t' (0,0))) (hne:t≠t'):x≠y:=by
 rintro rfl
 rw [hx] at hy
 simp at hy
 exact hne hy.2
theorem qU {l l2:Lng} (hT:∀ x∈gF l2.aT l2.nT,x∈gF l.aT l.nT) (nU:l2.nU=l.nU) (hU:∀ i,i<l.nU→∀ x∈gF (l2.uA i) (l2.uL i),x∈gF (l.uA i) (l.uL i)) (hQ:∀ x∈gF l2.R.aQ l2.R.nQ,x∈gF l.R.aQ l.R.nQ) (hD:∀ x∈gF l2.R.aD l2.R.nD,x∈gF l.R.aD l.R.nD) (nS:l2.R.nS=l.R.nS) (hS:∀ i,i<l.R.nS→∀ x∈gF (l2.R.A i) (l2.R.L i),x∈gF (l.R.A i) (l.R.L i)):List.Sublist l2.jh l.jh:=by
 unfold Lng.jh
 rw [nU,nS]
 exact (oX hT).append ((sg _ hU).append ((oX hQ).append ((oX hD).append (sg _ hS))))
theorem iq.Br {w w1:World} {base top gD gS:Nat} {l:Lng} {g o:Nat} {cur:Array Value} {hf:o+8≤cur.size} {X:Rnd} (h:iq w base l) (hb:w.heap[g]?=some (.cells (lay cur o l.cells) 102 (0,0))) (eD:l.R.aD=some ⟨gD,0,none⟩) (eS:l.R.aS=some ⟨gS,0,none⟩) (hr:l.R.Ok) (hR:iy w1 base top (l.spot g o cur hf) gD gS X) (hq:X.nQ=l.R.nQ) (ht:Touch [g,gD,gS] w w1) :
  gO w1 base { l with R:=X }∧List.Sublist ({ l with R:=X }:Lng).jh l.jh:=by
 have hg:=h.g
 have hn:=hr.n
 have hd:=hr.d
 have hs:=hr.s
 obtain ⟨p1,p2,p3⟩:=hR.pos
 have sub:List.Sublist ({ l with R:=X }:Lng).jh l.jh:=by
  refine qU (fun x hx=>hx) rfl (fun i hi x hx=>hx) (fun x hx=>(hR.inn.1 x hx).1 rfl) (fun x hx=>?_) (by show X.nS=l.R.nS;omega) (fun i hi x hx=>(hR.inn.2 i (by omega) x hx).2 i rfl)
  change x∈gF X.aD X.nD at hx
  rw [hR.ad,p2,hq] at hx
  rw [eD,hd]
  exact hx
 have inD:gD∈gF l.R.aD l.R.nD:=by rw [eD];exact ks (by omega)
 have inS:gS∈iS l.R.aS l.R.nS:=by rw [eS];exact ks (by omega)
 obtain ⟨cD,tD⟩:=hg.d.type gD inD
 obtain ⟨cS,tS⟩:=hg.s.type gS inS
 have nd:=hg.nd
 have far:∀ x,(∃ cs,w.heap[x]?=some (.cells cs 2 (0,0)))→x≠gD→x∉[g,gD,gS]:=by
  rintro x ⟨cs,hx⟩ hxD hy
  simp only [List.mem_cons,List.not_mem_nil,or_false] at hy
  rcases hy with e | e | e
  ·
   exact iz hx hb (by decide) e
  ·
   exact hxD e
  exact iz hx tS (by decide) e
 have nd2:=nd
 unfold Lng.jh at nd2
 refine ⟨⟨hg.t.fK ht (fun x hx=>far x (hg.t.type x hx) (fun e=>?_)),hg.u.fK ht (fun x hx hy=>?_),fun i hi=>(hg.z i hi).fK ht (fun x hx=>far x ((hg.z i hi).type x hx) (fun e=>?_)),hR.own.q.g,hR.own.d.g,hR.own.s.g,fun i hi=>(hR.own.z i hi).g,sub.nodup nd⟩,sub⟩
 ·
  subst e
  exact (List.nodup_append.1 nd2).2.2 x hx x (by simp only [List.mem_append];exact .inr (.inr (.inl inD))) rfl
 ·
  obtain ⟨cs,tx⟩:=hg.u.type x hx
  simp only [List.mem_cons,List.not_mem_nil,or_false] at hy
  rcases hy with e | e | e
  ·
   exact iz tx hb (by decide) e
  ·
   exact iz tx tD (by decide) e
  subst e
  exact h.su x inS ((kr _ _).subset hx)
 subst e
 exact (List.nodup_append.1 (List.nodup_append.1 nd2).2.1).2.2 x (ib.2 ⟨i,hi,hx⟩) x (by simp only [List.mem_append];exact .inr (.inl inD)) rfl
def Lng.hit (l:Lng):List Nat:=gF l.aU l.nU++(gF l.R.aD l.R.nD++gF l.R.aS l.R.nS)
structure DN (w w':World) (base g o:Nat) (cur:Array Value) (l l':Lng):Prop where
 ex:∃ l2,gy l' l2∧w'.heap[g]?=some (.cells (lay cur o l2.cells) 102 (0,0))∧gO w' base l2∧List.Sublist l2.jh l.jh∧gF l2.aU l2.nU=gF l.aU l.nU∧gF l2.R.aS l2.R.nS=gF l.R.aS l.R.nS
 to:Touch (g :: l.hit) w w'
def Lng.x7 (l:Lng) (c gz oz:Nat):Lng:={ l with uA:=fun i=>if i=c then some ⟨gz,nX oz (l.uC c),none⟩ else l.uA i,uL:=jT l.uL c (l.uL c-1),uC:=fun i=>if i=c then l.uC c-1 else l.uC i,uz:=pS l.uz c (fun j=>l.uz c (j+1)) }
theorem gO.x7 {w:World} {base:Nat} {l:Lng} (h:gO w base l) {c gu ou gz oz:Nat} (hc:c<l.nU) (eU:l.aU=some ⟨gu,ou,none⟩) (eZ:l.uA c=some ⟨gz,oz,none⟩) (hL:l.uL c≠0) (hcap:l.uL c≤l.uC c) (hS:gu∉gF l.R.aS l.R.nS) :
  gO (w.setCell ⟨gu,ou+c,none⟩ (.slice (some ⟨gz,nX oz (l.uC c),none⟩) (l.uL c-1) (l.uC c-1))) base (l.x7 c gz oz)∧List.Sublist (l.x7 c gz oz).jh l.jh:=by
 have inU:gu∈gF l.aU l.nU:=by rw [eU];exact ks (by omega)
 obtain ⟨cU,tU⟩:=h.u.type gu inU
 have ht:Touch [gu] w (w.setCell ⟨gu,ou+c,none⟩ (.slice (some ⟨gz,nX oz (l.uC c),none⟩) (l.uL c-1) (l.uC c-1))):=(Touch.refl _ _).set (by simp) _ _
 have far:∀ x,(∃ cs,w.heap[x]?=some (.cells cs 2 (0,0)))→x∉[gu]:=by
  rintro x ⟨cs,hx⟩ hy
  exact iz hx tU (by decide) (by simpa using hy)
 have sub:List.Sublist (l.x7 c gz oz).jh l.jh:=by
  refine qU (fun x hx=>hx) rfl (fun i hi x hx=>?_) (fun x hx=>hx) (fun x hx=>hx) rfl (fun i hi x hx=>hx)
  change x∈gF (if i=c then _ else l.uA i) (jT l.uL c (l.uL c-1) i) at hx
  by_cases e:i=c
  ·
   subst e
   unfold jT at hx
   rw [if_pos rfl,if_pos rfl] at hx
   rw [eZ]
   exact uF x hx
  unfold jT at hx
  rw [if_neg e,if_neg e] at hx
  exact hx
 refine ⟨⟨h.t.fK ht (fun x hx=>far x (h.t.type x hx)),?_,fun i hi=>?_,h.q.fK ht (fun x hx=>far x (h.q.type x hx)),h.d.fK ht (fun x hx=>far x (h.d.type x hx)),h.s.fK ht (fun x hx hy=>?_),fun i hi=>(h.y i hi).fK ht (fun x hx=>far x ((h.y i hi).type x hx)),sub.nodup h.nd⟩,sub⟩
 ·
  rcases h.u with e | ⟨g1,o1,e,hb,arr,k1,k2,k3⟩
  ·
   omega
  rw [eU] at e
  cases e
  refine .inr ⟨gu,ou,eU,hb,_,gj k1 _,by rw [Array.size_setIfInBounds];exact k2,fun i hi=>?_⟩
  show _=some (Value.slice (if i=c then _ else l.uA i) (jT l.uL c (l.uL c-1) i) (if i=c then l.uC c-1 else l.uC i))
  unfold jT
  by_cases e:i=c
  ·
   subst e
   rw [if_pos rfl,if_pos rfl,if_pos rfl,Array.getElem?_setIfInBounds_self_of_lt (by have:i<l.nU:=hi;omega)]
  rw [if_neg e,if_neg e,if_neg e,Array.getElem?_setIfInBounds_ne (by omega)]
  exact k3 i hi
 ·
  show VG 2 _ base (if i=c then _ else l.uA i) (jT l.uL c (l.uL c-1) i) fun j=>.int .i64 (pS l.uz c (fun j=>l.uz c (j+1)) i j)
  unfold jT pS
  by_cases e:i=c
  ·
   subst e
   have hz:=h.z i hc
   rw [eZ] at hz
   have:=hz.drop (c:=l.uC i) hL hcap
   simp only [if_true]
   exact this.fK ht (fun x hx=>far x (this.type x hx))
  simp only [if_neg e]
  exact (h.z i hi).fK ht (fun x hx=>far x ((h.z i hi).type x hx))
 have:x=gu:=by simpa using hy
 subst this
 exact hS hx
theorem oc (l l':Lng) (id:Int) (m:Nat) (K:Nat→Pkt) (g o base:Nat) (cur:Array Value) (w:World) (hf:o+8≤cur.size) (hb:w.heap[g]?=some (.cells (lay cur o l.cells) 102 (0,0))) (h:iq w base l) (hl:lY m K l) (hm:mz l l' id) :
  Calls Tryz.prog 118 #[.pointer (some ⟨g,o,none⟩)] w fun e w'=>(∃ b,e=.returned (.tuple #[.int .i64 id,.bool b])∧(b=false→id=0)∧(b=true→(∃ i,i<l.nT∧id=l.t i)∨∃ c i,c<2∧i<l.uL c∧id=l.uz c i))∧DN w w' base g o cur l l':=by
 obtain ⟨gD,gS,eD,eS,hR⟩:=h.rep hl.r hf hb
 have hg:=h.g
 have hn:=hl.n
 have hd:=hl.r.d
 have hs:=hl.r.s
 have inD:gD∈gF l.R.aD l.R.nD:=by rw [eD];exact ks (by omega)
 have inS:gS∈gF l.R.aS l.R.nS:=by rw [eS];exact ks (by omega)
 have hit3:∀ x∈[g,gD,gS],x∈g :: l.hit:=fun x hx=>by
  simp only [List.mem_cons,List.not_mem_nil,or_false] at hx
  unfold Lng.hit
  simp only [List.mem_cons,List.mem_append]
  rcases hx with e | e | e
  ·
   exact .inl e
  ·
   subst e;exact .inr (.inr (.inl inD))
  subst e;exact .inr (.inr (.inr inS))
 rcases hm with ⟨h1,h2,rfl,rfl⟩ | ⟨hno,M,x,s,hp,⟨rfl,rfl,rfl⟩ | ⟨c,rfl,rfl,rfl⟩⟩
 ·
  rcases hg.t with e | ⟨gt,ot,eT,hbt,hrow⟩
  ·
   omega
  have hz:w.cell? ⟨gt,ot,none⟩=some (.int .i64 (l.t 0)):=by
   obtain ⟨arr,k1,k2,k3⟩:=hrow
   exact (fG k1 _).trans (k3 0 h1)
  refine (ph l g o cur gt ot w hf hb eT hz h1 h2).mono ?_
  rintro e w' ⟨rfl,hb',ht,hsz⟩
  have far:∀ x t,t≠102→(∃ cs,w.heap[x]?=some (.cells cs t (0,0)))→x∉[g]:=by
   rintro x t hne ⟨cs,hx⟩ hy
   exact iz hx hb hne (by simpa using hy)
  have hk:=hg.zn ht (fun x hx=>far x 2 (by decide) (hg.ty2 x hx)) (fun x hx=>far x _ (by decide) (hg.u.type x hx)) (fun x hx=>far x _ (by decide) (hg.s.type x hx))
  have hcap:l.nT≤l.cT:=OG.cap (t:=2) (sz:=1) h.t
  have hkt:=hk.t
  rw [eT] at hkt
  have sub:List.Sublist (l.Co gt ot).jh l.jh:=by
   refine qU (fun x hx=>?_) rfl (fun i hi x hx=>hx) (fun x hx=>hx) (fun x hx=>hx) rfl (fun i hi x hx=>hx)
   rw [eT]
   exact uF x hx
  exact ⟨⟨true,rfl,fun e=>absurd e (by simp),fun _=>.inl ⟨0,h1,rfl⟩⟩,⟨⟨l.Co gt ot,⟨rfl,rfl,rfl,rfl,rfl,rfl,Alike.refl _⟩,hb',⟨hkt.drop (c:=l.cT) (by omega) hcap,hk.u,hk.z,hk.q,hk.d,hk.s,hk.y,sub.nodup hg.nd⟩,sub,rfl,rfl⟩,ht.mono (fun x hx=>by simp at hx;simp [hx])⟩⟩
 ·
  refine (qQ l M s g o cur base w.heap.size gD gS w hf hb (Nat.le_refl _) hR hl.r hno hp).mono ?_
  rintro e w' ⟨rfl,⟨X,hA,hX⟩,ht⟩
  have hq:X.nQ=l.R.nQ:=by
   rcases hp with ⟨hx,_⟩ | ⟨_,_,rfl,_⟩ | ⟨_,_,k,c,_,e⟩
   ·
    exact absurd hl.r hx
   ·
    exact hA.nQ
   omega
  obtain ⟨hO,sub⟩:=h.Br hb eD eS hl.r hX hq ht
  have hps:=hX.pos
  exact ⟨⟨false,rfl,fun _=>rfl,fun e=>absurd e (by simp)⟩,⟨⟨{ l with R:=X },⟨rfl,rfl,rfl,rfl,rfl,rfl,hA⟩,hX.Cc,hO,sub,rfl,by show gF X.aS X.nS=_;rw [hX.as_,eS,hps.2.2,hq,hs]⟩,ht.mono hit3⟩⟩
 have hpk:∃ k,iP k l.R M c s:=by
  rcases hp with ⟨hx,_⟩ | ⟨_,_,_,e,_⟩ | ⟨_,_,k,c',hpk,e⟩
  ·
   exact absurd hl.r hx
  ·
   omega
  have e2:c'=c:=by omega
  subst e2
  exact ⟨k,hpk⟩
 obtain ⟨k,hpk⟩:=hpk
 obtain ⟨r1,_,_,_,_,r6⟩:=hpk.rows
 have hc2:c<2:=by
  have:=(hpk.ok hl.r).2.2.1
  omega
 obtain ⟨_,hz2,_⟩:=hl.z c hc2
 have hLc:l.uL c≠0:=by rw [hz2];exact r1
 have hcU:c<l.nU:=by have:=hl.u;omega
 rcases hg.u with e | ⟨gu,ou,eU,hbu,ua,u1,u2,u3⟩
 ·
  omega
 rcases hg.z c hcU with e | ⟨gz,oz,eZ,hbz,za,z1,z2,z3⟩
 ·
  exact absurd e hLc
 have inU:gu∈gF l.aU l.nU:=by rw [eU];exact ks (by omega)
 have inZ:gz∈gF (l.uA c) (l.uL c):=by rw [eZ];exact ks hLc
 obtain ⟨cD,tD⟩:=hg.d.type gD inD
 obtain ⟨cS,tS⟩:=hg.s.type gS inS
 have hSU:gu∉gF l.R.aS l.R.nS:=fun hx=>h.su gu hx ((kr _ _).subset inU)
 have nU:gu∉[g,gD,gS]:=fun hy=>by
  simp only [List.mem_cons,List.not_mem_nil,or_false] at hy
  rcases hy with e | e | e
  ·
   exact iz u1 hb (by decide) e
  ·
   exact iz u1 tD (by decide) e
  subst e;exact hSU inS
 have nZ:gz∉[g,gD,gS]:=fun hy=>by
  simp only [List.mem_cons,List.not_mem_nil,or_false] at hy
  rcases hy with e | e | e
  ·
   exact iz z1 hb (by decide) e
  ·
   subst e
   have nd2:=hg.nd
   unfold Lng.jh at nd2
   exact (List.nodup_append.1 (List.nodup_append.1 nd2).2.1).2.2 gz (ib.2 ⟨c,hcU,inZ⟩) gz (by simp only [List.mem_append];exact .inr (.inl inD)) rfl
  exact iz z1 tS (by decide) e
 have hu:ua[ou+c]?=some (.slice (l.uA c) (l.uL c) (l.uC c)):=u3 c hcU
 rw [eZ] at hu
 refine (pT l M s c gu ou gz oz ua za g o cur base w.heap.size gD gS w hf hb (Nat.le_refl _) hR hl.r hno hp eU hcU hLc u1 hu z1 (z3 0 (by omega)) nU nZ).mono ?_
 rintro e w' ⟨rfl,w1,⟨X,hA,hX⟩,ht,rfl⟩
 have hq:X.nQ=l.R.nQ:=hA.nQ.trans r6
 obtain ⟨hO,sub⟩:=h.Br hb eD eS hl.r hX hq ht
 have hps:=hX.pos
 have eSS:gF X.aS X.nS=gF l.R.aS l.R.nS:=by rw [hX.as_,eS,hps.2.2,hq,hs]
 obtain ⟨hO2,sub2⟩:=hO.x7 (c:=c) (gu:=gu) (ou:=ou) (gz:=gz) (oz:=oz) hcU eU eZ hLc (OG.cap (t:=2) (sz:=1) (h.z c hcU)) (by show gu∉gF X.aS X.nS;rw [eSS];exact hSU)
 have gne:g≠gu:=fun e=>nU (by simp [e])
 exact ⟨⟨true,rfl,fun e=>absurd e (by simp),fun _=>.inr ⟨c,0,hc2,by omega,rfl⟩⟩,⟨⟨({ l with R:=X }:Lng).x7 c gz oz,⟨rfl,rfl,rfl,rfl,rfl,rfl,hA⟩,(fO gne _).trans hX.Cc,hO2,sub2.trans sub,rfl,eSS⟩,(ht.mono hit3).set (by unfold Lng.hit;simp only [List.mem_cons,List.mem_append];exact .inr (.inl inU)) _ _⟩⟩
open Go.Shelf
def tv:Go.Shelf.Ren:=⟨fun | 316=>136 | n=>n,fun | 9=>9 | 3=>3 | 4=>4 | 37=>133 | 0=>0 | 127=>198 | 5=>5 | n=>n,fun | n=>n⟩
theorem A6:Go.Proofs.LaysM.n316 Tryz.prog tv:={
 mixed:=by kernel_rfl
 f316:=Tryz.func136.trans (congrArg some (by kernel_rfl))
 t0:=Tryz.underlying0
 a0:=Tryz.isAgg0
 z0:=Tryz.sizeOf0
 v0:=Tryz.zeroValue0
 t3:=Tryz.underlying3
 a3:=Tryz.isAgg3
 z3:=Tryz.sizeOf3
 v3:=Tryz.zeroValue3
 t4:=Tryz.underlying4
 a4:=Tryz.isAgg4
 z4:=Tryz.sizeOf4
 v4:=Tryz.zeroValue4
 t9:=Tryz.underlying9
 a9:=Tryz.isAgg9
 z9:=Tryz.sizeOf9
 v9:=Tryz.zeroValue9
 t37:=Tryz.underlying133
 a37:=Tryz.isAgg133
 z37:=Tryz.sizeOf133
 v37:=Tryz.zeroValue133
 t127:=Tryz.underlying198
 a127:=Tryz.isAgg198
 z127:=Tryz.sizeOf198
 v127:=Tryz.zeroValue198
 t5:=Tryz.underlying5
 a5:=Tryz.isAgg5
 z5:=Tryz.sizeOf5
 v5:=Tryz.zeroValue5
 i0:=by kernel_rfl
 i3:=by kernel_rfl
 i4:=by kernel_rfl
 i5:=by kernel_rfl
 i9:=by kernel_rfl
 i37:=by kernel_rfl
 i127:=by kernel_rfl }
open Go.RowKit in
theorem Cv (s:ByteArray) (w:World) (hlim:s.size≤281474976710656) :
  Calls Tryz.prog 136 #[.string s] w fun e w'=>e=.returned (.string s)∧Below w.heap.size w w':=Go.Proofs.Any.stringslite_Clone A6 s w hlim
theorem ya (s:ByteArray) (w:World) (hlim:s.size≤1048576) :
  Calls Tryz.prog 115 #[.string s] w fun e w'=>e=.returned (.string s)∧Below w.heap.size w w':=by
 go_enter Tryz.func115,Tryz.ntmps115
 go_wp2_with fail
 refine (Cv s _ (by omega)).mono ?_
 rintro e w1 ⟨rfl,hb⟩
 go_wp2_with fail
 go_ret
 exact ⟨rfl,hb⟩
theorem nq (k d s p:Int) (b:ByteArray) (w:World) (hlim:b.size≤1048576) :
  Calls Tryz.prog 76 #[.agg #[.int .i64 k,.int .i64 d,.int .i64 s,.int .i64 p,.string b]] w fun e w'=>e=.returned (.agg #[.int .i64 k,.int .i64 d,.int .i64 s,.int .i64 p,.string b])∧Below w.heap.size w w':=by
 go_enter Tryz.func76,Tryz.ntmps76
 go_wp2_with fail
 refine (ya b _ hlim).mono ?_
 rintro e w1 ⟨rfl,hb⟩
 have HX:Hid (g5 w #[.int .i64 k,.int .i64 d,.int .i64 s,.int .i64 p,.string b] #[.int .i64 0,.int .i64 0,.int .i64 0,.int .i64 0,.string ⟨#[]⟩] #[.int .i64 k,.int .i64 d,.int .i64 s,.int .i64 p,.string b] 74 74 w1):=(g5.start w #[.int .i64 k,.int .i64 d,.int .i64 s,.int .i64 p,.string b] #[.int .i64 0,.int .i64 0,.int .i64 0,.int .i64 0,.string ⟨#[]⟩] #[.int .i64 k,.int .i64 d,.int .i64 s,.int .i64 p,.string b] 74 74).up hb
 clear hb
 have HC:Hid (w1.heap[w.heap.size+1+1]?=some (.cells #[.int .i64 k,.int .i64 d,.int .i64 s,.int .i64 p,.string b] 74 (0,0))):=HX.out.c
 go_wp2_with (refine fJ rfl 9 (.tmp 8) (.tmp 7) rfl (w.heap.size+1+1) 4 rfl (.string b) rfl 1 rfl 74 _ HC.out (by kernel_rfl) (Nat.le_of_ble_eq_true rfl) (by simp [Value.cells,Value.oneCell']) ?_)
 intro w2 hP
 replace hP:Put w1 w2 (w.heap.size+1+1) #[.int .i64 k,.int .i64 d,.int .i64 s,.int .i64 p,.string b] 74:=hP.cast rfl
 replace HX:Hid (g5 w #[.int .i64 k,.int .i64 d,.int .i64 s,.int .i64 p,.string b] #[.int .i64 0,.int .i64 0,.int .i64 0,.int .i64 0,.string ⟨#[]⟩] #[.int .i64 k,.int .i64 d,.int .i64 s,.int .i64 p,.string b] 74 74 w2):=HX.out.put hP
 clear hP HC
 have HL:Hid (∀ j,j<5→w2.cell? ⟨w.heap.size+1+1,0+j,none⟩=(#[.int .i64 k,.int .i64 d,.int .i64 s,.int .i64 p,.string b]:Array Value)[j]?):=fun j _=>by rw [Nat.zero_add];exact fG HX.out.c j
 have HD:Hid (w2.heap[w.heap.size+1]?=some (.cells #[.int .i64 0,.int .i64 0,.int .i64 0,.int .i64 0,.string ⟨#[]⟩] 74 (0,0))):=HX.out.b
 go_wp2_with (first | refine fP rfl 74 5 _ Tryz.underlying74 rfl jC (.tmp 3) rfl (w.heap.size+1+1) 0 rfl #[.int .i64 k,.int .i64 d,.int .i64 s,.int .i64 p,.string b] rfl HL.out ?_ | refine fJ rfl 74 (.tmp 2) (.tmp 9) rfl (w.heap.size+1) 0 rfl (.agg #[.int .i64 k,.int .i64 d,.int .i64 s,.int .i64 p,.string b]) rfl 5 rfl 74 _ HD.out jC (Nat.le_of_ble_eq_true rfl) (by simp [Value.cells,Value.oneCell']) ?_)
 intro w3 hP
 replace hP:Put w2 w3 (w.heap.size+1) #[.int .i64 k,.int .i64 d,.int .i64 s,.int .i64 p,.string b] 74:=hP.cast rfl
 have HK:Hid (w3.heap[w.heap.size+1]?=some (.cells #[.int .i64 k,.int .i64 d,.int .i64 s,.int .i64 p,.string b] 74 (0,0))):=hP.blk
 have HB:Hid (Below w.heap.size w w3):=(HX.out.out hP).bel
 clear hP HL HD
 go_wp2_with fail
 exact bodyPost_ret (iW Tryz.results76 5 _ Tryz.underlying74 rfl jC _ _ (w.heap.size+1) #[.int .i64 k,.int .i64 d,.int .i64 s,.int .i64 p,.string b] rfl 74 HK.out rfl) rfl ⟨rfl,HB.out⟩
theorem vK:(Tryz.prog.info? 97).map (fun i=>(i.zero,i.size,i.bytes))=some (some (.agg #[.int .i64 0,.int .i64 0,.int .i64 0,.int .i64 0,.int .i64 0,.int .i64 0,.int .i64 0,.string ⟨#[]⟩]),8,72):=by kernel_rfl
def De (n:Nat):Array Value:=madeCells #[.int .i64 0,.int .i64 0,.int .i64 0,.int .i64 0,.int .i64 0,.int .i64 0,.int .i64 0,.string ⟨#[]⟩] (n*8)
theorem AY (n:Nat) (hn:n≤1048576) (w:World):(Instr.makeSlice 37 (.int .i64 (n:Int)) (.int .i64 (n:Int))).run Tryz.prog w=.ok (.slice (some ⟨w.heap.size,0,none⟩) n n) (w.alloc (.cells (De n) 97)):=by
 obtain ⟨i0,hi,hz0,hz1,hz2⟩:=info_parts vK
 have:=run_make (P:=Tryz.prog) w 37 97 i0 _ Tryz.underlying37 hi hz0 .i64 .i64 (n:Int) (n:Int) (by omega) (by omega) (by rw [hz2];omega) (by omega)
 rw [this,hz1]
 simp [De,Value.cells]
theorem vL:(Tryz.prog.info? 102).map (fun i=>(i.zero,i.size,i.bytes))=some (some (.agg #[.bool false,.slice none 0 0,.slice none 0 0,.slice none 0 0,.slice none 0 0,.int .i64 0,.bool false,.slice none 0 0]),8,144):=by kernel_rfl
def Df (n:Nat):Array Value:=madeCells #[.bool false,.slice none 0 0,.slice none 0 0,.slice none 0 0,.slice none 0 0,.int .i64 0,.bool false,.slice none 0 0] (n*8)
theorem AZ (n:Nat) (hn:n≤1048576) (w:World):(Instr.makeSlice 38 (.int .i64 (n:Int)) (.int .i64 (n:Int))).run Tryz.prog w=.ok (.slice (some ⟨w.heap.size,0,none⟩) n n) (w.alloc (.cells (Df n) 102)):=by
 obtain ⟨i0,hi,hz0,hz1,hz2⟩:=info_parts vL
 have:=run_make (P:=Tryz.prog) w 38 102 i0 _ Tryz.underlying38 hi hz0 .i64 .i64 (n:Int) (n:Int) (by omega) (by omega) (by rw [hz2];omega) (by omega)
 rw [this,hz1]
 simp [Df,Value.cells]
theorem sY {w W:World} {g n k:Nat} {t:TypeId} {F:Nat→Value} {arr cs:Array Value} (hn:n*8≤arr.size) (hc:∀ i,i<k*8→arr[i]?=some (F i)) (hlt:k<n) (hs:cs.size=8) (hcs:∀ j,j<8→some (F (k*8+j))=cs[j]?) (hP:Put w W g (lay arr (k*8) cs) t):fV g t (n*8) F ((k+1)*8) W:=by
 have hf:k*8+cs.size≤arr.size:=by omega
 refine ⟨_,hP.blk,by rw [jb hf];exact hn,fun i hi=>?_⟩
 by_cases e:i<k*8
 ·
  rw [jI hf i e]
  exact hc i e
 have:=iX hf (i-k*8) (by omega)
 rw [show k*8+(i-k*8)=i by omega] at this
 rw [this,←hcs _ (by omega),show k*8+(i-k*8)=i by omega]
theorem qP (a:Option Addr) (n cap:Nat) (K:Nat→Pkt) (w:World) (hn:n≤1048576) (h:jN w a n K) :
  Calls Tryz.prog 24 #[.slice a n cap] w fun e w'=>e=.returned (.slice (some ⟨w.heap.size,0,none⟩) n n)∧fV w.heap.size 97 (n*8) (my K) (n*8) w'∧Below w.heap.size w w':=by
 have mk:=AY n hn
 have HR:Hid (jN w a n K):=h
 clear h
 go_enter Tryz.func24,Tryz.ntmps24
 go_wp2_with fail
 clear mk
 go_loopw [4] (fun i wr=>∃ k:Nat,k≤n∧i=.int .i64 k∧Hid (fV w.heap.size 97 (n*8) (my K) (k*8) wr)∧Hid (Below w.heap.size w wr)) (fun i _=>n-(intOf i).toNat)
 case atStart=>exact ⟨0,Nat.zero_le _,rfl,⟨_,fL w _,by simp [De,size_madeCells],fun i hi=>by omega⟩,(Below.refl _ _).alloc (Nat.le_refl _) _⟩
 obtain ⟨k,hk,rfl,HT,HB⟩:=hrel
 by_cases hlt:k<n
 ·
  have hlt':(k:Int)<n:=by omega
  obtain ⟨g,o,ha,hc⟩:=(HR.out.up HB.out) k hlt
  subst ha
  have HC:Hid (∀ j,j<8→wr.cell? ⟨g,o+k*8+j,none⟩=(K k).cells[j]?):=hc
  clear hc
  go_wp2_with (refine fP rfl 85 8 _ Tryz.underlying85 rfl zr (.tmp 18) rfl g (o+k*8) rfl (K k).cells rfl HC.out ?_)
  refine (sx (K k) _).mono ?_
  rintro e w1 ⟨rfl,hb1⟩
  have HB1:Hid (Below w.heap.size w w1):=HB.out.trans (hb1.mono HB.out.size)
  have R1:=HT.out.ir (hb1.block _ HT.out.lt)
  obtain ⟨arr,hb2,hn2,hc2⟩:=R1
  have HG:Hid (w1.heap[w.heap.size]?=some (.cells arr 97 (0,0))):=hb2
  have HN:Hid (n*8≤arr.size∧∀ i,i<k*8→arr[i]?=some (my K i)):=⟨hn2,hc2⟩
  clear hb1 HB HT HC hb2 hn2 hc2
  go_wp2_with (refine fJ rfl 97 (.tmp 21) (.tmp 20) rfl w.heap.size (k*8) (by simp [Act.eval]) (.agg (K k).cells) rfl 8 rfl 97 arr HG.out mc (by have:=HN.out.1;omega) (Pkt.lL _) ?_)
  intro W2 hP
  have HT2:Hid (fV w.heap.size 97 (n*8) (my K) ((k+1)*8) W2):=sY HN.out.1 HN.out.2 hlt rfl (fun j hj=>jQ K k j hj) hP
  have HB2:Hid (Below w.heap.size w W2):=HB1.out.trans (hP.to.below HB1.out.size (fun x hx=>by simp at hx;omega))
  clear hP HB1 HG HN
  go_wp2_with fail
  go_roundw
  case rel=>exact ⟨k+1,by omega,by go_num,HT2,HB2⟩
  case measure=>simp [intOf];omega
 obtain rfl:k=n:=by omega
 go_wp2_with fail
 go_ret
 exact ⟨rfl,HT.out,HB.out⟩
structure si (w:World) (L L2:Nat→Lng) (n k:Nat) (wr:World):Prop where
 r:fV w.heap.size 102 (n*8) (k6 L2) (k*8) wr
 a:∀ i,i<k→gy (L i) (L2 i)
 o:∀ i,i<k→gO wr (w.heap.size+1) (L2 i)
 d:((List.range k).flatMap fun i=>(L2 i).jh).Nodup
 b:Below w.heap.size w wr
 s:w.heap.size<wr.heap.size
theorem zT {L L':Nat→Lng} {k i:Nat} (h:∀ j,j<k→L' j=L j) (hi:i<k*8):k6 L' i=k6 L i:=by
 unfold k6
 rw [h (i / 8) (by omega)]
theorem si.up {w:World} {L L2:Nat→Lng} {n k:Nat} {wr w1:World} (h:si w L L2 n k wr) (hb:Below wr.heap.size wr w1):si w L L2 n k w1 :=
 ⟨h.r.ir (hb.block _ h.r.lt),h.a,fun i hi=>(h.o i hi).up hb,h.d,h.b.trans (hb.mono h.b.size),Nat.lt_of_lt_of_le h.s hb.size⟩
theorem mW {f g:Nat→List Nat}:∀ {k:Nat},(∀ i,i<k→f i=g i)→(List.range k).flatMap f=(List.range k).flatMap g:=by
 intro k h
 induction k with
 | zero=>rfl
 | succ k ih =>
  rw [List.range_succ,List.flatMap_append,List.flatMap_append,ih (fun i hi=>h i (by omega))]
  simp only [List.flatMap_cons,List.flatMap_nil,List.append_nil]
  rw [h k (by omega)]
theorem si.step {w:World} {L L2:Nat→Lng} {n k:Nat} {wr w1 W:World} {l2:Lng} {arr:Array Value} (h:si w L L2 n k wr) (hlt:k<n) (hb:Below wr.heap.size wr w1) (ha:gy (L k) l2) (ho:gO w1 wr.heap.size l2)
  (hn:n*8≤arr.size) (hc:∀ i,i<k*8→arr[i]?=some (k6 L2 i)) (hP:Put w1 W w.heap.size (lay arr (k*8) l2.cells) 102):si w L (fun i=>if i=k then l2 else L2 i) n (k+1) W:=by
 have hs:=h.s
 have h1:=h.up hb
 refine ⟨?_,fun i hi=>?_,fun i hi=>?_,?_,h1.b.trans (hP.to.below h1.b.size (fun x hx=>by simp at hx;omega)),by rw [hP.size];exact h1.s⟩
 ·
  refine sY hn (fun i hi=>?_) hlt rfl (fun j hj=>?_) hP
  ·
   rw [hc i hi,zT (L:=L2) (k:=k) (fun j hj=>if_neg (by omega)) hi]
  rw [jw _ k j hj]
  simp only [if_true]
 ·
  by_cases e:i=k
  ·
   subst e
   simp only [if_true]
   exact ha
  simp only [if_neg e]
  exact h.a i (by omega)
 ·
  by_cases e:i=k
  ·
   simp only [e,if_true]
   exact (ho.low hP.to (fun x hx=>by simp at hx;omega)).mono (by omega)
  simp only [if_neg e]
  exact (h1.o i (by omega)).low hP.to (fun x hx=>by simp at hx;omega)
 rw [List.range_succ,List.flatMap_append]
 simp only [List.flatMap_cons,List.flatMap_nil,List.append_nil,if_true]
 rw [mW (f:=fun i=>(if i=k then l2 else L2 i).jh) (g:=fun i=>(L2 i).jh) (fun i hi=>by rw [if_neg (by omega)])]
 refine jj h.d ho.nd wr.heap.size (fun x hx=>?_) (fun x hx=>(ho.blk x hx).1)
 simp only [List.mem_flatMap,List.mem_range] at hx
 obtain ⟨i,hi,hx⟩:=hx
 exact ((h.o i hi).blk x hx).2
theorem uT (a:Option Addr) (n cap:Nat) (L:Nat→Lng) (w:World) (hn:n≤1048576) (hs:∀ i,i<n→(L i).Small) (h:qh w a n L) (hr:∀ i,i<n→ml w (L i)) :
  Calls Tryz.prog 25 #[.slice a n cap] w fun e w'=>e=.returned (.slice (some ⟨w.heap.size,0,none⟩) n n)∧∃ L2,si w L L2 n n w':=by
 have mk:=AZ n hn
 have HR:Hid (qh w a n L):=h
 have HL:Hid (∀ i,i<n→ml w (L i)):=hr
 have HS:Hid (∀ i,i<n→(L i).Small):=hs
 clear h hr hs
 go_enter Tryz.func25,Tryz.ntmps25
 go_wp2_with fail
 clear mk
 go_loopw [4] (fun i wr=>∃ (k:Nat) (L2:Nat→Lng),k≤n∧i=.int .i64 k∧Hid (si w L L2 n k wr)) (fun i _=>n-(intOf i).toNat)
 case atStart=>exact ⟨0,L,Nat.zero_le _,rfl,⟨⟨_,fL w _,by simp [Df,size_madeCells],fun i hi=>by omega⟩,fun i hi=>by omega,fun i hi=>by omega,by simp,(Below.refl _ _).alloc (Nat.le_refl _) _,by simp⟩⟩
 obtain ⟨k,L2,hk,rfl,HT⟩:=hrel
 by_cases hlt:k<n
 ·
  have hlt':(k:Int)<n:=by omega
  obtain ⟨g,o,ha,hc⟩:=(HR.out.up HT.out.b) k hlt
  subst ha
  have HC:Hid (∀ j,j<8→wr.cell? ⟨g,o+k*8+j,none⟩=(L k).cells[j]?):=hc
  clear hc
  go_wp2_with (refine fP rfl 91 8 _ Tryz.underlying91 rfl zt (.tmp 18) rfl g (o+k*8) rfl (L k).cells rfl HC.out ?_)
  refine (xf (L k) _ (HS.out k hlt) ((HL.out k hlt).up HT.out.b)).mono ?_
  rintro e w1 ⟨l2,rfl,ha2,ho2,hb1⟩
  obtain ⟨arr,hb2,hn2,hc2⟩:=(HT.out.up hb1).r
  have HG:Hid (w1.heap[w.heap.size]?=some (.cells arr 102 (0,0))):=hb2
  have HN:Hid (n*8≤arr.size∧∀ i,i<k*8→arr[i]?=some (k6 L2 i)):=⟨hn2,hc2⟩
  have HO:Hid (gy (L k) l2∧gO w1 wr.heap.size l2∧Below wr.heap.size wr w1):=⟨ha2,ho2,hb1⟩
  clear hb1 HC hb2 hn2 hc2 ha2 ho2
  go_wp2_with (refine fJ rfl 102 (.tmp 21) (.tmp 20) rfl w.heap.size (k*8) (by simp [Act.eval]) (.agg l2.cells) rfl 8 rfl 102 arr HG.out ix (by have:=HN.out.1;omega) (Lng.lL _) ?_)
  intro W2 hP
  have HT2:Hid (si w L (fun i=>if i=k then l2 else L2 i) n (k+1) W2):=HT.out.step hlt HO.out.2.2 HO.out.1 HO.out.2.1 HN.out.1 HN.out.2 hP
  clear hP HG HN HT HO
  go_wp2_with fail
  go_roundw
  case rel=>exact ⟨k+1,_,by omega,by go_num,HT2⟩
  case measure=>simp [intOf];omega
 obtain rfl:k=n:=by omega
 go_wp2_with fail
 go_ret
 exact ⟨rfl,L2,HT.out⟩
theorem fZ:(Tryz.prog.info? 40).map (·.size)=some 17:=by kernel_rfl
theorem Cg:(Tryz.prog.info? 34).map (·.size)=some 7:=by kernel_rfl
theorem zA:(Tryz.prog.info? 36).map (·.size)=some 3:=by kernel_rfl
theorem zw:(Tryz.prog.info? 35).map (·.size)=some 1:=by kernel_rfl
theorem zu:(Tryz.prog.info? 37).map (·.size)=some 1:=by kernel_rfl
theorem tW:(Tryz.prog.info? 38).map (·.size)=some 1:=by kernel_rfl
theorem Swg.lL (S:Swg):S.cells.all (·.oneCell')=true:=by simp [Swg.cells,Value.oneCell']
theorem kc (S:Swg) (w:World) (hs:S.Small) (h:j4 w S) :
  Calls Tryz.prog 6 #[.agg S.cells] w fun e w'=>∃ S2,e=.returned (.agg S2.cells)∧ga S S2∧gI w' w.heap.size S2∧Below w.heap.size w w':=by
 have HR:Hid (j4 w S):=h
 have HS:Hid S.Small:=hs
 clear h hs
 obtain ⟨W0,eW⟩:∃ W,(((w.alloc (.cells S.cells 32)).alloc (.cells #[.int .i64 0,.int .i64 0,.int .i64 0,.int .i64 0,.int .i64 0,.int .i64 0,.int .i64 0,.int .i64 0,.int .i64 0,.slice none 0 0,.slice none 0 0,.int .i64 0,.slice none 0 0,.slice none 0 0,.slice none 0 0,.int .i64 0,.int .i64 0] 40)).alloc (.cells #[.int .i64 0,.int .i64 0,.int .i64 0,.int .i64 0,.int .i64 0,.int .i64 0,.int .i64 0,.int .i64 0,.int .i64 0,.slice none 0 0,.slice none 0 0,.int .i64 0,.slice none 0 0,.slice none 0 0,.slice none 0 0,.int .i64 0,.int .i64 0] 40))=W:=⟨_,rfl⟩
 have HX:Hid (g5 w S.cells #[.int .i64 0,.int .i64 0,.int .i64 0,.int .i64 0,.int .i64 0,.int .i64 0,.int .i64 0,.int .i64 0,.int .i64 0,.slice none 0 0,.slice none 0 0,.int .i64 0,.slice none 0 0,.slice none 0 0,.slice none 0 0,.int .i64 0,.int .i64 0] #[.int .i64 0,.int .i64 0,.int .i64 0,.int .i64 0,.int .i64 0,.int .i64 0,.int .i64 0,.int .i64 0,.int .i64 0,.slice none 0 0,.slice none 0 0,.int .i64 0,.slice none 0 0,.slice none 0 0,.slice none 0 0,.int .i64 0,.int .i64 0] 32 40 W0):=by rw [←eW];exact g5.start _ _ _ _ _ _
 go_enter Tryz.func6,Tryz.ntmps6
 have c0:W0.cell? ⟨w.heap.size,0,none⟩=some (.int .i64 S.C.p):=fG HX.out.a 0
 have c1:W0.cell? ⟨w.heap.size,1,none⟩=some (.int .i64 S.C.c):=fG HX.out.a 1
 have c2:W0.cell? ⟨w.heap.size,2,none⟩=some (.int .i64 S.C.xo):=fG HX.out.a 2
 have c3:W0.cell? ⟨w.heap.size,3,none⟩=some (.int .i64 S.C.xn):=fG HX.out.a 3
 have c4:W0.cell? ⟨w.heap.size,4,none⟩=some (.int .i64 S.C.hd):=fG HX.out.a 4
 have c5:W0.cell? ⟨w.heap.size,5,none⟩=some (.int .i64 S.C.lo):=fG HX.out.a 5
 have c6:W0.cell? ⟨w.heap.size,6,none⟩=some (.int .i64 S.C.dl):=fG HX.out.a 6
 go_wp2_with fail
 clear eW
 refine (sC S.C _).mono ?_
 rintro e wc ⟨rfl,hb⟩
 clear c0 c1 c2 c3 c4 c5 c6
 replace HX:Hid (g5 w S.cells #[.int .i64 0,.int .i64 0,.int .i64 0,.int .i64 0,.int .i64 0,.int .i64 0,.int .i64 0,.int .i64 0,.int .i64 0,.slice none 0 0,.slice none 0 0,.int .i64 0,.slice none 0 0,.slice none 0 0,.slice none 0 0,.int .i64 0,.int .i64 0] #[.int .i64 0,.int .i64 0,.int .i64 0,.int .i64 0,.int .i64 0,.int .i64 0,.int .i64 0,.int .i64 0,.int .i64 0,.slice none 0 0,.slice none 0 0,.int .i64 0,.slice none 0 0,.slice none 0 0,.slice none 0 0,.int .i64 0,.int .i64 0] 32 40 wc):=HX.out.up hb
 have T1:Touch [w.heap.size+1,w.heap.size+1+1] W0 wc:=Touch.gY hb
 clear hb
 have HC:=HX.out.c
 replace HC:Hid (wc.heap[w.heap.size+1+1]?=some (.cells #[.int .i64 0,.int .i64 0,.int .i64 0,.int .i64 0,.int .i64 0,.int .i64 0,.int .i64 0,.int .i64 0,.int .i64 0,.slice none 0 0,.slice none 0 0,.int .i64 0,.slice none 0 0,.slice none 0 0,.slice none 0 0,.int .i64 0,.int .i64 0] 40 (0,0))):=HC
 go_wp2_with (refine fJ rfl 34 (.tmp 7) (.tmp 6) rfl (w.heap.size+1+1) 0 rfl (.agg S.C.cells) rfl 7 rfl 40 _ HC.out Cg (Nat.le_of_ble_eq_true rfl) (by simp [Value.cells,Value.oneCell',Rnd.cells,Cfg.cells,Cnt.cells]) ?_)
 intro W2 hP
 replace hP:=hP.cast (cs':=#[.int .i64 S.C.p,.int .i64 S.C.c,.int .i64 S.C.xo,.int .i64 S.C.xn,.int .i64 S.C.hd,.int .i64 S.C.lo,.int .i64 S.C.dl,.int .i64 0,.int .i64 0,.slice none 0 0,.slice none 0 0,.int .i64 0,.slice none 0 0,.slice none 0 0,.slice none 0 0,.int .i64 0,.int .i64 0]) rfl
 replace HX:Hid (g5 w S.cells #[.int .i64 0,.int .i64 0,.int .i64 0,.int .i64 0,.int .i64 0,.int .i64 0,.int .i64 0,.int .i64 0,.int .i64 0,.slice none 0 0,.slice none 0 0,.int .i64 0,.slice none 0 0,.slice none 0 0,.slice none 0 0,.int .i64 0,.int .i64 0] #[.int .i64 S.C.p,.int .i64 S.C.c,.int .i64 S.C.xo,.int .i64 S.C.xn,.int .i64 S.C.hd,.int .i64 S.C.lo,.int .i64 S.C.dl,.int .i64 0,.int .i64 0,.slice none 0 0,.slice none 0 0,.int .i64 0,.slice none 0 0,.slice none 0 0,.slice none 0 0,.int .i64 0,.int .i64 0] 32 40 W2):=HX.out.put hP
 have T2:Touch [w.heap.size+1,w.heap.size+1+1] wc W2:=hP.to.mono (fun x hx=>by simp at hx;simp [hx])
 clear hP HC 
 have c7:W2.cell? ⟨w.heap.size,7,none⟩=some (.int .i64 S.now):=fG HX.out.a 7
 have HC:=HX.out.c
 replace HC:Hid (W2.heap[w.heap.size+1+1]?=some (.cells #[.int .i64 S.C.p,.int .i64 S.C.c,.int .i64 S.C.xo,.int .i64 S.C.xn,.int .i64 S.C.hd,.int .i64 S.C.lo,.int .i64 S.C.dl,.int .i64 0,.int .i64 0,.slice none 0 0,.slice none 0 0,.int .i64 0,.slice none 0 0,.slice none 0 0,.slice none 0 0,.int .i64 0,.int .i64 0] 40 (0,0))):=HC
 go_wp2_with (refine fJ rfl 2 (.tmp 10) (.tmp 9) rfl (w.heap.size+1+1) 7 rfl (.int .i64 S.now) rfl 1 rfl 40 _ HC.out jv (Nat.le_of_ble_eq_true rfl) (by simp [Value.cells,Value.oneCell',Rnd.cells,Cfg.cells,Cnt.cells]) ?_)
 intro W3 hP
 replace hP:=hP.cast (cs':=#[.int .i64 S.C.p,.int .i64 S.C.c,.int .i64 S.C.xo,.int .i64 S.C.xn,.int .i64 S.C.hd,.int .i64 S.C.lo,.int .i64 S.C.dl,.int .i64 S.now,.int .i64 0,.slice none 0 0,.slice none 0 0,.int .i64 0,.slice none 0 0,.slice none 0 0,.slice none 0 0,.int .i64 0,.int .i64 0]) rfl
 replace HX:Hid (g5 w S.cells #[.int .i64 0,.int .i64 0,.int .i64 0,.int .i64 0,.int .i64 0,.int .i64 0,.int .i64 0,.int .i64 0,.int .i64 0,.slice none 0 0,.slice none 0 0,.int .i64 0,.slice none 0 0,.slice none 0 0,.slice none 0 0,.int .i64 0,.int .i64 0] #[.int .i64 S.C.p,.int .i64 S.C.c,.int .i64 S.C.xo,.int .i64 S.C.xn,.int .i64 S.C.hd,.int .i64 S.C.lo,.int .i64 S.C.dl,.int .i64 S.now,.int .i64 0,.slice none 0 0,.slice none 0 0,.int .i64 0,.slice none 0 0,.slice none 0 0,.slice none 0 0,.int .i64 0,.int .i64 0] 32 40 W3):=HX.out.put hP
 have T3:Touch [w.heap.size+1,w.heap.size+1+1] W2 W3:=hP.to.mono (fun x hx=>by simp at hx;simp [hx])
 clear hP HC c7
 have c8:W3.cell? ⟨w.heap.size,8,none⟩=some (.int .i64 S.nx):=fG HX.out.a 8
 have HC:=HX.out.c
 replace HC:Hid (W3.heap[w.heap.size+1+1]?=some (.cells #[.int .i64 S.C.p,.int .i64 S.C.c,.int .i64 S.C.xo,.int .i64 S.C.xn,.int .i64 S.C.hd,.int .i64 S.C.lo,.int .i64 S.C.dl,.int .i64 S.now,.int .i64 0,.slice none 0 0,.slice none 0 0,.int .i64 0,.slice none 0 0,.slice none 0 0,.slice none 0 0,.int .i64 0,.int .i64 0] 40 (0,0))):=HC
 go_wp2_with (refine fJ rfl 2 (.tmp 13) (.tmp 12) rfl (w.heap.size+1+1) 8 rfl (.int .i64 S.nx) rfl 1 rfl 40 _ HC.out jv (Nat.le_of_ble_eq_true rfl) (by simp [Value.cells,Value.oneCell',Rnd.cells,Cfg.cells,Cnt.cells]) ?_)
 intro W4 hP
 replace hP:=hP.cast (cs':=#[.int .i64 S.C.p,.int .i64 S.C.c,.int .i64 S.C.xo,.int .i64 S.C.xn,.int .i64 S.C.hd,.int .i64 S.C.lo,.int .i64 S.C.dl,.int .i64 S.now,.int .i64 S.nx,.slice none 0 0,.slice none 0 0,.int .i64 0,.slice none 0 0,.slice none 0 0,.slice none 0 0,.int .i64 0,.int .i64 0]) rfl
 replace HX:Hid (g5 w S.cells #[.int .i64 0,.int .i64 0,.int .i64 0,.int .i64 0,.int .i64 0,.int .i64 0,.int .i64 0,.int .i64 0,.int .i64 0,.slice none 0 0,.slice none 0 0,.int .i64 0,.slice none 0 0,.slice none 0 0,.slice none 0 0,.int .i64 0,.int .i64 0] #[.int .i64 S.C.p,.int .i64 S.C.c,.int .i64 S.C.xo,.int .i64 S.C.xn,.int .i64 S.C.hd,.int .i64 S.C.lo,.int .i64 S.C.dl,.int .i64 S.now,.int .i64 S.nx,.slice none 0 0,.slice none 0 0,.int .i64 0,.slice none 0 0,.slice none 0 0,.slice none 0 0,.int .i64 0,.int .i64 0] 32 40 W4):=HX.out.put hP
 have T4:Touch [w.heap.size+1,w.heap.size+1+1] W3 W4:=hP.to.mono (fun x hx=>by simp at hx;simp [hx])
 clear hP HC c8
 have c9:W4.cell? ⟨w.heap.size,9,none⟩=some (.slice S.aE S.nE S.cE):=fG HX.out.a 9
 go_wp2_with fail
 refine (xg S.aE S.nE S.cE S.e _ HS.out.e (HR.out.e.up HX.out.bel)).mono ?_
 rintro e we ⟨rfl,rE,hb⟩
 clear c9
 have sE:=HX.out.sz
 replace HX:Hid (g5 w S.cells #[.int .i64 0,.int .i64 0,.int .i64 0,.int .i64 0,.int .i64 0,.int .i64 0,.int .i64 0,.int .i64 0,.int .i64 0,.slice none 0 0,.slice none 0 0,.int .i64 0,.slice none 0 0,.slice none 0 0,.slice none 0 0,.int .i64 0,.int .i64 0] #[.int .i64 S.C.p,.int .i64 S.C.c,.int .i64 S.C.xo,.int .i64 S.C.xn,.int .i64 S.C.hd,.int .i64 S.C.lo,.int .i64 S.C.dl,.int .i64 S.now,.int .i64 S.nx,.slice none 0 0,.slice none 0 0,.int .i64 0,.slice none 0 0,.slice none 0 0,.slice none 0 0,.int .i64 0,.int .i64 0] 32 40 we):=HX.out.up hb
 have T5:Touch [w.heap.size+1,w.heap.size+1+1] W4 we:=Touch.gY hb
 clear hb
 have HC:=HX.out.c
 replace HC:Hid (we.heap[w.heap.size+1+1]?=some (.cells #[.int .i64 S.C.p,.int .i64 S.C.c,.int .i64 S.C.xo,.int .i64 S.C.xn,.int .i64 S.C.hd,.int .i64 S.C.lo,.int .i64 S.C.dl,.int .i64 S.now,.int .i64 S.nx,.slice none 0 0,.slice none 0 0,.int .i64 0,.slice none 0 0,.slice none 0 0,.slice none 0 0,.int .i64 0,.int .i64 0] 40 (0,0))):=HC
 go_wp2_with (refine fJ rfl 35 (.tmp 17) (.tmp 16) rfl (w.heap.size+1+1) 9 rfl (.slice (some ⟨W4.heap.size,0,none⟩) S.nE S.nE) rfl 1 rfl 40 _ HC.out zw (Nat.le_of_ble_eq_true rfl) (by simp [Value.cells,Value.oneCell',Rnd.cells,Cfg.cells,Cnt.cells]) ?_)
 intro W6 hP
 replace hP:=hP.cast (cs':=#[.int .i64 S.C.p,.int .i64 S.C.c,.int .i64 S.C.xo,.int .i64 S.C.xn,.int .i64 S.C.hd,.int .i64 S.C.lo,.int .i64 S.C.dl,.int .i64 S.now,.int .i64 S.nx,.slice (some ⟨W4.heap.size,0,none⟩) S.nE S.nE,.slice none 0 0,.int .i64 0,.slice none 0 0,.slice none 0 0,.slice none 0 0,.int .i64 0,.int .i64 0]) rfl
 replace HX:Hid (g5 w S.cells #[.int .i64 0,.int .i64 0,.int .i64 0,.int .i64 0,.int .i64 0,.int .i64 0,.int .i64 0,.int .i64 0,.int .i64 0,.slice none 0 0,.slice none 0 0,.int .i64 0,.slice none 0 0,.slice none 0 0,.slice none 0 0,.int .i64 0,.int .i64 0] #[.int .i64 S.C.p,.int .i64 S.C.c,.int .i64 S.C.xo,.int .i64 S.C.xn,.int .i64 S.C.hd,.int .i64 S.C.lo,.int .i64 S.C.dl,.int .i64 S.now,.int .i64 S.nx,.slice (some ⟨W4.heap.size,0,none⟩) S.nE S.nE,.slice none 0 0,.int .i64 0,.slice none 0 0,.slice none 0 0,.slice none 0 0,.int .i64 0,.int .i64 0] 32 40 W6):=HX.out.put hP
 have T6:Touch [w.heap.size+1,w.heap.size+1+1] we W6:=hP.to.mono (fun x hx=>by simp at hx;simp [hx])
 clear hP HC 
 have c10:W6.cell? ⟨w.heap.size,10,none⟩=some (.slice S.N.aU S.N.nU S.N.cU):=fG HX.out.a 10
 have c11:W6.cell? ⟨w.heap.size,11,none⟩=some (.int .i64 S.N.lo):=fG HX.out.a 11
 have c12:W6.cell? ⟨w.heap.size,12,none⟩=some (.slice S.N.aP S.N.nP S.N.cP):=fG HX.out.a 12
 go_wp2_with fail
 refine (sy S.N _ HS.out.n (HR.out.n.up HX.out.bel)).mono ?_
 rintro e wn ⟨gU,gP,rfl,rN,hb⟩
 clear c10 c11 c12
 have sN:=HX.out.sz
 replace HX:Hid (g5 w S.cells #[.int .i64 0,.int .i64 0,.int .i64 0,.int .i64 0,.int .i64 0,.int .i64 0,.int .i64 0,.int .i64 0,.int .i64 0,.slice none 0 0,.slice none 0 0,.int .i64 0,.slice none 0 0,.slice none 0 0,.slice none 0 0,.int .i64 0,.int .i64 0] #[.int .i64 S.C.p,.int .i64 S.C.c,.int .i64 S.C.xo,.int .i64 S.C.xn,.int .i64 S.C.hd,.int .i64 S.C.lo,.int .i64 S.C.dl,.int .i64 S.now,.int .i64 S.nx,.slice (some ⟨W4.heap.size,0,none⟩) S.nE S.nE,.slice none 0 0,.int .i64 0,.slice none 0 0,.slice none 0 0,.slice none 0 0,.int .i64 0,.int .i64 0] 32 40 wn):=HX.out.up hb
 have T7:Touch [w.heap.size+1,w.heap.size+1+1] W6 wn:=Touch.gY hb
 clear hb
 have HC:=HX.out.c
 replace HC:Hid (wn.heap[w.heap.size+1+1]?=some (.cells #[.int .i64 S.C.p,.int .i64 S.C.c,.int .i64 S.C.xo,.int .i64 S.C.xn,.int .i64 S.C.hd,.int .i64 S.C.lo,.int .i64 S.C.dl,.int .i64 S.now,.int .i64 S.nx,.slice (some ⟨W4.heap.size,0,none⟩) S.nE S.nE,.slice none 0 0,.int .i64 0,.slice none 0 0,.slice none 0 0,.slice none 0 0,.int .i64 0,.int .i64 0] 40 (0,0))):=HC
 go_wp2_with (refine fJ rfl 36 (.tmp 21) (.tmp 20) rfl (w.heap.size+1+1) 10 rfl (.agg (S.N.copy gU gP).cells) rfl 3 rfl 40 _ HC.out zA (Nat.le_of_ble_eq_true rfl) (by simp [Value.cells,Value.oneCell',Rnd.cells,Cfg.cells,Cnt.cells]) ?_)
 intro W8 hP
 replace hP:=hP.cast (cs':=#[.int .i64 S.C.p,.int .i64 S.C.c,.int .i64 S.C.xo,.int .i64 S.C.xn,.int .i64 S.C.hd,.int .i64 S.C.lo,.int .i64 S.C.dl,.int .i64 S.now,.int .i64 S.nx,.slice (some ⟨W4.heap.size,0,none⟩) S.nE S.nE,.slice (some ⟨gU,0,none⟩) S.N.nU S.N.nU,.int .i64 S.N.lo,.slice (some ⟨gP,0,none⟩) S.N.nP S.N.nP,.slice none 0 0,.slice none 0 0,.int .i64 0,.int .i64 0]) rfl
 replace HX:Hid (g5 w S.cells #[.int .i64 0,.int .i64 0,.int .i64 0,.int .i64 0,.int .i64 0,.int .i64 0,.int .i64 0,.int .i64 0,.int .i64 0,.slice none 0 0,.slice none 0 0,.int .i64 0,.slice none 0 0,.slice none 0 0,.slice none 0 0,.int .i64 0,.int .i64 0] #[.int .i64 S.C.p,.int .i64 S.C.c,.int .i64 S.C.xo,.int .i64 S.C.xn,.int .i64 S.C.hd,.int .i64 S.C.lo,.int .i64 S.C.dl,.int .i64 S.now,.int .i64 S.nx,.slice (some ⟨W4.heap.size,0,none⟩) S.nE S.nE,.slice (some ⟨gU,0,none⟩) S.N.nU S.N.nU,.int .i64 S.N.lo,.slice (some ⟨gP,0,none⟩) S.N.nP S.N.nP,.slice none 0 0,.slice none 0 0,.int .i64 0,.int .i64 0] 32 40 W8):=HX.out.put hP
 have T8:Touch [w.heap.size+1,w.heap.size+1+1] wn W8:=hP.to.mono (fun x hx=>by simp at hx;simp [hx])
 clear hP HC 
 have c13:W8.cell? ⟨w.heap.size,13,none⟩=some (.slice S.aK S.nK S.cK):=fG HX.out.a 13
 go_wp2_with fail
 refine (qP S.aK S.nK S.cK S.K _ HS.out.k (HR.out.k.up HX.out.bel)).mono ?_
 rintro e wk ⟨rfl,rK,hb⟩
 clear c13
 have sK:=HX.out.sz
 replace HX:Hid (g5 w S.cells #[.int .i64 0,.int .i64 0,.int .i64 0,.int .i64 0,.int .i64 0,.int .i64 0,.int .i64 0,.int .i64 0,.int .i64 0,.slice none 0 0,.slice none 0 0,.int .i64 0,.slice none 0 0,.slice none 0 0,.slice none 0 0,.int .i64 0,.int .i64 0] #[.int .i64 S.C.p,.int .i64 S.C.c,.int .i64 S.C.xo,.int .i64 S.C.xn,.int .i64 S.C.hd,.int .i64 S.C.lo,.int .i64 S.C.dl,.int .i64 S.now,.int .i64 S.nx,.slice (some ⟨W4.heap.size,0,none⟩) S.nE S.nE,.slice (some ⟨gU,0,none⟩) S.N.nU S.N.nU,.int .i64 S.N.lo,.slice (some ⟨gP,0,none⟩) S.N.nP S.N.nP,.slice none 0 0,.slice none 0 0,.int .i64 0,.int .i64 0] 32 40 wk):=HX.out.up hb
 have T9:Touch [w.heap.size+1,w.heap.size+1+1] W8 wk:=Touch.gY hb
 clear hb
 have HC:=HX.out.c
 replace HC:Hid (wk.heap[w.heap.size+1+1]?=some (.cells #[.int .i64 S.C.p,.int .i64 S.C.c,.int .i64 S.C.xo,.int .i64 S.C.xn,.int .i64 S.C.hd,.int .i64 S.C.lo,.int .i64 S.C.dl,.int .i64 S.now,.int .i64 S.nx,.slice (some ⟨W4.heap.size,0,none⟩) S.nE S.nE,.slice (some ⟨gU,0,none⟩) S.N.nU S.N.nU,.int .i64 S.N.lo,.slice (some ⟨gP,0,none⟩) S.N.nP S.N.nP,.slice none 0 0,.slice none 0 0,.int .i64 0,.int .i64 0] 40 (0,0))):=HC
 go_wp2_with (refine fJ rfl 37 (.tmp 25) (.tmp 24) rfl (w.heap.size+1+1) 13 rfl (.slice (some ⟨W8.heap.size,0,none⟩) S.nK S.nK) rfl 1 rfl 40 _ HC.out zu (Nat.le_of_ble_eq_true rfl) (by simp [Value.cells,Value.oneCell',Rnd.cells,Cfg.cells,Cnt.cells]) ?_)
 intro W10 hP
 replace hP:=hP.cast (cs':=#[.int .i64 S.C.p,.int .i64 S.C.c,.int .i64 S.C.xo,.int .i64 S.C.xn,.int .i64 S.C.hd,.int .i64 S.C.lo,.int .i64 S.C.dl,.int .i64 S.now,.int .i64 S.nx,.slice (some ⟨W4.heap.size,0,none⟩) S.nE S.nE,.slice (some ⟨gU,0,none⟩) S.N.nU S.N.nU,.int .i64 S.N.lo,.slice (some ⟨gP,0,none⟩) S.N.nP S.N.nP,.slice (some ⟨W8.heap.size,0,none⟩) S.nK S.nK,.slice none 0 0,.int .i64 0,.int .i64 0]) rfl
 replace HX:Hid (g5 w S.cells #[.int .i64 0,.int .i64 0,.int .i64 0,.int .i64 0,.int .i64 0,.int .i64 0,.int .i64 0,.int .i64 0,.int .i64 0,.slice none 0 0,.slice none 0 0,.int .i64 0,.slice none 0 0,.slice none 0 0,.slice none 0 0,.int .i64 0,.int .i64 0] #[.int .i64 S.C.p,.int .i64 S.C.c,.int .i64 S.C.xo,.int .i64 S.C.xn,.int .i64 S.C.hd,.int .i64 S.C.lo,.int .i64 S.C.dl,.int .i64 S.now,.int .i64 S.nx,.slice (some ⟨W4.heap.size,0,none⟩) S.nE S.nE,.slice (some ⟨gU,0,none⟩) S.N.nU S.N.nU,.int .i64 S.N.lo,.slice (some ⟨gP,0,none⟩) S.N.nP S.N.nP,.slice (some ⟨W8.heap.size,0,none⟩) S.nK S.nK,.slice none 0 0,.int .i64 0,.int .i64 0] 32 40 W10):=HX.out.put hP
 have T10:Touch [w.heap.size+1,w.heap.size+1+1] wk W10:=hP.to.mono (fun x hx=>by simp at hx;simp [hx])
 clear hP HC 
 have c14:W10.cell? ⟨w.heap.size,14,none⟩=some (.slice S.aL S.nL S.cL):=fG HX.out.a 14
 go_wp2_with fail
 refine (uT S.aL S.nL S.cL S.L _ HS.out.l HS.out.ls (HR.out.l.up HX.out.bel) (fun i hi=>(HR.out.ls i hi).up HX.out.bel)).mono ?_
 rintro e wl ⟨rfl,L2,rL⟩
 clear c14
 have sL:=HX.out.sz
 have hb:Below W10.heap.size W10 wl:=rL.b
 replace HX:Hid (g5 w S.cells #[.int .i64 0,.int .i64 0,.int .i64 0,.int .i64 0,.int .i64 0,.int .i64 0,.int .i64 0,.int .i64 0,.int .i64 0,.slice none 0 0,.slice none 0 0,.int .i64 0,.slice none 0 0,.slice none 0 0,.slice none 0 0,.int .i64 0,.int .i64 0] #[.int .i64 S.C.p,.int .i64 S.C.c,.int .i64 S.C.xo,.int .i64 S.C.xn,.int .i64 S.C.hd,.int .i64 S.C.lo,.int .i64 S.C.dl,.int .i64 S.now,.int .i64 S.nx,.slice (some ⟨W4.heap.size,0,none⟩) S.nE S.nE,.slice (some ⟨gU,0,none⟩) S.N.nU S.N.nU,.int .i64 S.N.lo,.slice (some ⟨gP,0,none⟩) S.N.nP S.N.nP,.slice (some ⟨W8.heap.size,0,none⟩) S.nK S.nK,.slice none 0 0,.int .i64 0,.int .i64 0] 32 40 wl):=HX.out.up hb
 have T11:Touch [w.heap.size+1,w.heap.size+1+1] W10 wl:=Touch.gY hb
 clear hb
 have HC:=HX.out.c
 replace HC:Hid (wl.heap[w.heap.size+1+1]?=some (.cells #[.int .i64 S.C.p,.int .i64 S.C.c,.int .i64 S.C.xo,.int .i64 S.C.xn,.int .i64 S.C.hd,.int .i64 S.C.lo,.int .i64 S.C.dl,.int .i64 S.now,.int .i64 S.nx,.slice (some ⟨W4.heap.size,0,none⟩) S.nE S.nE,.slice (some ⟨gU,0,none⟩) S.N.nU S.N.nU,.int .i64 S.N.lo,.slice (some ⟨gP,0,none⟩) S.N.nP S.N.nP,.slice (some ⟨W8.heap.size,0,none⟩) S.nK S.nK,.slice none 0 0,.int .i64 0,.int .i64 0] 40 (0,0))):=HC
 go_wp2_with (refine fJ rfl 38 (.tmp 29) (.tmp 28) rfl (w.heap.size+1+1) 14 rfl (.slice (some ⟨W10.heap.size,0,none⟩) S.nL S.nL) rfl 1 rfl 40 _ HC.out tW (Nat.le_of_ble_eq_true rfl) (by simp [Value.cells,Value.oneCell',Rnd.cells,Cfg.cells,Cnt.cells]) ?_)
 intro W12 hP
 replace hP:=hP.cast (cs':=#[.int .i64 S.C.p,.int .i64 S.C.c,.int .i64 S.C.xo,.int .i64 S.C.xn,.int .i64 S.C.hd,.int .i64 S.C.lo,.int .i64 S.C.dl,.int .i64 S.now,.int .i64 S.nx,.slice (some ⟨W4.heap.size,0,none⟩) S.nE S.nE,.slice (some ⟨gU,0,none⟩) S.N.nU S.N.nU,.int .i64 S.N.lo,.slice (some ⟨gP,0,none⟩) S.N.nP S.N.nP,.slice (some ⟨W8.heap.size,0,none⟩) S.nK S.nK,.slice (some ⟨W10.heap.size,0,none⟩) S.nL S.nL,.int .i64 0,.int .i64 0]) rfl
 replace HX:Hid (g5 w S.cells #[.int .i64 0,.int .i64 0,.int .i64 0,.int .i64 0,.int .i64 0,.int .i64 0,.int .i64 0,.int .i64 0,.int .i64 0,.slice none 0 0,.slice none 0 0,.int .i64 0,.slice none 0 0,.slice none 0 0,.slice none 0 0,.int .i64 0,.int .i64 0] #[.int .i64 S.C.p,.int .i64 S.C.c,.int .i64 S.C.xo,.int .i64 S.C.xn,.int .i64 S.C.hd,.int .i64 S.C.lo,.int .i64 S.C.dl,.int .i64 S.now,.int .i64 S.nx,.slice (some ⟨W4.heap.size,0,none⟩) S.nE S.nE,.slice (some ⟨gU,0,none⟩) S.N.nU S.N.nU,.int .i64 S.N.lo,.slice (some ⟨gP,0,none⟩) S.N.nP S.N.nP,.slice (some ⟨W8.heap.size,0,none⟩) S.nK S.nK,.slice (some ⟨W10.heap.size,0,none⟩) S.nL S.nL,.int .i64 0,.int .i64 0] 32 40 W12):=HX.out.put hP
 have T12:Touch [w.heap.size+1,w.heap.size+1+1] wl W12:=hP.to.mono (fun x hx=>by simp at hx;simp [hx])
 clear hP HC 
 have c15:W12.cell? ⟨w.heap.size,15,none⟩=some (.int .i64 S.dr):=fG HX.out.a 15
 have HC:=HX.out.c
 replace HC:Hid (W12.heap[w.heap.size+1+1]?=some (.cells #[.int .i64 S.C.p,.int .i64 S.C.c,.int .i64 S.C.xo,.int .i64 S.C.xn,.int .i64 S.C.hd,.int .i64 S.C.lo,.int .i64 S.C.dl,.int .i64 S.now,.int .i64 S.nx,.slice (some ⟨W4.heap.size,0,none⟩) S.nE S.nE,.slice (some ⟨gU,0,none⟩) S.N.nU S.N.nU,.int .i64 S.N.lo,.slice (some ⟨gP,0,none⟩) S.N.nP S.N.nP,.slice (some ⟨W8.heap.size,0,none⟩) S.nK S.nK,.slice (some ⟨W10.heap.size,0,none⟩) S.nL S.nL,.int .i64 0,.int .i64 0] 40 (0,0))):=HC
 go_wp2_with (refine fJ rfl 2 (.tmp 32) (.tmp 31) rfl (w.heap.size+1+1) 15 rfl (.int .i64 S.dr) rfl 1 rfl 40 _ HC.out jv (Nat.le_of_ble_eq_true rfl) (by simp [Value.cells,Value.oneCell',Rnd.cells,Cfg.cells,Cnt.cells]) ?_)
 intro W13 hP
 replace hP:=hP.cast (cs':=#[.int .i64 S.C.p,.int .i64 S.C.c,.int .i64 S.C.xo,.int .i64 S.C.xn,.int .i64 S.C.hd,.int .i64 S.C.lo,.int .i64 S.C.dl,.int .i64 S.now,.int .i64 S.nx,.slice (some ⟨W4.heap.size,0,none⟩) S.nE S.nE,.slice (some ⟨gU,0,none⟩) S.N.nU S.N.nU,.int .i64 S.N.lo,.slice (some ⟨gP,0,none⟩) S.N.nP S.N.nP,.slice (some ⟨W8.heap.size,0,none⟩) S.nK S.nK,.slice (some ⟨W10.heap.size,0,none⟩) S.nL S.nL,.int .i64 S.dr,.int .i64 0]) rfl
 replace HX:Hid (g5 w S.cells #[.int .i64 0,.int .i64 0,.int .i64 0,.int .i64 0,.int .i64 0,.int .i64 0,.int .i64 0,.int .i64 0,.int .i64 0,.slice none 0 0,.slice none 0 0,.int .i64 0,.slice none 0 0,.slice none 0 0,.slice none 0 0,.int .i64 0,.int .i64 0] #[.int .i64 S.C.p,.int .i64 S.C.c,.int .i64 S.C.xo,.int .i64 S.C.xn,.int .i64 S.C.hd,.int .i64 S.C.lo,.int .i64 S.C.dl,.int .i64 S.now,.int .i64 S.nx,.slice (some ⟨W4.heap.size,0,none⟩) S.nE S.nE,.slice (some ⟨gU,0,none⟩) S.N.nU S.N.nU,.int .i64 S.N.lo,.slice (some ⟨gP,0,none⟩) S.N.nP S.N.nP,.slice (some ⟨W8.heap.size,0,none⟩) S.nK S.nK,.slice (some ⟨W10.heap.size,0,none⟩) S.nL S.nL,.int .i64 S.dr,.int .i64 0] 32 40 W13):=HX.out.put hP
 have T13:Touch [w.heap.size+1,w.heap.size+1+1] W12 W13:=hP.to.mono (fun x hx=>by simp at hx;simp [hx])
 clear hP HC c15
 have c16:W13.cell? ⟨w.heap.size,16,none⟩=some (.int .i64 S.lst):=fG HX.out.a 16
 have HC:=HX.out.c
 replace HC:Hid (W13.heap[w.heap.size+1+1]?=some (.cells #[.int .i64 S.C.p,.int .i64 S.C.c,.int .i64 S.C.xo,.int .i64 S.C.xn,.int .i64 S.C.hd,.int .i64 S.C.lo,.int .i64 S.C.dl,.int .i64 S.now,.int .i64 S.nx,.slice (some ⟨W4.heap.size,0,none⟩) S.nE S.nE,.slice (some ⟨gU,0,none⟩) S.N.nU S.N.nU,.int .i64 S.N.lo,.slice (some ⟨gP,0,none⟩) S.N.nP S.N.nP,.slice (some ⟨W8.heap.size,0,none⟩) S.nK S.nK,.slice (some ⟨W10.heap.size,0,none⟩) S.nL S.nL,.int .i64 S.dr,.int .i64 0] 40 (0,0))):=HC
 go_wp2_with (refine fJ rfl 2 (.tmp 35) (.tmp 34) rfl (w.heap.size+1+1) 16 rfl (.int .i64 S.lst) rfl 1 rfl 40 _ HC.out jv (Nat.le_of_ble_eq_true rfl) (by simp [Value.cells,Value.oneCell',Rnd.cells,Cfg.cells,Cnt.cells]) ?_)
 intro W14 hP
 replace hP:=hP.cast (cs':=#[.int .i64 S.C.p,.int .i64 S.C.c,.int .i64 S.C.xo,.int .i64 S.C.xn,.int .i64 S.C.hd,.int .i64 S.C.lo,.int .i64 S.C.dl,.int .i64 S.now,.int .i64 S.nx,.slice (some ⟨W4.heap.size,0,none⟩) S.nE S.nE,.slice (some ⟨gU,0,none⟩) S.N.nU S.N.nU,.int .i64 S.N.lo,.slice (some ⟨gP,0,none⟩) S.N.nP S.N.nP,.slice (some ⟨W8.heap.size,0,none⟩) S.nK S.nK,.slice (some ⟨W10.heap.size,0,none⟩) S.nL S.nL,.int .i64 S.dr,.int .i64 S.lst]) rfl
 replace HX:Hid (g5 w S.cells #[.int .i64 0,.int .i64 0,.int .i64 0,.int .i64 0,.int .i64 0,.int .i64 0,.int .i64 0,.int .i64 0,.int .i64 0,.slice none 0 0,.slice none 0 0,.int .i64 0,.slice none 0 0,.slice none 0 0,.slice none 0 0,.int .i64 0,.int .i64 0] #[.int .i64 S.C.p,.int .i64 S.C.c,.int .i64 S.C.xo,.int .i64 S.C.xn,.int .i64 S.C.hd,.int .i64 S.C.lo,.int .i64 S.C.dl,.int .i64 S.now,.int .i64 S.nx,.slice (some ⟨W4.heap.size,0,none⟩) S.nE S.nE,.slice (some ⟨gU,0,none⟩) S.N.nU S.N.nU,.int .i64 S.N.lo,.slice (some ⟨gP,0,none⟩) S.N.nP S.N.nP,.slice (some ⟨W8.heap.size,0,none⟩) S.nK S.nK,.slice (some ⟨W10.heap.size,0,none⟩) S.nL S.nL,.int .i64 S.dr,.int .i64 S.lst] 32 40 W14):=HX.out.put hP
 have T14:Touch [w.heap.size+1,w.heap.size+1+1] W13 W14:=hP.to.mono (fun x hx=>by simp at hx;simp [hx])
 clear hP HC c16
 obtain ⟨S2,e2⟩:∃ S2,(⟨S.C,S.now,S.nx,some ⟨W4.heap.size,0,none⟩,S.nE,S.nE,S.e,S.N.copy gU gP,some ⟨W8.heap.size,0,none⟩,S.nK,S.nK,S.K,some ⟨W10.heap.size,0,none⟩,S.nL,S.nL,L2,S.dr,S.lst⟩:Swg)=S2:=⟨_,rfl⟩
 have e3:#[.int .i64 S.C.p,.int .i64 S.C.c,.int .i64 S.C.xo,.int .i64 S.C.xn,.int .i64 S.C.hd,.int .i64 S.C.lo,.int .i64 S.C.dl,.int .i64 S.now,.int .i64 S.nx,.slice (some ⟨W4.heap.size,0,none⟩) S.nE S.nE,.slice (some ⟨gU,0,none⟩) S.N.nU S.N.nU,.int .i64 S.N.lo,.slice (some ⟨gP,0,none⟩) S.N.nP S.N.nP,.slice (some ⟨W8.heap.size,0,none⟩) S.nK S.nK,.slice (some ⟨W10.heap.size,0,none⟩) S.nL S.nL,.int .i64 S.dr,.int .i64 S.lst]=S2.cells:=by rw [←e2];rfl
 rw [e3] at HX
 clear e3
 have HC:Hid (W14.heap[w.heap.size+1+1]?=some (.cells S2.cells 40 (0,0))):=HX.out.c
 have HD:Hid (W14.heap[w.heap.size+1]?=some (.cells #[.int .i64 0,.int .i64 0,.int .i64 0,.int .i64 0,.int .i64 0,.int .i64 0,.int .i64 0,.int .i64 0,.int .i64 0,.slice none 0 0,.slice none 0 0,.int .i64 0,.slice none 0 0,.slice none 0 0,.slice none 0 0,.int .i64 0,.int .i64 0] 40 (0,0))):=HX.out.b
 have HL:Hid (∀ j,j<17→W14.cell? ⟨w.heap.size+1+1,0+j,none⟩=(S2.cells)[j]?):=fun j _=>by rw [Nat.zero_add];exact fG HC.out j
 go_wp2_with (first | refine fP rfl 40 17 _ Tryz.underlying40 rfl fZ (.tmp 3) rfl (w.heap.size+1+1) 0 rfl (S2.cells) rfl HL.out ?_ | refine fJ rfl 40 (.tmp 2) (.tmp 36) rfl (w.heap.size+1) 0 rfl (.agg S2.cells) rfl 17 rfl 40 _ HD.out fZ (Nat.le_of_ble_eq_true rfl) (Swg.lL _) ?_)
 intro W15 hP
 replace hP:Put W14 W15 (w.heap.size+1) S2.cells 40:=hP.cast rfl
 have T15:Touch [w.heap.size+1,w.heap.size+1+1] W14 W15:=hP.to.mono (fun x hx=>by simp at hx;simp [hx])
 have HK:Hid (W15.heap[w.heap.size+1]?=some (.cells S2.cells 40 (0,0))):=hP.blk
 have HB:Hid (Below w.heap.size w W15):=(HX.out.out hP).bel
 clear hP HC HD HL
 go_wp2_with fail
 have hlow:∀ x∈[w.heap.size+1,w.heap.size+1+1],x<w.heap.size+1+1+1:=by intro x hx;simp at hx;omega
 have tE:=(((((((((T6.trans T7).trans T8).trans T9).trans T10).trans T11).trans T12).trans T13).trans T14).trans T15)
 have tN:=(((((((T8.trans T9).trans T10).trans T11).trans T12).trans T13).trans T14).trans T15)
 have tK:=(((((T10.trans T11).trans T12).trans T13).trans T14).trans T15)
 have tL:=(((T12.trans T13).trans T14).trans T15)
 have hz1:=T8.size
 have hz2:=T9.size
 have hz3:=T10.size
 refine bodyPost_ret (iW Tryz.results6 17 _ Tryz.underlying40 rfl fZ _ _ (w.heap.size+1) S2.cells rfl 40 HK.out rfl) rfl ⟨S2,rfl,?_,?_,HB.out⟩
 ·
  rw [←e2]
  exact ⟨rfl,rfl,rfl,rfl,rfl,x9 _ _ _,rfl,rfl,rfl,rL.a,rfl,rfl⟩
 rw [←e2]
 refine ⟨((VT.of (Nat.le_refl _) rE).low tE (fun x hx=>by have:=hlow x hx;omega)).mono (by omega),((rN.u).low tN (fun x hx=>by have:=hlow x hx;omega)).mono (by omega),((rN.p).low tN (fun x hx=>by have:=hlow x hx;omega)).mono (by omega),((VT.of (Nat.le_refl _) rK).low tK (fun x hx=>by have:=hlow x hx;omega)).mono (by omega),((VT.of (Nat.le_refl _) rL.r).low tL (fun x hx=>by have:=hlow x hx;omega)).mono (by omega),fun i hi=>((rL.o i hi).low tL (fun x hx=>by have:=hlow x hx;omega)).mono (by omega),?_⟩
 refine jj (jE _ _) rL.d wn.heap.size (fun x hx=>(rN.u.blk x hx).2) (fun x hx=>?_)
 simp only [List.mem_flatMap,List.mem_range] at hx
 obtain ⟨i,hi,hx⟩:=hx
 have:=((rL.o i hi).blk x hx).1
 omega
end Go.Proofs.YtfcfpkibceepgaaGreat
