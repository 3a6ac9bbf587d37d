import Derived.Test.YtjippgbmmlcgoaaGreatDoorB12
import Derived.Maps.OwnSet
import Derived.Maps.Views
namespace Go.Proofs.YtjippgbmmlcgoaaGreatDoor
set_option maxRecDepth 100000
open Go.RowKit
set_option linter.unusedVariables false
set_option linter.unusedSimpArgs false
variable {a:Act} {ops:Array Oper} {Q:Exit→Act→World→Prop} {k nx p v:Int} {f:Int→Int} {rest:List Oper} {l:Lng} {b c m n:Nat} {K:Nat→Pkt} {o:Oper} {w w':World}
theorem wV:(Tryz.prog.info? 47).map (·.size)=some 8:=by kernel_rfl
theorem Lng.one (l:Lng):l.cells.all (·.oneCell')=true:=by simp [Lng.cells,Value.oneCell']
theorem rV (hg:o.guard=none) (x:Operand) (ho:o.op=.load 47 x) (b off:Nat) (hx:a.eval x=.pointer (some ⟨b,off,none⟩))
  (X:Lng) (hc:∀ j,j<8→w.cell? ⟨b,off+j,none⟩=X.cells[j]?) (h:wpList Tryz.prog ops Q rest (a.put o.dst (.agg X.cells)) w):wpList Tryz.prog ops Q (o :: rest) a w :=
 wpList_load_mid hg 47 x ho b off hx X.cells.toList _ (fun j v hv=>by
  have hj:j<8:=by
   have:=(List.getElem?_eq_some_iff.1 hv).1
   simpa [Lng.cells] using this
  rw [hc j hj,←Array.getElem?_toList]
  exact hv) Tryz.underlying47 rfl wV h
theorem xK (hg:o.guard=none) (x:Operand) (ho:o.op=.load 47 x) (g:Nat) (hx:a.eval x=.pointer (some ⟨g,0,none⟩))
  (X:Lng) (hk:w.heap[g]?=some (.cells X.cells 47 (0,0))) (h:wpList Tryz.prog ops Q rest (a.put o.dst (.agg X.cells)) w):wpList Tryz.prog ops Q (o :: rest) a w :=
 wpList_plain hg fun _ hK=>wp_load_row 47 x ho g hx 47 X.cells (0,0) _ hk Tryz.underlying47 rfl wV (hK _ _ h)
def Swg.Bs (S:Swg):Prop:=(S.nL:Int)=S.C.p∧∀ i,i<S.nL→nN S.nK S.K (S.L i)
set_option maxHeartbeats 9000000 in
theorem Ag (S:Swg) (w:World) (hs:S.Small) (hr:lr w S) (hP:lQ S.nx S.C.p S.nK S.K) (ok:Bool) (hok:ok=true↔S.Bs) :
  Calls Tryz.prog 29 #[.agg S.cells] w fun e w'=>e=.returned (.bool ok)∧Below w.heap.size w w':=by
 have HO:=aa hok
 have HR:=aa hr
 have HP:=aa hP
 have HSm:=aa hs
 have hnL:S.nL≤1048576:=hs.l
 have hB:Below (w.heap.size+1) (w.alloc (.cells S.cells 34)) (w.alloc (.cells S.cells 34)):=Below.refl _ _
 have c14:(w.alloc (.cells S.cells 34)).cell? ⟨w.heap.size,14,none⟩=some (.slice S.aL S.nL S.cL):=boxed hB 14
 have c0:(w.alloc (.cells S.cells 34)).cell? ⟨w.heap.size,0,none⟩=some (.int .i64 S.C.p):=boxed hB 0
 clear hok hr hP hs
 by_cases hn:(S.nL:Int)=S.C.p
 ·
  have hn':((S.nL:Int) != S.C.p)=false:=by simp [hn]
  have HN:=aa hn
  clear hn
  go_enter Tryz.func29,Tryz.ntmps29
  go_wp2_with fail
  clear hn' c14 c0
  go_loopw [15] (fun i wr=>∃ k:Nat,k≤S.nL∧i=.int .i64 k∧(∀ i,i<k→nN S.nK S.K (S.L i))∧Below (w.heap.size+1) (w.alloc (.cells S.cells 34)) wr) (fun i _=>S.nL-(intOf i).toNat)
  case atStart=>exact ⟨0,Nat.zero_le _,rfl,fun i hi=>by omega,hB⟩
  clear hB
  obtain ⟨k,hk,rfl,hall,hB⟩:=hrel
  have HA:=aa hall
  clear hall
  by_cases hlt:k<S.nL
  ·
   have hlt':(k:Int)<S.nL:=by omega
   obtain ⟨g,o,ea,hc⟩:=(HR.up (under hB)).l k hlt
   obtain ⟨V,eV⟩:∃ V,wr.alloc (.cells (S.L k).cells 47)=V:=⟨_,rfl⟩
   have hbV:Below wr.heap.size wr V:=by rw [←eV];exact (Below.refl _ _).alloc (Nat.le_refl _) _
   have kV:V.heap[wr.heap.size]?=some (.cells (S.L k).cells 47 (0,0)):=by rw [←eV];exact im _ _
   have hBV:=next hB hbV
   have c13:V.cell? ⟨w.heap.size,13,none⟩=some (.slice S.aK S.nK S.cK):=ie (iZ hBV) 13
   have HkV:=aa kV
   obtain ⟨lk,hlk⟩:=ju (nN S.nK S.K (S.L k))
   have HL:=aa hlk
   rw [ea]
   clear hlk ea kV hbV
   go_wp2_with (first | refine rV rfl (.tmp 17) rfl g (o+k*8) rfl (S.L k) hc ?_ | refine jo 47 8 wV rfl (.tmp 4) (.tmp 18) rfl (S.L k).cells _ rfl rfl rfl rfl rfl (Lng.one _) (eV▸?_) | refine xK rfl (.tmp 4) rfl wr.heap.size rfl (S.L k) HkV.out ?_)
   clear hc c13 HkV
   refine (zW (S.L k) S.aK S.nK S.cK S.K S.nx S.C.p _ (HSm.ls k hlt) ((HR.ls k hlt).up (under hBV)) (HR.k.up (under hBV)) HP lk HL).mono ?_
   rintro e w2 ⟨rfl,hb⟩
   have hB2:=next hBV hb
   clear hb hBV hB eV
   cases lk
   ·
    have HF:Hid (ok=false):=by
     rw [Hid,Bool.eq_false_iff]
     intro e
     exact absurd (HL.2 ((HO.1 e).2 k hlt)) (by simp)
    go_wp2_with fail
    go_ret
    exact ⟨iv HF.symm,under hB2⟩
   have HL2:Hid (nN S.nK S.K (S.L k)):=HL.1 rfl
   clear HL
   go_wp2_with fail
   go_roundw
   case rel=>exact ⟨k+1,by omega,by go_num,fun i hi=>by
    by_cases e:i=k
    ·
     subst e;exact HL2.out
    ·
     exact HA i (by omega),hB2⟩
   case measure=>simp [intOf];omega
  obtain rfl:k=S.nL:=by omega
  have hge:¬ ((S.nL:Nat):Int)<((S.nL:Nat):Int):=by omega
  have HT:Hid (ok=true):=HO.2 ⟨HN.out,HA.out⟩
  go_wp2_with fail
  go_ret
  exact ⟨iv HT.symm,under hB⟩
 have hn':((S.nL:Int) != S.C.p)=true:=by simp [hn]
 obtain rfl:ok=false:=by
  rw [Bool.eq_false_iff]
  intro e
  exact hn (HO.1 e).1
 go_enter Tryz.func29,Tryz.ntmps29
 exact bo
def CM (w:World) (b n:Nat) (f:Int→Int):Prop:=∃ D:DataW Unit,w.ownsMap Tryz.prog 2 (plainElem Tryz.prog 2) b n D∧∀ k,D.atKey (.int .i64 k) (.lit (.int .i64 0))=.lit (.int .i64 (f k))
theorem Ee:Maps.Keyed Tryz.prog 2:=Maps.int_keyed Tryz.underlying2
theorem GV (h0:-9223372036854775808≤k) (h1:k≤9223372036854775807):keyOf Tryz.prog 2 (.int .i64 k)=some (.int .i64 k) :=
 Maps.keyOf_int_mk Tryz.underlying2 (by simp [Lit.wf,IntKind.min,IntKind.max,IntKind.signed,IntKind.bits];omega)
theorem Bl (n:Int) (w:World):(Instr.makeMap 116 (some (.int .i64 n))).run Tryz.prog w=.ok (.map (some w.heap.size)) (w.alloc (.map #[] 0)):=by
 simp [Instr.makeMap,run_underlying Tryz.underlying116,go_sem,Result.andThen]
theorem CM.made (w:World):CM (w.alloc (.map #[] 0)) w.heap.size 0 (fun _=>0):=⟨.map [],World.ownsMap_made w _ _ _,fun k=>rfl⟩
theorem CM.lt (h:CM w b n f):b<w.heap.size:=by obtain ⟨D,h1,_⟩:=h;exact h1.lt
theorem CM.mono {n':Nat} (h:CM w b n f) (hn:n≤n'):CM w b n' f:=by obtain ⟨D,h1,h2⟩:=h;exact ⟨D,h1.mono hn,h2⟩
theorem CM.ext {g:Int→Int} (h:CM w b n f) (e:∀ k,f k=g k):CM w b n g:=by obtain ⟨D,h1,h2⟩:=h;exact ⟨D,h1,fun k=>by rw [h2,e]⟩
theorem CM.jQ (h:CM w b n f) (hk:w'.heap[b]?=w.heap[b]?):CM w' b n f:=by
 obtain ⟨D,⟨es,clock,hb,r⟩,h2⟩:=h
 exact ⟨D,⟨es,clock,hk.trans hb,r⟩,h2⟩
theorem CM.up (h:CM w b n f) (hb:Below w.heap.size w w'):CM w' b n f:=h.jQ (hb.block _ h.lt)
theorem Gf (w:World):(zeroValue 2).run Tryz.prog w=.ok (.int .i64 0) w:=by
 simp [go_sem,zeroValue]
 rfl
theorem CM.look (h:CM w b n f) (h0:-9223372036854775808≤k) (h1:k≤9223372036854775807) :
  (Instr.lookup 116 (.map (some b)) (.int .i64 k) false).run Tryz.prog w=.ok (.int .i64 (f k)) w:=by
 obtain ⟨D,hD,hf⟩:=h
 obtain ⟨c,hr,ha,_⟩:=hD.lookup_int Ee Tryz.underlying116 Tryz.underlying2 (Gf w) (GV h0 h1)
 rw [hf] at ha
 cases ha
 exact hr
theorem CM.add (h:CM w b n f) (hn:n<maxLen) (h0:-9223372036854775808≤k) (h1:k≤9223372036854775807) (h2:-9223372036854775808≤v) (h3:v≤9223372036854775807) :
  ∃ w',(Instr.mapUpdate 116 (.map (some b)) (.int .i64 k) (.int .i64 v)).run Tryz.prog w=.ok () w'∧CM w' b (n+1) (fun x=>if x=k then v else f x)∧w.mapTurned w' b:=by
 obtain ⟨D,hD,hf⟩:=h
 obtain ⟨w',hr,hown,ht⟩:=hD.store Ee Tryz.underlying116 hn (GV h0 h1) (plainElem_int (q:=.i64) (a:=v) Tryz.underlying2 (by simp [Lit.wf,IntKind.min,IntKind.max,IntKind.signed,IntKind.bits];omega))
 refine ⟨w',hr,⟨_,hown,fun x=>?_⟩,ht⟩
 dsimp only
 by_cases e:x=k
 ·
  subst e
  rw [if_pos rfl,Maps.atKey_put_same hD.isMap (by simp [WideAt.IsKeyLit])]
 rw [if_neg e,Maps.atKey_put_other (by simp [e]),hf]
def mX (l:Lng) (c:Nat):Nat→Int:=if c=0 then l.t else l.uz (c-1)
def lV (l:Lng) (c:Nat):Nat:=if c=0 then l.nT else l.uL (c-1)
def Bn (l:Lng) (c:Nat):Option Addr:=if c=0 then l.aT else l.uA (c-1)
def EV (l:Lng) (c:Nat):Nat:=if c=0 then l.cT else l.uC (c-1)
def AK (l:Lng) (x:Int):Nat→Nat
 | 0=>0
 | c+1=>AK l x c+occ (mX l c) x (lV l c)
theorem Bg (l:Lng) (x:Int):∀ c,AK l x (c+1)=occ l.t x l.nT+rC l x c:=by
 intro c
 induction c with
 | zero=>show 0+occ (mX l 0) x (lV l 0)=_;unfold mX lV;simp [rC]
 | succ c ih =>
  show AK l x (c+1)+occ (mX l (c+1)) x (lV l (c+1))=occ l.t x l.nT+(rC l x c+occ (l.uz c) x (l.uL c))
  rw [ih]
  unfold mX lV
  simp
  omega
theorem FL (h:zo w l) (hc:c<l.nU+1):iP w (Bn l c) (lV l c) fun j=>.int .i64 (mX l c j):=by
 unfold Bn lV mX
 by_cases e:c=0
 ·
  simp only [if_pos e];exact h.t
 simp only [if_neg e];exact h.z (c-1) (by omega)
theorem Bm (h:nN m K l) (hc:c<l.nU+1):∃ p,pD (lV l c) (mX l c) p m K:=by
 unfold lV mX
 by_cases e:c=0
 ·
  simp only [if_pos e];exact ⟨_,h.t⟩
 simp only [if_neg e];exact ⟨_,(h.z (c-1) (by have:=h.u;omega)).1⟩
theorem appS {W:World} {base g o n0 c0:Nat} {a0:Option Addr} {A:Nat→Option Addr} {L C:Nat→Nat} (h:iP W (some ⟨g,o,none⟩) n fun i=>.slice (A i) (L i) (C i)) (hn:n≤1000) (hn0:0<n) (hb:base≤W.heap.size) :
  ∃ a' c' W',(Builtin.append_ #[43,43] 43 #[.slice (some ⟨W.heap.size,0,none⟩) 1 1,.slice (some ⟨g,o,none⟩) n c]).run Tryz.prog (W.alloc (.cells #[.slice a0 n0 c0] 27))=.ok (.slice a' (n+1) c') W' ∧
   iP W' a' (n+1) (fun i=>.slice (if i=0 then a0 else A (i-1)) (if i=0 then n0 else L (i-1)) (if i=0 then c0 else C (i-1)))∧(∀ ad,a'=some ad→W.heap.size≤ad.block)∧Below base W W':=by
 obtain ⟨ii,hi,hz0,hz1,hz2⟩:=info_parts wW
 have hA:Below W.heap.size W (W.alloc (.cells #[.slice a0 n0 c0] 27)):=(Below.refl _ _).alloc (Nat.le_refl _) _
 have eA:(W.alloc (.cells #[.slice a0 n0 c0] 27)).heap.size=W.heap.size+1:=by simp
 have hown:(W.alloc (.cells #[.slice a0 n0 c0] 27)).ownsRow W.heap.size 27 1 (.slice (some ⟨W.heap.size,0,none⟩) 1 1) 1 [.slice a0 n0 c0] :=
  ⟨rfl,.inr ⟨W.heap.size,1,#[.slice a0 n0 c0],rfl,Nat.le_refl _,im _ _,Nat.le_refl _,by unfold maxLen;omega,rfl,rfl⟩⟩
 have hadd:∀ j:Nat,(⟨g,o,none⟩:Addr).add j=⟨g,o+j,none⟩:=fun j=>by unfold Addr.add;split <;> simp_all
 have hR:=h.up hA
 obtain ⟨va,W2,hrun,hown3,hgrow,_,hblk⟩:=run_append_own_at (P:=Tryz.prog) (w:=W.alloc (.cells #[.slice a0 n0 c0] 27)) W.heap.size 43 43 27 ii (.slice none 0 0) 1 24 Tryz.underlying43 hi hz0 hz1 hz2 rfl (by decide) (.slice (some ⟨W.heap.size,0,none⟩) 1 1) 1 _ hown ⟨g,o,none⟩ n c ((List.range n).map fun i=>.slice (A i) (L i) (C i)) (by simp) (fun j u hu=>by
  have hj:j<n:=by
   have:=(List.getElem?_eq_some_iff.1 hu).1
   simpa using this
  rw [hadd,ly hR rfl hj]
  simpa [hj] using hu) (by
   intro u hu
   obtain ⟨j,_,rfl⟩:=List.mem_map.1 hu
   rfl) (by unfold maxLen;omega) (by omega) (by omega)
 have hB:Below W.heap.size W W2:=by
  refine ⟨hgrow.os,hgrow.tape,hgrow.output,by have:=hgrow.size;omega,fun k hk=>?_⟩
  exact (hgrow.block k (by omega) (fun e=>by simp [Value.ownBlock] at e;omega)).trans (hA.block k (by omega))
 rcases qE hown3 with ⟨_,e0⟩ | ⟨g',cap,rfl⟩
 ·
  omega
 rw [Nat.add_comm 1 n] at hrun hown3
 refine ⟨_,_,_,hrun,fun i hi=>?_,fun ad e=>?_,hB.mono hb⟩
 ·
  obtain ⟨_,⟨_,e0⟩ | ⟨g2,cap2,cur,e,hg2,hb2,h1,h2,h3,h4⟩⟩:=hown3
  ·
   omega
  cases e
  refine ⟨g',0,rfl,?_⟩
  rw [Nat.zero_add,ie hb2]
  have h5:(cur.toList.take ((n+1)*1))[i]?=([Value.slice a0 n0 c0]++(List.range n).map fun i=>Value.slice (A i) (L i) (C i))[i]?:=by rw [h4]
  rw [List.getElem?_take_of_lt (by omega),Array.getElem?_toList] at h5
  rw [h5]
  rcases i with _ | i
  ·
   rfl
  simp
  have:i<n:=by omega
  simp [this]
 cases e
 obtain ⟨_,⟨_,e0⟩ | ⟨g2,cap2,cur,e,hg2,_⟩⟩:=hown3
 ·
  omega
 cases e
 exact hg2
theorem tK (h:w.mapTurned w' b):Touch [b] w w':=by
 have g:=h.grown
 exact ⟨g.os,g.tape,g.output,g.size,fun k hk hn=>g.block k hk (fun e=>hn (by cases e;simp))⟩
structure RfA (S:Swg) (w:World) (i:Nat) (wr:World):Prop where
 m:CM wr (w.heap.size+1) (3000*i) (fun x=>(lS S.L x i:Int))
 b:Below (w.heap.size+1) (w.alloc (.cells S.cells 34)) wr
structure RfB (S:Swg) (w:World) (i:Nat) (a:Option Addr) (c:Nat) (wr:World):Prop where
 m:CM wr (w.heap.size+1) (3000*i+1000*c) (fun x=>(lS S.L x i:Int)+(AK (S.L i) x c:Int))
 b:Below (w.heap.size+1) (w.alloc (.cells S.cells 34)) wr
 r:iP wr a ((S.L i).nU+1) fun c=>.slice (Bn (S.L i) c) (lV (S.L i) c) (EV (S.L i) c)
 n:∀ ad,a=some ad→w.heap.size+1<ad.block
structure RfC (S:Swg) (w:World) (i:Nat) (a:Option Addr) (c j:Nat) (wr:World):Prop where
 m:CM wr (w.heap.size+1) (3000*i+1000*c+j) (fun x=>(lS S.L x i:Int)+(AK (S.L i) x c:Int)+(occ (mX (S.L i) c) x j:Int))
 b:Below (w.heap.size+1) (w.alloc (.cells S.cells 34)) wr
 r:iP wr a ((S.L i).nU+1) fun c=>.slice (Bn (S.L i) c) (lV (S.L i) c) (EV (S.L i) c)
 n:∀ ad,a=some ad→w.heap.size+1<ad.block
theorem RfC.next {S:Swg} {i:Nat} {a:Option Addr} {j:Nat} {wr:World} (h:RfC S w i a c j wr) (hn:3000*i+1000*c+j<1000000) {q:Int} (hq:mX (S.L i) c j=q) (h0:-9223372036854775808≤q) (h1:q≤9223372036854775807) (hv:v=(lS S.L q i:Int)+(AK (S.L i) q c:Int)+(occ (mX (S.L i) c) q j:Int)) (hv2:v≤1000000) :
  (Instr.lookup 116 (.map (some (w.heap.size+1))) (.int .i64 q) false).run Tryz.prog wr=.ok (.int .i64 v) wr∧∃ W',(Instr.mapUpdate 116 (.map (some (w.heap.size+1))) (.int .i64 q) (.int .i64 (v+1))).run Tryz.prog wr=.ok () W'∧RfC S w i a c (j+1) W':=by
 refine ⟨by rw [hv];exact h.m.look h0 h1,?_⟩
 obtain ⟨W',hr,hm,ht⟩:=h.m.add (k:=q) (v:=v+1) (by unfold maxLen;omega) h0 h1 (by omega) (by omega)
 refine ⟨W',hr,hm.ext (fun x=>?_),?_,h.r.kk (tK ht) (fun ad e=>?_),h.n⟩
 ·
  show (if x=q then v+1 else _)=(lS S.L x i:Int)+(AK (S.L i) x c:Int)+((occ (mX (S.L i) c) x j+if mX (S.L i) c j=x then 1 else 0:Nat):Int)
  rw [hq]
  by_cases e:x=q
  ·
   rw [if_pos e,if_pos e.symm,e,hv]
   omega
  rw [if_neg e,if_neg (fun e2=>e e2.symm)]
  omega
 ·
  exact h.b.trans ((tK ht).below (by have:=upper h.b;omega) (fun x hx=>by simp at hx;omega))
 have:=h.n ad e
 simp
 omega
theorem ES {L:Nat→Lng} (hP:lQ nx p m K) (h:∀ i,i<n→nN m K (L i)) (x:Int):∀ i,i≤n→lS L x i≤3000*i:=by
 intro i
 induction i with
 | zero=>intro _;exact Nat.le_refl _
 | succ i ih =>
  intro hi
  have h1:=ih (by omega)
  have hl:=h i (by omega)
  have h2:=rh (L i).t x (L i).nT
  have h3:=hl.t.le hP
  have h4:=rh ((L i).uz 0) x ((L i).uL 0)
  have h5:=(hl.z 0 (by omega)).1.le hP
  have h6:=rh ((L i).uz 1) x ((L i).uL 1)
  have h7:=(hl.z 1 (by omega)).1.le hP
  have h8:=hP.le
  show lS L x i+(occ (L i).t x (L i).nT+rC (L i) x (L i).nU)≤3000*(i+1)
  rw [hl.u]
  show lS L x i+(occ (L i).t x (L i).nT+(0+occ ((L i).uz 0) x ((L i).uL 0)+occ ((L i).uz 1) x ((L i).uL 1)))≤3000*(i+1)
  omega
theorem ER (hP:lQ nx p m K) (h:nN m K l) (x:Int):∀ c,c≤l.nU+1→AK l x c≤1000*c:=by
 intro c
 induction c with
 | zero=>intro _;exact Nat.le_refl _
 | succ c ih =>
  intro hc
  have h1:=ih (by omega)
  obtain ⟨p',hp⟩:=Bm h (c:=c) (by omega)
  have h2:=hp.le hP
  have h3:=rh (mX l c) x (lV l c)
  have h4:=hP.le
  show AK l x c+occ (mX l c) x (lV l c)≤_
  omega
