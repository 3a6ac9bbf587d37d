import Derived.Test.YthicmlolanifhaaGreatK19
import Derived.Test.YthicmlolanifhaaGreatProg
import Derived.Shelf.LaysM
import Derived.Shelf.Strconv.Clone
namespace Go.Proofs.YthicmlolanifhaaGreat
open Go.RowKit
set_option linter.unusedVariables false
set_option linter.unusedSimpArgs false
theorem dj {p:Prop} (h:p:=by
 obtain ⟨i,hi,hx⟩:=jz.1 hx
 exact OG.type (t:=2) (sz:=1) (h.z i hi) x hx):p:=h
section
variable {P : Program} {ops : Array Oper} {Q : Exit → Act → World → Prop} {md : Region.Mode} {T : World → Prop} {d : Nat}
def lA (P:Program) (md:Region.Mode) (ops:Array Oper) (Q:Exit→Act→World→Prop) (T:World→Prop) (d:Nat):Nat→Array Bool→Act→World→Prop
 | 0,listed,a,w=>Region.ready md ops listed=[]∧Q .normal a w
 | fuel+1,listed,a,w =>
  (Region.ready md ops listed=[]→Q .normal a w) ∧
  ∀ i∈Region.ready md ops listed,wpOp P ops Q i (fun a' w'=>(i=d∨T w')∧lA P md ops Q T d fuel (listed.setIfInBounds i true) a' w') a w
theorem sS:∀ (fuel:Nat) (listed:Array Bool) (a:Act) (w:World),lA P md ops Q T d fuel listed a w→wpAny P md ops Q fuel listed a w
 | 0,_,_,_,h=>h
 | fuel+1,_,_,_,h=>⟨h.1,fun i hi=>wpOp_mono (fun a' w' h'=>sS fuel _ a' w' h'.2) (h.2 i hi)⟩
def kE (md:Region.Mode) (ops:Array Oper) (d i:Nat):Bool:=match ops[d]? with
 | some o=>o.after.any fun e=>Region.binds md e && e.on == i
 | none=>false
theorem tL {i:Nat} (h:kE md ops d i=true):∃ o,ops[d]?=some o∧∃ e∈o.after,Region.binds md e=true∧e.on=i:=by
 unfold kE at h
 cases ho:ops[d]? with
 | none=>rw [ho] at h;cases h
 | some o =>
  rw [ho] at h
  obtain ⟨e,he,h2⟩:=Array.any_eq_true'.1 h
  simp only [Bool.and_eq_true,beq_iff_eq] at h2
  exact ⟨o,rfl,e,he,h2.1,h2.2⟩
theorem rB {i:Nat} {listed:Array Bool} (h:kE md ops d i=true) (hr:i∈Region.ready md ops listed):d∉Region.ready md ops listed:=by
 intro hd
 obtain ⟨o,ho,e,he,hb,hon⟩:=tL h
 obtain ⟨hjun,oj,hoj,hall⟩:=mem_ready.1 hd
 rw [ho] at hoj
 cases hoj
 have h1:=hall e he hb
 have h0:=(mem_ready.1 hr).1
 rw [hon] at h1
 rcases Nat.lt_or_ge i listed.size with h' | h'
 ·
  simp [h'] at h0 h1;rw [h0] at h1;cases h1
 simp [Array.getElem?_eq_none h'] at h1
theorem vk {i:Nat} {oi:Oper} {v:Value} (hi:ops[i]?=some oi) (hsel:∀ (j:Nat) (o:Oper) cs b,ops[j]?=some o→o.op≠.select cs b)
  (hQ:∀ c a w,Q (.panic c) (a.put oi.dst v) w→Q (.panic c) a w) (hd:kE md ops d i=true) :
  ∀ (fuel:Nat) (listed:Array Bool) (a:Act) (w:World),
   (∀ j oj,ops[j]?=some oj→j≠i→listed.getD j true=false→(∀ e∈oj.after,Region.binds md e=true→e.on≠i)→oi.apart ops oj=true) →
   i∈Region.ready md ops listed→YieldsIf P ops T oi v a→T w →
   lA P md ops Q T d fuel (listed.setIfInBounds i true) (a.put oi.dst v) w→lA P md ops Q T d (fuel+1) listed a w:=by
 intro fuel
 induction fuel with
 | zero =>
  intro listed a w _ hr hy hS H
  refine ⟨fun h=>(by rw [h] at hr;cases hr),fun j hj=>?_⟩
  by_cases hji:j=i
  ·
   subst hji;exact hy.wpOp hi hS ⟨.inr hS,H⟩
  have:=ready_mono hj hji
  rw [H.1] at this
  cases this
 | succ fuel ih =>
  intro listed a w hfree hr hy hS H
  refine ⟨fun h=>(by rw [h] at hr;cases hr),fun j hj=>?_⟩
  by_cases hji:j=i
  ·
   subst hji;exact hy.wpOp hi hS ⟨.inr hS,H⟩
  have h1:=H.2 j (ready_mono hj hji)
  have hjd:j≠d:=fun e=>rB hd hr (e▸hj)
  obtain ⟨hjun,oj,hoj,hall⟩:=mem_ready.1 hj
  have hnot:∀ e∈oj.after,Region.binds md e=true→e.on≠i:=fun e he hb heq=>by
   have h1:=hall e he hb
   have h0:=(mem_ready.1 hr).1
   rw [heq] at h1
   rcases Nat.lt_or_ge i listed.size with h' | h'
   ·
    simp [h'] at h0 h1;rw [h0] at h1;cases h1
   simp [Array.getElem?_eq_none h'] at h1
  have h2:=wpOp_putIf hoj (hfree j oj hoj hji hjun hnot) (fun cs b=>hsel i oi cs b hi) (fun cs b=>hsel j oj cs b hoj) hQ hy h1
  have hfree':∀ k ok,ops[k]?=some ok→k≠i→(listed.setIfInBounds j true).getD k true=false →
    (∀ e∈ok.after,Region.binds md e=true→e.on≠i)→oi.apart ops ok=true:=fun k ok hk hki hun hno=>by
   refine hfree k ok hk hki ?_ hno
   by_cases hjk:j=k
   ·
    subst hjk;exact hjun
   rw [getD_set_ne true hjk] at hun;exact hun
  refine wpOp_mono (fun a' w' h3=>?_) h2
  have hT:T w':=h3.2.1.resolve_left hjd
  refine ⟨.inr hT,ih (listed.setIfInBounds j true) a' w' hfree' (ready_mono hr (Ne.symm hji)) h3.1 hT ?_⟩
  rw [Array.setIfInBounds_comm _ _ hji]
  exact h3.2.2
theorem ka {i:Nat} (dd:Option Tmp) {oi:Oper} {v:Value} {fuel:Nat} {listed:Array Bool} {a:Act} {w:World} (hy:∀ w,T w→(execOp a.eval oi).run P w=.ok (.value v) w) (hS:T w)
  (h:lA P md ops Q T d fuel (listed.setIfInBounds i true) (a.put dd v) w) (hi:ops[i]?=some oi:=by rfl) (hd:oi.dst=dd:=by rfl) (hwt:kE md ops d i=true:=by kernel_rfl)
  (hs:Region.noSelect ops=true:=by kernel_rfl) (hf:Region.free md ops listed i=true:=by kernel_rfl) (hr:(Region.ready md ops listed).contains i=true:=by kernel_rfl)
  (hQ:∀ c a w,Q (.panic c) (a.put dd v) w→Q (.panic c) a w:=by exact fun _ _ _ h=>h) (hw:Region.wanted oi (yielded ops a.tmps)=true:=by kernel_rfl):lA P md ops Q T d (fuel+1) listed a w:=by
 subst hd
 exact vk hi (Region.noSelect_spec hs) hQ hwt fuel listed a w (Region.free_spec hi hf) (by simpa using hr) (Or.inl ⟨hw,hy⟩) hS h
theorem tE (i k:Nat) {oi:Oper} {v:Value} {fuel:Nat} {listed:Array Bool} {a a':Act} {w:World} (hS:T w)
  (h:lA P md ops Q T d fuel (listed.setIfInBounds i true) a' w) (hi:ops[i]?=some oi:=by rfl) (hd:oi.dst=some k:=by rfl)
  (hy:∀ w,T w→(execOp a.eval oi).run P w=.ok (.value v) w:=by intro wx hSw;go_simp;try with_reducible rfl)
  (ha:a.put (some k) v=a':=by (try simp only [Act.put,PZ]);try exact rfl) (hwt:kE md ops d i=true:=by kernel_rfl)
  (hs:Region.noSelect ops=true:=by kernel_rfl) (hf:Region.free md ops listed i=true:=by kernel_rfl) (hr:(Region.ready md ops listed).contains i=true:=by kernel_rfl)
  (hQ:∀ c a w,Q (.panic c) (a.put (some k) v) w→Q (.panic c) a w:=by exact fun _ _ _ h=>h) (hw:Region.wanted oi (yielded ops a.tmps)=true:=by kernel_rfl):lA P md ops Q T d (fuel+1) listed a w :=
 ka (some k) hy hS (by rw [ha];exact h) hi hd hwt hs hf hr hQ hw
def gR (P:Program) (md:Region.Mode) (ops:Array Oper) (Q:Exit→Act→World→Prop) (T:World→Prop) (d fuel:Nat) (listed:Array Bool) (a:Act) (w:World) (rs:List Nat):Prop :=
 ∀ i∈rs,wpOp P ops Q i (fun a' w'=>(i=d∨T w')∧lA P md ops Q T d fuel (listed.setIfInBounds i true) a' w') a w
theorem gR.nil {fuel:Nat} {listed:Array Bool} {a:Act} {w:World}:gR P md ops Q T d fuel listed a w []:=fun _ h=>by cases h
theorem gR.cons {fuel:Nat} {listed:Array Bool} {a:Act} {w:World} {i:Nat} {o:Oper} {rs:List Nat} (ho:ops[i]?=some o)
  (h:∀ K':Act→World→Prop,Shut (∀ a w,T w→lA P md ops Q T d fuel (listed.setIfInBounds i true) a w→K' a w)→if Region.wanted o (yielded ops a.tmps)=true then Oper.wp P o a w K' Q else K' (a.put o.dst undef) w)
  (hs:gR P md ops Q T d fuel listed a w rs):gR P md ops Q T d fuel listed a w (i :: rs):=fun j hj=>by
 rcases List.mem_cons.1 hj with rfl | hj
 ·
  exact wpOp_step ho (fun K' hK=>h K' (fun a w hS hW=>hK a w ⟨.inr hS,hW⟩))
 exact hs j hj
theorem gR.last {fuel:Nat} {listed:Array Bool} {a:Act} {w:World} {o:Oper} (ho:ops[d]?=some o)
  (h:∀ K':Act→World→Prop,Shut (∀ a w,lA P md ops Q T d fuel (listed.setIfInBounds d true) a w→K' a w)→if Region.wanted o (yielded ops a.tmps)=true then Oper.wp P o a w K' Q else K' (a.put o.dst undef) w):gR P md ops Q T d fuel listed a w [d]:=fun j hj=>by
 obtain rfl:=List.mem_singleton.1 hj
 exact wpOp_step ho (fun K' hK=>h K' (fun a w hW=>hK a w ⟨.inl rfl,hW⟩))
theorem gT {rs:List Nat} {fuel:Nat} {listed:Array Bool} {a:Act} {w:World} (hr:Region.ready md ops listed=rs) (hne:rs≠[])
  (h:gR P md ops Q T d fuel listed a w rs):lA P md ops Q T d (fuel+1) listed a w :=
 ⟨fun h0=>absurd (hr▸h0) hne,hr▸h⟩
theorem iH {listed:Array Bool} {a:Act} {w:World} (hr:Region.ready md ops listed=[]) (h:Q .normal a w) :
  ∀ fuel,lA P md ops Q T d fuel listed a w
 | 0=>⟨hr,h⟩
 | _+1=>⟨fun _=>h,by rw [hr];simp⟩
theorem iV {id:Nat} {a:Act} {w:World} (T:World→Prop) (d:Nat) (hm:P.follows .mixedOrders=true)
  (h:lA P .any ops Q T d ops.size (Array.replicate ops.size false) a w.drew):(Code.region id ops true).wp P Q a w :=
 wp_region_any hm (sS _ _ _ _ h)
end
theorem jP {o:Oper} {a:Act} {K:Act→World→Prop} {Q:Exit→Act→World→Prop} {w:World} {c:Prop} [Decidable c] {E:Prop} (hc:c) (dd:Option Tmp) (hd:o.dst=dd) (ty:TypeId) (x y:Operand) (ho:o.op=.store ty x y) (g off:Nat) (hx:a.eval x=.pointer (some ⟨g,off,none⟩))
  (v:Value) (hy:a.eval y=v) (n:Nat) (hn:v.cells.size=n) (t:TypeId) (cur:Array Value) (hg:w.heap[g]?=some (.cells cur t (0,0))) (hi:(Tryz.prog.info? ty).map (·.size)=some n) (hf:off+n≤cur.size) (h1:v.cells.all (·.oneCell')=true)
  (h:∀ W,Put w W g (lay cur off v.cells) t→K (a.put dd undef) W):if c then o.wp Tryz.prog a w K Q else E:=by
 subst hd
 subst hn
 rw [if_pos hc]
 unfold Oper.wp execOp
 simp only [ho,hx,hy,Instr.storeAt,Instr.sureAddr,Sem.run_bind,Sem.run_pure,Result.andThen_ok,nz w g off t ty cur v hg hi hf h1]
 exact h _ (tb hg _)
theorem k9 {o:Oper} {a:Act} {K:Act→World→Prop} {Q:Exit→Act→World→Prop} {W W':World} {c:Prop} [Decidable c] {E:Prop} (hc:c) (dd:Option Tmp) (hd:o.dst=dd) (s x:Operand) (t:TypeId) (vs vx v:Value)
  (ho:o.op=.call { callee:=.builtin .append,args:=#[s,x],argTypes:=#[t,t] }) (hty:o.type=t) (hs:a.eval s=vs) (hx:a.eval x=vx)
  (hr:(Builtin.append_ #[t,t] t #[vs,vx]).run Tryz.prog W=.ok v W') (h:K (a.put dd v) W'):if c then o.wp Tryz.prog a W K Q else E:=by
 subst hd
 exact tK hc s x t vs vx v ho hty hs hx hr h
theorem kI {fn:Func} {i:Tmp} {ty:TypeId} (h:fn.results=#[.cell i ty]) (n:Nat) (d:TypeDesc) (hu:Tryz.prog.underlying ty=some d) (hd:d.isRow=true) (hn:(Tryz.prog.info? ty).map (·.size)=some n) (tmps:Array Value) (w:World) (g:Nat) (cs:Array Value) (hi:tmps[i]?.getD undef=.pointer (some ⟨g,0,none⟩)) (t:TypeId) (hk:w.heap[g]?=some (.cells cs t (0,0))) (hs:cs.size=n) :
  (results fn tmps).run Tryz.prog w=.ok (.agg cs) w:=by
 have:=run_loadVar_mid (P:=Tryz.prog) w g 0 ty cs.toList d (fun j v hv=>by
  rw [Nat.zero_add,gM hk,←Array.getElem?_toList];exact hv) hu hd (by rw [hn,Array.length_toList,hs])
 rw [Array.toArray_toList] at this
 simp [results,h,hi,asAddr,this]
structure j5 (w:World) (A B C:Array Value) (tA tB:TypeId) (W:World):Prop where
 a:W.heap[w.heap.size]?=some (.cells A tA (0,0))
 b:W.heap[w.heap.size+1]?=some (.cells B tB (0,0))
 c:W.heap[w.heap.size+1+1]?=some (.cells C tB (0,0))
 bel:Below w.heap.size w W
 sz:w.heap.size+1+1+1≤W.heap.size
theorem j5.start (w:World) (A B C:Array Value) (tA tB:TypeId):j5 w A B C tA tB (((w.alloc (.cells A tA)).alloc (.cells B tB)).alloc (.cells C tB)):=by
 obtain ⟨h1,h2,h3,h4,h5⟩:=re (w:=w) (A:=.cells A tA) (B:=.cells B tB) (C:=.cells C tB) (Below.refl _ _)
 exact ⟨h1,h2,h3,h4,h5⟩
theorem j5.up {w W W':World} {A B C:Array Value} {tA tB:TypeId} (h:j5 w A B C tA tB W) (hb:Below W.heap.size W W'):j5 w A B C tA tB W' :=
 ⟨(hb.block _ (gO h.a)).trans h.a,(hb.block _ (gO h.b)).trans h.b,(hb.block _ (gO h.c)).trans h.c,h.bel.trans (hb.mono h.bel.size),Nat.le_trans h.sz hb.size⟩
theorem j5.put {w W W':World} {A B C C':Array Value} {tA tB:TypeId} (h:j5 w A B C tA tB W) (hp:Put W W' (w.heap.size+1+1) C' tB):j5 w A B C' tA tB W' :=
 ⟨(hp.to.block _ (gO h.a) (by simp;omega)).trans h.a,(hp.to.block _ (gO h.b) (by simp)).trans h.b,hp.blk,h.bel.trans (hp.to.below h.bel.size (fun x hx=>by simp at hx;omega)),by rw [hp.size];exact h.sz⟩
theorem j5.out {w W W':World} {A B C B':Array Value} {tA tB:TypeId} (h:j5 w A B C tA tB W) (hp:Put W W' (w.heap.size+1) B' tB):j5 w A B' C tA tB W' :=
 ⟨(hp.to.block _ (gO h.a) (by simp)).trans h.a,hp.blk,(hp.to.block _ (gO h.c) (by simp)).trans h.c,h.bel.trans (hp.to.below h.bel.size (fun x hx=>by simp at hx;omega)),by rw [hp.size];exact h.sz⟩
theorem uN:(Tryz.prog.info? 50).map (·.size)=some 8:=by kernel_rfl
theorem jR:(Tryz.prog.info? 48).map (·.size)=some 8:=by kernel_rfl
theorem mm:(Tryz.prog.info? 43).map (·.size)=some 5:=by kernel_rfl
theorem tq:(Tryz.prog.info? 2).map (·.size)=some 1:=by kernel_rfl
theorem Pkt.lx (x:Pkt):x.cells.all (·.oneCell')=true:=by simp [Pkt.cells,Value.oneCell']
theorem Lng.lx (l:Lng):l.cells.all (·.oneCell')=true:=by simp [Lng.cells,Value.oneCell']
theorem AL:(Tryz.prog.info? 44).map (·.size)=some 1:=by kernel_rfl
theorem AF:(Tryz.prog.info? 46).map (·.size)=some 5:=by kernel_rfl
def OG (t:TypeId) (sz:Nat) (w:World) (base:Nat) (a:Option Addr) (n c:Nat) (xs:List Value):Prop:=w.ownsRow base t sz (.slice a n c) n xs
section
variable {t : TypeId} {sz : Nat} {w w' : World} {base base' : Nat} {a : Option Addr} {n c : Nat} {xs : List Value} {S : List Nat}
theorem OG.cap (h:OG t sz w base a n c xs):n≤c:=by
 rcases h.2 with ⟨e,h0⟩ | ⟨g,cap,cur,e,_,_,h9,_⟩
 ·
  omega
 cases e
 exact h9
theorem OG.up (h:OG t sz w base a n c xs) (hb:Below w.heap.size w w'):OG t sz w' base a n c xs:=by
 refine ⟨h.1,h.2.imp id ?_⟩
 rintro ⟨g,cap,cur,e,hg,hbk,hr⟩
 exact ⟨g,cap,cur,e,hg,(hb.block g (gO hbk)).trans hbk,hr⟩
theorem OG.mono (h:OG t sz w base a n c xs) (hb:base'≤base):OG t sz w base' a n c xs:=by
 refine ⟨h.1,h.2.imp id ?_⟩
 rintro ⟨g,cap,cur,e,hg,hr⟩
 exact ⟨g,cap,cur,e,by omega,hr⟩
theorem OG.blk (h:OG t sz w base a n c xs):∀ x∈ix a,base≤x∧x<w.heap.size:=by
 intro x hx
 rcases h.2 with ⟨e,_⟩ | ⟨g,cap,cur,e,hg,hbk,_⟩
 ·
  cases e
  simp [ix] at hx
 cases e
 simp [ix] at hx
 subst hx
 exact ⟨hg,gO hbk⟩
theorem OG.type (h:OG t sz w base a n c xs):∀ x∈ix a,∃ cs,w.heap[x]?=some (.cells cs t (0,0)):=by
 intro x hx
 rcases h.2 with ⟨e,_⟩ | ⟨g,cap,cur,e,hg,hbk,_⟩
 ·
  cases e
  simp [ix] at hx
 cases e
 simp [ix] at hx
 subst hx
 exact ⟨cur,hbk⟩
theorem OG.gX (h:OG t sz w base a n c xs) (ht:Touch S w w') (hp:∀ x∈ix a,x∉S):OG t sz w' base a n c xs:=by
 refine ⟨h.1,?_⟩
 rcases h.2 with h2 | ⟨g,cap,cur,e,hg,hbk,hr⟩
 ·
  exact .inl h2
 cases e
 exact .inr ⟨g,c,cur,rfl,hg,(ht.block g (gO hbk) (hp g (by simp [ix]))).trans hbk,hr⟩
theorem OG.low (h:OG t sz w base a n c xs) (ht:Touch S w w') (hS:∀ x∈S,x<base):OG t sz w' base a n c xs :=
 h.gX ht (fun x hx hy=>by have:=(h.blk x hx).1;have:=hS x hy;omega)
theorem OG.lF (h:OG t sz w base a n c xs) {g:Nat} {cs:Array Value} {t':TypeId} (hne:t≠t') (hg:w.heap[g]?=some (.cells cs t' (0,0))):g∉ix a:=by
 intro hx
 obtain ⟨cs',h1⟩:=h.type g hx
 rw [hg] at h1
 simp at h1
 exact hne h1.2.symm
theorem OG.vg {f:Nat→Value} (h:OG t sz w base a n c xs) (hf:∀ i,i<n*sz→xs[i]?=some (f i)):VG t w base a (n*sz) f:=by
 rcases h.2 with ⟨e,h0⟩ | ⟨g,cap,cur,e,hg,hbk,hn,hm,hs,ht⟩
 ·
  exact .inl (by rw [h0];simp)
 cases e
 refine .inr ⟨g,0,rfl,hg,cur,hbk,?_,fun i hi=>?_⟩
 ·
  rw [hs,Nat.zero_add]
  exact Nat.mul_le_mul_right _ hn
 rw [Nat.zero_add,←Array.getElem?_toList,←List.getElem?_take_of_lt hi,ht]
 exact hf i hi
theorem OG.vt {f:Nat→Value} (h:OG t sz w base a n c xs) (hf:∀ i,i<n*sz→xs[i]?=some (f i)):VT t w base a (n*sz) f:=by
 rcases h.2 with ⟨e,h0⟩ | ⟨g,cap,cur,e,hg,hbk,hn,hm,hs,ht⟩
 ·
  exact .inl (by rw [h0];simp)
 cases e
 refine .inr ⟨g,rfl,hg,cur,hbk,?_,fun i hi=>?_⟩
 ·
  rw [hs]
  exact Nat.mul_le_mul_right _ hn
 rw [←Array.getElem?_toList,←List.getElem?_take_of_lt hi,ht]
 exact hf i hi
end
theorem OG.apart {t t':TypeId} {sz sz':Nat} {w:World} {base base':Nat} {a a':Option Addr} {n n' c c':Nat} {xs xs':List Value} (h:OG t sz w base a n c xs) (k:OG t' sz' w base' a' n' c' xs') (hne:t≠t'):∀ x∈ix a,x∉ix a':=by
 intro x hx hy
 obtain ⟨cs,h1⟩:=h.type x hx
 obtain ⟨cs',h2⟩:=k.type x hy
 rw [h1] at h2
 simp at h2
 exact hne h2.2
theorem OG.nil (t:TypeId) (sz:Nat) (w:World) (base:Nat):OG t sz w base none 0 0 []:=World.ownsRow_nil _ _ _ _
theorem xw (n:Nat) (f:Nat→Int) (i:Nat) (h:i<n):(kr n f)[i]?=some (.int .i64 (f i)):=by
 unfold kr
 rw [List.getElem?_map,List.getElem?_range h]
 rfl
theorem OI.vgI {w:World} {base:Nat} {a:Option Addr} {n c:Nat} {f:Nat→Int} (h:OI w base a n c f):VG 2 w base a n fun i=>.int .i64 (f i):=by
 have h2:OG 2 1 w base a n c (kr n f):=h
 have:=h2.vg (f:=fun i=>.int .i64 (f i)) (fun i hi=>xw n f i (by omega))
 rwa [Nat.mul_one] at this
theorem OI.gX {w w':World} {base:Nat} {a:Option Addr} {n c:Nat} {f:Nat→Int} {S:List Nat} (h:OI w base a n c f) (ht:Touch S w w') (hp:∀ x∈ix a,x∉S):OI w' base a n c f:=OG.gX (t:=2) (sz:=1) h ht hp
theorem Touch.rv {w w':World} {v:Value} {a:Option Addr} {n c:Nat} (h:w.grownBy w' (Value.slice a n c).ownBlock):Touch (ix a) w w' :=
 ⟨h.os,h.tape,h.output,h.size,fun k hk hn=>h.block k hk (fun e=>hn (by
  cases a with
  | none=>simp [Value.ownBlock] at e
  | some x=>simp [Value.ownBlock] at e;simp [ix,e]))⟩
theorem lI {w:World} {base:Nat} {a:Option Addr} {n c:Nat} {xs:List Value} (t e:TypeId) (z:Value) (sz bytes:Nat) (hinfo:(Tryz.prog.info? e).map (fun i=>(i.zero,i.size,i.bytes))=some (some z,sz,bytes)) (hu:Tryz.prog.underlying t=some (.slice e)) (hz:z.cells.size=sz) (hsz:0<sz) (hby:bytes≤1000)
  (h:OG e sz w base a n c xs) (hl:n≤1048576) (hb:base≤w.heap.size) (cs:Array Value) (hcs:cs.size=sz) (h1:cs.all (·.oneCell')=true) :
  ∃ g c' W,(Builtin.append_ #[t,t] t #[.slice a n c,.slice (some ⟨w.heap.size,0,none⟩) 1 1]).run Tryz.prog (w.alloc (.cells cs e))=.ok (.slice (some ⟨g,0,none⟩) (n+1) c') W∧OG e sz W base (some ⟨g,0,none⟩) (n+1) c' (xs++cs.toList)∧Touch (ix a) w W∧(g∈ix a∨w.heap.size≤g):=by
 obtain ⟨i0,hi,hz0,hz1,hz2⟩:=info_parts hinfo
 have hA:Below w.heap.size w (w.alloc (.cells cs e)):=(Below.refl _ _).alloc (Nat.le_refl _) _
 have hnew:=gM (gV w (.cells cs e))
 have hbb:(n+1)*bytes≤140737488355328:=by
  have:=Nat.mul_le_mul (show n+1≤1048577 by omega) hby
  omega
 obtain ⟨v',W,hr,h2,h3,h4,h5⟩:=run_append_own_at (P:=Tryz.prog) (w.alloc (.cells cs e)) base t t e i0 z sz bytes hu hi hz0 hz1 hz2 hz hsz (.slice a n c) n xs (h.up hA) ⟨w.heap.size,0,none⟩ 1 1 cs.toList (by rw [Array.length_toList,hcs,Nat.one_mul]) (fun j u hj=>by
  have e0:(⟨w.heap.size,0,none⟩:Addr).add j=⟨w.heap.size,j,none⟩:=by unfold Addr.add;split <;> simp_all
  rw [e0,hnew j,←Array.getElem?_toList]
  exact hj) (fun u hu=>(Array.all_eq_true_iff_forall_mem.1 h1) u (by simpa using hu)) (by unfold maxLen;omega) hbb (by simp;omega)
 rcases h2.2 with ⟨_,h0⟩ | ⟨g,cap,cur,rfl,_⟩
 ·
  omega
 refine ⟨g,cap,W,hr,h2,Touch.rv (v:=.slice a n c) ((World.grownBy_alloc w _ _).trans h3),?_⟩
 rcases h5 with h5 | h5
 ·
  left
  cases a with
  | none=>simp [Value.ownBlock] at h5
  | some x=>simp [Value.ownBlock] at h5;simp [ix,h5]
 right
 simp only [Value.ownBlock,Option.some.injEq] at h5
 rw [h5];simp
def qG (n:Nat) (A:Nat→Option Addr) (L C:Nat→Nat):List Value:=(List.range n).map fun i=>.slice (A i) (L i) (C i)
theorem zO (n:Nat) (A:Nat→Option Addr) (L C:Nat→Nat):qG (n+1) A L C=qG n A L C++[.slice (A n) (L n) (C n)]:=by simp [qG,List.range_succ]
theorem BP {n:Nat} {A A':Nat→Option Addr} {L L' C C':Nat→Nat} (h:∀ i,i<n→A i=A' i∧L i=L' i∧C i=C' i):qG n A L C=qG n A' L' C':=by
 unfold qG
 refine List.map_congr_left fun i hi=>?_
 obtain ⟨h1,h2,h3⟩:=h i (List.mem_range.1 hi)
 rw [h1,h2,h3]
theorem pg (n:Nat) (A:Nat→Option Addr) (L C:Nat→Nat) (i:Nat) (h:i<n):(qG n A L C)[i]?=some (.slice (A i) (L i) (C i)):=by
 unfold qG
 rw [List.getElem?_map,List.getElem?_range h]
 rfl
theorem lj (a:Option Addr):(ix a).Nodup:=by cases a <;> simp [ix]
theorem qh (a:Option Addr) (n:Nat):(jd a n).Nodup:=by
 unfold jd
 split
 ·
  exact List.nodup_nil
 cases a <;> simp
theorem mf (a:Option Addr) (n:Nat):List.Sublist (iU a n) (ix a):=by
 unfold iU
 split
 ·
  exact List.nil_sublist _
 exact List.Sublist.refl _
theorem mx {f:Nat→List Nat}:∀ n,(∀ i,i<n→(f i).Nodup)→(∀ i j,i<n→j<n→i≠j→∀ x∈f i,x∉f j)→((List.range n).flatMap f).Nodup:=by
 intro n
 induction n with
 | zero=>intro _ _;simp
 | succ n ih =>
  intro h1 h2
  rw [List.range_succ,List.flatMap_append]
  simp only [List.flatMap_cons,List.flatMap_nil,List.append_nil]
  refine List.nodup_append.2 ⟨ih (fun i hi=>h1 i (by omega)) (fun i j hi hj=>h2 i j (by omega) (by omega)),h1 n (by omega),fun x hx y hy e=>?_⟩
  subst e
  simp only [List.mem_flatMap,List.mem_range] at hx
  obtain ⟨i,hi,hx⟩:=hx
  exact h2 i n (by omega) (by omega) (by omega) x hx hy
def flO (n:Nat) (A:Nat→Option Addr):List Nat:=(List.range n).flatMap fun i=>ix (A i)
theorem jz {n:Nat} {A:Nat→Option Addr} {x:Nat}:x∈flO n A↔∃ i,i<n∧x∈ix (A i):=by
 unfold flO
 simp
def Rnd.jO (R:Rnd):List Nat:=jd R.aQ R.nQ++(jd R.aD R.nD++flO R.nS R.A)
theorem jw.nd {w:World} {base:Nat} {R:Rnd} (h:jw w base R):R.jO.Nodup:=by
 refine List.nodup_append.2 ⟨qh _ _,List.nodup_append.2 ⟨qh _ _,mx _ (fun i _=>lj _) h.zz,fun x hx y hy e=>?_⟩,fun x hx y hy e=>?_⟩
 ·
  subst e
  obtain ⟨i,hi,hy⟩:=jz.1 hy
  exact h.dz i hi x hx hy
 subst e
 rcases List.mem_append.1 hy with hy | hy
 ·
  exact h.own.qd x hx hy
 obtain ⟨i,hi,hy⟩:=jz.1 hy
 exact h.qz i hi x hx hy
theorem jw.blk {w:World} {base:Nat} {R:Rnd} (h:jw w base R):∀ x∈R.jO,base≤x∧x<w.heap.size:=by
 intro x hx
 rcases List.mem_append.1 hx with hx | hx
 ·
  exact h.own.q.blk x hx
 rcases List.mem_append.1 hx with hx | hx
 ·
  exact h.own.d.blk x hx
 obtain ⟨i,hi,hx⟩:=jz.1 hx
 exact (h.z i hi).blk x hx
def Lng.jO (l:Lng):List Nat:=(ix l.aT++l.R.jO)++flO l.nU l.uA
structure iw (w:World) (base:Nat) (l:Lng):Prop where
 t:OI w base l.aT l.nT l.cT l.t
 u:OG 27 1 w base l.aU l.nU l.cU (qG l.nU l.uA l.uL l.uC)
 z:∀ i,i<l.nU→OI w base (l.uA i) (l.uL i) (l.uC i) (l.uz i)
 r:jw w base l.R
 nd:l.jO.Nodup
 su:∀ x∈jd l.R.aS l.R.nS,x∉ix l.aU
theorem iw.g {w:World} {base:Nat} {l:Lng} (h:iw w base l):jH w base l:=by
 refine ⟨h.t.vgI,?_,fun i hi=>(h.z i hi).vgI,h.r.own.q.g,h.r.own.d.g,h.r.own.s.g,fun i hi=>(h.r.z i hi).vgI,?_⟩
 ·
  have:=h.u.vg (f:=fun i=>.slice (l.uA i) (l.uL i) (l.uC i)) (fun i hi=>pg _ _ _ _ i (by omega))
  rwa [Nat.mul_one] at this
 have hp:l.mn.Perm ((iU l.aT l.nT++(iU l.R.aQ l.R.nQ++(iU l.R.aD l.R.nD++qS l.R.nS l.R.A l.R.L)))++qS l.nU l.uA l.uL):=by
  unfold Lng.mn
  rw [List.append_assoc]
  exact List.Perm.append_left _ List.perm_append_comm
 refine hp.nodup_iff.2 (List.Sublist.nodup ?_ h.nd)
 have hs:∀ (n:Nat) (A:Nat→Option Addr) (L:Nat→Nat),List.Sublist (qS n A L) (flO n A):=by
  intro n A L
  unfold qS flO
  induction n with
  | zero=>exact List.Sublist.refl _
  | succ n ih =>
   rw [List.range_succ,List.flatMap_append,List.flatMap_append]
   refine ih.append ?_
   simp only [List.flatMap_cons,List.flatMap_nil,List.append_nil]
   exact mf _ _
 exact ((mf _ _).append ((List.Sublist.refl _).append ((List.Sublist.refl _).append (hs _ _ _)))).append (hs _ _ _)
theorem iw.blk {w:World} {base:Nat} {l:Lng} (h:iw w base l):∀ x∈l.jO,base≤x∧x<w.heap.size:=by
 intro x hx
 unfold Lng.jO at hx
 simp only [List.mem_append] at hx
 rcases hx with (hx | hx) | hx
 ·
  exact h.t.blk x hx
 ·
  exact h.r.blk x hx
 obtain ⟨i,hi,hx⟩:=jz.1 hx
 exact (h.z i hi).blk x hx
theorem jw.upZ {w w':World} {base:Nat} {R:Rnd} (h:jw w base R) (hb:Below w.heap.size w w'):jw w' base R :=
 ⟨⟨h.own.q.up hb,h.own.d.up hb,h.own.s.up hb,fun i hi=>(h.own.z i hi).up hb,h.own.qd,h.own.qz,h.own.dz,h.own.zz⟩,fun i hi=>(h.z i hi).up hb,h.qz,h.dz,h.zz⟩
theorem jw.uw {w:World} {base base':Nat} {R:Rnd} (h:jw w base R) (hb:base'≤base):jw w base' R :=
 ⟨⟨h.own.q.mono hb,h.own.d.mono hb,h.own.s.mono hb,fun i hi=>(h.own.z i hi).mono hb,h.own.qd,h.own.qz,h.own.dz,h.own.zz⟩,fun i hi=>(h.z i hi).mono hb,h.qz,h.dz,h.zz⟩
theorem VS.gX {w w':World} {base:Nat} {a:Option Addr} {n:Nat} {f:Nat→Value} {S:List Nat} (h:VS w base a n f) (ht:Touch S w w') (hp:∀ x∈jd a n,x∉S):VS w' base a n f:=by
 rcases h with h | ⟨g,rfl,hg,hr⟩
 ·
  exact .inl h
 by_cases h0:n=0
 ·
  exact .inl h0
 exact .inr ⟨g,rfl,hg,hr.jB (ht.block g hr.lt (hp g (nc h0)))⟩
theorem VS.qS {w:World} {base:Nat} {a:Option Addr} {n:Nat} {f:Nat→Value} (h:VS w base a n f):∀ x∈jd a n,(base≤x∧x<w.heap.size)∧∃ cs,w.heap[x]?=some (.cells cs 27 (0,0)):=by
 intro x hx
 unfold jd at hx
 split at hx
 ·
  simp at hx
 rcases h with h | ⟨g,rfl,hg,hr⟩
 ·
  contradiction
 simp at hx
 subst hx
 obtain ⟨cs,hc,_⟩:=hr
 exact ⟨⟨hg,gO hc⟩,cs,hc⟩
theorem jw.sW {w w':World} {base:Nat} {R:Rnd} {S:List Nat} (h:jw w base R) (ht:Touch S w w') (h1:∀ x∈R.jO,x∉S) (h2:∀ x∈jd R.aS R.nS,x∉S):jw w' base R:=by
 have hq:∀ x∈jd R.aQ R.nQ,x∉S:=fun x hx=>h1 x (List.mem_append_left _ hx)
 have hd:∀ x∈jd R.aD R.nD,x∉S:=fun x hx=>h1 x (List.mem_append_right _ (List.mem_append_left _ hx))
 have hz:∀ i,i<R.nS→∀ x∈ix (R.A i),x∉S:=fun i hi x hx=>h1 x (List.mem_append_right _ (List.mem_append_right _ (jz.2 ⟨i,hi,hx⟩)))
 exact ⟨⟨h.own.q.gX ht hq,h.own.d.gX ht hd,h.own.s.gX ht h2,fun i hi=>(h.own.z i hi).gX ht (fun x hx=>hz i hi x (j0 hx)),h.own.qd,h.own.qz,h.own.dz,h.own.zz⟩,fun i hi=>(h.z i hi).gX ht (hz i hi),h.qz,h.dz,h.zz⟩
theorem iw.up {w w':World} {base:Nat} {l:Lng} (h:iw w base l) (hb:Below w.heap.size w w'):iw w' base l:=⟨h.t.up hb,h.u.up hb,fun i hi=>(h.z i hi).up hb,h.r.upZ hb,h.nd,h.su⟩
theorem iw.mono {w:World} {base base':Nat} {l:Lng} (h:iw w base l) (hb:base'≤base):iw w base' l:=⟨h.t.mono hb,h.u.mono hb,fun i hi=>(h.z i hi).mono hb,h.r.uw hb,h.nd,h.su⟩
theorem iw.jm {w w':World} {base:Nat} {l:Lng} {S:List Nat} (h:iw w base l) (ht:Touch S w w') (h1:∀ x∈l.jO,x∉S) (h2:∀ x∈ix l.aU,x∉S) (h3:∀ x∈jd l.R.aS l.R.nS,x∉S):iw w' base l:=by
 have k1:∀ x∈ix l.aT,x∉S:=fun x hx=>h1 x (List.mem_append_left _ (List.mem_append_left _ hx))
 have k2:∀ x∈l.R.jO,x∉S:=fun x hx=>h1 x (List.mem_append_left _ (List.mem_append_right _ hx))
 have k3:∀ i,i<l.nU→∀ x∈ix (l.uA i),x∉S:=fun i hi x hx=>h1 x (List.mem_append_right _ (jz.2 ⟨i,hi,hx⟩))
 exact ⟨h.t.gX ht k1,h.u.gX ht h2,fun i hi=>(h.z i hi).gX ht (k3 i hi),h.r.sW ht k2 h3,h.nd,h.su⟩
theorem jw.type2 {w:World} {base:Nat} {R:Rnd} (h:jw w base R):∀ x∈R.jO,∃ cs,w.heap[x]?=some (.cells cs 2 (0,0)):=by
 intro x hx
 rcases List.mem_append.1 hx with hx | hx
 ·
  exact h.own.q.g.type x hx
 rcases List.mem_append.1 hx with hx | hx
 ·
  exact h.own.d.g.type x hx
 exact dj
theorem iw.type2 {w:World} {base:Nat} {l:Lng} (h:iw w base l):∀ x∈l.jO,∃ cs,w.heap[x]?=some (.cells cs 2 (0,0)):=by
 intro x hx
 unfold Lng.jO at hx
 simp only [List.mem_append] at hx
 rcases hx with (hx | hx) | hx
 ·
  exact OG.type (t:=2) (sz:=1) h.t x hx
 ·
  exact h.r.type2 x hx
 exact dj
theorem iw.box {w w':World} {base g:Nat} {l:Lng} {cs:Array Value} {t:TypeId} (h:iw w base l) (hg:w.heap[g]?=some (.cells cs t (0,0))) (ht2:t≠2) (hts:t≠27) (ht:Touch [g] w w'):iw w' base l:=by
 refine h.jm ht (fun x hx hy=>?_) (fun x hx hy=>?_) (fun x hx hy=>?_)
 ·
  obtain ⟨cs',h1⟩:=h.type2 x hx
  rw [List.mem_singleton.1 hy,hg] at h1
  simp at h1
  exact ht2 h1.2
 ·
  obtain ⟨cs',h1⟩:=h.u.type x hx
  rw [List.mem_singleton.1 hy,hg] at h1
  simp at h1
  exact hts h1.2
 obtain ⟨_,cs',h1⟩:=h.r.own.s.qS x hx
 rw [List.mem_singleton.1 hy,hg] at h1
 simp at h1
 exact hts h1.2
theorem jb {f g:Nat→List Nat}:∀ {k:Nat},(∀ i,i<k→f i=g i)→(List.range k).flatMap f=(List.range k).flatMap g:=by
 intro k h
 induction k with
 | zero=>rfl
 | succ k ih =>
  rw [List.range_succ,List.flatMap_append,List.flatMap_append,ih (fun i hi=>h i (by omega))]
  simp only [List.flatMap_cons,List.flatMap_nil,List.append_nil]
  rw [h k (by omega)]
def Lng.more (l:Lng) (k:Nat) (aU:Option Addr) (cU:Nat) (a:Option Addr) (c:Nat):Lng:={ l with aU:=aU,nU:=k+1,cU:=cU,uA:=fun i=>if i=k then a else l.uA i,uC:=fun i=>if i=k then c else l.uC i }
theorem iw.more {V V1 W:World} {base k g c2 c:Nat} {l:Lng} {a:Option Addr} (h:iw V base l) (hk:l.nU=k) (hb:Below V.heap.size V V1) (hbase:base≤V.heap.size) (ho:OI V1 V.heap.size a (l.uL k) c (l.uz k))
  (hu:OG 27 1 W base (some ⟨g,0,none⟩) (k+1) c2 (qG k l.uA l.uL l.uC++[.slice a (l.uL k) c])) (ht:Touch (ix l.aU) V1 W) (hg:g∈ix l.aU∨V1.heap.size≤g):iw W base (l.more k (some ⟨g,0,none⟩) c2 a c):=by
 subst hk
 have h1:=h.up hb
 have q1:∀ x∈l.jO,x∉ix l.aU:=fun x hx hy=>by
  obtain ⟨cs,e1⟩:=h.type2 x hx
  obtain ⟨cs',e2⟩:=h.u.type x hy
  rw [e1] at e2
  simp at e2
 have k1:∀ x∈ix l.aT,x∉ix l.aU:=fun x hx=>q1 x (List.mem_append_left _ (List.mem_append_left _ hx))
 have k2:∀ x∈l.R.jO,x∉ix l.aU:=fun x hx=>q1 x (List.mem_append_left _ (List.mem_append_right _ hx))
 have k3:∀ i,i<l.nU→∀ x∈ix (l.uA i),x∉ix l.aU:=fun i hi x hx=>q1 x (List.mem_append_right _ (jz.2 ⟨i,hi,hx⟩))
 refine ⟨h1.t.gX ht k1,?_,fun i hi=>?_,h1.r.sW ht k2 h.su,?_,fun x hx hy=>?_⟩
 ·
  have e:qG (l.nU+1) (fun i=>if i=l.nU then a else l.uA i) l.uL (fun i=>if i=l.nU then c else l.uC i)=qG l.nU l.uA l.uL l.uC++[.slice a (l.uL l.nU) c]:=by
   rw [zO,BP (n:=l.nU) (A:=fun i=>if i=l.nU then a else l.uA i) (L:=l.uL) (C:=fun i=>if i=l.nU then c else l.uC i) (A':=l.uA) (L':=l.uL) (C':=l.uC) (fun i hi=>⟨if_neg (by omega),rfl,if_neg (by omega)⟩),if_pos rfl,if_pos rfl]
  rw [←e] at hu
  exact hu
 ·
  show OI W base (if i=l.nU then a else l.uA i) (l.uL i) (if i=l.nU then c else l.uC i) (l.uz i)
  by_cases e:i=l.nU
  ·
   rw [if_pos e,if_pos e,e]
   refine OI.mono (ho.gX ht (fun x hx hy=>?_)) hbase
   have:=(ho.blk x hx).1
   have:=(h.u.blk x hy).2
   omega
  rw [if_neg e,if_neg e]
  have hi':i<l.nU:=by have:i<l.nU+1:=hi;omega
  exact (h1.z i hi').gX ht (k3 i hi')
 ·
  show ((ix l.aT++l.R.jO)++(List.range (l.nU+1)).flatMap fun i=>ix (if i=l.nU then a else l.uA i)).Nodup
  rw [List.range_succ,List.flatMap_append]
  simp only [List.flatMap_cons,List.flatMap_nil,List.append_nil,if_true]
  rw [jb (f:=fun i=>ix (if i=l.nU then a else l.uA i)) (g:=fun i=>ix (l.uA i)) (fun i hi=>by rw [if_neg (by omega)]),←List.append_assoc]
  refine pw h.nd (lj _) V.heap.size (fun x hx=>(h.blk x hx).2) (fun x hx=>(ho.blk x hx).1)
 have hx1:=(h.r.own.s.qS x hx).1.2
 have hy':x=g:=by simpa [Lng.more,ix] using hy
 rcases hg with hg | hg
 ·
  exact h.su x hx (hy'▸hg)
 have:=hb.size
 omega
open Go.Shelf
def vU:Go.Shelf.Ren:=⟨fun | 316=>122 | n=>n,fun | 9=>9 | 3=>3 | 4=>4 | 37=>22 | 0=>0 | 127=>187 | 5=>5 | n=>n,fun | n=>n⟩
theorem Co:Go.Proofs.LaysM.n316 Tryz.prog vU:={
 mixed:=by kernel_rfl
 f316:=Tryz.func122.trans (congrArg some (by kernel_rfl))
 t0:=Tryz.underlying0
 a0:=Tryz.isAgg0
 z0:=Tryz.sizeOf0
 v0:=Tryz.zeroValue0
 t3:=Tryz.underlying3
 a3:=Tryz.isAgg3
 z3:=Tryz.sizeOf3
 v3:=Tryz.zeroValue3
 t4:=Tryz.underlying4
 a4:=Tryz.isAgg4
 z4:=Tryz.sizeOf4
 v4:=Tryz.zeroValue4
 t9:=Tryz.underlying9
 a9:=Tryz.isAgg9
 z9:=Tryz.sizeOf9
 v9:=Tryz.zeroValue9
 t37:=Tryz.underlying22
 a37:=Tryz.isAgg22
 z37:=Tryz.sizeOf22
 v37:=Tryz.zeroValue22
 t127:=Tryz.underlying187
 a127:=Tryz.isAgg187
 z127:=Tryz.sizeOf187
 v127:=Tryz.zeroValue187
 t5:=Tryz.underlying5
 a5:=Tryz.isAgg5
 z5:=Tryz.sizeOf5
 v5:=Tryz.zeroValue5
 i0:=by kernel_rfl
 i3:=by kernel_rfl
 i4:=by kernel_rfl
 i5:=by kernel_rfl
 i9:=by kernel_rfl
 i37:=by kernel_rfl
 i127:=by kernel_rfl }
open Go.RowKit in
theorem Eg (s:ByteArray) (w:World) (hlim:s.size≤281474976710656) :
  Calls Tryz.prog 122 #[.string s] w fun e w'=>e=.returned (.string s)∧Below w.heap.size w w':=Go.Proofs.Any.stringslite_Clone Co s w hlim
theorem zl (s:ByteArray) (w:World) (hlim:s.size≤1048576) :
  Calls Tryz.prog 90 #[.string s] w fun e w'=>e=.returned (.string s)∧Below w.heap.size w w':=by
 go_enter Tryz.func90,Tryz.ntmps90
 go_wp2_with fail
 refine (Eg s _ (by omega)).mono ?_
 rintro e w1 ⟨rfl,hb⟩
 go_wp2_with fail
 go_ret
 exact ⟨rfl,hb⟩
theorem u0 (k d s p:Int) (b:ByteArray) (w:World) (hlim:b.size≤1048576) :
  Calls Tryz.prog 56 #[.agg #[.int .i64 k,.int .i64 d,.int .i64 s,.int .i64 p,.string b]] w fun e w'=>e=.returned (.agg #[.int .i64 k,.int .i64 d,.int .i64 s,.int .i64 p,.string b])∧Below w.heap.size w w':=by
 go_enter Tryz.func56,Tryz.ntmps56
 go_wp2_with fail
 refine (zl b _ hlim).mono ?_
 rintro e w1 ⟨rfl,hb⟩
 have HX:Hid (j5 w #[.int .i64 k,.int .i64 d,.int .i64 s,.int .i64 p,.string b] #[.int .i64 0,.int .i64 0,.int .i64 0,.int .i64 0,.string ⟨#[]⟩] #[.int .i64 k,.int .i64 d,.int .i64 s,.int .i64 p,.string b] 43 43 w1):=(j5.start w #[.int .i64 k,.int .i64 d,.int .i64 s,.int .i64 p,.string b] #[.int .i64 0,.int .i64 0,.int .i64 0,.int .i64 0,.string ⟨#[]⟩] #[.int .i64 k,.int .i64 d,.int .i64 s,.int .i64 p,.string b] 43 43).up hb
 clear hb
 have HC:Hid (w1.heap[w.heap.size+1+1]?=some (.cells #[.int .i64 k,.int .i64 d,.int .i64 s,.int .i64 p,.string b] 43 (0,0))):=HX.out.c
 go_wp2_with (refine gW rfl 9 (.tmp 8) (.tmp 7) rfl (w.heap.size+1+1) 4 rfl (.string b) rfl 1 rfl 43 _ HC.out (by kernel_rfl) (Nat.le_of_ble_eq_true rfl) (by simp [Value.cells,Value.oneCell']) ?_)
 intro w2 hP
 replace hP:Put w1 w2 (w.heap.size+1+1) #[.int .i64 k,.int .i64 d,.int .i64 s,.int .i64 p,.string b] 43:=hP.cast rfl
 replace HX:Hid (j5 w #[.int .i64 k,.int .i64 d,.int .i64 s,.int .i64 p,.string b] #[.int .i64 0,.int .i64 0,.int .i64 0,.int .i64 0,.string ⟨#[]⟩] #[.int .i64 k,.int .i64 d,.int .i64 s,.int .i64 p,.string b] 43 43 w2):=HX.out.put hP
 clear hP HC
 have HL:Hid (∀ j,j<5→w2.cell? ⟨w.heap.size+1+1,0+j,none⟩=(#[.int .i64 k,.int .i64 d,.int .i64 s,.int .i64 p,.string b]:Array Value)[j]?):=fun j _=>by rw [Nat.zero_add];exact gM HX.out.c j
 have HD:Hid (w2.heap[w.heap.size+1]?=some (.cells #[.int .i64 0,.int .i64 0,.int .i64 0,.int .i64 0,.string ⟨#[]⟩] 43 (0,0))):=HX.out.b
 go_wp2_with (first | refine gY rfl 43 5 _ Tryz.underlying43 rfl mm (.tmp 3) rfl (w.heap.size+1+1) 0 rfl #[.int .i64 k,.int .i64 d,.int .i64 s,.int .i64 p,.string b] rfl HL.out ?_ | refine gW rfl 43 (.tmp 2) (.tmp 9) rfl (w.heap.size+1) 0 rfl (.agg #[.int .i64 k,.int .i64 d,.int .i64 s,.int .i64 p,.string b]) rfl 5 rfl 43 _ HD.out mm (Nat.le_of_ble_eq_true rfl) (by simp [Value.cells,Value.oneCell']) ?_)
 intro w3 hP
 replace hP:Put w2 w3 (w.heap.size+1) #[.int .i64 k,.int .i64 d,.int .i64 s,.int .i64 p,.string b] 43:=hP.cast rfl
 have HK:Hid (w3.heap[w.heap.size+1]?=some (.cells #[.int .i64 k,.int .i64 d,.int .i64 s,.int .i64 p,.string b] 43 (0,0))):=hP.blk
 have HB:Hid (Below w.heap.size w w3):=(HX.out.out hP).bel
 clear hP HL HD
 go_wp2_with fail
 exact bodyPost_ret (kI Tryz.results56 5 _ Tryz.underlying43 rfl mm _ _ (w.heap.size+1) #[.int .i64 k,.int .i64 d,.int .i64 s,.int .i64 p,.string b] rfl 43 HK.out rfl) rfl ⟨rfl,HB.out⟩
theorem xx:(Tryz.prog.info? 50).map (fun i=>(i.zero,i.size,i.bytes))=some (some (.agg #[.int .i64 0,.int .i64 0,.int .i64 0,.int .i64 0,.int .i64 0,.int .i64 0,.int .i64 0,.string ⟨#[]⟩]),8,72):=by kernel_rfl
theorem AK:(Tryz.prog.info? 48).map (fun i=>(i.zero,i.size,i.bytes))=some (some (.agg #[.bool false,.slice none 0 0,.slice none 0 0,.slice none 0 0,.slice none 0 0,.int .i64 0,.bool false,.slice none 0 0]),8,144):=by kernel_rfl
theorem ij:(Tryz.prog.info? 34).map (·.size)=some 17:=by kernel_rfl
theorem CZ:(Tryz.prog.info? 30).map (·.size)=some 3:=by kernel_rfl
theorem wa:(Tryz.prog.info? 26).map (·.size)=some 1:=by kernel_rfl
theorem CX:(Tryz.prog.info? 31).map (·.size)=some 1:=by kernel_rfl
theorem yf:(Tryz.prog.info? 32).map (·.size)=some 1:=by kernel_rfl
theorem Swg.lx (S:Swg):S.cells.all (·.oneCell')=true:=by simp [Swg.cells,Value.oneCell']
end Go.Proofs.YthicmlolanifhaaGreat
