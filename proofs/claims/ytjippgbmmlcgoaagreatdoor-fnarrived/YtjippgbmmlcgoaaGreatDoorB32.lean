import Derived.Test.YtjippgbmmlcgoaaGreatDoorB28
import Derived.LaidEql
import Derived.RowKitTokens
import Derived.Stop.Asserts
namespace Go.Proofs.YtjippgbmmlcgoaaGreatDoor
set_option maxRecDepth 1000000
set_option maxHeartbeats 9000000
open Go.RowKit
set_option linter.unusedVariables false
set_option linter.unusedSimpArgs false
variable {a a':Act} {aD aF aL:Addr} {listed:Array Bool} {cl id:Int} {rs:List Nat} {l:Lng} {base fuel i:Nat} {o oi:Oper} {p:Prop} {v:Value} {w w':World}
theorem fi (h:p:=by
 refine iF (rs:=[17]) (by kernel_rfl) (by simp) ?_
 refine iz.last rfl (fun K hK=>?_)
 refine jn (by kernel_rfl) none rfl 45 (.tmp 67) (.tmp 64) rfl g (o+3) rfl (.agg R5.cells) rfl 5 rfl 47 _ hT5.1 sL (by omega) (by simp [Value.cells,Value.oneCell',Rnd.cells]) ?_
 intro X6 hP
 exact ft):p:=h
theorem fj (h:p:=by
 go_wp2_with fail
 refine (Bw g a _ H1).mono ?_
 rintro e w' ⟨rfl,rfl⟩
 go_wp2_with fail
 exact fu):p:=h
theorem fm (h:p:=by
 go_enter Tryz.func52,Tryz.ntmps52
 go_wp2
 refine wp_loop_rounds 2 ?_
 rw [rounds_succ]
 go_wp2
 rw [rounds_succ]
 go_wp2
 exact fu):p:=h
theorem fq (h:p:=by
 rintro e w' ⟨rfl,rfl⟩
 go_wp2_with fail
 refine bodyPost_ret (results_none rfl _ _ _) rfl ?_
 exact ⟨⟨_,rfl⟩,HB⟩):p:=h
theorem ft (h:p:=by
 refine ah (hK _ _) ?_
 clear hK K
 refine nh (by kernel_rfl) ?_ _
 exact Fu):p:=h
theorem fu (h:p:=by
 go_ret
 exact ⟨rfl,rfl⟩):p:=h
section
variable {P : Program} {ops : Array Oper} {Q : Exit → Act → World → Prop} {md : Region.Mode} {T : World → Prop} {d : Nat}
def lJ (P:Program) (md:Region.Mode) (ops:Array Oper) (Q:Exit→Act→World→Prop) (T:World→Prop) (d:Nat):Nat→Array Bool→Act→World→Prop
 | 0,listed,a,w=>Region.ready md ops listed=[]∧Q .normal a w
 | fuel+1,listed,a,w =>
  (Region.ready md ops listed=[]→Q .normal a w) ∧
  ∀ i∈Region.ready md ops listed,wpOp P ops Q i (fun a' w'=>(i=d∨listed[d]?=some true∨T w')∧lJ P md ops Q T d fuel (listed.setIfInBounds i true) a' w') a w
theorem tH:∀ (fuel:Nat) (listed:Array Bool) (a:Act) (w:World),lJ P md ops Q T d fuel listed a w→wpAny P md ops Q fuel listed a w
 | 0,_,_,_,h=>h
 | fuel+1,_,_,_,h=>⟨h.1,fun i hi=>wpOp_mono (fun a' w' h'=>tH fuel _ a' w' h'.2) (h.2 i hi)⟩
theorem vS (hi:ops[i]?=some oi) (hsel:∀ (j:Nat) (o:Oper) cs b,ops[j]?=some o→o.op≠.select cs b)
  (hQ:∀ c a w,Q (.panic c) (a.put oi.dst v) w→Q (.panic c) a w) (hd:lg md ops d i=true) :
  ∀ (fuel:Nat) (listed:Array Bool) (a:Act) (w:World),
   (∀ j oj,ops[j]?=some oj→j≠i→listed.getD j true=false→(∀ e∈oj.after,Region.binds md e=true→e.on≠i)→oi.apart ops oj=true) →
   listed[d]?≠some true→i∈Region.ready md ops listed→YieldsIf P ops T oi v a→T w →
   lJ P md ops Q T d fuel (listed.setIfInBounds i true) (a.put oi.dst v) w→lJ P md ops Q T d (fuel+1) listed a w:=by
 intro fuel
 induction fuel with
 | zero =>
  intro listed a w _ hdu hr hy hS H
  refine ⟨fun h=>(by rw [h] at hr;cases hr),fun j hj=>?_⟩
  by_cases hji:j=i
  ·
   subst hji;exact hy.wpOp hi hS ⟨.inr (.inr hS),H⟩
  have:=ready_mono hj hji
  rw [H.1] at this
  cases this
 | succ fuel ih =>
  intro listed a w hfree hdu hr hy hS H
  have hid:i≠d:=fun e=>so hd hr (e▸hr)
  refine ⟨fun h=>(by rw [h] at hr;cases hr),fun j hj=>?_⟩
  by_cases hji:j=i
  ·
   subst hji;exact hy.wpOp hi hS ⟨.inr (.inr hS),H⟩
  have h1:=H.2 j (ready_mono hj hji)
  have hjd:j≠d:=fun e=>so hd hr (e▸hj)
  obtain ⟨hjun,oj,hoj,hall⟩:=mem_ready.1 hj
  have hnot:∀ e∈oj.after,Region.binds md e=true→e.on≠i:=fun e he hb heq=>by
   have h1:=hall e he hb
   have h0:=(mem_ready.1 hr).1
   rw [heq] at h1
   rcases Nat.lt_or_ge i listed.size with h' | h'
   ·
    simp [h'] at h0 h1;rw [h0] at h1;cases h1
   simp [Array.getElem?_eq_none h'] at h1
  have h2:=wpOp_putIf hoj (hfree j oj hoj hji hjun hnot) (fun cs b=>hsel i oi cs b hi) (fun cs b=>hsel j oj cs b hoj) hQ hy h1
  have hfree':∀ k ok,ops[k]?=some ok→k≠i→(listed.setIfInBounds j true).getD k true=false →
    (∀ e∈ok.after,Region.binds md e=true→e.on≠i)→oi.apart ops ok=true:=fun k ok hk hki hun hno=>by
   refine hfree k ok hk hki ?_ hno
   by_cases hjk:j=k
   ·
    subst hjk;exact hjun
   rw [getD_set_ne true hjk] at hun;exact hun
  refine wpOp_mono (fun a' w' h3=>?_) h2
  have hT:T w':=by
   rcases h3.2.1 with e | e | e
   ·
    exact absurd e hjd
   ·
    rw [Array.getElem?_setIfInBounds_ne hid] at e
    exact absurd e hdu
   exact e
  have hdu':(listed.setIfInBounds j true)[d]?≠some true:=by rw [Array.getElem?_setIfInBounds_ne hjd];exact hdu
  refine ⟨.inr (.inr hT),ih (listed.setIfInBounds j true) a' w' hfree' hdu' (ready_mono hr (Ne.symm hji)) h3.1 hT ?_⟩
  rw [Array.setIfInBounds_comm _ _ hji]
  exact h3.2.2
theorem tc (dd:Option Tmp) (hy:∀ w,T w→(execOp a.eval oi).run P w=.ok (.value v) w) (hS:T w)
  (h:lJ P md ops Q T d fuel (listed.setIfInBounds i true) (a.put dd v) w) (hi:ops[i]?=some oi:=by rfl) (hd:oi.dst=dd:=by rfl) (hwt:lg md ops d i=true:=by kernel_rfl)
  (hs:Region.noSelect ops=true:=by kernel_rfl) (hf:Region.free md ops listed i=true:=by kernel_rfl) (hr:(Region.ready md ops listed).contains i=true:=by kernel_rfl)
  (hQ:∀ c a w,Q (.panic c) (a.put dd v) w→Q (.panic c) a w:=by exact fun _ _ _ h=>h) (hdu:(listed[d]? == some true)=false:=by kernel_rfl) (hw:Region.wanted oi (yielded ops a.tmps)=true:=by kernel_rfl):lJ P md ops Q T d (fuel+1) listed a w:=by
 subst hd
 exact vS hi (Region.noSelect_spec hs) hQ hwt fuel listed a w (Region.free_spec hi hf) (fun e=>by rw [e] at hdu;simp at hdu) (by simpa using hr) (Or.inl ⟨hw,hy⟩) hS h
theorem tG (i k:Nat) (hS:T w)
  (h:lJ P md ops Q T d fuel (listed.setIfInBounds i true) a' w) (hi:ops[i]?=some oi:=by rfl) (hd:oi.dst=some k:=by rfl)
  (hy:∀ w,T w→(execOp a.eval oi).run P w=.ok (.value v) w:=by intro wx hSw;go_simp;try with_reducible rfl)
  (ha:a.put (some k) v=a':=by (try simp only [Act.put,PZ]);try exact rfl) (hwt:lg md ops d i=true:=by kernel_rfl)
  (hs:Region.noSelect ops=true:=by kernel_rfl) (hf:Region.free md ops listed i=true:=by kernel_rfl) (hr:(Region.ready md ops listed).contains i=true:=by kernel_rfl)
  (hQ:∀ c a w,Q (.panic c) (a.put (some k) v) w→Q (.panic c) a w:=by exact fun _ _ _ h=>h) (hdu:(listed[d]? == some true)=false:=by kernel_rfl) (hw:Region.wanted oi (yielded ops a.tmps)=true:=by kernel_rfl):lJ P md ops Q T d (fuel+1) listed a w :=
 tc (some k) hy hS (by rw [ha];exact h) hi hd hwt hs hf hr hQ hdu hw
def iz (P:Program) (md:Region.Mode) (ops:Array Oper) (Q:Exit→Act→World→Prop) (T:World→Prop) (d fuel:Nat) (listed:Array Bool) (a:Act) (w:World) (rs:List Nat):Prop :=
 ∀ i∈rs,wpOp P ops Q i (fun a' w'=>(i=d∨listed[d]?=some true∨T w')∧lJ P md ops Q T d fuel (listed.setIfInBounds i true) a' w') a w
theorem iz.nil:iz P md ops Q T d fuel listed a w []:=fun _ h=>by cases h
theorem iz.cons (ho:ops[i]?=some o)
  (h:∀ K':Act→World→Prop,Shut (∀ a w,T w→lJ P md ops Q T d fuel (listed.setIfInBounds i true) a w→K' a w)→if Region.wanted o (yielded ops a.tmps)=true then Oper.wp P o a w K' Q else K' (a.put o.dst undef) w)
  (hs:iz P md ops Q T d fuel listed a w rs):iz P md ops Q T d fuel listed a w (i :: rs):=fun j hj=>by
 rcases List.mem_cons.1 hj with rfl | hj
 ·
  exact wpOp_step ho (fun K' hK=>h K' (fun a w hS hW=>hK a w ⟨.inr (.inr hS),hW⟩))
 exact hs j hj
theorem iz.last (ho:ops[d]?=some o)
  (h:∀ K':Act→World→Prop,Shut (∀ a w,lJ P md ops Q T d fuel (listed.setIfInBounds d true) a w→K' a w)→if Region.wanted o (yielded ops a.tmps)=true then Oper.wp P o a w K' Q else K' (a.put o.dst undef) w):iz P md ops Q T d fuel listed a w [d]:=fun j hj=>by
 obtain rfl:=List.mem_singleton.1 hj
 exact wpOp_step ho (fun K' hK=>h K' (fun a w hW=>hK a w ⟨.inl rfl,hW⟩))
theorem iz.late (ho:ops[i]?=some o) (hl:listed[d]?=some true)
  (h:∀ K':Act→World→Prop,Shut (∀ a w,lJ P md ops Q T d fuel (listed.setIfInBounds i true) a w→K' a w)→if Region.wanted o (yielded ops a.tmps)=true then Oper.wp P o a w K' Q else K' (a.put o.dst undef) w):iz P md ops Q T d fuel listed a w [i]:=fun j hj=>by
 obtain rfl:=List.mem_singleton.1 hj
 exact wpOp_step ho (fun K' hK=>h K' (fun a w hW=>hK a w ⟨.inr (.inl hl),hW⟩))
theorem iF (hr:Region.ready md ops listed=rs) (hne:rs≠[])
  (h:iz P md ops Q T d fuel listed a w rs):lJ P md ops Q T d (fuel+1) listed a w :=
 ⟨fun h0=>absurd (hr▸h0) hne,hr▸h⟩
theorem nh (hr:Region.ready md ops listed=[]) (h:Q .normal a w) :
  ∀ fuel,lJ P md ops Q T d fuel listed a w
 | 0=>⟨hr,h⟩
 | _+1=>⟨fun _=>h,by rw [hr];simp⟩
theorem ng {id:Nat} (T:World→Prop) (d:Nat) (hm:P.follows .mixedOrders=true)
  (h:lJ P .any ops Q T d ops.size (Array.replicate ops.size false) a w.drew):(Code.region id ops true).wp P Q a w :=
 wp_region_any hm (tH _ _ _ _ h)
end
section
variable {P : Program} {ops : Array Oper} {Q : Exit → Act → World → Prop} {md : Region.Mode} {T : World → Prop} {d : Nat}
theorem tEX (i k:Nat) (hS:T w)
  (h:lX P md ops Q T d fuel (listed.setIfInBounds i true) a' w) (hi:ops[i]?=some oi:=by rfl) (hd:oi.dst=some k:=by rfl)
  (hy:∀ w,T w→(execOp a.eval oi).run P w=.ok (.value v) w:=by intro wx hSw;have hCw:=Hcs wx hSw;(repeat (have hL:=And.left hCw;replace hCw:=And.right hCw));go_simp;try with_reducible rfl)
  (ha:a.put (some k) v=a':=by (try simp only [Act.put,PZ]);try exact rfl) (hwt:lg md ops d i=true:=by kernel_rfl)
  (hs:Region.noSelect ops=true:=by kernel_rfl) (hf:Region.free md ops listed i=true:=by kernel_rfl) (hr:(Region.ready md ops listed).contains i=true:=by kernel_rfl)
  (hQ:∀ c a w,Q (.panic c) (a.put (some k) v) w→Q (.panic c) a w:=by exact fun _ _ _ h=>h) (hw:Region.wanted oi (yielded ops a.tmps)=true:=by kernel_rfl):lX P md ops Q T d (fuel+1) listed a w :=
 kE (some k) hy hS (by rw [ha];exact h) hi hd hwt hs hf hr hQ hw
theorem tGX (i k:Nat) (hS:T w)
  (h:lJ P md ops Q T d fuel (listed.setIfInBounds i true) a' w) (hi:ops[i]?=some oi:=by rfl) (hd:oi.dst=some k:=by rfl)
  (hy:∀ w,T w→(execOp a.eval oi).run P w=.ok (.value v) w:=by intro wx hSw;have hCw:=Hcs wx hSw;(repeat (have hL:=And.left hCw;replace hCw:=And.right hCw));go_simp;try with_reducible rfl)
  (ha:a.put (some k) v=a':=by (try simp only [Act.put,PZ]);try exact rfl) (hwt:lg md ops d i=true:=by kernel_rfl)
  (hs:Region.noSelect ops=true:=by kernel_rfl) (hf:Region.free md ops listed i=true:=by kernel_rfl) (hr:(Region.ready md ops listed).contains i=true:=by kernel_rfl)
  (hQ:∀ c a w,Q (.panic c) (a.put (some k) v) w→Q (.panic c) a w:=by exact fun _ _ _ h=>h) (hdu:(listed[d]? == some true)=false:=by kernel_rfl) (hw:Region.wanted oi (yielded ops a.tmps)=true:=by kernel_rfl):lJ P md ops Q T d (fuel+1) listed a w :=
 tc (some k) hy hS (by rw [ha];exact h) hi hd hwt hs hf hr hQ hdu hw
end
def Pkt.more (y:Pkt):Pkt:={ y with refs:=y.refs+1 }
theorem GS (l:Lng) (id:Int) (a:Option Addr) (c:Nat):lay l.cells 1 #[.slice a (l.nT+1) c]=(l.nV id a c).cells:=by simp [lay,Lng.cells,Lng.nV]
theorem GU (l:Lng) (X:Rnd):lay l.cells 3 X.cells=({ l with R:=X }:Lng).cells:=by simp [lay,Lng.cells,Rnd.cells]
theorem yY:(Tryz.prog.info? 27).map (·.size)=some 1:=by kernel_rfl
theorem sL:(Tryz.prog.info? 45).map (·.size)=some 5:=by kernel_rfl
theorem Fc {y:Pkt} (h:y.nR):qo y.k y.d y.s y.p y.b.size=y.cl:=by
 unfold qo Pkt.cl
 rw [if_pos h.2]
theorem yG {p:Int} (h:p=2) (a:Option Addr) (c:Nat):iO (l.wait p id cl) (l.nV id a c):=by
 unfold Lng.wait
 rw [if_pos h]
 exact ⟨rfl,rfl,rfl,rfl,rfl,rfl,Alike.refl _⟩
theorem yH {p:Int} {k:Nat} (h:p=(k:Int)) (h2:p≠2) (a:Option Addr) (c:Nat) {R:Rnd} (hR:Alike (l.R.push k cl none 0) R):iO (l.wait p id cl) { l.lK k id a c with R:=R }:=by
 unfold Lng.wait
 rw [if_neg h2,h,Int.toNat_natCast]
 exact ⟨rfl,rfl,rfl,rfl,rfl,rfl,hR⟩
theorem ux (l:Lng) (y:Pkt) (g o gp base:Nat) (cur:Array Value) (w:World) (hf:o+8≤cur.size) (kL:w.heap[g]?=some (.cells (lay cur o l.cells) 47 (0,0))) (kP:w.heap[gp]?=some (.cells y.cells 51 (0,0))) (hp:y.p=2) (hr:0≤y.refs∧y.refs≤1000) (ho:iK w base l) (hb:base≤w.heap.size) (hn:l.nT≤1048576) :
  Calls Tryz.prog 118 #[.pointer (some ⟨g,o,none⟩),.pointer (some ⟨gp,0,none⟩)] w fun e w'=>(∃ v,e=.returned v)∧w'.heap[gp]?=some (.cells y.more.cells 51 (0,0))∧∃ l2,iO (l.wait y.p y.id y.cl) l2∧Es w w' base g gp o cur l l2:=by
 have hne:g≠gp:=iT kL kP (by decide)
 have c2:w.cell? ⟨gp,2,none⟩=some (.int .i64 y.refs):=ie kP 2
 have hw1:IntKind.i64.wrap (y.refs+1)=y.refs+1:=jS _ (by omega) (by omega)
 have HP:=aa kP
 have HL:=aa kL
 have HO:=aa ho
 clear kL kP ho
 go_enter Tryz.func118,Tryz.ntmps118
 go_wp2_with (refine iq rfl 2 (.tmp 11) (.tmp 9) rfl gp 2 rfl (.int .i64 (y.refs+1)) rfl 1 rfl 51 _ HP po (Nat.le_of_ble_eq_true rfl) (by simp [Value.cells,Value.oneCell']) ?_)
 intro X0 hP
 replace hP:Put w X0 gp y.more.cells 51:=hP.cast rfl
 have c6:X0.cell? ⟨gp,6,none⟩=some (.int .i64 2):=by rw [←hp];exact ie hP.blk 6
 have HX:Hid (X0.heap[g]?=some (.cells (lay cur o l.cells) 47 (0,0))∧X0.heap[gp]?=some (.cells y.more.cells 51 (0,0))∧iK X0 base l∧Touch [gp] w X0∧X0.heap.size=w.heap.size) :=
  ⟨(hP.to.block g (ig HL.out) (by simpa using hne)).trans HL.out,hP.blk,HO.box HP (by decide) (by decide) hP.to,hP.to,hP.size⟩
 clear hP c2 hw1 HL HO HP
 go_wp2_with fail
 clear c6
 refine jc (fun w'=>w'.heap[g]?=some (.cells (lay cur o l.cells) 47 (0,0))∧w'.heap[gp]?=some (.cells y.more.cells 51 (0,0))) 13 (by kernel_rfl) ?_
 have hd:Below X0.heap.size X0 X0.drew:=(Below.refl _ _).drew
 replace HX:Hid (X0.drew.heap[g]?=some (.cells (lay cur o l.cells) 47 (0,0))∧X0.drew.heap[gp]?=some (.cells y.more.cells 51 (0,0))∧iK X0.drew base l∧Touch [gp] w X0.drew∧X0.drew.heap.size=w.heap.size) :=
  ⟨(hd.block _ (ig HX.1)).trans HX.1,(hd.block _ (ig HX.2.1)).trans HX.2.1,HX.2.2.1.up hd,HX.2.2.2.1.trans (Touch.jq hd),HX.2.2.2.2⟩
 clear hd
 generalize X0.drew=V at *
 have Hcs:Hid (∀ wx:World,wx.heap[g]?=some (.cells (lay cur o l.cells) 47 (0,0))∧wx.heap[gp]?=some (.cells y.more.cells 51 (0,0))→wx.cell? ⟨g,o+1,none⟩=some (.slice l.aT l.nT l.cT)∧wx.cell? ⟨gp,0,none⟩=some (.int .i64 y.id)) :=
  fun wx h=>⟨(ie h.1 _).trans (lv (cs:=l.cells) hf 1 (by show 1<8;omega)),ie h.2 0⟩
 have hT0:=And.intro HX.1 HX.2.1
 refine tE 0 19 hT0 ?_
 refine tE 1 20 hT0 ?_
 refine tE 2 21 hT0 ?_
 refine tE 3 22 hT0 ?_
 refine tEX 4 23 hT0 ?_
 refine tE 5 24 hT0 ?_
 refine tE 6 25 hT0 ?_
 refine tE 7 26 hT0 ?_
 refine tEX 8 27 hT0 ?_
 obtain ⟨g1,c1,X2,hr1,hoi,ht,hg⟩:=vL HX.2.2.1.t hn (by rw [HX.2.2.2.2];exact hb) y.id
 have hT1:(V.alloc (.cells #[.int .i64 y.id] 2)).heap[g]?=some (.cells (lay cur o l.cells) 47 (0,0))∧(V.alloc (.cells #[.int .i64 y.id] 2)).heap[gp]?=some (.cells y.more.cells 51 (0,0)):=⟨(iH _ (ig hT0.1)).trans hT0.1,(iH _ (ig hT0.2)).trans hT0.2⟩
 have hT2:X2.heap[g]?=some (.cells (lay cur o l.cells) 47 (0,0))∧X2.heap[gp]?=some (.cells y.more.cells 51 (0,0)):=⟨(ht.block g (ig hT0.1) (OG.lM (t:=2) (sz:=1) HX.2.2.1.t (by decide) hT0.1)).trans hT0.1,(ht.block gp (ig hT0.2) (OG.lM (t:=2) (sz:=1) HX.2.2.1.t (by decide) hT0.2)).trans hT0.2⟩
 have HA:Hid (OI X2 base (some ⟨g1,0,none⟩) (l.nT+1) c1 (jM l.nT y.id l.t)∧Touch (iI l.aT) V X2∧(g1∈iI l.aT∨V.heap.size≤g1)):=⟨hoi,ht,hg⟩
 have HR1:=aa hr1
 clear hoi ht hg hr1
 refine il (rs:=[9]) (by kernel_rfl) (by simp) ?_
 refine ij.cons rfl (fun K hK=>?_) ij.nil
 go_simp
 refine hK _ _ hT1 ?_
 clear hK K
 try simp only [Act.put,PZ]
 clear hT1
 refine il (rs:=[10]) (by kernel_rfl) (by simp) ?_
 refine ij.cons rfl (fun K hK=>?_) ij.nil
 refine kg (by kernel_rfl) (some 29) rfl (.tmp 23) (.tmp 28) 27 _ _ _ rfl rfl rfl rfl HR1.out ?_
 refine hK _ _ hT2 ?_
 clear hK K
 try simp only [Act.put,PZ]
 clear HR1 hT0
 refine il (rs:=[11]) (by kernel_rfl) (by simp) ?_
 refine ij.cons rfl (fun K hK=>?_) ij.nil
 go_simp
 refine hK _ _ hT2 ?_
 clear hK K
 try simp only [Act.put,PZ]
 refine tE 12 31 hT2 ?_
 refine il (rs:=[13]) (by kernel_rfl) (by simp) ?_
 refine ij.last rfl (fun K hK=>?_)
 have hz:(lay cur o l.cells).size=cur.size:=kp (cs:=l.cells) hf
 refine jn (by kernel_rfl) none rfl 27 (.tmp 31) (.tmp 29) rfl g (o+1) rfl (.slice (some ⟨g1,0,none⟩) (l.nT+1) c1) rfl 1 rfl 47 _ hT2.1 yY (by omega) (by simp [Value.cells,Value.oneCell']) ?_
 intro X3 hP
 refine ah (hK _ _) ?_
 clear hK K
 refine iQ (by kernel_rfl) ?_ _
 have eL:lay (lay cur o l.cells) (o+1) #[.slice (some ⟨g1,0,none⟩) (l.nT+1) c1]=lay cur o (l.nV y.id (some ⟨g1,0,none⟩) c1).cells:=by
  rw [←GS l y.id]
  exact pY (a:=l.cells) hf (by show 1+1≤8;omega)
 replace hP:Put X2 X3 g (lay cur o (l.nV y.id (some ⟨g1,0,none⟩) c1).cells) 47:=hP.cast eL
 have HF:Hid (X3.heap[gp]?=some (.cells y.more.cells 51 (0,0))∧Es w X3 base g gp o cur l (l.nV y.id (some ⟨g1,0,none⟩) c1)):=by
  have zV:=HX.2.2.2.2
  have q1:=HX.2.2.1.nV HA.1 HA.2.1 HA.2.2
  refine ⟨(hP.to.block gp (ig hT2.2) (by simpa using fun e=>hne e.symm)).trans hT2.2,hP.blk,q1.box hT2.1 (by decide) (by decide) hP.to,?_,fun x hx=>.inl hx,gp :: g :: iI l.aT,?_,fun x hx=>?_⟩
  ·
   have q2:=AN (l:=l) (id:=y.id) (c:=c1) HA.2.2
   rw [zV] at q2
   exact q2
  ·
   exact ((HX.2.2.2.1.mono (fun x hx=>by simp at hx;simp [hx])).trans (HA.2.1.mono (fun x hx=>by simp [hx]))).trans (hP.to.mono (fun x hx=>by simp at hx;simp [hx]))
  simp only [List.mem_cons] at hx
  rcases hx with e | e | e
  ·
   exact .inr (.inl e)
  ·
   exact .inl e
  exact .inr (.inr (.inl (iK.inT e)))
 clear hP eL hT2 HA HX hz
 go_wp2_with fail
 refine bodyPost_ret (results_none rfl _ _ _) rfl ?_
 exact ⟨⟨_,rfl⟩,HF.1,_,yG hp _ _,HF.2⟩
theorem Fu (h:p:=by
  have eL:lay (lay cur o l.cells) (o+3) R5.cells=lay cur o ({ l.lK k y.id (some ⟨g1,0,none⟩) c1 with R:=R5 }:Lng).cells:=by
   rw [←GU]
   exact pY (a:=l.cells) hf (by show 3+5≤8;omega)
  replace hP:Put X5 X6 g (lay cur o ({ l.lK k y.id (some ⟨g1,0,none⟩) c1 with R:=R5 }:Lng).cells) 47:=hP.cast eL
  have HF:Hid (X6.heap[gp]?=some (.cells y.more.cells 51 (0,0))∧Es w X6 base g gp o cur l { l.lK k y.id (some ⟨g1,0,none⟩) c1 with R:=R5 }):=by
   obtain ⟨q1,q2,q3,q4,q5⟩:=HW5.out
   refine ⟨(hP.to.block gp (ig hT5.2) (by simpa using fun e=>hne e.symm)).trans hT5.2,hP.blk,q1.box hT5.1 (by decide) (by decide) hP.to,q2,q3,gp :: g :: gu :: iI (l.uA k),(q4.mono (fun x hx=>?_)).trans (hP.to.mono (fun x hx=>by simp at hx;simp [hx])),q5⟩
   simp only [List.mem_cons] at hx ⊢
   rcases hx with e | e | e
   ·
    exact .inl e
   ·
    exact .inr (.inr (.inl e))
   exact .inr (.inr (.inr e))
  clear hP eL hT5 HW5
  go_wp2_with fail
  go_end0
  exact ⟨⟨_,rfl⟩,HF.1,_,by have q:=yH (l:=l) (id:=y.id) hp h2 (some ⟨g1,0,none⟩) c1 HAl.out;rw [hp] at q;exact q,HF.2⟩):p:=h
theorem vU (l:Lng) (y:Pkt) (g o gp base k:Nat) (cur:Array Value) (w:World) (hf:o+8≤cur.size) (kL:w.heap[g]?=some (.cells (lay cur o l.cells) 47 (0,0))) (kP:w.heap[gp]?=some (.cells y.cells 51 (0,0))) (hp:y.p=(k:Int)) (h2:y.p≠2) (hk:k<l.nU) (hnu:l.nU≤1048576) (hr:0≤y.refs∧y.refs≤1000) (hfr:y.nR) (ho:iK w base l) (hb:base≤w.heap.size) (hn:l.uL k≤1048576) (hRs:l.R.Small) (hwp:pM l.R (k:Int) y.cl) :
  Calls Tryz.prog 118 #[.pointer (some ⟨g,o,none⟩),.pointer (some ⟨gp,0,none⟩)] w fun e w'=>(∃ v,e=.returned v)∧w'.heap[gp]?=some (.cells y.more.cells 51 (0,0))∧∃ l2,iO (l.wait y.p y.id y.cl) l2∧Es w w' base g gp o cur l l2:=by
 have hne:g≠gp:=iT kL kP (by decide)
 have c2:w.cell? ⟨gp,2,none⟩=some (.int .i64 y.refs):=ie kP 2
 have hw1:IntKind.i64.wrap (y.refs+1)=y.refs+1:=jS _ (by omega) (by omega)
 have HP:=aa kP
 have HL:=aa kL
 have HO:=aa ho
 have HFr:=aa hfr
 have HRs:=aa hRs
 have HWp:=aa hwp
 have hk1:(k:Int)<(l.nU:Int):=by omega
 have hk0:((k:Int) == 2)=false:=by simp;omega
 clear kL kP ho hfr hRs hwp
 go_enter Tryz.func118,Tryz.ntmps118
 go_wp2_with (refine iq rfl 2 (.tmp 11) (.tmp 9) rfl gp 2 rfl (.int .i64 (y.refs+1)) rfl 1 rfl 51 _ HP po (Nat.le_of_ble_eq_true rfl) (by simp [Value.cells,Value.oneCell']) ?_)
 intro X0 hP
 replace hP:Put w X0 gp y.more.cells 51:=hP.cast rfl
 have c6:X0.cell? ⟨gp,6,none⟩=some (.int .i64 (k:Int)):=by rw [←hp];exact ie hP.blk 6
 have HX:Hid (X0.heap[g]?=some (.cells (lay cur o l.cells) 47 (0,0))∧X0.heap[gp]?=some (.cells y.more.cells 51 (0,0))∧iK X0 base l∧Touch [gp] w X0∧X0.heap.size=w.heap.size) :=
  ⟨(hP.to.block g (ig HL.out) (by simpa using hne)).trans HL.out,hP.blk,HO.box HP (by decide) (by decide) hP.to,hP.to,hP.size⟩
 clear hP c2 hw1 HL HO HP
 go_wp2_with fail
 clear c6
 obtain ⟨gu,ucur,eU,kU,zU,cU⟩:=HX.2.2.1.u.at0 (by omega)
 refine jc (fun w'=>w'.heap[g]?=some (.cells (lay cur o l.cells) 47 (0,0))∧w'.heap[gu]?=some (.cells ucur 27 (0,0))∧w'.heap[gp]?=some (.cells y.more.cells 51 (0,0))) 19 (by kernel_rfl) ?_
 have hd:Below X0.heap.size X0 X0.drew:=(Below.refl _ _).drew
 replace HX:Hid (X0.drew.heap[g]?=some (.cells (lay cur o l.cells) 47 (0,0))∧X0.drew.heap[gp]?=some (.cells y.more.cells 51 (0,0))∧iK X0.drew base l∧Touch [gp] w X0.drew∧X0.drew.heap.size=w.heap.size∧X0.drew.heap[gu]?=some (.cells ucur 27 (0,0))) :=
  ⟨(hd.block _ (ig HX.1)).trans HX.1,(hd.block _ (ig HX.2.1)).trans HX.2.1,HX.2.2.1.up hd,HX.2.2.2.1.trans (Touch.jq hd),HX.2.2.2.2,(hd.block _ (ig kU)).trans kU⟩
 clear hd kU
 generalize X0.drew=V at *
 have Hcs:Hid (∀ wx:World,wx.heap[g]?=some (.cells (lay cur o l.cells) 47 (0,0))∧wx.heap[gu]?=some (.cells ucur 27 (0,0))∧wx.heap[gp]?=some (.cells y.more.cells 51 (0,0))→wx.cell? ⟨g,o+2,none⟩=some (.slice (some ⟨gu,0,none⟩) l.nU l.cU)∧wx.cell? ⟨gu,k,none⟩=some (.slice (l.uA k) (l.uL k) (l.uC k))∧wx.cell? ⟨gp,0,none⟩=some (.int .i64 y.id)) :=
  fun wx h=>⟨by rw [←eU];exact (ie h.1 _).trans (lv (cs:=l.cells) hf 2 (by show 2<8;omega)),(ie h.2.1 _).trans ((cU k (by omega)).trans (oL _ _ _ _ _ hk)),ie h.2.2 0⟩
 have HU:Hid (l.aU=some ⟨gu,0,none⟩∧l.nU*1≤ucur.size):=⟨eU,zU⟩
 clear eU zU cU
 have hT0:=And.intro HX.1 (And.intro HX.2.2.2.2.2 HX.2.1)
 refine tE 0 32 hT0 ?_
 refine tE 1 33 hT0 ?_
 refine tE 2 34 hT0 ?_
 refine tEX 3 35 hT0 ?_
 refine tE 4 36 hT0 ?_
 refine tE 5 37 hT0 ?_
 refine tE 6 38 hT0 ?_
 refine tE 7 39 hT0 ?_
 refine tEX 8 40 hT0 ?_
 refine tE 9 41 hT0 ?_
 refine tE 10 42 hT0 ?_
 refine tEX 11 43 hT0 ?_
 refine tE 12 44 hT0 ?_
 refine tE 13 45 hT0 ?_
 refine tE 14 46 hT0 ?_
 refine tEX 15 47 hT0 ?_
 obtain ⟨g1,c1,X2,hr1,hoi,ht,hg⟩:=vL (HX.2.2.1.z k hk) hn (by rw [HX.2.2.2.2.1];exact hb) y.id
 have nt:∀ {b:Nat} {cs:Array Value} {t:TypeId},2≠t→V.heap[b]?=some (.cells cs t (0,0))→b∉iI (l.uA k):=fun hne hb=>OG.lM (t:=2) (sz:=1) (HX.2.2.1.z k hk) hne hb
 have hT1:(V.alloc (.cells #[.int .i64 y.id] 2)).heap[g]?=some (.cells (lay cur o l.cells) 47 (0,0))∧(V.alloc (.cells #[.int .i64 y.id] 2)).heap[gu]?=some (.cells ucur 27 (0,0))∧(V.alloc (.cells #[.int .i64 y.id] 2)).heap[gp]?=some (.cells y.more.cells 51 (0,0)):=⟨(iH _ (ig hT0.1)).trans hT0.1,(iH _ (ig hT0.2.1)).trans hT0.2.1,(iH _ (ig hT0.2.2)).trans hT0.2.2⟩
 have hT2:X2.heap[g]?=some (.cells (lay cur o l.cells) 47 (0,0))∧X2.heap[gu]?=some (.cells ucur 27 (0,0))∧X2.heap[gp]?=some (.cells y.more.cells 51 (0,0)):=⟨(ht.block g (ig hT0.1) (nt (by decide) hT0.1)).trans hT0.1,(ht.block gu (ig hT0.2.1) (nt (by decide) hT0.2.1)).trans hT0.2.1,(ht.block gp (ig hT0.2.2) (nt (by decide) hT0.2.2)).trans hT0.2.2⟩
 have HA:Hid (OI X2 base (some ⟨g1,0,none⟩) (l.uL k+1) c1 (jM (l.uL k) y.id (l.uz k))∧Touch (iI (l.uA k)) V X2∧(g1∈iI (l.uA k)∨V.heap.size≤g1)):=⟨hoi,ht,hg⟩
 have HR1:=aa hr1
 clear hoi ht hg hr1 nt
 refine il (rs:=[16]) (by kernel_rfl) (by simp) ?_
 refine ij.cons rfl (fun K hK=>?_) ij.nil
 go_simp
 refine hK _ _ hT1 ?_
 clear hK K
 try simp only [Act.put,PZ]
 clear hT1
 refine il (rs:=[17]) (by kernel_rfl) (by simp) ?_
 refine ij.cons rfl (fun K hK=>?_) ij.nil
 refine kg (by kernel_rfl) (some 49) rfl (.tmp 43) (.tmp 48) 27 _ _ _ rfl rfl rfl rfl HR1.out ?_
 refine hK _ _ hT2 ?_
 clear hK K
 try simp only [Act.put,PZ]
 clear HR1 hT0
 refine tE 18 50 hT2 ?_
 refine il (rs:=[19]) (by kernel_rfl) (by simp) ?_
 refine ij.last rfl (fun K hK=>?_)
 refine jn (by kernel_rfl) none rfl 27 (.tmp 50) (.tmp 49) rfl gu k rfl (.slice (some ⟨g1,0,none⟩) (l.uL k+1) c1) rfl 1 rfl 27 _ hT2.2.1 yY (by have:=HU.2;omega) (by simp [Value.cells,Value.oneCell']) ?_
 intro X3 hP
 refine ah (hK _ _) ?_
 clear hK K
 refine iQ (by kernel_rfl) ?_ _
 have hgu:g≠gu:=iT hT2.1 hT2.2.1 (by decide)
 have hgup:gp≠gu:=iT hT2.2.2 hT2.2.1 (by decide)
 have HW3:Hid (X3.heap[g]?=some (.cells (lay cur o l.cells) 47 (0,0))∧X3.heap[gp]?=some (.cells y.more.cells 51 (0,0))∧iK X3 base (l.lK k y.id (some ⟨g1,0,none⟩) c1)∧Touch (gp :: gu :: iI (l.uA k)) w X3∧w.heap.size≤X3.heap.size∧(∀ x∈(l.lK k y.id (some ⟨g1,0,none⟩) c1).jN,x∈l.jN∨w.heap.size≤x)∧gu∈l.oK):=by
  have zV:=HX.2.2.2.2.1
  have tt:Touch (gp :: gu :: iI (l.uA k)) w X3:=((HX.2.2.2.1.mono (fun x hx=>by simp at hx;simp [hx])).trans (HA.2.1.mono (fun x hx=>by simp [hx]))).trans (hP.to.mono (fun x hx=>by simp at hx;simp [hx]))
  refine ⟨(hP.to.block g (ig hT2.1) (by simpa using hgu)).trans hT2.1,(hP.to.block gp (ig hT2.2.2) (by simpa using hgup)).trans hT2.2.2,HX.2.2.1.lK hk HU.1 HA.1 HA.2.1 HA.2.2 hT2.2.1 hP,tt,tt.size,?_,?_⟩
  ·
   have q2:=A8 (l:=l) (id:=y.id) (c:=c1) hk HA.2.2
   rw [zV] at q2
   exact q2
  exact List.mem_append_left _ (by rw [HU.1];simp [iI])
 clear hP hT2 HA HX HU Hcs hgu hgup
 go_wp2_with fail
 refine ng (fun w'=>w'.heap[g]?=some (.cells (lay cur o l.cells) 47 (0,0))∧w'.heap[gp]?=some (.cells y.more.cells 51 (0,0))) 17 (by kernel_rfl) ?_
 have hd:Below X3.heap.size X3 X3.drew:=(Below.refl _ _).drew
 replace HW3:Hid (X3.drew.heap[g]?=some (.cells (lay cur o l.cells) 47 (0,0))∧X3.drew.heap[gp]?=some (.cells y.more.cells 51 (0,0))∧iK X3.drew base (l.lK k y.id (some ⟨g1,0,none⟩) c1)∧Touch (gp :: gu :: iI (l.uA k)) w X3.drew∧w.heap.size≤X3.drew.heap.size∧(∀ x∈(l.lK k y.id (some ⟨g1,0,none⟩) c1).jN,x∈l.jN∨w.heap.size≤x)∧gu∈l.oK) :=
  ⟨(hd.block _ (ig HW3.1)).trans HW3.1,(hd.block _ (ig HW3.2.1)).trans HW3.2.1,HW3.2.2.1.up hd,HW3.2.2.2.1.trans (Touch.jq hd),Nat.le_trans HW3.2.2.2.2.1 hd.size,HW3.2.2.2.2.2⟩
 clear hd
 generalize X3.drew=V3 at *
 have hT0:=And.intro HW3.1 HW3.2.1
 refine tG 0 52 hT0 ?_
 refine tG 1 53 hT0 ?_
 refine tG 2 54 hT0 ?_
 refine tG 3 55 hT0 ?_
 refine tc (i:=4) (some 56) (v:=.agg l.R.cells) (fun wx hSw=>jg 45 5 _ Tryz.underlying45 rfl sL (.tmp 55) rfl g (o+3) rfl l.R.cells rfl (fun j hj=>by
  rw [Nat.add_assoc,ie hSw.1]
  rw [lv (cs:=l.cells) hf (3+j) (by show 3+j<8;omega)]
  rcases j with _ | _ | _ | _ | _ | j
  ·
   rfl
  ·
   rfl
  ·
   rfl
  ·
   rfl
  ·
   rfl
  ·
   omega)) hT0 ?_
 try simp only [Act.put,PZ]
 refine tG 5 57 hT0 ?_
 refine tG 6 58 hT0 ?_
 refine tG 7 59 hT0 ?_
 refine tG 8 60 hT0 ?_
 refine tc (i:=9) (some 61) (v:=.agg #[.int .i64 y.k,.int .i64 y.d,.int .i64 y.s,.int .i64 y.p,.string y.b]) (fun wx hSw=>jg 36 5 _ Tryz.underlying36 rfl jC (.tmp 60) rfl gp 3 rfl _ rfl (fun j hj=>GN (x:=y.more) hSw.2 j hj)) hT0 ?_
 try simp only [Act.put,PZ]
 refine iF (rs:=[10]) (by kernel_rfl) (by simp) ?_
 refine iz.cons rfl (fun K hK=>?_) iz.nil
 go_simp
 refine (kJ y.k y.d y.s (k:Int) y.b _ (by have:=HFr.le;unfold maxLen;omega)).mono ?_
 rintro e X4 ⟨rfl,hb4⟩
 have eC:=Fc HFr.out
 rw [hp] at eC
 rw [eC]
 clear eC
 have HB4:=aa hb4
 have hT4:X4.heap[g]?=some (.cells (lay cur o l.cells) 47 (0,0))∧X4.heap[gp]?=some (.cells y.more.cells 51 (0,0)):=⟨(hb4.block _ (ig hT0.1)).trans hT0.1,(hb4.block _ (ig hT0.2)).trans hT0.2⟩
 clear hb4 hT0
 go_wp2_with fail
 refine hK _ _ hT4 ?_
 clear hK K
 try simp only [Act.put,PZ]
 refine iF (rs:=[11]) (by kernel_rfl) (by simp) ?_
 refine iz.cons rfl (fun K hK=>?_) iz.nil
 go_simp
 refine (Dw l.R (k:Int) y.cl _ HRs (HW3.2.2.1.g.rd.r.up HB4) true ⟨fun _=>HWp.out,fun _=>rfl⟩).mono ?_
 rintro e X5 ⟨R5,rfl,oR,hb5,aR⟩
 have HAl:Hid (Alike (l.R.push k y.cl none 0) R5):=by
  have q:Alike (l.R.push (k:Int).toNat y.cl none 0) R5:=aR
  rw [Int.toNat_natCast] at q
  exact q
 have hT5:X5.heap[g]?=some (.cells (lay cur o l.cells) 47 (0,0))∧X5.heap[gp]?=some (.cells y.more.cells 51 (0,0)):=⟨(hb5.block _ (ig hT4.1)).trans hT4.1,(hb5.block _ (ig hT4.2)).trans hT4.2⟩
 have HW5:Hid (iK X5 base { l.lK k y.id (some ⟨g1,0,none⟩) c1 with R:=R5 }∧(∀ x∈({ l.lK k y.id (some ⟨g1,0,none⟩) c1 with R:=R5 }:Lng).jN,x∈l.jN∨w.heap.size≤x)∧(∀ x∈({ l.lK k y.id (some ⟨g1,0,none⟩) c1 with R:=R5 }:Lng).oK,x∈l.oK∨w.heap.size≤x)∧Touch (gp :: gu :: iI (l.uA k)) w X5∧∀ x∈gp :: g :: gu :: iI (l.uA k),x=g∨x=gp∨x∈l.jN∨x∈l.oK):=by
  obtain ⟨_,_,q3,q4,q5,q6,q7⟩:=HW3.out
  have bb:=HB4.trans (hb5.mono HB4.size)
  have z4:V3.heap.size≤X4.heap.size:=HB4.size
  refine ⟨q3.ub bb z4 (Nat.le_trans hb q5) oR,fun x hx=>?_,fun x hx=>?_,q4.trans (Touch.jq bb),fun x hx=>?_⟩
  ·
   rcases D9 (w:=V3) (base:=base) oR z4 x hx with e | e
   ·
    exact q6 x e
   exact .inr (Nat.le_trans q5 e)
  ·
   rcases Ea (w:=V3) (base:=base) oR z4 x hx with e | e
   ·
    exact .inl e
   exact .inr (Nat.le_trans q5 e)
  simp only [List.mem_cons] at hx
  rcases hx with e | e | e | e
  ·
   exact .inr (.inl e)
  ·
   exact .inl e
  ·
   exact .inr (.inr (.inr (e▸q7)))
  exact .inr (.inr (.inl (iK.inU hk e)))
 clear oR aR hb5 hT4 HB4 HW3
 go_wp2_with fail
 refine hK _ _ hT5 ?_
 clear hK K
 try simp only [Act.put,PZ]
 have hz:(lay cur o l.cells).size=cur.size:=kp (cs:=l.cells) hf
 refine tG 12 51 hT5 ?_
 refine tG 13 64 hT5 ?_
 refine iF (rs:=[14,15]) (by kernel_rfl) (by simp) ?_
 refine iz.cons rfl (fun K hK=>?_) (iz.cons rfl (fun K hK=>?_) iz.nil)
 ·
  go_simp
  refine hK _ _ hT5 ?_
  clear hK K
  try simp only [Act.put,PZ]
  refine iF (rs:=[15]) (by kernel_rfl) (by simp) ?_
  refine iz.cons rfl (fun K hK=>?_) iz.nil
  go_simp
  refine hK _ _ hT5 ?_
  clear hK K
  try simp only [Act.put,PZ]
  refine tG 16 67 hT5 ?_
  exact fi
 go_simp
 refine hK _ _ hT5 ?_
 clear hK K
 try simp only [Act.put,PZ]
 refine tG 16 67 hT5 ?_
 refine iF (rs:=[14,17]) (by kernel_rfl) (by simp) ?_
 refine iz.cons rfl (fun K hK=>?_) (iz.last rfl (fun K hK=>?_))
 ·
  go_simp
  refine hK _ _ hT5 ?_
  clear hK K
  try simp only [Act.put,PZ]
  exact fi
 refine jn (by kernel_rfl) none rfl 45 (.tmp 67) (.tmp 64) rfl g (o+3) rfl (.agg R5.cells) rfl 5 rfl 47 _ hT5.1 sL (by omega) (by simp [Value.cells,Value.oneCell',Rnd.cells]) ?_
 intro X6 hP
 refine ah (hK _ _) ?_
 clear hK K
 refine iF (rs:=[14]) (by kernel_rfl) (by simp) ?_
 refine iz.late rfl (by kernel_rfl) (fun K hK=>?_)
 go_simp
 exact ft
open Go.RowKit Go.Extern.Stop Go.Stop Go.Extern
theorem xl (v:Value) (w:World):(Extern.ReflectliteType.typeOf #[.iface 243 v]).run Tryz.prog w=.ok (.iface 181 (.agg #[.pointer (some ⟨4,243,none⟩)])) w:=by kernel_rfl
theorem qm (w : World) : ((Extern.ReflectliteType.method fun t => do Rtype.noPackHeld "Comparable" t; (fun a => Value.bool a.comparable) <$> typeInfo t) #[.agg #[.pointer (some ⟨4, 243, none⟩)]]).run Tryz.prog w = .ok (.bool true) w := by kernel_rfl
theorem mv (v : Value) (w : World) : (Go.method 373 181 v "Comparable").run Tryz.prog w = .ok (201, v) w := by kernel_rfl
theorem Cj:(Tryz.prog.info? 243).map (·.comparable)=some true:=by kernel_rfl
theorem Ci:(Tryz.prog.info? 261).map (·.size)=some 1:=by kernel_rfl
theorem zi (v:Value) (xT:TypeId) (w:World):(Instr.typeAssert (.iface 243 v) xT 183 true).run Tryz.prog w=.ok (.tuple #[.nilIface,.bool false]) w:=run_typeAssert_lacksB Tryz.underlying183 (by kernel_rfl) (by kernel_rfl) v xT w
theorem rv (v:Value) (xT:TypeId) (w:World):(Instr.typeAssert (.iface 243 v) xT 186 true).run Tryz.prog w=.ok (.tuple #[.nilIface,.bool false]) w:=run_typeAssert_lacksB Tryz.underlying186 (by kernel_rfl) (by kernel_rfl) v xT w
theorem qk (v:Value) (xT:TypeId) (w:World):(Instr.typeAssert (.iface 243 v) xT 188 true).run Tryz.prog w=.ok (.tuple #[.nilIface,.bool false]) w:=run_typeAssert_lacksB Tryz.underlying188 (by kernel_rfl) (by kernel_rfl) v xT w
theorem zh (v:Value) (xT:TypeId) (w:World):(Instr.typeAssert (.iface 134 v) xT 183 true).run Tryz.prog w=.ok (.tuple #[.nilIface,.bool false]) w:=run_typeAssert_lacksB Tryz.underlying183 (by kernel_rfl) (by kernel_rfl) v xT w
theorem ql (v:Value) (xT:TypeId) (w:World):(Instr.typeAssert (.iface 134 v) xT 186 true).run Tryz.prog w=.ok (.tuple #[.iface 134 v,.bool true]) w:=run_typeAssert_hasB Tryz.underlying186 (by kernel_rfl) v xT w
theorem oG (v : Value) (w : World) : (Go.method 373 134 v "Unwrap").run Tryz.prog w = .ok (187, v) w := by kernel_rfl
theorem yV (b:Addr) (w:World) :
  Calls Tryz.prog 52 #[.nilIface,.iface 243 (.pointer (some b))] w fun e w'=>e=.returned (.bool false)∧w=w':=by
 have hn:=run_eql_iface_nil_left (P:=Tryz.prog) w 243 (.pointer (some b)) Tryz.underlying61
 go_enter Tryz.func52,Tryz.ntmps52
 go_wp2
 exact fu
theorem Bw (g:Nat) (b:Addr) (w:World) (h1:w.cell? ⟨g,1,none⟩=some (.iface 243 (.pointer (some b)))) :
  Calls Tryz.prog 52 #[.iface 134 (.pointer (some ⟨g,0,none⟩)),.iface 243 (.pointer (some b))] w fun e w'=>e=.returned (.bool true)∧w=w':=by
 obtain ⟨i,hi,hcmp⟩:=Option.map_eq_some_iff.1 Cj
 obtain ⟨j,hj,hjs⟩:=Option.map_eq_some_iff.1 Ci
 have hA:=@run_callFunc_extern Tryz.prog 90 _ Extern.ReflectliteType.typeOf Tryz.func90 (by kernel_rfl) (by kernel_rfl) (by kernel_rfl) (by kernel_rfl)
 have hB := @run_callFunc_extern Tryz.prog 201 _ (Extern.ReflectliteType.method fun t => do Rtype.noPackHeld "Comparable" t; pure (.bool (← typeInfo t).comparable)) Tryz.func201 (by kernel_rfl) (by kernel_rfl) (by kernel_rfl) (by kernel_rfl)
 have tT:=xl
 have cT:=qm
 have mR:=mv
 have nE:=zi
 have uE:=rv
 have vE:=qk
 have nW:=zh
 have uW:=ql
 have mU:=oG
 have heq:=run_eql_iface_ptr_same (P:=Tryz.prog) w b Tryz.underlying61 Tryz.underlying243 hi hcmp hj
 have hty:=run_eql_iface_types (P:=Tryz.prog) 134 243 (.pointer (some ⟨g,0,none⟩)) (.pointer (some b)) Tryz.underlying61 (by decide) w
 exact fm
theorem rL (g:Nat) (a b:Addr) (ca cb:Array Value) (ta tb:TypeId) (w:World) (h1:w.cell? ⟨g,1,none⟩=some (.iface 243 (.pointer (some a)))) (hne:a≠b) (ha:w.heap[a.block]?=some (.cells ca ta (0,0))) (hb:w.heap[b.block]?=some (.cells cb tb (0,0))) :
  Calls Tryz.prog 52 #[.iface 134 (.pointer (some ⟨g,0,none⟩)),.iface 243 (.pointer (some b))] w fun e w'=>e=.returned (.bool false)∧w=w':=by
 obtain ⟨i,hi,hcmp⟩:=Option.map_eq_some_iff.1 Cj
 obtain ⟨j,hj,hjs⟩:=Option.map_eq_some_iff.1 Ci
 have hA:=@run_callFunc_extern Tryz.prog 90 _ Extern.ReflectliteType.typeOf Tryz.func90 (by kernel_rfl) (by kernel_rfl) (by kernel_rfl) (by kernel_rfl)
 have hB := @run_callFunc_extern Tryz.prog 201 _ (Extern.ReflectliteType.method fun t => do Rtype.noPackHeld "Comparable" t; pure (.bool (← typeInfo t).comparable)) Tryz.func201 (by kernel_rfl) (by kernel_rfl) (by kernel_rfl) (by kernel_rfl)
 have tT:=xl
 have cT:=qm
 have mR:=mv
 have nE:=zi
 have uE:=rv
 have vE:=qk
 have nW:=zh
 have uW:=ql
 have mU:=oG
 have heq:=run_eql_iface_ptr_other (P:=Tryz.prog) w Tryz.underlying61 Tryz.underlying243 hi hcmp hj (by rw [hjs];decide) hne ha hb
 have hty:=run_eql_iface_types (P:=Tryz.prog) 134 243 (.pointer (some ⟨g,0,none⟩)) (.pointer (some b)) Tryz.underlying61 (by decide) w
 clear ha hb
 exact fm
theorem yu (t:Addr) (w:World):(ReflectliteValue.unpack (.iface 146 (.pointer (some t)))).run Tryz.prog w
  = .ok (.agg #[.pointer (some ⟨4,146,none⟩),.pointer (some ⟨w.heap.size,0,none⟩),.int .u64 150]) (w.alloc (.cells #[.pointer (some t)] 146)):=by kernel_rfl
theorem DD (a : Addr) (w : World) : (ReflectliteValue.methodAny (ReflectliteValue.valueError "reflectlite.Value.Type" 0) (fun t _ _ _ => ReflectliteType.toType t) #[.agg #[.pointer (some ⟨4, 146, none⟩), .pointer (some a), .int .u64 150]]).run Tryz.prog w
  = .ok (.iface 181 (.agg #[.pointer (some ⟨4,146,none⟩)])) w:=by kernel_rfl
theorem vB (h : Value) (w : World) : (Go.method 373 181 (.agg #[h]) "Kind").run Tryz.prog w = .ok (183, h) w := by kernel_rfl
theorem DF (w:World):((ReflectliteType.abiMethod fun t=>(fun a:Nat=>Value.int IntKind.u8 (a:Int)) <$> Rtype.kind t) #[.pointer (some ⟨4,146,none⟩)]).run Tryz.prog w=.ok (.int .u8 22) w:=by kernel_rfl
theorem DE (w:World):((ReflectliteType.abiMethod fun t=>(fun a:Nat=>Value.int IntKind.u8 (a:Int)) <$> Rtype.kind t) #[.pointer (some ⟨4,134,none⟩)]).run Tryz.prog w=.ok (.int .u8 22) w:=by kernel_rfl
theorem Ej {z : Sem Value} {f : TypeId → Addr → Nat → Nat → Sem Value} {v : Value} {t : TypeId} {a : Addr} {fl : Nat} {W : World} (h : (ReflectliteValue.parts v).run Tryz.prog W = .ok (some (t, a, fl)) W) :
  (ReflectliteValue.method z f #[v]).run Tryz.prog W = (f t a fl (fl % 32)).run Tryz.prog W := by
 change Sem.run Tryz.prog (ReflectliteValue.parts v >>= _) W = _
 simp only [Sem.run_bind, h, Result.andThen]
theorem xp (a:Addr) (w:World):(ReflectliteValue.parts (.agg #[.pointer (some ⟨4,146,none⟩),.pointer (some a),.int .u64 150])).run Tryz.prog w=.ok (some (146,a,150)) w:=by kernel_rfl
theorem Cm (a p:Addr) (W:World) (ha:W.cell? a=some (.pointer (some p))) :
  (ReflectliteValue.method (ReflectliteValue.valueError "reflectlite.Value.IsNil" 0) ReflectliteValue.isNil #[.agg #[.pointer (some ⟨4, 146, none⟩), .pointer (some a), .int .u64 150]]).run Tryz.prog W = .ok (.bool false) W := by
 rw [Ej (xp a W)]
 simp [ReflectliteValue.isNil,loadVar,isAgg,underlying,Tryz.underlying146,ha,Result.andThen]
theorem vC (h : Value) (w : World) : (Go.method 373 181 (.agg #[h]) "Elem").run Tryz.prog w = .ok (202, .agg #[h]) w := by kernel_rfl
theorem pG (h : Value) (w : World) : (Go.method 373 181 (.agg #[h]) "Implements").run Tryz.prog w = .ok (203, .agg #[h]) w := by kernel_rfl
theorem oI (h : Value) (w : World) : (Go.method 373 181 (.agg #[h]) "AssignableTo").run Tryz.prog w = .ok (200, .agg #[h]) w := by kernel_rfl
theorem DH (w:World):(ReflectliteType.method ReflectliteType.elem #[.agg #[.pointer (some ⟨4,146,none⟩)]]).run Tryz.prog w=.ok (.iface 181 (.agg #[.pointer (some ⟨4,134,none⟩)])) w:=by kernel_rfl
theorem tr (w : World) : (ReflectliteType.relation "Implements" ReflectliteType.implements_ #[.agg #[.pointer (some ⟨4, 134, none⟩)], .iface 181 (.agg #[.pointer (some ⟨4, 61, none⟩)])]).run Tryz.prog w = .ok (.bool true) w := by kernel_rfl
theorem Ao (v:Value) (w:World):(ReflectliteType.typeOf #[.iface 134 v]).run Tryz.prog w=.ok (.iface 181 (.agg #[.pointer (some ⟨4,134,none⟩)])) w:=by kernel_rfl
theorem tu (w : World) : (ReflectliteType.relation "AssignableTo" ReflectliteType.assignableTo #[.agg #[.pointer (some ⟨4, 134, none⟩)], .iface 181 (.agg #[.pointer (some ⟨4, 134, none⟩)])]).run Tryz.prog w = .ok (.bool true) w := by kernel_rfl
theorem yr (e:Addr) (w:World):(ReflectliteValue.unpack (.iface 134 (.pointer (some e)))).run Tryz.prog w
  = .ok (.agg #[.pointer (some ⟨4,134,none⟩),.pointer (some ⟨w.heap.size,0,none⟩),.int .u64 150]) (w.alloc (.cells #[.pointer (some e)] 134)):=by kernel_rfl
theorem Ap (w:World):(Rtype.elem? 146).run Tryz.prog w=.ok (some 134) w:=by kernel_rfl
theorem FZ (p:Addr) (w:World):(ReflectliteValue.mk 134 p ReflectliteValue.flagAddr).run Tryz.prog w=.ok (.agg #[.pointer (some ⟨4,134,none⟩),.pointer (some p),.int .u64 406]) w:=by kernel_rfl
theorem DG (a p:Addr) (W:World) (ha:W.cell? a=some (.pointer (some p))) :
  (ReflectliteValue.method (ReflectliteValue.valueError "reflectlite.Value.Elem" 0) ReflectliteValue.elem #[.agg #[.pointer (some ⟨4, 146, none⟩), .pointer (some a), .int .u64 150]]).run Tryz.prog W
   = .ok (.agg #[.pointer (some ⟨4,134,none⟩),.pointer (some p),.int .u64 406]) W:=by
 rw [Ej (xp a W)]
 simp [ReflectliteValue.elem,loadVar,isAgg,underlying,Tryz.underlying146,ha,Result.andThen,Ap,FZ]
theorem Cl (a:Addr) (w:World):(ReflectliteValue.parts (.agg #[.pointer (some ⟨4,134,none⟩),.pointer (some a),.int .u64 406])).run Tryz.prog w=.ok (some (134,a,406)) w:=by kernel_rfl
theorem Ck (a:Addr) (w:World):(ReflectliteValue.parts (.agg #[.pointer (some ⟨4,134,none⟩),.pointer (some a),.int .u64 150])).run Tryz.prog w=.ok (some (134,a,150)) w:=by kernel_rfl
theorem Cn (w:World):(Rtype.directlyAssignable 134 134).run Tryz.prog w=.ok true w:=by kernel_rfl
theorem FY (v x : Value) (ta b e : Addr) (old : Value) (W : World) (h1 : (ReflectliteValue.parts v).run Tryz.prog W = .ok (some (134, ta, 406)) W) (h2 : (ReflectliteValue.parts x).run Tryz.prog W = .ok (some (134, b, 150)) W) (hb:W.cell? b=some (.pointer (some e))) (ht:W.cell? ta=some old) (hf:W.frozen? ta=false) :
  (ReflectliteValue.set #[v, x]).run Tryz.prog W = .ok (.tuple #[]) (W.setCell ta (.pointer (some e))) := by
 change Sem.run Tryz.prog (ReflectliteValue.parts v >>= fun o => ReflectliteValue.parts x >>= _) W = _
 simp only [Sem.run_bind, h1, h2, Result.andThen]
 simp [ReflectliteValue.flagAddr,loadVar,isAgg,underlying,Tryz.underlying134,hb,Result.andThen,Cn,storeVar,Value.cells,storeCells,Addr.add]
 rw [run_store Tryz.prog W ta _ _ (by rfl)]
 simp [ht,hf]
theorem FX (ta b e : Addr) (old : Value) (W : World) (hb:W.cell? b=some (.pointer (some e))) (ht:W.cell? ta=some old) (hf:W.frozen? ta=false) :
  (ReflectliteValue.set #[.agg #[.pointer (some ⟨4,134,none⟩),.pointer (some ta),.int .u64 406],.agg #[.pointer (some ⟨4,134,none⟩),.pointer (some b),.int .u64 150]]).run Tryz.prog W
   = .ok (.tuple #[]) (W.setCell ta (.pointer (some e))) :=
 FY _ _ ta b e old W (Cl ta W) (Ck b W) hb ht hf
theorem F6 (e t:Addr) (old:Value) (w:World) (hg:w.cell? ⟨3,0,none⟩=some (.iface 181 (.agg #[.pointer (some ⟨4,61,none⟩)]))) (ht0:w.cell? t=some old) (hf0:w.frozen? t=false) :
  Calls Tryz.prog 89 #[.iface 134 (.pointer (some e)),.iface 146 (.pointer (some t))] w fun ev w'=>ev=.returned (.bool true)∧w'=((((w.alloc (.cells #[.pointer (some t)] 146)).alloc (.cells #[.pointer (some ⟨4,146,none⟩),.pointer (some ⟨w.heap.size,0,none⟩),.int .u64 150] 173)).alloc (.cells #[.pointer (some ⟨4,146,none⟩),.pointer (some ⟨w.heap.size,0,none⟩),.int .u64 150] 173)).alloc (.cells #[.pointer (some e)] 134)).setCell t (.pointer (some e)):=by
 have h6:=@run_callFunc_extern Tryz.prog 119 _ (fun args=>ReflectliteValue.unpack (args.getD 0 (.tuple #[]))) Tryz.func119 (by kernel_rfl) (by kernel_rfl) (by kernel_rfl) (by kernel_rfl)
 have h7 := @run_callFunc_extern Tryz.prog 120 _ (ReflectliteValue.methodAny (ReflectliteValue.valueError "reflectlite.Value.Type" 0) (fun t _ _ _ => ReflectliteType.toType t)) Tryz.func120 (by kernel_rfl) (by kernel_rfl) (by kernel_rfl) (by kernel_rfl)
 have h8 := @run_callFunc_extern Tryz.prog 121 _ (ReflectliteValue.method (ReflectliteValue.valueError "reflectlite.Value.IsNil" 0) ReflectliteValue.isNil) Tryz.func121 (by kernel_rfl) (by kernel_rfl) (by kernel_rfl) (by kernel_rfl)
 have h27:=@run_callFunc_extern Tryz.prog 183 _ (ReflectliteType.abiMethod fun t=>do pure (.int .u8 (←Rtype.kind t))) Tryz.func183 (by kernel_rfl) (by kernel_rfl) (by kernel_rfl) (by kernel_rfl)
 have h37:=@run_callFunc_extern Tryz.prog 202 _ (ReflectliteType.method ReflectliteType.elem) Tryz.func202 (by kernel_rfl) (by kernel_rfl) (by kernel_rfl) (by kernel_rfl)
 have h38 := @run_callFunc_extern Tryz.prog 203 _ (ReflectliteType.relation "Implements" ReflectliteType.implements_) Tryz.func203 (by kernel_rfl) (by kernel_rfl) (by kernel_rfl) (by kernel_rfl)
 have h10:=@run_callFunc_extern Tryz.prog 90 _ ReflectliteType.typeOf Tryz.func90 (by kernel_rfl) (by kernel_rfl) (by kernel_rfl) (by kernel_rfl)
 have h35 := @run_callFunc_extern Tryz.prog 200 _ (ReflectliteType.relation "AssignableTo" ReflectliteType.assignableTo) Tryz.func200 (by kernel_rfl) (by kernel_rfl) (by kernel_rfl) (by kernel_rfl)
 have h11 := @run_callFunc_extern Tryz.prog 134 _ (ReflectliteValue.method (ReflectliteValue.valueError "reflectlite.Value.Elem" 0) ReflectliteValue.elem) Tryz.func134 (by kernel_rfl) (by kernel_rfl) (by kernel_rfl) (by kernel_rfl)
 have h12:=@run_callFunc_extern Tryz.prog 135 _ ReflectliteValue.set Tryz.func135 (by kernel_rfl) (by kernel_rfl) (by kernel_rfl) (by kernel_rfl)
 have q0:=Ao
 have q1:=oI
 have q2:=tu
 have q3:=yr
 have q4:=yu
 have q5:=DD
 have q6:=vB
 have q7:=vC
 have q8:=pG
 have q9:=DF
 have q10:=DE
 have q11:=DH
 have q12:=tr
 have n8:=Cm ⟨w.heap.size,0,none⟩ t ((w.alloc (.cells #[.pointer (some t)] 146)).alloc (.cells #[.pointer (some ⟨4,146,none⟩),.pointer (some ⟨w.heap.size,0,none⟩),.int .u64 150] 173)) (by simp)
 have hlt:3<w.heap.size:=by
  rcases Nat.lt_or_ge 3 w.heap.size with h | h
  ·
   exact h
  simp [World.cell?,Array.getElem?_eq_none h] at hg
 have hg2:((w.alloc (.cells #[.pointer (some t)] 146)).alloc (.cells #[.pointer (some ⟨4,146,none⟩),.pointer (some ⟨w.heap.size,0,none⟩),.int .u64 150] 173)).cell? ⟨3,0,none⟩=some (.iface 181 (.agg #[.pointer (some ⟨4,61,none⟩)])):=by
  rw [World.cell?_alloc_lt _ _ ⟨3,0,none⟩ (by simp;omega),World.cell?_alloc_lt _ _ ⟨3,0,none⟩ hlt];exact hg
 have htl:t.block<w.heap.size:=by
  rcases Nat.lt_or_ge t.block w.heap.size with h | h
  ·
   exact h
  simp [World.cell?,Array.getElem?_eq_none h] at ht0
 have el:=DG ⟨w.heap.size,0,none⟩ t (((w.alloc (.cells #[.pointer (some t)] 146)).alloc (.cells #[.pointer (some ⟨4,146,none⟩),.pointer (some ⟨w.heap.size,0,none⟩),.int .u64 150] 173)).alloc (.cells #[.pointer (some ⟨4,146,none⟩),.pointer (some ⟨w.heap.size,0,none⟩),.int .u64 150] 173)) (by rw [World.cell?_alloc_lt _ _ ⟨w.heap.size,0,none⟩ (by simp;omega)];simp)
 have st:=FX t ⟨w.heap.size+1+1+1,0,none⟩ e old ((((w.alloc (.cells #[.pointer (some t)] 146)).alloc (.cells #[.pointer (some ⟨4,146,none⟩),.pointer (some ⟨w.heap.size,0,none⟩),.int .u64 150] 173)).alloc (.cells #[.pointer (some ⟨4,146,none⟩),.pointer (some ⟨w.heap.size,0,none⟩),.int .u64 150] 173)).alloc (.cells #[.pointer (some e)] 134))
  (by rw [World.cell?_alloc_at _ _ _ _ (by simp)];rfl)
  (by rw [World.cell?_alloc_lt _ _ t (by simp;omega),World.cell?_alloc_lt _ _ t (by simp;omega),World.cell?_alloc_lt _ _ t (by simp;omega),World.cell?_alloc_lt _ _ t htl];exact ht0)
  (by rw [World.frozen?_alloc_old _ _ t (by simp;omega),World.frozen?_alloc_old _ _ t (by simp;omega),World.frozen?_alloc_old _ _ t (by simp;omega),World.frozen?_alloc_old _ _ t (Nat.ne_of_lt htl)];exact hf0)
 go_enter Tryz.func89,Tryz.ntmps89
 go_wp2
 refine wp_loop_rounds 1 ?_
 rw [rounds_succ]
 go_wp2
 exact fu
structure tD (w:World) (base:Nat) (aF aD aL:Addr):Prop where
 f:w.cell? ⟨0,0,none⟩=some (.iface 243 (.pointer (some aF)))
 d:w.cell? ⟨1,0,none⟩=some (.iface 243 (.pointer (some aD)))
 l:w.cell? ⟨2,0,none⟩=some (.iface 243 (.pointer (some aL)))
 t:w.cell? ⟨3,0,none⟩=some (.iface 181 (.agg #[.pointer (some ⟨4,61,none⟩)]))
 kf:∃ c t,w.heap[aF.block]?=some (.cells c t (0,0))
 kd:∃ c t,w.heap[aD.block]?=some (.cells c t (0,0))
 kl:∃ c t,w.heap[aL.block]?=some (.cells c t (0,0))
 fd:aF≠aD
 fl:aF≠aL
 dl:aD≠aL
 b:4≤base∧aF.block<base∧aD.block<base∧aL.block<base
theorem tD.up (h:tD w base aF aD aL) (hb:Below base w w'):tD w' base aF aD aL:=by
 have hb1:=h.b
 exact ⟨(hb.cell (by show 0<base;omega)).trans h.f,(hb.cell (by show 1<base;omega)).trans h.d,(hb.cell (by show 2<base;omega)).trans h.l,(hb.cell (by show 3<base;omega)).trans h.t,
  by obtain ⟨c,t,k⟩:=h.kf;exact ⟨c,t,(hb.block _ hb1.2.1).trans k⟩,by obtain ⟨c,t,k⟩:=h.kd;exact ⟨c,t,(hb.block _ hb1.2.2.1).trans k⟩,by obtain ⟨c,t,k⟩:=h.kl;exact ⟨c,t,(hb.block _ hb1.2.2.2).trans k⟩,h.fd,h.fl,h.dl,h.b⟩
theorem tD.mono {base':Nat} (h:tD w base aF aD aL) (hb:base≤base'):tD w base' aF aD aL :=
 ⟨h.f,h.d,h.l,h.t,h.kf,h.kd,h.kl,h.fd,h.fl,h.dl,by have:=h.b;omega⟩
def yE (w:World) (aF aD aL:Addr) (p code:Int) (v:Value):Prop :=
 (code=0∧v=.nilIface)∨∃ g a,v=.iface 134 (.pointer (some ⟨g,0,none⟩))∧w.heap[g]?=some (.cells #[.int .i64 p,.iface 243 (.pointer (some a))] 136 (0,0))∧((code=2∧a=aF)∨(code=3∧a=aD)∨(code=4∧a=aL))
theorem yE.jQ {p code:Int} (h:yE w aF aD aL p code v) (hk:∀ (g:Nat) (cs:Array Value),w.heap[g]?=some (.cells cs 136 (0,0))→w'.heap[g]?=w.heap[g]?):yE w' aF aD aL p code v:=by
 rcases h with h | ⟨g,a,h1,h2,h3⟩
 ·
  exact .inl h
 exact .inr ⟨g,a,h1,(hk g _ h2).trans h2,h3⟩
theorem As (w:World) (base:Nat) (aF aD aL:Addr) (p code:Int) (v:Value) (hv:tD w base aF aD aL) (he:yE w aF aD aL p code v) :
  Calls Tryz.prog 20 #[v] w fun e w'=>e=.returned (.int .i64 code)∧w=w':=by
 have gf:=hv.f
 have gd:=hv.d
 have gl:=hv.l
 obtain ⟨c1,t1,k1⟩:=hv.kf
 obtain ⟨c2,t2,k2⟩:=hv.kd
 obtain ⟨c3,t3,k3⟩:=hv.kl
 have K1:Hid (w.heap[aF.block]?=some (.cells c1 t1 (0,0))∧w.heap[aD.block]?=some (.cells c2 t2 (0,0))∧w.heap[aL.block]?=some (.cells c3 t3 (0,0))):=⟨k1,k2,k3⟩
 have HN:Hid (aF≠aD∧aF≠aL∧aD≠aL):=⟨hv.fd,hv.fl,hv.dl⟩
 clear k1 k2 k3 hv
 rcases he with ⟨rfl,rfl⟩ | ⟨g,a,rfl,hg,hc⟩
 ·
  go_enter Tryz.func20,Tryz.ntmps20
  go_wp2_with fail
  refine (yV aF _).mono ?_
  rintro e w' ⟨rfl,rfl⟩
  go_wp2_with fail
  refine (yV aD _).mono ?_
  rintro e w' ⟨rfl,rfl⟩
  go_wp2_with fail
  refine (yV aL _).mono ?_
  rintro e w' ⟨rfl,rfl⟩
  go_wp2_with fail
  exact fu
 have h1:w.cell? ⟨g,1,none⟩=some (.iface 243 (.pointer (some a))):=ie hg 1
 have H1:=aa h1
 clear h1 hg
 rcases hc with ⟨rfl,rfl⟩ | ⟨rfl,rfl⟩ | ⟨rfl,rfl⟩
 ·
  go_enter Tryz.func20,Tryz.ntmps20
  exact fj
 ·
  go_enter Tryz.func20,Tryz.ntmps20
  go_wp2_with fail
  refine (rL g a aF _ _ _ _ _ H1 (fun e=>HN.1 e.symm) K1.out.2.1 K1.out.1).mono ?_
  rintro e w' ⟨rfl,rfl⟩
  exact fj
 go_enter Tryz.func20,Tryz.ntmps20
 go_wp2_with fail
 refine (rL g a aF _ _ _ _ _ H1 (fun e=>HN.2.1 e.symm) K1.out.2.2 K1.out.1).mono ?_
 rintro e w' ⟨rfl,rfl⟩
 go_wp2_with fail
 refine (rL g a aD _ _ _ _ _ H1 (fun e=>HN.2.2 e.symm) K1.out.2.2 K1.out.2.1).mono ?_
 rintro e w' ⟨rfl,rfl⟩
 exact fj
theorem F7 (ge gt:Nat) (w:World) (hg:w.cell? ⟨3,0,none⟩=some (.iface 181 (.agg #[.pointer (some ⟨4,61,none⟩)]))) (kt:w.heap[gt]?=some (.cells #[.pointer none] 134 (0,0))) :
  Calls Tryz.prog 89 #[.iface 134 (.pointer (some ⟨ge,0,none⟩)),.iface 146 (.pointer (some ⟨gt,0,none⟩))] w fun ev w'=>ev=.returned (.bool true)∧w'.heap[gt]?=some (.cells #[.pointer (some ⟨ge,0,none⟩)] 134 (0,0))∧Touch [gt] w w':=by
 refine (F6 ⟨ge,0,none⟩ ⟨gt,0,none⟩ (.pointer none) w hg (ie kt 0) (ix kt 0)).mono ?_
 rintro ev w' ⟨rfl,rfl⟩
 have hlt:=ig kt
 have hB:=((((Below.refl w.heap.size w).alloc (Nat.le_refl _) (.cells #[.pointer (some ⟨gt,0,none⟩)] 146)).alloc (by simp) (.cells #[.pointer (some ⟨4,146,none⟩),.pointer (some ⟨w.heap.size,0,none⟩),.int .u64 150] 173)).alloc (by simp;omega) (.cells #[.pointer (some ⟨4,146,none⟩),.pointer (some ⟨w.heap.size,0,none⟩),.int .u64 150] 173)).alloc (by simp;omega) (.cells #[.pointer (some ⟨ge,0,none⟩)] 134)
 refine ⟨rfl,?_,(Touch.jq hB).set (by simp) 0 _⟩
 rw [iL ((hB.block gt hlt).trans kt)]
 rfl
theorem xq (S:Swg) (gS:Nat) (w:World) (base:Nat) (aF aD aL:Addr) (p code:Int) (v:Value) (hv:tD w base aF aD aL) (he:yE w aF aD aL p code v) (hc:code≠3) (hbw:base≤w.heap.size) :
  Calls Tryz.prog 51 #[.pointer (some ⟨gS,0,none⟩),v] w fun e w'=>(∃ u,e=.returned u)∧Below w.heap.size w w':=by
 obtain ⟨W,eW⟩:∃ W,w.alloc (.cells #[.pointer none] 134)=W:=⟨_,rfl⟩
 have hB:Below w.heap.size w W:=by rw [←eW];exact (Below.refl _ _).alloc (Nat.le_refl _) _
 have HB:=aa hB
 replace hv:tD W base aF aD aL:=hv.up (hB.mono hbw)
 replace he:yE W aF aD aL p code v:=he.jQ (fun g cs h=>hB.block g (ig h))
 have gd:=hv.d
 obtain ⟨c1,t1,k1⟩:=hv.kf
 obtain ⟨c2,t2,k2⟩:=hv.kd
 obtain ⟨c3,t3,k3⟩:=hv.kl
 have K1:Hid (W.heap[aF.block]?=some (.cells c1 t1 (0,0))∧W.heap[aD.block]?=some (.cells c2 t2 (0,0))∧W.heap[aL.block]?=some (.cells c3 t3 (0,0))):=⟨k1,k2,k3⟩
 have HN:Hid (aF≠aD∧aF≠aL∧aD≠aL):=⟨hv.fd,hv.fl,hv.dl⟩
 clear k1 k2 k3 hv hB
 rcases he with ⟨rfl,rfl⟩ | ⟨g,a,rfl,hg,hc2⟩
 ·
  go_enter Tryz.func51,Tryz.ntmps51
  go_wp2_with fail
  refine (yV aD _).mono ?_
  exact fq
 have H1:Hid (W.cell? ⟨g,1,none⟩=some (.iface 243 (.pointer (some a)))):=ie hg 1
 have HA:Hid (a≠aD∧∃ c t,W.heap[a.block]?=some (.cells c t (0,0))):=by
  rcases hc2 with ⟨_,rfl⟩ | ⟨e,_⟩ | ⟨_,rfl⟩
  ·
   exact ⟨HN.1,_,_,K1.out.1⟩
  ·
   exact absurd e hc
  exact ⟨fun e=>HN.2.2 e.symm,_,_,K1.out.2.2⟩
 obtain ⟨hne,c4,t4,k4⟩:=HA.out
 have K4:Hid (W.heap[a.block]?=some (.cells c4 t4 (0,0))∧a≠aD):=⟨k4,hne⟩
 clear hg hc2 hne k4 HA
 go_enter Tryz.func51,Tryz.ntmps51
 go_wp2_with fail
 refine (rL g a aD _ _ _ _ _ H1 K4.out.2 K4.out.1 K1.out.2.1).mono ?_
 exact fq
