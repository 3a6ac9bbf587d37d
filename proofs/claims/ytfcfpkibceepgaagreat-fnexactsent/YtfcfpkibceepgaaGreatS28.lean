import Derived.Test.YtfcfpkibceepgaaGreatS27
namespace Go.Proofs.YtfcfpkibceepgaaGreat
set_option maxRecDepth 100000
set_option maxHeartbeats 4000000
open Go.RowKit
set_option linter.unusedVariables false
set_option linter.unusedSimpArgs false
theorem dT {p:Prop} (h:p:=by
 refine hK.out _ _ ?_
 clear hK K
 try simp only [Act.put,PZ]
 refine pd (by kernel_rfl) ?_ _
 obtain ⟨S1,eS⟩:∃ S1,({ S with N:=M }:Swg)=S1:=⟨_,rfl⟩
 replace hP:Put X2 X3 g S1.cells 40:=hP.cast (by rw [←eS];rfl)
 have hgs:g<w.heap.size:=fH HK.out.1
 have hT3:Touch [g] w X3:=(Touch.gY HB2.out).trans hP.to
 have k13:X3.cell? ⟨g,13,none⟩=some (.slice (some ⟨gk,o,none⟩) S.nK S.cK):=by rw [←eK];exact (fG hP.blk 13).trans (by rw [←eS];rfl)
 have hpx:X3.heap[w.heap.size]?=some (.cells x.cells 97 (0,0)):=(hP.to.block _ (fH hT2.2) (by simp;omega)).trans hT2.2
 have hid0:X3.cell? ⟨w.heap.size,0,none⟩=some (.int .i64 x.id):=fG hpx 0
 have hrw:iJ X3 gk o S.nK S.K:=HK.out.2.1.ir (hT3.block gk HK.out.2.1.lt (by simpa using fun e=>HK.out.2.2 e.symm))
 have HM3:Hid (gR X3 w.heap.size M∧gx (kF S.N x.inn x.p (-x.cl)) M):=⟨⟨HM.out.1.u.low hP.to (fun y hy=>by simp at hy;omega),HM.out.1.p.low hP.to (fun y hy=>by simp at hy;omega)⟩,HM.out.2⟩
 have HS3:Hid (X3.heap[g]?=some (.cells S1.cells 40 (0,0))∧Touch [g] w X3∧iJ X3 gk o S.nK S.K∧X3.cell? ⟨w.heap.size,0,none⟩=some (.int .i64 x.id)∧w.heap.size<X3.heap.size):=⟨hP.blk,hT3,hrw,hid0,fH hpx⟩
 clear hP hT3 hrw hid0 hpx hT2 HM
 go_wp2_with (first | (go_at_call 143;refine (uw gk o S.nK S.cK S.K w.heap.size x.id _ HJ.out.1 HJ.out.2.1 HS3.out.2.2.1 HS3.out.2.2.2.2 (by have:=HK.out.2.1.lt;omega) HS3.out.2.2.2.1 j HJ.out.2.2.1 HJ.out.2.2.2.1 HJ.out.2.2.2.2).mono ?_;rintro e X4 ⟨rfl,hr4,ht4⟩;have k4:X4.heap[g]?=some (.cells S1.cells 40 (0,0)):=(ht4.block g (fH HS3.out.1) (by simpa using HK.out.2.2)).trans HS3.out.1;have HX4:Hid (iJ X4 gk o (S.nK-1) (rmK S.K j)∧Touch [gk] X3 X4):=⟨hr4,ht4⟩;clear hr4 ht4) | refine fJ rfl 37 (.tmp 35) (.tmp 33) rfl g 13 rfl (.slice (some ⟨gk,o,none⟩) (S.nK-1) S.cK) rfl 1 rfl 40 _ k4 Ce (Nat.le_of_ble_eq_true rfl) (by simp [Value.cells,Value.oneCell']) ?_)
 intro X5 hP5
 have hgk5:gk∉[g]:=by simpa using fun e=>HK.out.2.2 e.symm
 have e5:(S.less M j).aK=some ⟨gk,o,none⟩:=eK
 replace hP5:Put X4 X5 g (S.less M j).cells 40:=hP5.cast (by rw [←eS];unfold Swg.less Swg.cells;rw [eK];rfl)
 have HF:Hid (gx (kF S.N x.inn x.p (-x.cl)) M∧gR X5 w.heap.size M∧X5.heap[g]?=some (.cells (S.less M j).cells 40 (0,0))∧iJ X5 gk o (S.nK-1) (rmK S.K j)∧Touch [g,gk] w X5):=⟨HM3.out.2,⟨(HM3.out.1.u.low HX4.out.2 (fun y hy=>by have:=HK.out.2.1.lt;simp at hy;omega)).low hP5.to (fun y hy=>by simp at hy;omega),(HM3.out.1.p.low HX4.out.2 (fun y hy=>by have:=HK.out.2.1.lt;simp at hy;omega)).low hP5.to (fun y hy=>by simp at hy;omega)⟩,hP5.blk,HX4.out.1.ir (hP5.to.block gk HX4.out.1.lt hgk5),((HS3.out.2.1.mono (fun y hy=>by simp at hy;simp [hy])).trans (HX4.out.2.mono (fun y hy=>by simp at hy;simp [hy]))).trans (hP5.to.mono (fun y hy=>by simp at hy;simp [hy]))⟩
 clear hP5 k4 k13 eS e5
 go_wp2_with fail
 go_end0
 exact ⟨⟨_,rfl⟩,M,HF.out⟩):p:=h
theorem dV {p:Prop} (h:p:=by
 refine il (rs:=[23]) (by kernel_rfl) (by simp) ?_
 refine gi.last rfl (fun K hK=>?_)
 refine jz (by kernel_rfl) none rfl 36 (.tmp 26) (.tmp 23) rfl g 10 rfl (.agg M.cells) rfl 3 rfl 40 _ hT2.1 zy (Nat.le_of_ble_eq_true rfl) (by simp [Value.cells,Value.oneCell',Cnt.cells]) ?_
 intro X3 hP
 exact dT):p:=h
theorem dW {p:Prop} (h:p:=by
 go_simp
 try with_reducible rfl):p:=h
theorem dX {p:Prop} (h:p:=by
 go_wp2_with (at_builtin;refine Lib.wpList_append_run _ rfl _ _ _ _ rfl _ _ rfl rfl _ _ hr ?_)
 go_ret
 exact ⟨_,_,rfl,HV.out.1,HV.out.2⟩):p:=h
theorem dY {p:Prop} (h:p:=by
 match j,hj with
 | 0,_=>rfl
 | 1,_=>rfl
 | 2,_=>rfl
 | 3,_=>rfl
 | 4,_=>rfl):p:=h
section
variable {P : Program} {ops : Array Oper} {Q : Exit → Act → World → Prop} {md : Region.Mode} {T : World → Prop} {d : Nat}
def jY (P:Program) (md:Region.Mode) (ops:Array Oper) (Q:Exit→Act→World→Prop) (T:World→Prop) (d:Nat):Nat→Array Bool→Act→World→Prop
 | 0,listed,a,w=>Region.ready md ops listed=[]∧Q .normal a w
 | fuel+1,listed,a,w =>
  (Region.ready md ops listed=[]→Q .normal a w) ∧
  ∀ i∈Region.ready md ops listed,wpOp P ops Q i (fun a' w'=>(i=d∨listed[d]?=some true∨T w')∧jY P md ops Q T d fuel (listed.setIfInBounds i true) a' w') a w
theorem qk:∀ (fuel:Nat) (listed:Array Bool) (a:Act) (w:World),jY P md ops Q T d fuel listed a w→wpAny P md ops Q fuel listed a w
 | 0,_,_,_,h=>h
 | fuel+1,_,_,_,h=>⟨h.1,fun i hi=>wpOp_mono (fun a' w' h'=>qk fuel _ a' w' h'.2) (h.2 i hi)⟩
theorem sr {i:Nat} {oi:Oper} {v:Value} (hi:ops[i]?=some oi) (hsel:∀ (j:Nat) (o:Oper) cs b,ops[j]?=some o→o.op≠.select cs b)
  (hQ:∀ c a w,Q (.panic c) (a.put oi.dst v) w→Q (.panic c) a w) (hd:jO md ops d i=true) :
  ∀ (fuel:Nat) (listed:Array Bool) (a:Act) (w:World),
   (∀ j oj,ops[j]?=some oj→j≠i→listed.getD j true=false→(∀ e∈oj.after,Region.binds md e=true→e.on≠i)→oi.apart ops oj=true) →
   listed[d]?≠some true→i∈Region.ready md ops listed→YieldsIf P ops T oi v a→T w →
   jY P md ops Q T d fuel (listed.setIfInBounds i true) (a.put oi.dst v) w→jY P md ops Q T d (fuel+1) listed a w:=by
 intro fuel
 induction fuel with
 | zero =>
  intro listed a w _ hdu hr hy hS H
  refine ⟨fun h=>(by rw [h] at hr;cases hr),fun j hj=>?_⟩
  by_cases hji:j=i
  ·
   subst hji;exact hy.wpOp hi hS ⟨.inr (.inr hS),H⟩
  have:=ready_mono hj hji
  rw [H.1] at this
  cases this
 | succ fuel ih =>
  intro listed a w hfree hdu hr hy hS H
  have hid:i≠d:=fun e=>pw hd hr (e▸hr)
  refine ⟨fun h=>(by rw [h] at hr;cases hr),fun j hj=>?_⟩
  by_cases hji:j=i
  ·
   subst hji;exact hy.wpOp hi hS ⟨.inr (.inr hS),H⟩
  have h1:=H.2 j (ready_mono hj hji)
  have hjd:j≠d:=fun e=>pw hd hr (e▸hj)
  obtain ⟨hjun,oj,hoj,hall⟩:=mem_ready.1 hj
  have hnot:∀ e∈oj.after,Region.binds md e=true→e.on≠i:=fun e he hb heq=>by
   have h1:=hall e he hb
   have h0:=(mem_ready.1 hr).1
   rw [heq] at h1
   rcases Nat.lt_or_ge i listed.size with h' | h'
   ·
    simp [h'] at h0 h1;rw [h0] at h1;cases h1
   simp [Array.getElem?_eq_none h'] at h1
  have h2:=wpOp_putIf hoj (hfree j oj hoj hji hjun hnot) (fun cs b=>hsel i oi cs b hi) (fun cs b=>hsel j oj cs b hoj) hQ hy h1
  have hfree':∀ k ok,ops[k]?=some ok→k≠i→(listed.setIfInBounds j true).getD k true=false →
    (∀ e∈ok.after,Region.binds md e=true→e.on≠i)→oi.apart ops ok=true:=fun k ok hk hki hun hno=>by
   refine hfree k ok hk hki ?_ hno
   by_cases hjk:j=k
   ·
    subst hjk;exact hjun
   rw [getD_set_ne true hjk] at hun;exact hun
  refine wpOp_mono (fun a' w' h3=>?_) h2
  have hT:T w':=by
   rcases h3.2.1 with e | e | e
   ·
    exact absurd e hjd
   ·
    rw [Array.getElem?_setIfInBounds_ne hid] at e
    exact absurd e hdu
   exact e
  have hdu':(listed.setIfInBounds j true)[d]?≠some true:=by rw [Array.getElem?_setIfInBounds_ne hjd];exact hdu
  refine ⟨.inr (.inr hT),ih (listed.setIfInBounds j true) a' w' hfree' hdu' (ready_mono hr (Ne.symm hji)) h3.1 hT ?_⟩
  rw [Array.setIfInBounds_comm _ _ hji]
  exact h3.2.2
theorem pj {i:Nat} (dd:Option Tmp) {oi:Oper} {v:Value} {fuel:Nat} {listed:Array Bool} {a:Act} {w:World} (hy:∀ w,T w→(execOp a.eval oi).run P w=.ok (.value v) w) (hS:T w)
  (h:jY P md ops Q T d fuel (listed.setIfInBounds i true) (a.put dd v) w) (hi:ops[i]?=some oi:=by rfl) (hd:oi.dst=dd:=by rfl) (hwt:jO md ops d i=true:=by kernel_rfl)
  (hs:Region.noSelect ops=true:=by kernel_rfl) (hf:Region.free md ops listed i=true:=by kernel_rfl) (hr:(Region.ready md ops listed).contains i=true:=by kernel_rfl)
  (hQ:∀ c a w,Q (.panic c) (a.put dd v) w→Q (.panic c) a w:=by exact fun _ _ _ h=>h) (hdu:(listed[d]? == some true)=false:=by kernel_rfl) (hw:Region.wanted oi (yielded ops a.tmps)=true:=by kernel_rfl):jY P md ops Q T d (fuel+1) listed a w:=by
 subst hd
 exact sr hi (Region.noSelect_spec hs) hQ hwt fuel listed a w (Region.free_spec hi hf) (fun e=>by rw [e] at hdu;simp at hdu) (by simpa using hr) (Or.inl ⟨hw,hy⟩) hS h
theorem tG (i k:Nat) {oi:Oper} {v:Value} {fuel:Nat} {listed:Array Bool} {a a':Act} {w:World} (hS:T w)
  (h:jY P md ops Q T d fuel (listed.setIfInBounds i true) a' w) (hi:ops[i]?=some oi:=by rfl) (hd:oi.dst=some k:=by rfl)
  (hy:∀ w,T w→(execOp a.eval oi).run P w=.ok (.value v) w:=by intro wx hSw;go_simp;try with_reducible rfl)
  (ha:a.put (some k) v=a':=by (try simp only [Act.put,PZ]);try exact rfl) (hwt:jO md ops d i=true:=by kernel_rfl)
  (hs:Region.noSelect ops=true:=by kernel_rfl) (hf:Region.free md ops listed i=true:=by kernel_rfl) (hr:(Region.ready md ops listed).contains i=true:=by kernel_rfl)
  (hQ:∀ c a w,Q (.panic c) (a.put (some k) v) w→Q (.panic c) a w:=by exact fun _ _ _ h=>h) (hdu:(listed[d]? == some true)=false:=by kernel_rfl) (hw:Region.wanted oi (yielded ops a.tmps)=true:=by kernel_rfl):jY P md ops Q T d (fuel+1) listed a w :=
 pj (some k) hy hS (by rw [ha];exact h) hi hd hwt hs hf hr hQ hdu hw
def gi (P:Program) (md:Region.Mode) (ops:Array Oper) (Q:Exit→Act→World→Prop) (T:World→Prop) (d fuel:Nat) (listed:Array Bool) (a:Act) (w:World) (rs:List Nat):Prop :=
 ∀ i∈rs,wpOp P ops Q i (fun a' w'=>(i=d∨listed[d]?=some true∨T w')∧jY P md ops Q T d fuel (listed.setIfInBounds i true) a' w') a w
theorem gi.nil {fuel:Nat} {listed:Array Bool} {a:Act} {w:World}:gi P md ops Q T d fuel listed a w []:=fun _ h=>by cases h
theorem gi.cons {fuel:Nat} {listed:Array Bool} {a:Act} {w:World} {i:Nat} {o:Oper} {rs:List Nat} (ho:ops[i]?=some o)
  (h:∀ K':Act→World→Prop,Shut (∀ a w,T w→jY P md ops Q T d fuel (listed.setIfInBounds i true) a w→K' a w)→if Region.wanted o (yielded ops a.tmps)=true then Oper.wp P o a w K' Q else K' (a.put o.dst undef) w)
  (hs:gi P md ops Q T d fuel listed a w rs):gi P md ops Q T d fuel listed a w (i :: rs):=fun j hj=>by
 rcases List.mem_cons.1 hj with rfl | hj
 ·
  exact wpOp_step ho (fun K' hK=>h K' (fun a w hS hW=>hK a w ⟨.inr (.inr hS),hW⟩))
 exact hs j hj
theorem gi.last {fuel:Nat} {listed:Array Bool} {a:Act} {w:World} {o:Oper} (ho:ops[d]?=some o)
  (h:∀ K':Act→World→Prop,Shut (∀ a w,jY P md ops Q T d fuel (listed.setIfInBounds d true) a w→K' a w)→if Region.wanted o (yielded ops a.tmps)=true then Oper.wp P o a w K' Q else K' (a.put o.dst undef) w):gi P md ops Q T d fuel listed a w [d]:=fun j hj=>by
 obtain rfl:=List.mem_singleton.1 hj
 exact wpOp_step ho (fun K' hK=>h K' (fun a w hW=>hK a w ⟨.inl rfl,hW⟩))
theorem gi.late {fuel:Nat} {listed:Array Bool} {a:Act} {w:World} {i:Nat} {o:Oper} (ho:ops[i]?=some o) (hl:listed[d]?=some true)
  (h:∀ K':Act→World→Prop,Shut (∀ a w,jY P md ops Q T d fuel (listed.setIfInBounds i true) a w→K' a w)→if Region.wanted o (yielded ops a.tmps)=true then Oper.wp P o a w K' Q else K' (a.put o.dst undef) w):gi P md ops Q T d fuel listed a w [i]:=fun j hj=>by
 obtain rfl:=List.mem_singleton.1 hj
 exact wpOp_step ho (fun K' hK=>h K' (fun a w hW=>hK a w ⟨.inr (.inl hl),hW⟩))
theorem il {rs:List Nat} {fuel:Nat} {listed:Array Bool} {a:Act} {w:World} (hr:Region.ready md ops listed=rs) (hne:rs≠[])
  (h:gi P md ops Q T d fuel listed a w rs):jY P md ops Q T d (fuel+1) listed a w :=
 ⟨fun h0=>absurd (hr▸h0) hne,hr▸h⟩
theorem pd {listed:Array Bool} {a:Act} {w:World} (hr:Region.ready md ops listed=[]) (h:Q .normal a w) :
  ∀ fuel,jY P md ops Q T d fuel listed a w
 | 0=>⟨hr,h⟩
 | _+1=>⟨fun _=>h,by rw [hr];simp⟩
theorem o8 {id:Nat} {a:Act} {w:World} (T:World→Prop) (d:Nat) (hm:P.follows .mixedOrders=true)
  (h:jY P .any ops Q T d ops.size (Array.replicate ops.size false) a w.drew):(Code.region id ops true).wp P Q a w :=
 wp_region_any hm (qk _ _ _ _ h)
end
theorem zy:(Tryz.prog.info? 36).map (·.size)=some 3:=by kernel_rfl
theorem Ce:(Tryz.prog.info? 37).map (·.size)=some 1:=by kernel_rfl
def Swg.less (S:Swg) (M:Cnt) (j:Nat):Swg:={ S with N:=M,nK:=S.nK-1,K:=rmK S.K j }
theorem zi (S:Swg) (x:Pkt) (g gk o j:Nat) (w:World) (kb:w.heap[g]?=some (.cells S.cells 40 (0,0))) (hf:S.N.Fit) (hN:ja w S.N) (hform:oK S.C S.N x.inn x.p x.cl) (hcn:Cnt.Ok S.C (kF S.N x.inn x.p (-x.cl))) (hcl:mK x.k x.d x.s x.p x.b.size=x.cl) (hbs:x.b.size≤maxLen)
  (eK:S.aK=some ⟨gk,o,none⟩) (hn:S.nK≤1048576) (hnc:S.nK≤S.cK) (hrow:iJ w gk o S.nK S.K) (hj:j<S.nK) (hid:(S.K j).id=x.id) (hne:∀ i,i<S.nK→i≠j→(S.K i).id≠x.id) (hg:g≠gk) :
  Calls Tryz.prog 120 #[.pointer (some ⟨g,0,none⟩),.agg x.cells] w fun e w'=>(∃ v,e=.returned v)∧∃ M,gx (kF S.N x.inn x.p (-x.cl)) M∧gR w' w.heap.size M∧w'.heap[g]?=some (.cells (S.less M j).cells 40 (0,0))∧iJ w' gk o (S.nK-1) (rmK S.K j)∧Touch [g,gk] w w':=by
 obtain ⟨V0,eV⟩:∃ V,w.alloc (.cells x.cells 97)=V:=⟨_,rfl⟩
 have HV:Hid (Below w.heap.size w V0∧V0.heap[w.heap.size]?=some (.cells x.cells 97 (0,0))∧V0.heap.size=w.heap.size+1):=by rw [Hid,←eV];exact ⟨(Below.refl _ _).alloc (Nat.le_refl _) _,fL _ _,by simp⟩
 have HK:Hid (w.heap[g]?=some (.cells S.cells 40 (0,0))∧iJ w gk o S.nK S.K∧g≠gk):=⟨kb,hrow,hg⟩
 have HN:Hid (ja w S.N∧S.N.Fit∧oK S.C S.N x.inn x.p x.cl∧Cnt.Ok S.C (kF S.N x.inn x.p (-x.cl))):=⟨hN,hf,hform,hcn⟩
 have HJ:Hid (S.nK≤1048576∧S.nK≤S.cK∧j<S.nK∧(S.K j).id=x.id∧∀ i,i<S.nK→i≠j→(S.K i).id≠x.id):=⟨hn,hnc,hj,hid,hne⟩
 have HC:Hid (∀ wx:World,wx.heap[g]?=some (.cells S.cells 40 (0,0))→(wx.cell? ⟨g,0,none⟩=some (.int .i64 S.C.p)∧wx.cell? ⟨g,1,none⟩=some (.int .i64 S.C.c)∧wx.cell? ⟨g,2,none⟩=some (.int .i64 S.C.xo)∧wx.cell? ⟨g,3,none⟩=some (.int .i64 S.C.xn)∧wx.cell? ⟨g,4,none⟩=some (.int .i64 S.C.hd)∧wx.cell? ⟨g,5,none⟩=some (.int .i64 S.C.lo)∧wx.cell? ⟨g,6,none⟩=some (.int .i64 S.C.dl))∧wx.cell? ⟨g,10,none⟩=some (.slice S.N.aU S.N.nU S.N.cU)∧wx.cell? ⟨g,11,none⟩=some (.int .i64 S.N.lo)∧wx.cell? ⟨g,12,none⟩=some (.slice S.N.aP S.N.nP S.N.cP)) :=
  fun wx k=>⟨⟨fG k 0,fG k 1,fG k 2,fG k 3,fG k 4,fG k 5,fG k 6⟩,fG k 10,fG k 11,fG k 12⟩
 have HB:Hid (∀ wx:World,wx.heap[w.heap.size]?=some (.cells x.cells 97 (0,0))→wx.cell? ⟨w.heap.size,1,none⟩=some (.int .i64 x.inn)∧wx.cell? ⟨w.heap.size,3,none⟩=some (.int .i64 x.k)∧wx.cell? ⟨w.heap.size,4,none⟩=some (.int .i64 x.d)∧wx.cell? ⟨w.heap.size,5,none⟩=some (.int .i64 x.s)∧wx.cell? ⟨w.heap.size,6,none⟩=some (.int .i64 x.p)∧wx.cell? ⟨w.heap.size,7,none⟩=some (.string x.b)) :=
  fun wx k=>⟨fG k 1,fG k 3,fG k 4,fG k 5,fG k 6,fG k 7⟩
 clear kb hrow hg hN hf hform hcn hn hnc hj hid hne
 go_enter Tryz.func120,Tryz.ntmps120
 go_wp2_with fail
 try rw [eV]
 refine o8 (fun w'=>w'.heap[g]?=some (.cells S.cells 40 (0,0))∧w'.heap[w.heap.size]?=some (.cells x.cells 97 (0,0))) 23 (by kernel_rfl) ?_
 have hd:Below V0.heap.size V0 V0.drew:=(Below.refl _ _).drew
 have HD:Hid (Below w.heap.size w V0.drew∧V0.drew.heap[w.heap.size]?=some (.cells x.cells 97 (0,0))):=⟨HV.out.1.trans (hd.mono HV.out.1.size),(hd.block _ (by rw [HV.out.2.2];omega)).trans HV.out.2.1⟩
 clear hd eV
 generalize V0.drew=V at *
 have hT0:V.heap[g]?=some (.cells S.cells 40 (0,0))∧V.heap[w.heap.size]?=some (.cells x.cells 97 (0,0)):=⟨(HD.out.1.block g (fH HK.out.1)).trans HK.out.1,HD.out.2⟩
 refine tG 0 5 hT0 ?_
 refine tG 1 6 hT0 ?_
 refine tG 2 7 hT0 ?_
 refine tG 3 8 hT0 ?_
 refine pj (i:=4) (some 9) (v:=?_) ?_ hT0 ?_
 rotate_left
 ·
  intro wx hSw
  obtain ⟨c0,c1,c2,c3,c4,c5,c6⟩:=(HC.out wx hSw.1).1
  exact dW
 try simp only [Act.put,PZ]
 refine tG 5 10 hT0 ?_
 refine tG 6 11 hT0 ?_
 refine tG 7 12 hT0 ?_
 refine pj (i:=8) (some 13) (v:=?_) ?_ hT0 ?_
 rotate_left
 ·
  intro wx hSw
  obtain ⟨c10,c11,c12⟩:=(HC.out wx hSw.1).2
  exact dW
 try simp only [Act.put,PZ]
 refine tG 9 14 hT0 ?_
 refine pj (i:=10) (some 15) (v:=?_) ?_ hT0 ?_
 rotate_left
 ·
  intro wx hSw
  have b1:=(HB.out wx hSw.2).1
  exact dW
 try simp only [Act.put,PZ]
 refine tG 11 16 hT0 ?_
 refine tG 12 17 hT0 ?_
 refine pj (i:=13) (some 18) (v:=?_) ?_ hT0 ?_
 rotate_left
 ·
  intro wx hSw
  have b6:=(HB.out wx hSw.2).2.2.2.2.1
  exact dW
 try simp only [Act.put,PZ]
 refine tG 14 19 hT0 ?_
 refine pj (i:=15) (some 20) (v:=?_) ?_ hT0 ?_
 rotate_left
 ·
  intro wx hSw
  obtain ⟨_,b3,b4,b5,b6,b7⟩:=HB.out wx hSw.2
  exact dW
 try simp only [Act.put,PZ]
 refine il (rs:=[16]) (by kernel_rfl) (by simp) ?_
 refine gi.cons rfl (fun K hK=>?_) gi.nil
 go_simp
 refine (ko x.k x.d x.s x.p x.b _ hbs).mono ?_
 rintro e X1 ⟨rfl,hb⟩
 rw [hcl]
 have HB1:Hid (Below w.heap.size w X1):=HD.out.1.trans (hb.mono HD.out.1.size)
 have hT1:X1.heap[g]?=some (.cells S.cells 40 (0,0))∧X1.heap[w.heap.size]?=some (.cells x.cells 97 (0,0)):=⟨(HB1.out.block g (fH HK.out.1)).trans HK.out.1,(hb.block _ (fH hT0.2)).trans hT0.2⟩
 clear hb hT0
 go_wp2_with fail
 refine hK.out _ _ hT1 ?_
 clear hK K
 try simp only [Act.put,PZ]
 refine il (rs:=[17]) (by kernel_rfl) (by simp) ?_
 refine gi.cons rfl (fun K hK=>?_) gi.nil
 go_simp
 refine (rO S.C S.N x.inn x.p x.cl _ HN.out.2.1 (HN.out.1.up HB1.out) true ⟨fun _=>HN.out.2.2,fun _=>rfl⟩).mono ?_
 rintro e X2 ⟨M,rfl,hoM,hb,hAM⟩
 have HM:Hid (gR X2 w.heap.size M∧gx (kF S.N x.inn x.p (-x.cl)) M):=⟨hoM.mono HB1.out.size,hAM⟩
 have HB2:Hid (Below w.heap.size w X2):=HB1.out.trans (hb.mono HB1.out.size)
 have hT2:X2.heap[g]?=some (.cells S.cells 40 (0,0))∧X2.heap[w.heap.size]?=some (.cells x.cells 97 (0,0)):=⟨(HB2.out.block g (fH HK.out.1)).trans HK.out.1,(hb.block _ (fH hT1.2)).trans hT1.2⟩
 clear hb hT1 hoM hAM
 go_wp2_with fail
 refine hK.out _ _ hT2 ?_
 clear hK K
 try simp only [Act.put,PZ]
 refine tG 18 4 hT2 ?_
 refine tG 19 23 hT2 ?_
 refine il (rs:=[20,21]) (by kernel_rfl) (by simp) ?_
 refine gi.cons rfl (fun K hK=>?_) (gi.cons rfl (fun K hK=>?_) gi.nil)
 ·
  go_simp
  refine hK.out _ _ hT2 ?_
  clear hK K
  try simp only [Act.put,PZ]
  refine il (rs:=[21]) (by kernel_rfl) (by simp) ?_
  refine gi.cons rfl (fun K hK=>?_) gi.nil
  go_simp
  refine hK.out _ _ hT2 ?_
  clear hK K
  try simp only [Act.put,PZ]
  refine tG 22 26 hT2 ?_
  exact dV
 go_simp
 refine hK.out _ _ hT2 ?_
 clear hK K
 try simp only [Act.put,PZ]
 refine tG 22 26 hT2 ?_
 refine il (rs:=[20,23]) (by kernel_rfl) (by simp) ?_
 refine gi.cons rfl (fun K hK=>?_) (gi.last rfl (fun K hK=>?_))
 ·
  go_simp
  refine hK.out _ _ hT2 ?_
  clear hK K
  try simp only [Act.put,PZ]
  exact dV
 refine jz (by kernel_rfl) none rfl 36 (.tmp 26) (.tmp 23) rfl g 10 rfl (.agg M.cells) rfl 3 rfl 40 _ hT2.1 zy (Nat.le_of_ble_eq_true rfl) (by simp [Value.cells,Value.oneCell',Cnt.cells]) ?_
 intro X3 hP
 refine hK.out _ _ ?_
 clear hK K
 try simp only [Act.put,PZ]
 refine il (rs:=[20]) (by kernel_rfl) (by simp) ?_
 refine gi.late rfl (by kernel_rfl) (fun K hK=>?_)
 go_simp
 exact dT
theorem gI.Du {w w':World} {base g gk n':Nat} {S:Swg} {M:Cnt} {K':Nat→Pkt} (h:gI w base S) {arr cs:Array Value} (kk:w.heap[gk]?=some (.cells arr 97 (0,0))) (kg:w.heap[g]?=some (.cells cs 40 (0,0))) (eK:S.aK=some ⟨gk,0,none⟩) (hb:base≤gk) (ht:Touch [g,gk] w w') (hr:iJ w' gk 0 n' K') (hM:gR w' w.heap.size M):gI w' base { S with N:=M,nK:=n',K:=K' }:=by
 have hlt:=fH kk
 have far:∀ x t,(∃ cs,w.heap[x]?=some (.cells cs t (0,0)))→t≠97→t≠40→x∉[g,gk]:=by
  rintro x t ⟨cs,hx⟩ hne hne2 hy
  rcases List.mem_cons.1 hy with e | hy
  ·
   exact iz hx kg hne2 e
  exact iz hx kk hne (by simpa using hy)
 refine ⟨h.e.fK ht (fun x hx=>far x _ (h.e.type x hx) (by decide) (by decide)),hM.u.mono (by omega),hM.p.mono (by omega),?_,h.l.fK ht (fun x hx=>far x _ (h.l.type x hx) (by decide) (by decide)),fun i hi=>(h.ls i hi).zn ht (fun x hx=>far x _ ((h.ls i hi).ty2 x hx) (by decide) (by decide)) (fun x hx=>far x _ ((h.ls i hi).u.type x hx) (by decide) (by decide)) (fun x hx=>far x _ ((h.ls i hi).s.type x hx) (by decide) (by decide)),?_⟩
 ·
  show VT 97 w' base S.aK (n'*8) (my K')
  rw [eK]
  obtain ⟨arr',k1,k2,k3⟩:=hr
  refine .inr ⟨gk,rfl,hb,arr',k1,by omega,fun q hq=>?_⟩
  have:=k3 (q / 8) (by omega) (q % 8) (by omega)
  rw [show 0+q / 8*8+q % 8=q by omega,←jQ K' (q / 8) (q % 8) (by omega),show q / 8*8+q % 8=q by omega] at this
  exact this
 refine List.nodup_append.2 ⟨jE _ _,(List.nodup_append.1 h.nd).2.1,fun x hx y hy e=>?_⟩
 subst e
 have h1:=(hM.u.blk x hx).1
 simp only [List.mem_flatMap,List.mem_range] at hy
 obtain ⟨i,hi,hy⟩:=hy
 have:=((h.ls i hi).blk x hy).2
 omega
theorem yH (K:Nat→Pkt) (j:Nat):rmK (kq K j) j=rmK K j:=by
 funext i
 unfold rmK kq
 by_cases h:i<j
 ·
  rw [if_pos h,if_pos h,if_neg (by omega)]
 rw [if_neg h,if_neg h,if_neg (by omega)]
theorem Ae {x:Pkt} (h:x.pR):mK x.k x.d x.s x.p x.b.size=x.cl:=by
 unfold mK
 rw [h.2]
 rfl
theorem z8 (K:Nat→Pkt) (j i:Nat):(kq K j i).id=(K i).id:=by
 unfold kq
 split <;> rfl
theorem qW (S:Swg) (l':Lng) (id:Int) (i j g base:Nat) (w:World) (kb:w.heap[g]?=some (.cells S.cells 40 (0,0))) (hbg:base≤g) (ho:ic w base S) (hi:i<S.nL) (hl:lY S.nK S.K (S.L i)) (hk:iT S.nx S.C.p S.nK S.K) (hm:mz (S.L i) l' id) (h0:id≠0) (hj:j<S.nK) (hid:(S.K j).id=id) (hr:(S.K j).refs=1) (hf:S.N.Fit) (hcap:S.nK≤S.cK) (hform:oK S.C S.N (S.K j).inn (S.K j).p (S.K j).cl) (hcn:Cnt.Ok S.C (kF S.N (S.K j).inn (S.K j).p (-(S.K j).cl))) (hfr:(S.K j).pR) :
  Calls Tryz.prog 79 #[.pointer (some ⟨g,0,none⟩),.int .i64 (i:Int)] w fun e w'=>∃ gm,e=.returned (.slice (some ⟨gm,0,none⟩) 1 1)∧w.heap.size≤gm∧w'.heap[gm]?=some (.cells #[.iface 166 (.agg (S.K j).frame)] 125 (0,0))∧∃ l2 M,gy l' l2∧gx (kF S.N (S.K j).inn (S.K j).p (-(S.K j).cl)) M∧gI w' base { S.lane i l2 with N:=M,nK:=S.nK-1,K:=rmK S.K j }∧w'.heap[g]?=some (.cells (S.less M j).cells 40 (0,0))∧mA base w w':=by
 obtain ⟨gL,eL,hbL,hT⟩:=ho.next kb hi hl hm h0
 have HT:Hid (Calls Tryz.prog 118 #[.pointer (some ⟨gL,i*8,none⟩)] w fun e w'=>e=.returned (.tuple #[.int .i64 id,.bool true])∧∃ l2,gy l' l2∧gI w' base (S.lane i l2)∧w'.heap[g]?=some (.cells (S.lane i l2).cells 40 (0,0))∧mA base w w'):=hT
 have c14:w.cell? ⟨g,14,none⟩=some (.slice (some ⟨gL,0,none⟩) S.nL S.cL):=by rw [←eL];exact fG kb 14
 have hi1:(i:Int)<(S.nL:Int):=by omega
 have hi0:(0:Int)≤(i:Int):=by omega
 have HJ:Hid (j<S.nK∧(S.K j).id=id∧S.nK≤1048576∧∀ i,i<S.nK→0<i→(S.K (i-1)).id<(S.K i).id):=⟨hj,hid,by have:=hk.le;omega,hk.up⟩
 have HQ:Hid (S.N.Fit∧S.nK≤S.cK∧oK S.C S.N (S.K j).inn (S.K j).p (S.K j).cl∧Cnt.Ok S.C (kF S.N (S.K j).inn (S.K j).p (-(S.K j).cl))∧(S.K j).pR∧(∀ i,i<S.nK→i≠j→(S.K i).id≠(S.K j).id)∧base≤g):=⟨hf,hcap,hform,hcn,hfr,hk.only hj,hbg⟩
 have hw1:IntKind.i64.wrap ((S.K j).refs-1)=0:=by rw [hr];rfl
 clear kb ho hl hk hm hT hj hid h0 eL hf hcap hform hcn hfr hbg
 go_enter Tryz.func79,Tryz.ntmps79
 go_wp2_with fail
 refine HT.out.mono ?_
 rintro e w1 ⟨rfl,l2,hA,hO,hg1,hto⟩
 have HF1:Hid (gy l' l2∧gI w1 base (S.lane i l2)∧w1.heap[g]?=some (.cells S.cells 40 (0,0))∧mA base w w1):=⟨hA,hO,hg1,hto⟩
 obtain ⟨gk,eK,hbk,hrow⟩:=hO.CG (j:=j) HJ.out.1
 have eK':S.aK=some ⟨gk,0,none⟩:=eK
 have c13:w1.cell? ⟨g,13,none⟩=some (.slice (some ⟨gk,0,none⟩) S.nK S.cK):=by rw [←eK'];exact fG HF1.out.2.2.1 13
 have HP1:Hid (iJ w1 gk 0 S.nK S.K∧base≤gk∧S.aK=some ⟨gk,0,none⟩):=⟨hrow,hbk,eK'⟩
 clear hA hO hg1 hto eK eK' hbk hrow c14
 go_wp2_with fail
 refine (ki gk 0 S.nK S.cK S.K id _ HJ.out.2.2.1 HP1.out.1.rd HJ.out.2.2.2 j HJ.out.1 HJ.out.2.1).mono ?_
 rintro e w2 ⟨rfl,hb⟩
 obtain ⟨arr,a1,a2,a3⟩:=HP1.out.1
 have b1:w2.heap[gk]?=some (.cells arr 97 (0,0)):=(hb.block gk (fH a1)).trans a1
 have HA:Hid (w2.heap[gk]?=some (.cells arr 97 (0,0))∧0+S.nK*8≤arr.size∧(∀ i,i<S.nK→∀ q,q<8→arr[0+i*8+q]?=(S.K i).cells[q]?)∧Below w1.heap.size w1 w2):=⟨b1,a2,a3,hb⟩
 have hjn:=HJ.out.1
 have c2:w2.cell? ⟨gk,0+j*8+2,none⟩=some (.int .i64 (S.K j).refs):=(fG b1 _).trans (a3 j hjn 2 (by omega))
 clear a1 a2 a3 hb c13 b1
 simp only [Nat.zero_add] at c2 ⊢
 go_wp2_with (refine fJ rfl 2 (.tmp 33) (.tmp 31) rfl gk (j*8+2) rfl (.int .i64 0) rfl 1 rfl 97 arr HA.out.1 (by kernel_rfl) (by have:=HA.out.2.1;omega) (by simp [Value.cells,Value.oneCell']) ?_)
 intro W hP
 have hrowW:iJ W gk 0 S.nK (kq S.K j):=iJ.dec hjn HA.out.2.1 HA.out.2.2.1 (by rw [hr];simpa using hP)
 have HW:Hid (iJ W gk 0 S.nK (kq S.K j)∧Touch [gk] w2 W∧W.heap.size=w2.heap.size):=⟨hrowW,hP.to,hP.size⟩
 obtain ⟨ar2,d1,d2,d3⟩:=hrowW
 have hdj:kq S.K j j={ S.K j with refs:=0 }:=by unfold kq;rw [if_pos rfl,hr];rfl
 have HL:Hid (∀ q,q<5→W.cell? ⟨gk,j*8+3+q,none⟩=(S.K j).frame[q]?):=fun q hq=>by
  have:=(fG d1 (j*8+3+q)).trans ((by rw [show j*8+3+q=0+j*8+(3+q) by omega];exact d3 j hjn (3+q) (by omega)):_=(kq S.K j j).cells[3+q]?)
  rw [this,hdj]
  have:q=0∨q=1∨q=2∨q=3∨q=4:=by omega
  rcases this with rfl | rfl | rfl | rfl | rfl <;> rfl
 obtain ⟨V,eV⟩:∃ V,W.alloc (.cells (S.K j).frame 166)=V:=⟨_,rfl⟩
 have HV:Hid (Below W.heap.size W V∧V.heap[W.heap.size]?=some (.cells (S.K j).frame 166 (0,0))∧V.heap.size=W.heap.size+1∧iJ V gk 0 S.nK (kq S.K j)):=by
  rw [Hid,←eV]
  have hbb:Below W.heap.size W (W.alloc (.cells (S.K j).frame 166)):=(Below.refl _ _).alloc (Nat.le_refl _) _
  exact ⟨hbb,fL _ _,by simp,HW.out.1.ir (hbb.block gk (fH d1))⟩
 have c2V:V.cell? ⟨gk,j*8+2,none⟩=some (.int .i64 0):=(fG ((HV.out.1.block gk (fH d1)).trans d1) _).trans (by have:=d3 j hjn 2 (by omega);rw [Nat.zero_add,hdj] at this;exact this)
 have HLV:Hid (∀ q,q<8→V.cell? ⟨gk,j*8+q,none⟩=({ S.K j with refs:=0 }:Pkt).cells[q]?):=fun q hq=>by
  have:=(fG ((HV.out.1.block gk (fH d1)).trans d1) (j*8+q)).trans ((by rw [show j*8+q=0+j*8+q by omega];exact d3 j hjn q hq):_=(kq S.K j j).cells[q]?)
  rw [hdj] at this
  exact this
 clear hP d1 d2 d3 c2 hdj
 go_wp2_with (first | refine fP rfl 74 5 _ Tryz.underlying74 rfl me (.tmp 36) rfl gk (j*8+3) rfl #[.int .i64 (S.K j).k,.int .i64 (S.K j).d,.int .i64 (S.K j).s,.int .i64 (S.K j).p,.string (S.K j).b] rfl HL.out ?_ | refine gZ 166 5 (by kernel_rfl) rfl (.tmp 8) (.tmp 38) rfl (S.K j).frame _ rfl rfl rfl rfl rfl (by simp [Pkt.frame,Value.oneCell']) (eV▸?_) | refine fP rfl 97 8 _ Tryz.underlying97 rfl (by kernel_rfl) (.tmp 46) rfl gk (j*8) rfl ({ S.K j with refs:=0 }:Pkt).cells rfl HLV.out ?_)
 have hlk:=fH HA.out.1
 have hlg:=fH HF1.out.2.2.1
 have z2:=HA.out.2.2.2.size
 have zW:=HW.out.2.2
 have zV:=HV.out.2.2.1
 have hO2:=HF1.out.2.1.up HA.out.2.2.2
 have hO3:gI W base { S.lane i l2 with nK:=S.nK,K:=kq S.K j }:=hO2.DJ HA.out.1 HP1.out.2.2 HP1.out.2.1 HW.out.2.1 HW.out.1
 have HOV:Hid (gI V base { S.lane i l2 with nK:=S.nK,K:=kq S.K j }):=hO3.up HV.out.1
 have kg2:=(HA.out.2.2.2.block g hlg).trans HF1.out.2.2.1
 have hgk:g∉[gk]:=fun h=>iz kg2 HA.out.1 (by decide) (by simpa using h)
 have hgk1:g≠gk:=fun e=>hgk (by simp [e])
 have kgW:=(HW.out.2.1.block g (fH kg2) hgk).trans kg2
 have HGV:Hid (V.heap[g]?=some (.cells S.cells 40 (0,0))):=(HV.out.1.block g (fH kgW)).trans kgW
 have h1:=HF1.out.2.2.2.bel.size
 have hgk2:=HP1.out.2.1
 have s1:mA base w1 w2:=.up HA.out.2.2.2 (by have:=HP1.out.1.lt;omega)
 have s2:mA base w2 W:=.to HW.out.2.1 (by omega) (fun x hx=>by
  obtain rfl:x=gk:=by simpa using hx
  exact ⟨hgk2,_,_,HA.out.1,by decide⟩)
 have s3:mA base W V:=.up HV.out.1 (by omega)
 have HSV:Hid (mA base w V∧base≤V.heap.size∧w.heap.size≤V.heap.size):=⟨(HF1.out.2.2.2.trans s1).trans (s2.trans s3),by omega,by omega⟩
 clear hO2 hO3 kg2 hgk kgW s1 s2 s3 hlk hlg
 refine (zi { S with K:=kq S.K j } ({ S.K j with refs:=0 }:Pkt) g gk 0 j V HGV.out HQ.out.1 (show ja V S.N from ⟨HOV.out.u.read,HOV.out.p.read⟩) HQ.out.2.2.1 HQ.out.2.2.2.1 (Ae HQ.out.2.2.2.2.1) (by have:=HQ.out.2.2.2.2.1.le;unfold maxLen;show (S.K j).b.size≤_;omega) HP1.out.2.2 HJ.out.2.2.1 HQ.out.2.1 HV.out.2.2.2 hjn (z8 S.K j j) (fun a ha hne=>by show (kq S.K j a).id≠(S.K j).id;rw [z8];exact HQ.out.2.2.2.2.2.1 a ha hne) hgk1).mono ?_
 rintro e X ⟨⟨v,rfl⟩,M,hM,hOM,hgX,hrX,htX⟩
 have hrX':iJ X gk 0 (S.nK-1) (rmK S.K j):=by
  have:=hrX
  simp only [yH] at this
  exact this
 obtain ⟨av,av1,_⟩:=HV.out.2.2.2
 have hOX:gI X base { S.lane i l2 with N:=M,nK:=S.nK-1,K:=rmK S.K j }:=HOV.out.Du av1 HGV.out HP1.out.2.2 hgk2 htX hrX' hOM
 have hgX':X.heap[g]?=some (.cells (S.less M j).cells 40 (0,0)):=hgX
 have sX:mA base V X:=.to htX HSV.out.2.1 (fun x hx=>by
  rcases List.mem_cons.1 hx with e | hx
  ·
   subst e;exact ⟨HQ.out.2.2.2.2.2.2,_,_,HGV.out,by decide⟩
  ·
   obtain rfl:x=gk:=by simpa using hx
   exact ⟨hgk2,_,_,av1,by decide⟩)
 have kX:X.heap[W.heap.size]?=some (.cells (S.K j).frame 166 (0,0)):=(htX.block _ (by omega) (fun hx=>by
  rcases List.mem_cons.1 hx with e | hx
  ·
   exact iz HGV.out HV.out.2.1 (by decide) e.symm
  ·
   exact iz av1 HV.out.2.1 (by decide) (by simpa using hx:W.heap.size=gk).symm)).trans HV.out.2.1
 have HB:Hid (∀ q,q<5→X.cell? ⟨W.heap.size,0+q,none⟩=(S.K j).frame[q]?):=fun q _=>by rw [Nat.zero_add];exact fG kX q
 have HX:Hid (gx (kF S.N (S.K j).inn (S.K j).p (-(S.K j).cl)) M∧gI X base { S.lane i l2 with N:=M,nK:=S.nK-1,K:=rmK S.K j }∧X.heap[g]?=some (.cells (S.less M j).cells 40 (0,0))∧mA base V X∧V.heap.size≤X.heap.size):=⟨hM,hOX,hgX',sX,htX.size⟩
 clear hM hOM hgX hrX htX hrX' av1 hOX hgX' sX kX zW zV z2 h1
 go_wp2_with (refine fP rfl 166 5 _ Tryz.underlying166 rfl (by kernel_rfl) (.tmp 8) rfl W.heap.size 0 rfl (S.K j).frame rfl HB.out ?_)
 go_ret
 have z1:=HSV.out.2.2
 have z3:=HX.out.2.2.2.2
 have z4:=HSV.out.2.1
 refine ⟨X.heap.size,rfl,by omega,fL _ _,l2,M,HF1.out.1,HX.out.1,HX.out.2.1.up ((Below.refl _ _).alloc (Nat.le_refl _) _),(gg _ (fH HX.out.2.2.1)).trans HX.out.2.2.1,(HSV.out.1.trans HX.out.2.2.2.1).trans (.up ((Below.refl _ _).alloc (Nat.le_refl _) _) (by omega))⟩
def C6 (b:Bool):TypeId:=if b then 158 else 159
theorem AB (S:Swg) (g gu gp i:Nat) (pa:Array Value) (w:World) (kb:w.heap[g]?=some (.cells S.cells 40 (0,0))) (eU:S.N.aU=some ⟨gu,0,none⟩) (eP:S.N.aP=some ⟨gp,0,none⟩) (hiU:i<S.N.nU) (hiP:i<S.N.nP) (hu:w.cell? ⟨gu,i,none⟩=some (.int .i64 (S.N.u i))) (kp:w.heap[gp]?=some (.cells pa 4 (0,0))) (hp:pa[i]?=some (.bool (S.N.p i))) (hlu:gu<w.heap.size) :
  Calls Tryz.prog 78 #[.pointer (some ⟨g,0,none⟩),.int .i64 (i:Int)] w fun e w' =>
   (flN S.C S.N i=false∧e=.returned (.slice none 0 0)∧Below w.heap.size w w') ∨
   (flN S.C S.N i=true∧∃ gm,w.heap.size≤gm∧e=.returned (.slice (some ⟨gm,0,none⟩) 1 1)∧w'.heap[gm]?=some (.cells #[.iface (C6 (gJ S.C (S.N.u i) (S.N.p i))) (.agg #[])] 125 (0,0))∧w'.heap[gp]?=some (.cells (pa.setIfInBounds i (.bool (gJ S.C (S.N.u i) (S.N.p i)))) 4 (0,0))∧Touch [gp] w w'):=by
 have HK:Hid (w.heap[g]?=some (.cells S.cells 40 (0,0))∧w.heap[gp]?=some (.cells pa 4 (0,0))∧w.cell? ⟨gu,i,none⟩=some (.int .i64 (S.N.u i))∧gu<w.heap.size):=⟨kb,kp,hu,hlu⟩
 have HPi:Hid (pa[i]?=some (.bool (S.N.p i))):=hp
 have HE:Hid (S.N.aU=some ⟨gu,0,none⟩∧S.N.aP=some ⟨gp,0,none⟩):=⟨eU,eP⟩
 have hi1:(i:Int)<(S.N.nU:Int):=by omega
 have hi2:(i:Int)<(S.N.nP:Int):=by omega
 have hi0:(0:Int)≤(i:Int):=by omega
 have HC:Hid (∀ wx:World,wx.heap[g]?=some (.cells S.cells 40 (0,0))→wx.cell? ⟨g,0,none⟩=some (.int .i64 S.C.p)∧wx.cell? ⟨g,1,none⟩=some (.int .i64 S.C.c)∧wx.cell? ⟨g,2,none⟩=some (.int .i64 S.C.xo)∧wx.cell? ⟨g,3,none⟩=some (.int .i64 S.C.xn)∧wx.cell? ⟨g,4,none⟩=some (.int .i64 S.C.hd)∧wx.cell? ⟨g,5,none⟩=some (.int .i64 S.C.lo)∧wx.cell? ⟨g,6,none⟩=some (.int .i64 S.C.dl)) :=
  fun wx k=>⟨fG k 0,fG k 1,fG k 2,fG k 3,fG k 4,fG k 5,fG k 6⟩
 have HCu:Hid (∀ wx:World,wx.heap[g]?=some (.cells S.cells 40 (0,0))→wx.cell? ⟨g,10,none⟩=some (.slice (some ⟨gu,0,none⟩) S.N.nU S.N.cU)):=fun wx k=>by rw [←eU];exact fG k 10
 have HCp:Hid (∀ wx:World,wx.heap[g]?=some (.cells S.cells 40 (0,0))→wx.cell? ⟨g,12,none⟩=some (.slice (some ⟨gp,0,none⟩) S.N.nP S.N.cP)):=fun wx k=>by rw [←eP];exact fG k 12
 clear kb kp hu hp eU eP hlu
 go_enter Tryz.func78,Tryz.ntmps78
 go_wp2_with fail
 refine iE (fun w'=>w'.heap[g]?=some (.cells S.cells 40 (0,0))∧w'.cell? ⟨gu,i,none⟩=some (.int .i64 (S.N.u i))∧w'.cell? ⟨gp,i,none⟩=some (.bool (S.N.p i))) 21 (by kernel_rfl) ?_
 have hd:Below w.heap.size w w.drew:=(Below.refl _ _).drew
 have HX:Hid (w.drew.heap[g]?=some (.cells S.cells 40 (0,0))∧w.drew.cell? ⟨gu,i,none⟩=some (.int .i64 (S.N.u i))∧w.drew.cell? ⟨gp,i,none⟩=some (.bool (S.N.p i))):=⟨(hd.block g (fH HK.out.1)).trans HK.out.1,(World.cell?_of_block (w:=w) (a:=⟨gu,i,none⟩) (hd.block gu HK.out.2.2.2)).trans HK.out.2.2.1,(World.cell?_of_block (w:=w) (a:=⟨gp,i,none⟩) (hd.block gp (fH HK.out.2.1))).trans ((fG HK.out.2.1 i).trans HPi.out)⟩
 have HD:Hid (Below w.heap.size w w.drew):=hd
 clear hd
 generalize w.drew=V at *
 have hT0:=HX.out
 refine tE 0 6 hT0 ?_
 refine tE 1 7 hT0 ?_
 refine tE 2 8 hT0 ?_
 refine ji (i:=3) (some 9) (v:=?_) ?_ hT0 ?_
 rotate_left
 ·
  intro wx hSw
  obtain ⟨c0,c1,c2,c3,c4,c5,c6⟩:=HC.out wx hSw.1
  exact dW
 try simp only [Act.put,PZ]
 refine tE 4 10 hT0 ?_
 refine tE 5 11 hT0 ?_
 refine tE 6 12 hT0 ?_
 refine tE 7 13 hT0 ?_
 refine ji (i:=8) (some 14) (v:=?_) ?_ hT0 ?_
 rotate_left
 ·
  intro wx hSw
  have c10:=HCu.out wx hSw.1
  exact dW
 try simp only [Act.put,PZ]
 refine tE 9 15 hT0 ?_
 refine tE 10 16 hT0 ?_
 refine ji (i:=11) (some 17) (v:=?_) ?_ hT0 ?_
 rotate_left
 ·
  intro wx hSw
  have cu:=hSw.2.1
  exact dW
 try simp only [Act.put,PZ]
 refine tE 12 18 hT0 ?_
 refine tE 13 19 hT0 ?_
 refine tE 14 20 hT0 ?_
 refine tE 15 21 hT0 ?_
 refine ji (i:=16) (some 22) (v:=?_) ?_ hT0 ?_
 rotate_left
 ·
  intro wx hSw
  have c12:=HCp.out wx hSw.1
  exact dW
 try simp only [Act.put,PZ]
 refine tE 17 23 hT0 ?_
 refine tE 18 24 hT0 ?_
 refine ji (i:=19) (some 25) (v:=?_) ?_ hT0 ?_
 rotate_left
 ·
  intro wx hSw
  have cp:=hSw.2.2
  exact dW
 try simp only [Act.put,PZ]
 refine fM (rs:=[20]) (by kernel_rfl) (by simp) ?_
 refine fI.cons rfl (fun K hK=>?_) fI.nil
 go_simp
 refine (rj S.C (S.N.u i) (S.N.p i) _).mono ?_
 rintro e X1 ⟨rfl,hb⟩
 have hbw:Below w.heap.size w X1:=HD.out.trans (hb.mono HD.out.size)
 have HB:Hid (Below w.heap.size w X1):=hbw
 have k1:X1.heap[g]?=some (.cells S.cells 40 (0,0)):=(hbw.block g (fH HK.out.1)).trans HK.out.1
 have k2:X1.cell? ⟨gu,i,none⟩=some (.int .i64 (S.N.u i)):=(World.cell?_of_block (w:=w) (a:=⟨gu,i,none⟩) (hbw.block gu HK.out.2.2.2)).trans HK.out.2.2.1
 have k4:X1.heap[gp]?=some (.cells pa 4 (0,0)):=(hbw.block gp (fH HK.out.2.1)).trans HK.out.2.1
 have k3:X1.cell? ⟨gp,i,none⟩=some (.bool (S.N.p i)):=(fG k4 i).trans HPi.out
 have hT1:X1.heap[g]?=some (.cells S.cells 40 (0,0))∧X1.cell? ⟨gu,i,none⟩=some (.int .i64 (S.N.u i))∧X1.cell? ⟨gp,i,none⟩=some (.bool (S.N.p i)):=⟨k1,k2,k3⟩
 clear hb hbw hT0
 go_wp2_with fail
 refine hK.out _ _ hT1 ?_
 clear hK K
 try simp only [Act.put,PZ]
 refine fM (rs:=[21]) (by kernel_rfl) (by simp) ?_
 refine fI.last rfl (fun K hK=>?_)
 go_simp
 refine hK.out _ _ ?_
 clear hK K
 try simp only [Act.put,PZ]
 refine ie (by kernel_rfl) ?_ _
 have c12:=HCp.out X1 k1
 have f4:=fX k4 i
 have HK4:Hid (X1.heap[gp]?=some (.cells pa 4 (0,0))):=k4
 clear k1 k2 k4 hT1
 obtain ⟨q,eq⟩:∃ q,gJ S.C (S.N.u i) (S.N.p i)=q:=⟨_,rfl⟩
 rw [eq]
 have HM:Hid (Touch [gp] w (X1.setCell ⟨gp,i,none⟩ (.bool q))∧(X1.setCell ⟨gp,i,none⟩ (.bool q)).heap[gp]?=some (.cells (pa.setIfInBounds i (.bool q)) 4 (0,0))∧(X1.setCell ⟨gp,i,none⟩ (.bool q)).heap.size=X1.heap.size):=⟨(Touch.gY HB.out).set (by simp) _ _,gj HK4.out _,by simp⟩
 obtain ⟨p,hpp⟩:∃ p,S.N.p i=p:=⟨_,rfl⟩
 have HQ:Hid (flN S.C S.N i=!(q == p)∧gJ S.C (S.N.u i) (S.N.p i)=q):=⟨by unfold flN;rw [eq,hpp],eq⟩
 rw [hpp] at k3 ⊢
 clear eq hpp
 cases q <;> cases p
 all_goals go_wp2_with fail
 all_goals go_ret
 all_goals first | exact .inl ⟨HQ.out.1,rfl,HB.out⟩ | skip
 all_goals refine .inr ⟨HQ.out.1,X1.heap.size,HB.out.size,?_,?_,?_,?_⟩
 all_goals first | rfl | exact HM.out.1.trans (Touch.gY ((Below.refl _ _).alloc (Nat.le_refl _) _)) | (rw [HQ.out.2];exact (gg _ (by rw [HM.out.2.2];exact fH HK4.out)).trans HM.out.2.1) | (rw [HQ.out.2,←HM.out.2.2];exact fL _ _)
def zSw:Array Value:=#[.int .i64 0,.int .i64 0,.int .i64 0,.int .i64 0,.int .i64 0,.int .i64 0,.int .i64 0,.int .i64 0,.int .i64 0,.slice none 0 0,.slice none 0 0,.int .i64 0,.slice none 0 0,.slice none 0 0,.slice none 0 0,.int .i64 0,.int .i64 0]
theorem zx:(Tryz.prog.info? 95).map (fun i=>(i.zero,i.size,i.bytes))=some (some (.agg #[.int .i64 0,.int .i64 0,.int .i64 0]),3,24):=by kernel_rfl
theorem vY (a:Option Addr) (n cap:Nat) (f:Nat→Ent) (w:World) (hn:n≤1048576) (h:iZ w a n f) :
  Calls Tryz.prog 73 #[.slice a n cap] w fun e w'=>∃ a' c',e=.returned (.slice a' n c')∧OG 95 3 w' w.heap.size a' n c' (ly (m6 n f))∧Below w.heap.size w w':=by
 obtain ⟨a',c',W',hr,hv,hb⟩:=oG (c:=cap) 35 95 _ 3 24 zx Tryz.underlying35 rfl (by decide) (by decide) hn (by rw [np,mh]) h.cs (um _)
 have HV:Hid (OG 95 3 W' w.heap.size a' n c' (ly (m6 n f))∧Below w.heap.size w W'):=⟨hv,hb⟩
 clear hv hb h
 go_enter Tryz.func73,Tryz.ntmps73
 exact dX
theorem vX (a:Option Addr) (n cap:Nat) (K:Nat→Pkt) (w:World) (hn:n≤1048576) (h:jN w a n K) :
  Calls Tryz.prog 75 #[.slice a n cap] w fun e w'=>∃ a' c',e=.returned (.slice a' n c')∧OG 97 8 w' w.heap.size a' n c' (nN n K)∧Below w.heap.size w w':=by
 obtain ⟨a',c',W',hr,hv,hb⟩:=oG (c:=cap) 37 97 _ 8 72 vK Tryz.underlying37 rfl (by decide) (by decide) hn (ke _ _) h.cs (oQ _ _)
 have HV:Hid (OG 97 8 W' w.heap.size a' n c' (nN n K)∧Below w.heap.size w W'):=⟨hv,hb⟩
 clear hv hb h
 go_enter Tryz.func75,Tryz.ntmps75
 exact dX
theorem A7 {cur cs:Array Value} {o:Nat} (hf:o+cs.size≤cur.size) (h:∀ j,j<cs.size→cur[o+j]?=cs[j]?):lay cur o cs=cur:=by
 refine Array.ext_getElem? fun i=>?_
 by_cases h1:i<o
 ·
  exact jI hf i h1
 by_cases h2:i<o+cs.size
 ·
  have:=iX hf (i-o) (by omega)
  rw [show o+(i-o)=i by omega] at this
  rw [this,←h (i-o) (by omega),show o+(i-o)=i by omega]
 unfold lay
 simp only [List.getElem?_toArray]
 rw [List.getElem?_append_right (by simp;omega),List.getElem?_drop,Array.getElem?_toList]
 congr 1
 simp
 omega
theorem Put.same {w W:World} {g:Nat} {cs:Array Value} {t:TypeId} (h:Put w W g cs t) (hg:w.heap[g]?=some (.cells cs t (0,0))):Below w.heap.size w W :=
 ⟨h.to.os,h.to.tape,h.to.output,h.to.size,fun k hk=>by
  by_cases e:k=g
  ·
   subst e;exact h.blk.trans hg.symm
  ·
   exact h.to.block k hk (by simpa using e)⟩
structure CpS (w:World) (S P:Swg) (W:World):Prop where
 x:g5 w S.cells zSw P.cells 40 40 W
 e:OG 95 3 W w.heap.size P.aE P.nE P.cE (ly (m6 P.nE P.e))
 n:gR W w.heap.size P.N
 k:OG 97 8 W w.heap.size P.aK P.nK P.cK (nN P.nK P.K)
theorem CpS.up {w:World} {S P:Swg} {W W':World} (h:CpS w S P W) (hb:Below W.heap.size W W'):CpS w S P W':=⟨h.x.up hb,h.e.up hb,h.n.up hb,h.k.up hb⟩
theorem gR.C5 {w w':World} {base g:Nat} {N:Cnt} {cs:Array Value} {t:TypeId} (h:gR w base N) (hg:w.heap[g]?=some (.cells cs t (0,0))) (h2:2≠t) (h4:4≠t) (ht:Touch [g] w w'):gR w' base N :=
 ⟨h.u.fK ht (fun x hx hy=>by rw [List.mem_singleton.1 hy] at hx;exact h.u.mL h2 hg hx),h.p.fK ht (fun x hx hy=>by rw [List.mem_singleton.1 hy] at hx;exact h.p.mL h4 hg hx)⟩
structure CpA (S P:Swg):Prop where
 c:P.C=S.C
 now:P.now=S.now
 nx:P.nx=S.nx
 nE:P.nE=S.nE
 e:P.e=S.e
 n:gx S.N P.N
 nK:P.nK=S.nK
 k:P.K=S.K
 dr:P.dr=S.dr
 lst:P.lst=S.lst
structure sj (w:World) (S P:Swg) (k:Nat) (W:World):Prop where
 s:CpS w S P W
 a:CpA S P
 l:j5 W w.heap.size P.aL P.nL P.cL P.L
 un:∀ x∈gF P.N.aU P.N.nU,x∉(List.range P.nL).flatMap fun i=>(P.L i).lh
 nL:P.nL=k
 al:∀ i,i<k→gy (S.L i) (P.L i)
theorem sj.up {w:World} {S P:Swg} {k:Nat} {W W':World} (h:sj w S P k W) (hb:Below W.heap.size W W'):sj w S P k W':=⟨h.s.up hb,h.a,h.l.up hb,h.un,h.nL,h.al⟩
def Swg.more (P:Swg) (k:Nat) (aL:Option Addr) (cL:Nat) (l:Lng):Swg:={ P with aL:=aL,nL:=k+1,cL:=cL,L:=fun i=>if i=k then l else P.L i }
theorem sj.more {w:World} {S P:Swg} {k g c2:Nat} {l2:Lng} {V V1 W W2:World} (h:sj w S P k V) (hb:Below V.heap.size V V1) (ho:iq V1 V.heap.size l2) (ha:gy (S.L k) l2)
  (hu:OG 102 8 W w.heap.size (some ⟨g,0,none⟩) (k+1) c2 (vG k P.L++l2.cells.toList)) (ht:Touch (ij P.aL) V1 W) (hP:Put W W2 (w.heap.size+1+1) (lay P.cells 14 #[.slice (some ⟨g,0,none⟩) (k+1) c2]) 40):sj w S (P.more k (some ⟨g,0,none⟩) c2 l2) (k+1) W2:=by
 have hk:=h.nL
 have h1:=h.up hb
 have hl:j5 V w.heap.size P.aL k P.cL P.L:=hk▸h.l
 have hl1:=hl.up hb
 have hL:=hl.more hb h.s.x.bel.size ho hu ht
 have xa:=(ht.block _ (fH h1.s.x.a) (hl1.l.j7 (by decide) h1.s.x.a)).trans h1.s.x.a
 have xb:=(ht.block _ (fH h1.s.x.b) (hl1.l.j7 (by decide) h1.s.x.b)).trans h1.s.x.b
 have xc:=(ht.block _ (fH h1.s.x.c) (hl1.l.j7 (by decide) h1.s.x.c)).trans h1.s.x.c
 have xB:g5 w S.cells zSw P.cells 40 40 W:=⟨xa,xb,xc,h1.s.x.bel.trans (ht.below h1.s.x.bel.size (fun x hx=>(hl1.l.blk x hx).1)),Nat.le_trans h1.s.x.sz ht.size⟩
 have e1:=h1.s.e.fK ht (h1.s.e.apart hl1.l (by decide))
 have k1:=h1.s.k.fK ht (h1.s.k.apart hl1.l (by decide))
 have n1:gR W w.heap.size P.N:=⟨h1.s.n.u.fK ht (fun x hx hy=>by
   obtain ⟨cs,q⟩:=h1.s.n.u.type x hx
   exact hl1.l.j7 (by decide) q hy),h1.s.n.p.fK ht (fun x hx hy=>by
   obtain ⟨cs,q⟩:=h1.s.n.p.type x hx
   exact hl1.l.j7 (by decide) q hy)⟩
 refine ⟨⟨xB.put hP,e1.fK hP.to (fun x hx hy=>e1.j7 (by decide) xc ((List.mem_singleton.1 hy)▸hx)),n1.C5 xc (by decide) (by decide) hP.to,k1.fK hP.to (fun x hx hy=>k1.j7 (by decide) xc ((List.mem_singleton.1 hy)▸hx))⟩,⟨h.a.c,h.a.now,h.a.nx,h.a.nE,h.a.e,h.a.n,h.a.nK,h.a.k,h.a.dr,h.a.lst⟩,hL.box xc (by decide) (by decide) (by decide) hP.to,fun x hx hy=>?_,rfl,fun i hi=>?_⟩
 ·
  have hx1:=(h.s.n.u.blk x hx).2
  simp only [List.mem_flatMap,List.mem_range] at hy
  obtain ⟨i,hi,hy⟩:=hy
  have hy':x∈(if i=k then l2 else P.L i).lh:=hy
  by_cases e:i=k
  ·
   rw [if_pos e] at hy'
   have:=(ho.blk x hy').1
   omega
  rw [if_neg e] at hy'
  have hi':i<k+1:=hi
  exact h.un x hx (by simp only [List.mem_flatMap,List.mem_range];exact ⟨i,by omega,hy'⟩)
 show gy (S.L i) (if i=k then l2 else P.L i)
 by_cases e:i=k
 ·
  rw [if_pos e,e];exact ha
 rw [if_neg e];exact h.al i (by omega)
theorem sj.alike {w:World} {S P:Swg} {k:Nat} {W:World} (h:sj w S P k W) (hk:S.nL=k):ga S P :=
 ⟨h.a.c,h.a.now,h.a.nx,h.a.nE,h.a.e,h.a.n,h.a.nK,h.a.k,by rw [h.nL,hk],fun i hi=>h.al i (by omega),h.a.dr,h.a.lst⟩
theorem sj.own {w:World} {S P:Swg} {k:Nat} {W:World} (h:sj w S P k W):ic W w.heap.size P:=⟨h.s.e,h.s.n,h.s.k,h.l,h.un⟩
theorem ic.off {w w':World} {base g:Nat} {S:Swg} {cs:Array Value} (h:ic w base S) (hg:w.heap[g]?=some (.cells cs 40 (0,0))) (ht:Touch [g] w w'):ic w' base S :=
 ⟨h.e.fK ht (fun x hx hy=>h.e.j7 (by decide) hg ((List.mem_singleton.1 hy)▸hx)),h.n.C5 hg (by decide) (by decide) ht,h.k.fK ht (fun x hx hy=>h.k.j7 (by decide) hg ((List.mem_singleton.1 hy)▸hx)),h.l.box hg (by decide) (by decide) (by decide) ht,h.un⟩
theorem OG.at0 {t:TypeId} {sz:Nat} {w:World} {base:Nat} {a:Option Addr} {n c:Nat} {xs:List Value} (h:OG t sz w base a n c xs) (h0:0<n):∃ g cur,a=some ⟨g,0,none⟩∧w.heap[g]?=some (.cells cur t (0,0))∧n*sz≤cur.size∧∀ j,j<n*sz→cur[j]?=xs[j]?:=by
 rcases h.2 with ⟨e,h1⟩ | ⟨g,cap,cur,e,hg,hbk,hn,hm,hs,ht⟩
 ·
  omega
 cases e
 refine ⟨g,cur,rfl,hbk,?_,fun j hj=>?_⟩
 ·
  rw [hs]
  exact Nat.mul_le_mul_right _ hn
 rw [←ht,List.getElem?_take_of_lt hj,Array.getElem?_toList]
theorem rdFr {w:World} {g:Nat} {x:Pkt} {t:TypeId} (h:w.heap[g]?=some (.cells x.cells t (0,0))):∀ j,j<5→w.cell? ⟨g,3+j,none⟩=(#[.int .i64 x.k,.int .i64 x.d,.int .i64 x.s,.int .i64 x.p,.string x.b]:Array Value)[j]?:=by
 intro j hj
 rw [fG h]
 exact dY
theorem Dy (x:Pkt) (j:Nat) (hj:j<5):x.cells[3+j]?=(#[.int .i64 x.k,.int .i64 x.d,.int .i64 x.s,.int .i64 x.p,.string x.b]:Array Value)[j]?:=dY
theorem qa (S:Swg) (w:World) (hs:S.Small) (hU:0<S.N.nU) (hPp:0<S.N.nP) (h:j4 w S) :
  Calls Tryz.prog 28 #[.agg S.cells] w fun e w'=>∃ S2,e=.returned (.agg S2.cells)∧ga S S2∧ic w' w.heap.size S2∧Below w.heap.size w w':=by
 have HR:Hid (j4 w S):=h
 have HS:Hid S.Small:=hs
 have HU0:Hid (0<S.N.nU∧0<S.N.nP):=⟨hU,hPp⟩
 clear h hs hU hPp
 obtain ⟨W0,eW⟩:∃ W,(((w.alloc (.cells S.cells 40)).alloc (.cells #[.int .i64 0,.int .i64 0,.int .i64 0,.int .i64 0,.int .i64 0,.int .i64 0,.int .i64 0,.int .i64 0,.int .i64 0,.slice none 0 0,.slice none 0 0,.int .i64 0,.slice none 0 0,.slice none 0 0,.slice none 0 0,.int .i64 0,.int .i64 0] 40)).alloc (.cells #[.int .i64 0,.int .i64 0,.int .i64 0,.int .i64 0,.int .i64 0,.int .i64 0,.int .i64 0,.int .i64 0,.int .i64 0,.slice none 0 0,.slice none 0 0,.int .i64 0,.slice none 0 0,.slice none 0 0,.slice none 0 0,.int .i64 0,.int .i64 0] 40))=W:=⟨_,rfl⟩
 have HX:Hid (g5 w S.cells #[.int .i64 0,.int .i64 0,.int .i64 0,.int .i64 0,.int .i64 0,.int .i64 0,.int .i64 0,.int .i64 0,.int .i64 0,.slice none 0 0,.slice none 0 0,.int .i64 0,.slice none 0 0,.slice none 0 0,.slice none 0 0,.int .i64 0,.int .i64 0] #[.int .i64 0,.int .i64 0,.int .i64 0,.int .i64 0,.int .i64 0,.int .i64 0,.int .i64 0,.int .i64 0,.int .i64 0,.slice none 0 0,.slice none 0 0,.int .i64 0,.slice none 0 0,.slice none 0 0,.slice none 0 0,.int .i64 0,.int .i64 0] 40 40 W0):=by rw [←eW];exact g5.start _ _ _ _ _ _
 have HL0:Hid (∀ j,j<17→((w.alloc (.cells S.cells 40)).alloc (.cells #[.int .i64 0,.int .i64 0,.int .i64 0,.int .i64 0,.int .i64 0,.int .i64 0,.int .i64 0,.int .i64 0,.int .i64 0,.slice none 0 0,.slice none 0 0,.int .i64 0,.slice none 0 0,.slice none 0 0,.slice none 0 0,.int .i64 0,.int .i64 0] 40)).cell? ⟨w.heap.size,0+j,none⟩=S.cells[j]?):=fun j _=>by rw [Nat.zero_add];exact fG (Two.start w S.cells #[.int .i64 0,.int .i64 0,.int .i64 0,.int .i64 0,.int .i64 0,.int .i64 0,.int .i64 0,.int .i64 0,.int .i64 0,.slice none 0 0,.slice none 0 0,.int .i64 0,.slice none 0 0,.slice none 0 0,.slice none 0 0,.int .i64 0,.int .i64 0] 40).a j
 have HC:Hid (W0.heap[w.heap.size+1+1]?=some (.cells #[.int .i64 0,.int .i64 0,.int .i64 0,.int .i64 0,.int .i64 0,.int .i64 0,.int .i64 0,.int .i64 0,.int .i64 0,.slice none 0 0,.slice none 0 0,.int .i64 0,.slice none 0 0,.slice none 0 0,.slice none 0 0,.int .i64 0,.int .i64 0] 40 (0,0))):=HX.out.c
 go_enter Tryz.func28,Tryz.ntmps28
 go_wp2_with (first | refine fP rfl 40 17 _ Tryz.underlying40 rfl fZ (.tmp 1) rfl w.heap.size 0 rfl S.cells rfl HL0.out ?_ | refine fJ rfl 40 (.tmp 3) (.tmp 8) rfl (w.heap.size+1+1) 0 rfl (.agg S.cells) rfl 17 rfl 40 _ HC.out fZ (Nat.le_of_ble_eq_true rfl) (Swg.lL _) ?_)
 clear HL0
 intro W1 hP
 clear eW
 replace hP:=hP.cast (cs':=#[.int .i64 S.C.p,.int .i64 S.C.c,.int .i64 S.C.xo,.int .i64 S.C.xn,.int .i64 S.C.hd,.int .i64 S.C.lo,.int .i64 S.C.dl,.int .i64 S.now,.int .i64 S.nx,.slice S.aE S.nE S.cE,.slice S.N.aU S.N.nU S.N.cU,.int .i64 S.N.lo,.slice S.N.aP S.N.nP S.N.cP,.slice S.aK S.nK S.cK,.slice S.aL S.nL S.cL,.int .i64 S.dr,.int .i64 S.lst]) rfl
 replace HX:Hid (g5 w S.cells #[.int .i64 0,.int .i64 0,.int .i64 0,.int .i64 0,.int .i64 0,.int .i64 0,.int .i64 0,.int .i64 0,.int .i64 0,.slice none 0 0,.slice none 0 0,.int .i64 0,.slice none 0 0,.slice none 0 0,.slice none 0 0,.int .i64 0,.int .i64 0] #[.int .i64 S.C.p,.int .i64 S.C.c,.int .i64 S.C.xo,.int .i64 S.C.xn,.int .i64 S.C.hd,.int .i64 S.C.lo,.int .i64 S.C.dl,.int .i64 S.now,.int .i64 S.nx,.slice S.aE S.nE S.cE,.slice S.N.aU S.N.nU S.N.cU,.int .i64 S.N.lo,.slice S.N.aP S.N.nP S.N.cP,.slice S.aK S.nK S.cK,.slice S.aL S.nL S.cL,.int .i64 S.dr,.int .i64 S.lst] 40 40 W1):=HX.out.put hP
 have T1:Touch [w.heap.size+1,w.heap.size+1+1] W0 W1:=hP.to.mono (fun x hx=>by simp at hx;simp [hx])
 clear hP HC 
 have c9:W1.cell? ⟨w.heap.size,9,none⟩=some (.slice S.aE S.nE S.cE):=fG HX.out.a 9
 go_wp2_with fail
 refine (vY S.aE S.nE S.cE S.e _ HS.out.e (HR.out.e.up HX.out.bel)).mono ?_
 rintro e we ⟨aE,cE,rfl,rE,hb⟩
 clear c9
 have sE:=HX.out.sz
 replace HX:Hid (g5 w S.cells #[.int .i64 0,.int .i64 0,.int .i64 0,.int .i64 0,.int .i64 0,.int .i64 0,.int .i64 0,.int .i64 0,.int .i64 0,.slice none 0 0,.slice none 0 0,.int .i64 0,.slice none 0 0,.slice none 0 0,.slice none 0 0,.int .i64 0,.int .i64 0] #[.int .i64 S.C.p,.int .i64 S.C.c,.int .i64 S.C.xo,.int .i64 S.C.xn,.int .i64 S.C.hd,.int .i64 S.C.lo,.int .i64 S.C.dl,.int .i64 S.now,.int .i64 S.nx,.slice S.aE S.nE S.cE,.slice S.N.aU S.N.nU S.N.cU,.int .i64 S.N.lo,.slice S.N.aP S.N.nP S.N.cP,.slice S.aK S.nK S.cK,.slice S.aL S.nL S.cL,.int .i64 S.dr,.int .i64 S.lst] 40 40 we):=HX.out.up hb
 have T2:Touch [w.heap.size+1,w.heap.size+1+1] W1 we:=Touch.gY hb
 clear hb
 have HC:=HX.out.c
 replace HC:Hid (we.heap[w.heap.size+1+1]?=some (.cells #[.int .i64 S.C.p,.int .i64 S.C.c,.int .i64 S.C.xo,.int .i64 S.C.xn,.int .i64 S.C.hd,.int .i64 S.C.lo,.int .i64 S.C.dl,.int .i64 S.now,.int .i64 S.nx,.slice S.aE S.nE S.cE,.slice S.N.aU S.N.nU S.N.cU,.int .i64 S.N.lo,.slice S.N.aP S.N.nP S.N.cP,.slice S.aK S.nK S.cK,.slice S.aL S.nL S.cL,.int .i64 S.dr,.int .i64 S.lst] 40 (0,0))):=HC
 go_wp2_with (refine fJ rfl 35 (.tmp 12) (.tmp 11) rfl (w.heap.size+1+1) 9 rfl (.slice aE S.nE cE) rfl 1 rfl 40 _ HC.out zw (Nat.le_of_ble_eq_true rfl) (by simp [Value.cells,Value.oneCell',Rnd.cells,Cfg.cells,Cnt.cells]) ?_)
 intro W3 hP
 replace hP:=hP.cast (cs':=#[.int .i64 S.C.p,.int .i64 S.C.c,.int .i64 S.C.xo,.int .i64 S.C.xn,.int .i64 S.C.hd,.int .i64 S.C.lo,.int .i64 S.C.dl,.int .i64 S.now,.int .i64 S.nx,.slice aE S.nE cE,.slice S.N.aU S.N.nU S.N.cU,.int .i64 S.N.lo,.slice S.N.aP S.N.nP S.N.cP,.slice S.aK S.nK S.cK,.slice S.aL S.nL S.cL,.int .i64 S.dr,.int .i64 S.lst]) rfl
 replace HX:Hid (g5 w S.cells #[.int .i64 0,.int .i64 0,.int .i64 0,.int .i64 0,.int .i64 0,.int .i64 0,.int .i64 0,.int .i64 0,.int .i64 0,.slice none 0 0,.slice none 0 0,.int .i64 0,.slice none 0 0,.slice none 0 0,.slice none 0 0,.int .i64 0,.int .i64 0] #[.int .i64 S.C.p,.int .i64 S.C.c,.int .i64 S.C.xo,.int .i64 S.C.xn,.int .i64 S.C.hd,.int .i64 S.C.lo,.int .i64 S.C.dl,.int .i64 S.now,.int .i64 S.nx,.slice aE S.nE cE,.slice S.N.aU S.N.nU S.N.cU,.int .i64 S.N.lo,.slice S.N.aP S.N.nP S.N.cP,.slice S.aK S.nK S.cK,.slice S.aL S.nL S.cL,.int .i64 S.dr,.int .i64 S.lst] 40 40 W3):=HX.out.put hP
 have T3:Touch [w.heap.size+1,w.heap.size+1+1] we W3:=hP.to.mono (fun x hx=>by simp at hx;simp [hx])
 clear hP HC 
 have c10:W3.cell? ⟨w.heap.size,10,none⟩=some (.slice S.N.aU S.N.nU S.N.cU):=fG HX.out.a 10
 have c11:W3.cell? ⟨w.heap.size,11,none⟩=some (.int .i64 S.N.lo):=fG HX.out.a 11
 have c12:W3.cell? ⟨w.heap.size,12,none⟩=some (.slice S.N.aP S.N.nP S.N.cP):=fG HX.out.a 12
 go_wp2_with fail
 refine (kE S.N _ HU0.out.1 HU0.out.2 HS.out.n (HR.out.n.up HX.out.bel)).mono ?_
 rintro e wn ⟨M,rfl,rN,hb,aN⟩
 clear c10 c11 c12
 have sN:=HX.out.sz
 replace HX:Hid (g5 w S.cells #[.int .i64 0,.int .i64 0,.int .i64 0,.int .i64 0,.int .i64 0,.int .i64 0,.int .i64 0,.int .i64 0,.int .i64 0,.slice none 0 0,.slice none 0 0,.int .i64 0,.slice none 0 0,.slice none 0 0,.slice none 0 0,.int .i64 0,.int .i64 0] #[.int .i64 S.C.p,.int .i64 S.C.c,.int .i64 S.C.xo,.int .i64 S.C.xn,.int .i64 S.C.hd,.int .i64 S.C.lo,.int .i64 S.C.dl,.int .i64 S.now,.int .i64 S.nx,.slice aE S.nE cE,.slice S.N.aU S.N.nU S.N.cU,.int .i64 S.N.lo,.slice S.N.aP S.N.nP S.N.cP,.slice S.aK S.nK S.cK,.slice S.aL S.nL S.cL,.int .i64 S.dr,.int .i64 S.lst] 40 40 wn):=HX.out.up hb
 have T4:Touch [w.heap.size+1,w.heap.size+1+1] W3 wn:=Touch.gY hb
 clear hb
 have HC:=HX.out.c
 replace HC:Hid (wn.heap[w.heap.size+1+1]?=some (.cells #[.int .i64 S.C.p,.int .i64 S.C.c,.int .i64 S.C.xo,.int .i64 S.C.xn,.int .i64 S.C.hd,.int .i64 S.C.lo,.int .i64 S.C.dl,.int .i64 S.now,.int .i64 S.nx,.slice aE S.nE cE,.slice S.N.aU S.N.nU S.N.cU,.int .i64 S.N.lo,.slice S.N.aP S.N.nP S.N.cP,.slice S.aK S.nK S.cK,.slice S.aL S.nL S.cL,.int .i64 S.dr,.int .i64 S.lst] 40 (0,0))):=HC
 go_wp2_with (refine fJ rfl 36 (.tmp 16) (.tmp 15) rfl (w.heap.size+1+1) 10 rfl (.agg M.cells) rfl 3 rfl 40 _ HC.out zA (Nat.le_of_ble_eq_true rfl) (by simp [Value.cells,Value.oneCell',Rnd.cells,Cfg.cells,Cnt.cells]) ?_)
 intro W5 hP
 replace hP:=hP.cast (cs':=#[.int .i64 S.C.p,.int .i64 S.C.c,.int .i64 S.C.xo,.int .i64 S.C.xn,.int .i64 S.C.hd,.int .i64 S.C.lo,.int .i64 S.C.dl,.int .i64 S.now,.int .i64 S.nx,.slice aE S.nE cE,.slice M.aU M.nU M.cU,.int .i64 M.lo,.slice M.aP M.nP M.cP,.slice S.aK S.nK S.cK,.slice S.aL S.nL S.cL,.int .i64 S.dr,.int .i64 S.lst]) rfl
 replace HX:Hid (g5 w S.cells #[.int .i64 0,.int .i64 0,.int .i64 0,.int .i64 0,.int .i64 0,.int .i64 0,.int .i64 0,.int .i64 0,.int .i64 0,.slice none 0 0,.slice none 0 0,.int .i64 0,.slice none 0 0,.slice none 0 0,.slice none 0 0,.int .i64 0,.int .i64 0] #[.int .i64 S.C.p,.int .i64 S.C.c,.int .i64 S.C.xo,.int .i64 S.C.xn,.int .i64 S.C.hd,.int .i64 S.C.lo,.int .i64 S.C.dl,.int .i64 S.now,.int .i64 S.nx,.slice aE S.nE cE,.slice M.aU M.nU M.cU,.int .i64 M.lo,.slice M.aP M.nP M.cP,.slice S.aK S.nK S.cK,.slice S.aL S.nL S.cL,.int .i64 S.dr,.int .i64 S.lst] 40 40 W5):=HX.out.put hP
 have T5:Touch [w.heap.size+1,w.heap.size+1+1] wn W5:=hP.to.mono (fun x hx=>by simp at hx;simp [hx])
 clear hP HC 
 have c13:W5.cell? ⟨w.heap.size,13,none⟩=some (.slice S.aK S.nK S.cK):=fG HX.out.a 13
 go_wp2_with fail
 refine (vX S.aK S.nK S.cK S.K _ HS.out.k (HR.out.k.up HX.out.bel)).mono ?_
 rintro e wk ⟨aK,cK,rfl,rK,hb⟩
 clear c13
 have sK:=HX.out.sz
 replace HX:Hid (g5 w S.cells #[.int .i64 0,.int .i64 0,.int .i64 0,.int .i64 0,.int .i64 0,.int .i64 0,.int .i64 0,.int .i64 0,.int .i64 0,.slice none 0 0,.slice none 0 0,.int .i64 0,.slice none 0 0,.slice none 0 0,.slice none 0 0,.int .i64 0,.int .i64 0] #[.int .i64 S.C.p,.int .i64 S.C.c,.int .i64 S.C.xo,.int .i64 S.C.xn,.int .i64 S.C.hd,.int .i64 S.C.lo,.int .i64 S.C.dl,.int .i64 S.now,.int .i64 S.nx,.slice aE S.nE cE,.slice M.aU M.nU M.cU,.int .i64 M.lo,.slice M.aP M.nP M.cP,.slice S.aK S.nK S.cK,.slice S.aL S.nL S.cL,.int .i64 S.dr,.int .i64 S.lst] 40 40 wk):=HX.out.up hb
 have T6:Touch [w.heap.size+1,w.heap.size+1+1] W5 wk:=Touch.gY hb
 clear hb
 have HC:=HX.out.c
 replace HC:Hid (wk.heap[w.heap.size+1+1]?=some (.cells #[.int .i64 S.C.p,.int .i64 S.C.c,.int .i64 S.C.xo,.int .i64 S.C.xn,.int .i64 S.C.hd,.int .i64 S.C.lo,.int .i64 S.C.dl,.int .i64 S.now,.int .i64 S.nx,.slice aE S.nE cE,.slice M.aU M.nU M.cU,.int .i64 M.lo,.slice M.aP M.nP M.cP,.slice S.aK S.nK S.cK,.slice S.aL S.nL S.cL,.int .i64 S.dr,.int .i64 S.lst] 40 (0,0))):=HC
 go_wp2_with (refine fJ rfl 37 (.tmp 20) (.tmp 19) rfl (w.heap.size+1+1) 13 rfl (.slice aK S.nK cK) rfl 1 rfl 40 _ HC.out zu (Nat.le_of_ble_eq_true rfl) (by simp [Value.cells,Value.oneCell',Rnd.cells,Cfg.cells,Cnt.cells]) ?_)
 intro W7 hP
 replace hP:=hP.cast (cs':=#[.int .i64 S.C.p,.int .i64 S.C.c,.int .i64 S.C.xo,.int .i64 S.C.xn,.int .i64 S.C.hd,.int .i64 S.C.lo,.int .i64 S.C.dl,.int .i64 S.now,.int .i64 S.nx,.slice aE S.nE cE,.slice M.aU M.nU M.cU,.int .i64 M.lo,.slice M.aP M.nP M.cP,.slice aK S.nK cK,.slice S.aL S.nL S.cL,.int .i64 S.dr,.int .i64 S.lst]) rfl
 replace HX:Hid (g5 w S.cells #[.int .i64 0,.int .i64 0,.int .i64 0,.int .i64 0,.int .i64 0,.int .i64 0,.int .i64 0,.int .i64 0,.int .i64 0,.slice none 0 0,.slice none 0 0,.int .i64 0,.slice none 0 0,.slice none 0 0,.slice none 0 0,.int .i64 0,.int .i64 0] #[.int .i64 S.C.p,.int .i64 S.C.c,.int .i64 S.C.xo,.int .i64 S.C.xn,.int .i64 S.C.hd,.int .i64 S.C.lo,.int .i64 S.C.dl,.int .i64 S.now,.int .i64 S.nx,.slice aE S.nE cE,.slice M.aU M.nU M.cU,.int .i64 M.lo,.slice M.aP M.nP M.cP,.slice aK S.nK cK,.slice S.aL S.nL S.cL,.int .i64 S.dr,.int .i64 S.lst] 40 40 W7):=HX.out.put hP
 have T7:Touch [w.heap.size+1,w.heap.size+1+1] wk W7:=hP.to.mono (fun x hx=>by simp at hx;simp [hx])
 clear hP HC 
 obtain ⟨P,eP⟩:∃ P,(⟨S.C,S.now,S.nx,aE,S.nE,cE,S.e,M,aK,S.nK,cK,S.K,S.aL,S.nL,S.cL,S.L,S.dr,S.lst⟩:Swg)=P:=⟨_,rfl⟩
 have e3:#[.int .i64 S.C.p,.int .i64 S.C.c,.int .i64 S.C.xo,.int .i64 S.C.xn,.int .i64 S.C.hd,.int .i64 S.C.lo,.int .i64 S.C.dl,.int .i64 S.now,.int .i64 S.nx,.slice aE S.nE cE,.slice M.aU M.nU M.cU,.int .i64 M.lo,.slice M.aP M.nP M.cP,.slice aK S.nK cK,.slice S.aL S.nL S.cL,.int .i64 S.dr,.int .i64 S.lst]=P.cells:=by rw [←eP];rfl
 rw [e3] at HX
 clear e3
 have hlow:∀ x∈[w.heap.size+1,w.heap.size+1+1],x<w.heap.size+1+1+1:=by intro x hx;simp at hx;omega
 have HA:Hid (CpA S P):=by rw [←eP];exact ⟨rfl,rfl,rfl,rfl,rfl,aN,rfl,rfl,rfl,rfl⟩
 have HP:Hid (CpS w S P W7∧P.nK=S.nK∧P.K=S.K):=by
  rw [←eP] at HX ⊢
  exact ⟨⟨HX.out,OG.mono (rE.low ((((T3.trans T4).trans T5).trans T6).trans T7) (fun x hx=>by have:=hlow x hx;omega)) (by omega),gR.mono (rN.iU ((T5.trans T6).trans T7) (fun x hx=>by have:=hlow x hx;omega)) (by omega),OG.mono (rK.low T7 (fun x hx=>by have:=hlow x hx;omega)) (by omega)⟩,rfl,rfl⟩
 clear HX eP rE rN rK aN sE sN sK hlow T1 T2 T3 T4 T5 T6 T7
 have HU:Hid (jN w S.aK S.nK S.K):=HR.out.k
 obtain ⟨aK0,eU⟩:∃ a,S.aK=a:=⟨_,rfl⟩
 have c13:W7.cell? ⟨w.heap.size,13,none⟩=some (.slice aK0 S.nK S.cK):=by rw [←eU];exact fG HP.out.1.x.a 13
 rw [eU] at HU
 clear eU
 have hnk:=HS.out.k
 go_wp2_with fail
 clear c13
 go_loopw [24] (fun i wr=>∃ k:Nat,k≤S.nK∧i=.int .i64 k∧Hid (CpS w S P wr∧P.nK=S.nK∧P.K=S.K)) (fun i _=>S.nK-(intOf i).toNat)
 case atStart=>exact ⟨0,Nat.zero_le _,rfl,HP⟩
 clear HP
 obtain ⟨k,hk,rfl,HP⟩:=hrel
 by_cases hlt:k<S.nK
 ·
  have hlt':(k:Int)<S.nK:=by omega
  obtain ⟨g0,o0,ea,hc⟩:=(HU.out.up HP.out.1.x.bel) k hlt
  subst ea
  have HCk:Hid (∀ j,j<8→wr.cell? ⟨g0,o0+k*8+j,none⟩=(S.K k).cells[j]?):=hc
  clear hc
  have HG:Hid ((wr.alloc (.cells #[.int .i64 0,.int .i64 0,.int .i64 0,.int .i64 0,.int .i64 0,.int .i64 0,.int .i64 0,.string ⟨#[]⟩] 97)).heap[wr.heap.size]?=some (.cells #[.int .i64 0,.int .i64 0,.int .i64 0,.int .i64 0,.int .i64 0,.int .i64 0,.int .i64 0,.string ⟨#[]⟩] 97 (0,0))):=fL _ _
  go_wp2_with (first | refine fP rfl 97 8 _ Tryz.underlying97 rfl mc (.tmp 27) rfl g0 (o0+k*8) rfl (S.K k).cells rfl HCk.out ?_ | refine fJ rfl 97 (.tmp 5) (.tmp 28) rfl wr.heap.size 0 rfl (.agg (S.K k).cells) rfl 8 rfl 97 _ HG.out mc (Nat.le_of_ble_eq_true rfl) (Pkt.lL _) ?_)
  intro X0 hP
  replace hP:Put _ X0 wr.heap.size (S.K k).cells 97:=hP.cast rfl
  have hb:Below wr.heap.size wr X0:=((Below.refl _ _).alloc (Nat.le_refl _) _).trans (hP.to.below (by simp) (fun x hx=>by simp at hx;omega))
  have kP:=hP.blk
  replace HP:Hid (CpS w S P X0∧P.nK=S.nK∧P.K=S.K):=⟨HP.out.1.up hb,HP.out.2⟩
  clear hP hb HG HCk
  obtain ⟨gP,egP⟩:∃ g,wr.heap.size=g:=⟨_,rfl⟩
  rw [egP] at kP ⊢
  clear egP
  go_wp2_with fail
  refine iE (fun w'=>w'.heap[w.heap.size+1+1]?=some (.cells P.cells 40 (0,0))∧w'.heap[gP]?=some (.cells (S.K k).cells 97 (0,0))) 8 (by kernel_rfl) ?_
  have hd:Below X0.heap.size X0 X0.drew:=(Below.refl _ _).drew
  replace HP:Hid (CpS w S P X0.drew∧P.nK=S.nK∧P.K=S.K):=⟨HP.out.1.up hd,HP.out.2⟩
  replace kP:=(hd.block _ (fH kP)).trans kP
  clear hd
  generalize X0.drew=V at *
  obtain ⟨gK,cur,eaK,hkK,hsK,hcK⟩:=HP.out.1.k.at0 (by rw [HP.out.2.1];omega)
  rw [HP.out.2.1,HP.out.2.2] at hcK
  rw [HP.out.2.1] at hsK
  have HaK:Hid (P.aK=some ⟨gK,0,none⟩):=eaK
  have HcK:Hid (∀ j,j<S.nK*8→cur[j]?=(nN S.nK S.K)[j]?):=hcK
  clear eaK hcK
  have hT0:V.heap[w.heap.size+1+1]?=some (.cells P.cells 40 (0,0))∧V.heap[gP]?=some (.cells (S.K k).cells 97 (0,0)):=⟨HP.out.1.x.c,kP⟩
  refine tE 0 29 hT0 ?_
  refine ji (i:=1) (some 30) (v:=?_) ?_ hT0 ?_
  rotate_left
  ·
   intro wx hSw
   have c13:wx.cell? ⟨w.heap.size+1+1,13,none⟩=some (.slice (some ⟨gK,0,none⟩) S.nK P.cK):=by rw [fG hSw.1 13,←HaK.out,←HP.out.2.1];rfl
   exact dW
  try simp only [Act.put,PZ]
  refine tE 2 31 hT0 ?_
  refine tE 3 32 hT0 ?_
  refine ji (i:=4) (some 33) (v:=.agg #[.int .i64 (S.K k).k,.int .i64 (S.K k).d,.int .i64 (S.K k).s,.int .i64 (S.K k).p,.string (S.K k).b]) ?_ hT0 ?_
  ·
   intro wx hSw
   exact iV 74 5 _ Tryz.underlying74 rfl jC (.tmp 32) rfl gP 3 rfl _ rfl (fun j hj=>rdFr hSw.2 j hj)
  try simp only [Act.put,PZ]
  refine fM (rs:=[5]) (by kernel_rfl) (by simp) ?_
  refine fI.cons rfl (fun K hK=>?_) fI.nil
  go_simp
  refine (nq _ _ _ _ _ _ (HS.out.b k hlt)).mono ?_
  rintro e X1 ⟨rfl,hb⟩
  replace HP:Hid (CpS w S P X1∧P.nK=S.nK∧P.K=S.K):=⟨HP.out.1.up hb,HP.out.2⟩
  replace kP:=(hb.block _ (fH kP)).trans kP
  replace hkK:=(hb.block _ (fH hkK)).trans hkK
  clear hb hT0
  go_wp2_with fail
  refine hK.out _ _ ⟨HP.out.1.x.c,kP⟩ ?_
  clear hK K
  try simp only [Act.put,PZ]
  have hT0:X1.heap[w.heap.size+1+1]?=some (.cells P.cells 40 (0,0))∧X1.heap[gP]?=some (.cells (S.K k).cells 97 (0,0)):=⟨HP.out.1.x.c,kP⟩
  refine fM (rs:=[6]) (by kernel_rfl) (by simp) ?_
  refine fI.cons rfl (fun K hK=>?_) fI.nil
  go_simp
  refine hK.out _ _ hT0 ?_
  clear hK K
  try simp only [Act.put,PZ]
  refine fM (rs:=[7]) (by kernel_rfl) (by simp) ?_
  refine fI.cons rfl (fun K hK=>?_) fI.nil
  go_simp
  refine hK.out _ _ hT0 ?_
  clear hK K
  try simp only [Act.put,PZ]
  refine fM (rs:=[8]) (by kernel_rfl) (by simp) ?_
  refine fI.last rfl (fun K hK=>?_)
  refine jz (by kernel_rfl) none rfl 74 (.tmp 36) (.tmp 34) rfl gK (k*8+3) (by simp [Act.eval]) (.agg #[.int .i64 (S.K k).k,.int .i64 (S.K k).d,.int .i64 (S.K k).s,.int .i64 (S.K k).p,.string (S.K k).b]) rfl 5 rfl 97 _ hkK jC (by omega) (by simp [Value.cells,Value.oneCell']) ?_
  intro X2 hP
  refine hK.out _ _ ?_
  clear hK K
  try simp only [Act.put,PZ]
  refine ie (by kernel_rfl) ?_ _
  replace hP:Put X1 X2 gK cur 97:=hP.cast (A7 (by show k*8+3+5≤_;omega) (fun j hj=>by
   have hj5:j<5:=hj
   have h8:=HcK.out (k*8+(3+j)) (by omega)
   rw [rf _ _ _ _ hlt (by omega)] at h8
   rw [Nat.add_assoc,h8]
   exact Dy (S.K k) j hj5))
  have HN:Hid (CpS w S P X2∧P.nK=S.nK∧P.K=S.K):=⟨HP.out.1.up (hP.same hkK),HP.out.2⟩
  clear hP kP hkK HP HaK HcK hsK hT0
  go_wp2_with fail
  go_roundw
  case rel=>exact ⟨k+1,by omega,by go_num,HN⟩
  case measure=>simp [intOf];omega
 obtain rfl:k=S.nK:=by omega
 have HC:Hid (wr.heap[w.heap.size+1+1]?=some (.cells P.cells 40 (0,0))):=HP.out.1.x.c
 go_wp2_with (refine fJ rfl 38 (.tmp 38) (.const (.slice none 0 0)) rfl (w.heap.size+1+1) 14 rfl (.slice none 0 0) rfl 1 rfl 40 _ HC.out tW (Nat.le_of_ble_eq_true rfl) (by simp [Value.cells,Value.oneCell']) ?_)
 intro X0 hP
 obtain ⟨P1,eP1⟩:∃ P1,({ P with aL:=none,nL:=0,cL:=0 }:Swg)=P1:=⟨_,rfl⟩
 replace hP:Put wr X0 (w.heap.size+1+1) P1.cells 40:=hP.cast (by rw [←eP1];rfl)
 have HP1:Hid (sj w S P1 0 X0):=by
  have q:=HP.out.1
  rw [←eP1] at hP ⊢
  exact ⟨⟨q.x.put hP,q.e.fK hP.to (fun x hx hy=>q.e.j7 (by decide) q.x.c ((List.mem_singleton.1 hy)▸hx)),q.n.C5 q.x.c (by decide) (by decide) hP.to,q.k.fK hP.to (fun x hx hy=>q.k.j7 (by decide) q.x.c ((List.mem_singleton.1 hy)▸hx))⟩,⟨HA.out.c,HA.out.now,HA.out.nx,HA.out.nE,HA.out.e,HA.out.n,HA.out.nK,HA.out.k,HA.out.dr,HA.out.lst⟩,j5.nil _ _ _,fun x hx hy=>by simp at hy,rfl,fun i hi=>absurd hi (Nat.not_lt_zero _)⟩
 clear hP HC HP eP1 HA HU
 have HU:Hid (qh w S.aL S.nL S.L):=HR.out.l
 obtain ⟨aL0,eU⟩:∃ a,S.aL=a:=⟨_,rfl⟩
 have c14:X0.cell? ⟨w.heap.size,14,none⟩=some (.slice aL0 S.nL S.cL):=by rw [←eU];exact fG HP1.out.s.x.a 14
 rw [eU] at HU
 clear eU
 have hnl:=HS.out.l
 go_wp2_with fail
 clear c14
 go_loopw [42] (fun i wr=>∃ (k:Nat) (P:Swg),k≤S.nL∧i=.int .i64 k∧Hid (sj w S P k wr)) (fun i _=>S.nL-(intOf i).toNat)
 case atStart=>exact ⟨0,P1,Nat.zero_le _,rfl,HP1⟩
 clear HP1
 obtain ⟨k,P,hk,rfl,HP⟩:=hrel
 by_cases hlt:k<S.nL
 ·
  have hlt':(k:Int)<S.nL:=by omega
  obtain ⟨g0,o0,ea,hc⟩:=(HU.out.up HP.out.s.x.bel) k hlt
  have HP0:Hid (∀ x∈ij P.aL,x<wr.heap.size):=fun x hx=>(HP.out.l.l.blk x hx).2
  subst ea
  have HCk:Hid (∀ j,j<8→wr.cell? ⟨g0,o0+k*8+j,none⟩=(S.L k).cells[j]?):=hc
  clear hc
  have HG:Hid ((wr.alloc (.cells #[.bool false,.slice none 0 0,.slice none 0 0,.slice none 0 0,.slice none 0 0,.int .i64 0,.bool false,.slice none 0 0] 102)).heap[wr.heap.size]?=some (.cells #[.bool false,.slice none 0 0,.slice none 0 0,.slice none 0 0,.slice none 0 0,.int .i64 0,.bool false,.slice none 0 0] 102 (0,0))):=fL _ _
  go_wp2_with (first | refine fP rfl 102 8 _ Tryz.underlying102 rfl ix (.tmp 44) rfl g0 (o0+k*8) rfl (S.L k).cells rfl HCk.out ?_ | refine fJ rfl 102 (.tmp 7) (.tmp 45) rfl wr.heap.size 0 rfl (.agg (S.L k).cells) rfl 8 rfl 102 _ HG.out ix (Nat.le_of_ble_eq_true rfl) (Lng.lL _) ?_)
  intro X0 hP
  replace hP:Put _ X0 wr.heap.size (S.L k).cells 102:=hP.cast rfl
  have hb:Below wr.heap.size wr X0:=((Below.refl _ _).alloc (Nat.le_refl _) _).trans (hP.to.below (by simp) (fun x hx=>by simp at hx;omega))
  have kL:=hP.blk
  replace HP:Hid (sj w S P k X0):=HP.out.up hb
  have HPl:Hid (∀ x∈ij P.aL,x<wr.heap.size):=fun x hx=>(HP0.out x hx)
  clear hP hb HG HCk HP0
  obtain ⟨gL,egL⟩:∃ g,wr.heap.size=g:=⟨_,rfl⟩
  rw [egL] at kL HPl ⊢
  clear egL
  go_wp2_with fail
  refine iE (fun w'=>w'.heap[w.heap.size+1+1]?=some (.cells P.cells 40 (0,0))∧w'.heap[gL]?=some (.cells (S.L k).cells 102 (0,0))) 7 (by kernel_rfl) ?_
  have hd:Below X0.heap.size X0 X0.drew:=(Below.refl _ _).drew
  replace HP:Hid (sj w S P k X0.drew):=HP.out.up hd
  replace kL:=(hd.block _ (fH kL)).trans kL
  clear hd
  generalize X0.drew=V at *
  have hT0:V.heap[w.heap.size+1+1]?=some (.cells P.cells 40 (0,0))∧V.heap[gL]?=some (.cells (S.L k).cells 102 (0,0)):=⟨HP.out.s.x.c,kL⟩
  refine tE 0 46 hT0 ?_
  refine ji (i:=1) (some 47) (v:=?_) ?_ hT0 ?_
  rotate_left
  ·
   intro wx hSw
   have c14:wx.cell? ⟨w.heap.size+1+1,14,none⟩=some (.slice P.aL k P.cL):=by rw [fG hSw.1 14,←HP.out.nL];rfl
   exact dW
  try simp only [Act.put,PZ]
  refine ji (i:=2) (some 48) (v:=.agg (S.L k).cells) ?_ hT0 ?_
  ·
   intro wx hSw
   exact iV 102 8 _ Tryz.underlying102 rfl ix (.tmp 7) rfl gL 0 rfl _ rfl (fun j _=>by rw [Nat.zero_add];exact fG hSw.2 j)
  try simp only [Act.put,PZ]
  refine fM (rs:=[3]) (by kernel_rfl) (by simp) ?_
  refine fI.cons rfl (fun K hK=>?_) fI.nil
  go_simp
  refine (ux (S.L k) _ (HS.out.ls k hlt) ((HR.out.ls k hlt).up HP.out.s.x.bel)).mono ?_
  rintro e X1 ⟨l2,rfl,al2,ol2,hb⟩
  have HA1:Hid (gy (S.L k) l2∧iq X1 V.heap.size l2∧Below V.heap.size V X1):=⟨al2,ol2,hb⟩
  have Q1:=HP.out.up hb
  have hu0:OG 102 8 X1 w.heap.size P.aL k P.cL (vG k P.L):=by have:=Q1.l.l;rw [HP.out.nL] at this;exact this
  obtain ⟨g1,c3,X3,hr,hu,ht,hg⟩:=ku 38 102 _ 8 144 vL Tryz.underlying38 rfl (by decide) (by decide) hu0 (by omega) (Nat.le_trans HP.out.s.x.bel.size hb.size) l2.cells rfl (Lng.lL _)
  have LN:l2.cells=#[.bool l2.st,.slice l2.aT l2.nT l2.cT,.slice l2.aU l2.nU l2.cU,.slice l2.R.aQ l2.R.nQ l2.R.cQ,.slice l2.R.aD l2.R.nD l2.R.cD,.int .i64 l2.R.turn,.bool l2.R.fresh,.slice l2.R.aS l2.R.nS l2.R.cS]:=rfl
  rw [LN] at hr ⊢
  have kL1:=(hb.block _ (fH kL)).trans kL
  have hT1:X1.heap[w.heap.size+1+1]?=some (.cells P.cells 40 (0,0))∧X1.heap[gL]?=some (.cells (S.L k).cells 102 (0,0)):=⟨Q1.s.x.c,kL1⟩
  have hT2:(X1.alloc (.cells #[.bool l2.st,.slice l2.aT l2.nT l2.cT,.slice l2.aU l2.nU l2.cU,.slice l2.R.aQ l2.R.nQ l2.R.cQ,.slice l2.R.aD l2.R.nD l2.R.cD,.int .i64 l2.R.turn,.bool l2.R.fresh,.slice l2.R.aS l2.R.nS l2.R.cS] 102)).heap[w.heap.size+1+1]?=some (.cells P.cells 40 (0,0))∧(X1.alloc (.cells #[.bool l2.st,.slice l2.aT l2.nT l2.cT,.slice l2.aU l2.nU l2.cU,.slice l2.R.aQ l2.R.nQ l2.R.cQ,.slice l2.R.aD l2.R.nD l2.R.cD,.int .i64 l2.R.turn,.bool l2.R.fresh,.slice l2.R.aS l2.R.nS l2.R.cS] 102)).heap[gL]?=some (.cells (S.L k).cells 102 (0,0)):=⟨(gg _ (fH hT1.1)).trans hT1.1,(gg _ (fH hT1.2)).trans hT1.2⟩
  have hnL:gL∉ij P.aL:=fun hx=>by have:=(HPl.out gL hx);omega
  have hT3:X3.heap[w.heap.size+1+1]?=some (.cells P.cells 40 (0,0))∧X3.heap[gL]?=some (.cells (S.L k).cells 102 (0,0)):=⟨(ht.block _ (fH hT1.1) (hu0.j7 (by decide) hT1.1)).trans hT1.1,(ht.block _ (fH hT1.2) hnL).trans hT1.2⟩
  have HN3:Hid (OG 102 8 X3 w.heap.size (some ⟨g1,0,none⟩) (k+1) c3 (vG k P.L++l2.cells.toList)∧Touch (ij P.aL) X1 X3):=⟨hu,ht⟩
  have HR3:Hid ((Builtin.append_ #[38,38] 38 #[.slice P.aL k P.cL,.slice (some ⟨X1.heap.size,0,none⟩) 1 1]).run Tryz.prog (X1.alloc (.cells #[.bool l2.st,.slice l2.aT l2.nT l2.cT,.slice l2.aU l2.nU l2.cU,.slice l2.R.aQ l2.R.nQ l2.R.cQ,.slice l2.R.aD l2.R.nD l2.R.cD,.int .i64 l2.R.turn,.bool l2.R.fresh,.slice l2.R.aS l2.R.nS l2.R.cS] 102))=.ok (.slice (some ⟨g1,0,none⟩) (k+1) c3) X3):=hr
  clear al2 ol2 hb Q1 hu0 hr hu ht hg hT0 kL1 hnL kL LN
  go_wp2_with fail
  refine hK.out _ _ hT1 ?_
  clear hK K
  try simp only [Act.put,PZ]
  refine fM (rs:=[4]) (by kernel_rfl) (by simp) ?_
  refine fI.cons rfl (fun K hK=>?_) fI.nil
  go_simp
  refine hK.out _ _ hT2 ?_
  clear hK K
  try simp only [Act.put,PZ]
  refine fM (rs:=[5]) (by kernel_rfl) (by simp) ?_
  refine fI.cons rfl (fun K hK=>?_) fI.nil
  refine jX (by kernel_rfl) (some 51) rfl (.tmp 47) (.tmp 50) 38 _ _ _ rfl rfl rfl rfl HR3.out ?_
  refine hK.out _ _ hT3 ?_
  clear hK K hT2 HR3 hT1
  try simp only [Act.put,PZ]
  have hT0:=hT3
  refine tE 6 52 hT0 ?_
  refine fM (rs:=[7]) (by kernel_rfl) (by simp) ?_
  refine fI.last rfl (fun K hK=>?_)
  refine jz (by kernel_rfl) none rfl 38 (.tmp 52) (.tmp 51) rfl (w.heap.size+1+1) 14 rfl (.slice (some ⟨g1,0,none⟩) (k+1) c3) rfl 1 rfl 40 _ hT3.1 tW (Nat.le_of_ble_eq_true rfl) (by simp [Value.cells,Value.oneCell']) ?_
  intro X4 hP
  refine hK.out _ _ ?_
  clear hK K
  try simp only [Act.put,PZ]
  refine ie (by kernel_rfl) ?_ _
  have HN:Hid (sj w S (P.more k (some ⟨g1,0,none⟩) c3 l2) (k+1) X4):=HP.out.more HA1.out.2.2 HA1.out.2.1 HA1.out.1 HN3.out.1 HN3.out.2 hP
  clear hP hT0 hT3 HN3 HA1 HP HPl
  go_wp2_with fail
  go_roundw
  case rel=>exact ⟨k+1,_,by omega,by go_num,HN⟩
  case measure=>simp [intOf];omega
 obtain rfl:k=S.nL:=by omega
 have HL:Hid (∀ j,j<17→wr.cell? ⟨w.heap.size+1+1,0+j,none⟩=P.cells[j]?):=fun j _=>by rw [Nat.zero_add];exact fG HP.out.s.x.c j
 have HD:Hid (wr.heap[w.heap.size+1]?=some (.cells zSw 40 (0,0))):=HP.out.s.x.b
 go_wp2_with (first | refine fP rfl 40 17 _ Tryz.underlying40 rfl fZ (.tmp 3) rfl (w.heap.size+1+1) 0 rfl P.cells rfl HL.out ?_ | refine fJ rfl 40 (.tmp 2) (.tmp 54) rfl (w.heap.size+1) 0 rfl (.agg P.cells) rfl 17 rfl 40 _ HD.out fZ (Nat.le_of_ble_eq_true rfl) (Swg.lL _) ?_)
 intro X hP
 replace hP:Put wr X (w.heap.size+1) P.cells 40:=hP.cast rfl
 have HK:Hid (X.heap[w.heap.size+1]?=some (.cells P.cells 40 (0,0))):=hP.blk
 have HF:Hid (ga S P∧ic X w.heap.size P∧Below w.heap.size w X):=⟨HP.out.alike rfl,HP.out.own.off HD.out hP.to,(HP.out.s.x.out hP).bel⟩
 clear hP HL HD HP
 go_wp2_with fail
 exact bodyPost_ret (iW Tryz.results28 17 _ Tryz.underlying40 rfl fZ _ _ (w.heap.size+1) P.cells rfl 40 HK.out rfl) rfl ⟨P,rfl,HF.out.1,HF.out.2.1,HF.out.2.2⟩
theorem ic.up {w w':World} {base:Nat} {S:Swg} (h:ic w base S) (hb:Below w.heap.size w w'):ic w' base S:=⟨h.e.up hb,h.n.up hb,h.k.up hb,h.l.up hb,h.un⟩
theorem ic.mono {w:World} {base base':Nat} {S:Swg} (h:ic w base S) (hb:base'≤base):ic w base' S:=⟨h.e.mono hb,h.n.mono hb,h.k.mono hb,h.l.mono hb,h.un⟩
theorem ga.refl (S:Swg):ga S S:=⟨rfl,rfl,rfl,rfl,rfl,gx.refl _,rfl,rfl,rfl,fun i _=>gy.refl _,rfl,rfl⟩
def lQ:Swg:=⟨⟨0,0,0,0,0,0,0⟩,0,0,none,0,0,fun _=>default,⟨none,0,0,fun _=>0,0,none,0,0,fun _=>false⟩,none,0,0,fun _=>⟨0,0,0,0,0,0,0,⟨#[]⟩⟩,none,0,0,fun _=>⟨false,none,0,0,fun _=>0,none,0,0,fun _=>none,fun _=>0,fun _=>0,fun _ _=>0,⟨none,0,0,fun _=>0,none,0,0,fun _=>0,0,false,none,0,0,fun _=>none,fun _=>0,fun _=>0,fun _ _=>0⟩⟩,0,0⟩
theorem wz (w:World) (base:Nat):ic w base lQ:=⟨OG.nil _ _ _ _,⟨.inl rfl,.inl rfl⟩,OG.nil _ _ _ _,j5.nil _ _ _,fun x hx=>by simp [gF,lQ] at hx⟩
theorem nJ {fn:Func} {i j:Tmp} {ty:TypeId} (h:fn.results=#[.cell i ty,.tmp j]) (n:Nat) (d:TypeDesc) (hu:Tryz.prog.underlying ty=some d) (hd:d.isRow=true) (hn:(Tryz.prog.info? ty).map (·.size)=some n) (tmps:Array Value) (w:World) (g:Nat) (cs:Array Value) (hi:tmps[i]?.getD undef=.pointer (some ⟨g,0,none⟩)) (t:TypeId) (hk:w.heap[g]?=some (.cells cs t (0,0))) (hs:cs.size=n) (v:Value) (hv:tmps[j]?.getD undef=v) :
  (results fn tmps).run Tryz.prog w=.ok (.tuple #[.agg cs,v]) w:=by
 have:=run_loadVar_mid (P:=Tryz.prog) w g 0 ty cs.toList d (fun j v hv=>by
  rw [Nat.zero_add,fG hk,←Array.getElem?_toList];exact hv) hu hd (by rw [hn,Array.length_toList,hs])
 rw [Array.toArray_toList] at this
 simp [results,h,hi,hv,asAddr,this]
theorem Bp {S:Swg} (h:S.Ok):oJ S.nE S.e∧0≤S.now∧S.now≤1000000000∧0<S.N.nU∧0<S.N.nP:=by
 have h1:=h.n.c.num.p
 have h2:=h.n.nP
 have h3:=h.n.nU
 exact ⟨h.seen.1,h.nums.now.1,h.nums.now.2,by omega,by omega⟩
theorem mn {fn:Func} {i j k:Tmp} {ty:TypeId} (h:fn.results=#[.cell i ty,.tmp j,.tmp k]) (n:Nat) (d:TypeDesc) (hu:Tryz.prog.underlying ty=some d) (hd:d.isRow=true) (hn:(Tryz.prog.info? ty).map (·.size)=some n) (tmps:Array Value) (w:World) (g:Nat) (cs:Array Value) (hi:tmps[i]?.getD undef=.pointer (some ⟨g,0,none⟩)) (t:TypeId) (hk:w.heap[g]?=some (.cells cs t (0,0))) (hs:cs.size=n) (v:Value) (hv:tmps[j]?.getD undef=v) (u:Value) (hu2:tmps[k]?.getD undef=u) :
  (results fn tmps).run Tryz.prog w=.ok (.tuple #[.agg cs,v,u]) w:=by
 have:=run_loadVar_mid (P:=Tryz.prog) w g 0 ty cs.toList d (fun j v hv=>by
  rw [Nat.zero_add,fG hk,←Array.getElem?_toList];exact hv) hu hd (by rw [hn,Array.length_toList,hs])
 rw [Array.toArray_toList] at this
 simp [results,h,hi,hv,hu2,asAddr,this]
theorem mN {ops:Array Oper} {rest:List Oper} {o:Oper} {a:Act} {w:World} {Q:Exit→Act→World→Prop} (hw:Region.wanted o (yielded ops a.tmps)=true) (ty:TypeId) (n:Nat) (d:TypeDesc) (hu:Tryz.prog.underlying ty=some d) (hd:d.isRow=true) (hi:(Tryz.prog.info? ty).map (·.size)=some n) (x:Operand) (ho:o.op=.load ty x) (b off:Nat) (hx:a.eval x=.pointer (some ⟨b,off,none⟩))
  (cs:Array Value) (hs:cs.size=n) (hc:∀ j,j<n→w.cell? ⟨b,off+j,none⟩=cs[j]?) (h:wpList Tryz.prog ops Q rest (a.put o.dst (.agg cs)) w):wpList Tryz.prog ops Q (o :: rest) a w :=
 wpList_step fun K hK=>by
  rw [if_pos hw]
  unfold Oper.wp
  rw [iV ty n d hu hd hi x ho b off hx cs hs hc]
  exact hK _ _ h
end Go.Proofs.YtfcfpkibceepgaaGreat
