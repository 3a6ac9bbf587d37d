import Derived.Test.YthicmlolanifhaaGreatV15
import Derived.Test.YthicmlolanifhaaGreatV28
import Derived.LaidEql
import Derived.RowKitTokens
import Derived.Stop.Asserts
namespace Go.Proofs.YthicmlolanifhaaGreat
set_option maxRecDepth 100000
set_option maxHeartbeats 9000000
open Go.RowKit
set_option linter.unusedVariables false
set_option linter.unusedSimpArgs false
variable {a a':Act} {listed:Array Bool} {cs cur:Array Value} {d:Bool} {x:Ent} {cl dst id mac now old:Int} {L M:List Ent} {rs:List Nat} {xs:List Value} {l l2:Lng} {N base c cap fuel g g8 gL gS gf gp i j k n o:Nat} {f:Nat→Ent} {oi:Oper} {p:Prop} {P Q1 S:Swg} {u v:Value} {W W' w w':World}
theorem aH (h:p:=by
 have hBd:Below w.heap.size w wr.drew:=HO2.below.trans (by rw [←HWB.out];exact (HSm.below _).drew)
 have hwo:IntKind.i64.wrap ((o:Int)+1)=(o:Int)+1:=lz _ (by omega) (by omega)
 have hto:((o:Int)+1).toNat=o+1:=by omega
 have ho':(o:Int)<k:=by omega
 have ho1:(o:Int)+1≤k:=by omega
 have ho0:(0:Int)≤(o:Int)+1:=by omega
 have hck:k≤cap2:=by
  rcases hown.2 with ⟨e,_⟩ | ⟨g',cap',cur,e,_,_,hkc,_⟩
  ·
   cases e
  cases e;rw [HN.out] at hkc;exact hkc
 have hck':(k:Int)≤cap2:=by omega
 have hco:(o:Int)≤cap2:=by omega
 have hco1:(o:Int)+1≤cap2:=by omega
 by_cases hcc:cap2=o+1
 ·
  have hko:k=o+1:=by omega
  obtain ⟨v1,W2,v2,W3,hrun1,hrun2,hOwn,hBel⟩:=Ey (o:=o) 0 hown HN (by omega) ho hBd.size (.inr hko) cap2 0
  rw [hLast] at hOwn
  have HBel:Hid (Below w.heap.size w W3):=hBd.trans hBel
  have hz1:k-(o+1)=0:=by omega
  have hz2:(0:Nat)=o+1-(o+1):=by omega
  have HR2a:Hid ((Builtin.append_ #[26,26] 26 #[v1,.slice (some (Hh gg2 0)) 0 0]).run Tryz.prog W2=.ok v2 W3):=by rw [hz1] at hrun2;exact hrun2
  have HR2b:Hid ((Builtin.append_ #[26,26] 26 #[v1,.slice (some (Hh gg2 0)) 0 (o+1-(o+1))]).run Tryz.prog W2=.ok v2 W3):=by rw [←hz2];exact HR2a.out
  have HR2c:Hid ((Builtin.append_ #[26,26] 26 #[v1,.slice (some (Hh gg2 0)) (k-(o+1)) (o+1-(o+1))]).run Tryz.prog W2=.ok v2 W3):=by rw [←hz2];exact hrun2
  clear hz1 hz2 hBel hown hBd h3 h4 he hLast hko
  subst hcc
  have hoo:(o:Int)≤(o:Int)+1:=by omega
  exact fH
 obtain ⟨v1,W2,v2,W3,hrun1,hrun2,hOwn,hBel⟩:=Ey (o:=o) ((o+1)*3) hown HN (by omega) ho hBd.size (.inl rfl) cap2 (cap2-(o+1))
 rw [hLast] at hOwn
 have HBel:Hid (Below w.heap.size w W3):=hBd.trans hBel
 clear hBel hown hBd h3 h4 he hLast
 exact fH):p:=h
theorem aO (h:p:=by
 have hlt':(k:Int)<N:=by omega
 obtain ⟨q1,q2⟩:=HC k hlt
 by_cases hm:(fo k).m=m
 ·
  have hmq:((fo k).m != m)=false:=by simp [hm]
  have HS2:Hid (St2 fo m (k+1) q):=Dh HSt hm
  clear hm
  go_wp2_with fail
  refine wp_region_held_drew (S:=fun w'=>w'.cell? (Hh gg2 (k*3))=some (.int .i64 (fo k).m)∧w'.cell? (Hh gg2 (k*3+2))=some (.int .i64 (fo k).t)) (by kernel_rfl) ⟨q1,q2⟩ (fun hHeld=>?_)
  refine t0 ?_
  iterate 7 refine tN ?_
  iterate 15 refine sN ?_
  refine tN ?_
  refine dnq ?_
  clear hHeld q1 q2
  go_wp2_with fail
  go_roundw
  case rel=>exact ⟨k+1,q,by omega,by go_num,rfl,HS2.out,HSm.drewN 1⟩
  case measure=>simp [intOf];omega
 have hmq:((fo k).m != m)=true:=by simp [hm]
 rcases Int.lt_or_le q 0 with h0 | h0
 ·
  have HS2:Hid (St2 fo m (k+1) k):=Bg HSt hm h0
  clear hm
  go_wp2_with fail
  refine wp_region_held_drew (S:=fun w'=>w'.cell? (Hh gg2 (k*3))=some (.int .i64 (fo k).m)∧w'.cell? (Hh gg2 (k*3+2))=some (.int .i64 (fo k).t)) (by kernel_rfl) ⟨q1,q2⟩ (fun hHeld=>?_)
  refine t0 ?_
  iterate 10 refine tN ?_
  iterate 11 refine sN ?_
  iterate 2 refine tN ?_
  refine dnq ?_
  clear hHeld q1 q2
  exact fI
 obtain ⟨o,rfl⟩:=Int.eq_ofNat_of_zero_le h0
 obtain ⟨hok2,hA,hB⟩:=Di HSt hm
 have HA:Hid ((fo k).t<(fo o).t→St2 fo m (k+1) k):=hA
 have HB:Hid (¬ (fo k).t<(fo o).t→St2 fo m (k+1) o):=hB
 have q3:=(HC o (by omega)).2
 have ho':(o:Int)<N:=by omega
 have h0':¬ (o:Int)<0:=by omega
 clear hA hB hm h0
 by_cases ht:(fo k).t<(fo o).t
 ·
  have HS2:Hid (St2 fo m (k+1) k):=HA ht
  go_wp2_with fail
  refine wp_region_held_drew (S:=fun w'=>w'.cell? (Hh gg2 (k*3))=some (.int .i64 (fo k).m)∧w'.cell? (Hh gg2 (k*3+2))=some (.int .i64 (fo k).t)∧w'.cell? (Hh gg2 (o*3+2))=some (.int .i64 (fo o).t)) (by kernel_rfl) ⟨q1,q2,q3⟩ (fun hHeld=>?_)
  refine t0 ?_
  iterate 23 refine tN ?_
  refine dnq ?_
  clear hHeld q1 q2 q3
  exact fI
 have HS2:Hid (St2 fo m (k+1) o):=HB ht
 go_wp2_with fail
 refine wp_region_held_drew (S:=fun w'=>w'.cell? (Hh gg2 (k*3))=some (.int .i64 (fo k).m)∧w'.cell? (Hh gg2 (k*3+2))=some (.int .i64 (fo k).t)∧w'.cell? (Hh gg2 (o*3+2))=some (.int .i64 (fo o).t)) (by kernel_rfl) ⟨q1,q2,q3⟩ (fun hHeld=>?_)
 refine t0 ?_
 iterate 23 refine tN ?_
 refine dnq ?_
 clear hHeld q1 q2 q3
 go_wp2_with fail
 go_roundw
 case rel=>exact ⟨k+1,o,by omega,by go_num,rfl,HS2.out,HSm.drewN 1⟩
 case measure=>simp [intOf];omega):p:=h
theorem fx (h:p:=by
 go_wp2_with fail
 go_ret
 exact ⟨qj HF.symm,B1⟩):p:=h
theorem fy (h:p:=by
 clear hm HH HS x1 x2 x3
 go_wp2_with fail
 go_round
 case rel=>exact ⟨k+1,by omega,by go_num,HS2.out⟩
 case measure=>simp [intOf];omega):p:=h
theorem fA (h:p:=by
 clear cX c1 c2 c3 hO
 go_roundw
 case rel=>exact ⟨k+1,true,_,by omega,by go_num,rfl,HS.out,hO2⟩
 case measure=>simp [intOf];omega):p:=h
theorem fE (h:p:=by
 rcases hO2.own.row with ⟨e,_⟩ | ⟨g',cap',e,_,hr⟩
 ·
  cases e
 cases e;rw [hMl] at hr;exact hr):p:=h
theorem fG (h:p:=by
 have:=nj ⟨m,p,t⟩ (notM m (iU k f))
 exact this.symm.trans e):p:=h
theorem fH (h:p:=by
 go_wp2_with fail
 refine wp_region_held_drew (S:=fun _=>True) (by kernel_rfl) True.intro (fun hHeld=>?_)
 refine tQ 1 97 ?_
 refine tQ 2 98 ?_
 refine tQ 3 99 ?_
 refine tQ 5 101 ?_
 refine tQ 6 102 ?_
 refine tQ 7 103 ?_
 refine tQ 8 104 ?_
 refine rq1 0 (fun K hK=>?_)
 go_simp
 refine ah (hK _ _ ⟨⟩) ?_
 intro hHeld
 clear hK K
 refine rq1 4 (fun K hK=>?_)
 refine ze (by kernel_rfl) (some 100) (.tmp 96) (.tmp 99) 26 _ _ _ rfl rfl rfl rfl rfl hrun1 ?_
 refine ah (hK _ _ ⟨⟩) ?_
 intro hHeld
 clear hK K
 refine rq1 9 (fun K hK=>?_)
 refine ze (by kernel_rfl) (some 105) (.tmp 100) (.tmp 104) 26 _ _ _ rfl rfl rfl rfl rfl (by first | exact hrun2 | exact HR2a.out | exact HR2b.out | exact HR2c.out | (simp [go_sem];exact hrun2)) ?_
 refine ah (hK _ _ ⟨⟩) ?_
 intro hHeld
 clear hK K
 refine tQ 10 8 ?_
 refine dnq ?_
 go_wp2_with fail
 go_ret
 exact ⟨_,rfl,hOwn,HBel⟩):p:=h
theorem fI (h:p:=by
 go_wp2_with fail
 go_roundw
 case rel=>exact ⟨k+1,k,by omega,by go_num,rfl,HS2.out,HSm.drewN 1⟩
 case measure=>simp [intOf];omega):p:=h
section
variable {P : Program} {ops : Array Oper} {Q : Exit → Act → World → Prop} {md : Region.Mode} {T : World → Prop} {d : Nat}
def mf (P:Program) (md:Region.Mode) (ops:Array Oper) (Q:Exit→Act→World→Prop) (T:World→Prop) (d:Nat):Nat→Array Bool→Act→World→Prop
 | 0,listed,a,w=>Region.ready md ops listed=[]∧Q .normal a w
 | fuel+1,listed,a,w =>
  (Region.ready md ops listed=[]→Q .normal a w) ∧
  ∀ i∈Region.ready md ops listed,wpOp P ops Q i (fun a' w'=>(i=d∨listed[d]?=some true∨T w')∧mf P md ops Q T d fuel (listed.setIfInBounds i true) a' w') a w
theorem ux:∀ (fuel:Nat) (listed:Array Bool) (a:Act) (w:World),mf P md ops Q T d fuel listed a w→wpAny P md ops Q fuel listed a w
 | 0,_,_,_,h=>h
 | fuel+1,_,_,_,h=>⟨h.1,fun i hi=>wpOp_mono (fun a' w' h'=>ux fuel _ a' w' h'.2) (h.2 i hi)⟩
theorem wJ (hi:ops[i]?=some oi) (hsel:∀ (j:Nat) (o:Oper) cs b,ops[j]?=some o→o.op≠.select cs b)
  (hQ:∀ c a w,Q (.panic c) (a.put oi.dst v) w→Q (.panic c) a w) (hd:lG md ops d i=true) :
  ∀ (fuel:Nat) (listed:Array Bool) (a:Act) (w:World),
   (∀ j oj,ops[j]?=some oj→j≠i→listed.getD j true=false→(∀ e∈oj.after,Region.binds md e=true→e.on≠i)→oi.apart ops oj=true) →
   listed[d]?≠some true→i∈Region.ready md ops listed→YieldsIf P ops T oi v a→T w →
   mf P md ops Q T d fuel (listed.setIfInBounds i true) (a.put oi.dst v) w→mf P md ops Q T d (fuel+1) listed a w:=by
 intro fuel
 induction fuel with
 | zero =>
  intro listed a w _ hdu hr hy hS H
  refine ⟨fun h=>(by rw [h] at hr;cases hr),fun j hj=>?_⟩
  by_cases hji:j=i
  ·
   subst hji;exact hy.wpOp hi hS ⟨.inr (.inr hS),H⟩
  have:=ready_mono hj hji
  rw [H.1] at this
  cases this
 | succ fuel ih =>
  intro listed a w hfree hdu hr hy hS H
  have hid:i≠d:=fun e=>sW hd hr (e▸hr)
  refine ⟨fun h=>(by rw [h] at hr;cases hr),fun j hj=>?_⟩
  by_cases hji:j=i
  ·
   subst hji;exact hy.wpOp hi hS ⟨.inr (.inr hS),H⟩
  have h1:=H.2 j (ready_mono hj hji)
  have hjd:j≠d:=fun e=>sW hd hr (e▸hj)
  obtain ⟨hjun,oj,hoj,hall⟩:=mem_ready.1 hj
  have hnot:∀ e∈oj.after,Region.binds md e=true→e.on≠i:=fun e he hb heq=>by
   have h1:=hall e he hb
   have h0:=(mem_ready.1 hr).1
   rw [heq] at h1
   rcases Nat.lt_or_ge i listed.size with h' | h'
   ·
    simp [h'] at h0 h1;rw [h0] at h1;cases h1
   simp [Array.getElem?_eq_none h'] at h1
  have h2:=wpOp_putIf hoj (hfree j oj hoj hji hjun hnot) (fun cs b=>hsel i oi cs b hi) (fun cs b=>hsel j oj cs b hoj) hQ hy h1
  have hfree':∀ k ok,ops[k]?=some ok→k≠i→(listed.setIfInBounds j true).getD k true=false →
    (∀ e∈ok.after,Region.binds md e=true→e.on≠i)→oi.apart ops ok=true:=fun k ok hk hki hun hno=>by
   refine hfree k ok hk hki ?_ hno
   by_cases hjk:j=k
   ·
    subst hjk;exact hjun
   rw [getD_set_ne true hjk] at hun;exact hun
  refine wpOp_mono (fun a' w' h3=>?_) h2
  have hT:T w':=by
   rcases h3.2.1 with e | e | e
   ·
    exact absurd e hjd
   ·
    rw [Array.getElem?_setIfInBounds_ne hid] at e
    exact absurd e hdu
   exact e
  have hdu':(listed.setIfInBounds j true)[d]?≠some true:=by rw [Array.getElem?_setIfInBounds_ne hjd];exact hdu
  refine ⟨.inr (.inr hT),ih (listed.setIfInBounds j true) a' w' hfree' hdu' (ready_mono hr (Ne.symm hji)) h3.1 hT ?_⟩
  rw [Array.setIfInBounds_comm _ _ hji]
  exact h3.2.2
theorem rp (dd:Option Tmp) (hy:∀ w,T w→(execOp a.eval oi).run P w=.ok (.value v) w) (hS:T w)
  (h:mf P md ops Q T d fuel (listed.setIfInBounds i true) (a.put dd v) w) (hi:ops[i]?=some oi:=by rfl) (hd:oi.dst=dd:=by rfl) (hwt:lG md ops d i=true:=by kernel_rfl)
  (hs:Region.noSelect ops=true:=by kernel_rfl) (hf:Region.free md ops listed i=true:=by kernel_rfl) (hr:(Region.ready md ops listed).contains i=true:=by kernel_rfl)
  (hQ:∀ c a w,Q (.panic c) (a.put dd v) w→Q (.panic c) a w:=by exact fun _ _ _ h=>h) (hdu:(listed[d]? == some true)=false:=by kernel_rfl) (hw:Region.wanted oi (yielded ops a.tmps)=true:=by kernel_rfl):mf P md ops Q T d (fuel+1) listed a w:=by
 subst hd
 exact wJ hi (Region.noSelect_spec hs) hQ hwt fuel listed a w (Region.free_spec hi hf) (fun e=>by rw [e] at hdu;simp at hdu) (by simpa using hr) (Or.inl ⟨hw,hy⟩) hS h
theorem tG (i k:Nat) (hS:T w)
  (h:mf P md ops Q T d fuel (listed.setIfInBounds i true) a' w) (hi:ops[i]?=some oi:=by rfl) (hd:oi.dst=some k:=by rfl)
  (hy:∀ w,T w→(execOp a.eval oi).run P w=.ok (.value v) w:=by intro wx hSw;go_simp;try with_reducible rfl)
  (ha:a.put (some k) v=a':=by (try simp only [Act.put,PZ]);try exact rfl) (hwt:lG md ops d i=true:=by kernel_rfl)
  (hs:Region.noSelect ops=true:=by kernel_rfl) (hf:Region.free md ops listed i=true:=by kernel_rfl) (hr:(Region.ready md ops listed).contains i=true:=by kernel_rfl)
  (hQ:∀ c a w,Q (.panic c) (a.put (some k) v) w→Q (.panic c) a w:=by exact fun _ _ _ h=>h) (hdu:(listed[d]? == some true)=false:=by kernel_rfl) (hw:Region.wanted oi (yielded ops a.tmps)=true:=by kernel_rfl):mf P md ops Q T d (fuel+1) listed a w :=
 rp (some k) hy hS (by rw [ha];exact h) hi hd hwt hs hf hr hQ hdu hw
def iM (P:Program) (md:Region.Mode) (ops:Array Oper) (Q:Exit→Act→World→Prop) (T:World→Prop) (d fuel:Nat) (listed:Array Bool) (a:Act) (w:World) (rs:List Nat):Prop :=
 ∀ i∈rs,wpOp P ops Q i (fun a' w'=>(i=d∨listed[d]?=some true∨T w')∧mf P md ops Q T d fuel (listed.setIfInBounds i true) a' w') a w
theorem iM.nil:iM P md ops Q T d fuel listed a w []:=fun _ h=>by cases h
theorem iM.cons {o:Oper} (ho:ops[i]?=some o)
  (h:∀ K':Act→World→Prop,Shut (∀ a w,T w→mf P md ops Q T d fuel (listed.setIfInBounds i true) a w→K' a w)→if Region.wanted o (yielded ops a.tmps)=true then Oper.wp P o a w K' Q else K' (a.put o.dst undef) w)
  (hs:iM P md ops Q T d fuel listed a w rs):iM P md ops Q T d fuel listed a w (i :: rs):=fun j hj=>by
 rcases List.mem_cons.1 hj with rfl | hj
 ·
  exact wpOp_step ho (fun K' hK=>h K' (fun a w hS hW=>hK a w ⟨.inr (.inr hS),hW⟩))
 exact hs j hj
theorem iM.last {o:Oper} (ho:ops[d]?=some o)
  (h:∀ K':Act→World→Prop,Shut (∀ a w,mf P md ops Q T d fuel (listed.setIfInBounds d true) a w→K' a w)→if Region.wanted o (yielded ops a.tmps)=true then Oper.wp P o a w K' Q else K' (a.put o.dst undef) w):iM P md ops Q T d fuel listed a w [d]:=fun j hj=>by
 obtain rfl:=List.mem_singleton.1 hj
 exact wpOp_step ho (fun K' hK=>h K' (fun a w hW=>hK a w ⟨.inl rfl,hW⟩))
theorem iM.late {o:Oper} (ho:ops[i]?=some o) (hl:listed[d]?=some true)
  (h:∀ K':Act→World→Prop,Shut (∀ a w,mf P md ops Q T d fuel (listed.setIfInBounds i true) a w→K' a w)→if Region.wanted o (yielded ops a.tmps)=true then Oper.wp P o a w K' Q else K' (a.put o.dst undef) w):iM P md ops Q T d fuel listed a w [i]:=fun j hj=>by
 obtain rfl:=List.mem_singleton.1 hj
 exact wpOp_step ho (fun K' hK=>h K' (fun a w hW=>hK a w ⟨.inr (.inl hl),hW⟩))
theorem jd (hr:Region.ready md ops listed=rs) (hne:rs≠[])
  (h:iM P md ops Q T d fuel listed a w rs):mf P md ops Q T d (fuel+1) listed a w :=
 ⟨fun h0=>absurd (hr▸h0) hne,hr▸h⟩
theorem qg (hr:Region.ready md ops listed=[]) (h:Q .normal a w) :
  ∀ fuel,mf P md ops Q T d fuel listed a w
 | 0=>⟨hr,h⟩
 | _+1=>⟨fun _=>h,by rw [hr];simp⟩
theorem qc {id:Nat} (T:World→Prop) (d:Nat) (hm:P.follows .mixedOrders=true)
  (h:mf P .any ops Q T d ops.size (Array.replicate ops.size false) a w.drew):(Code.region id ops true).wp P Q a w :=
 wp_region_any hm (ux _ _ _ _ h)
end
section
variable {P : Program} {ops : Array Oper} {Q : Exit → Act → World → Prop} {md : Region.Mode} {T : World → Prop} {d : Nat}
theorem tEX (i k:Nat) (hS:T w)
  (h:mu P md ops Q T d fuel (listed.setIfInBounds i true) a' w) (hi:ops[i]?=some oi:=by rfl) (hd:oi.dst=some k:=by rfl)
  (hy:∀ w,T w→(execOp a.eval oi).run P w=.ok (.value v) w:=by intro wx hSw;have hCw:=Hcs wx hSw;(repeat (have hL:=And.left hCw;replace hCw:=And.right hCw));go_simp;try with_reducible rfl)
  (ha:a.put (some k) v=a':=by (try simp only [Act.put,PZ]);try exact rfl) (hwt:lG md ops d i=true:=by kernel_rfl)
  (hs:Region.noSelect ops=true:=by kernel_rfl) (hf:Region.free md ops listed i=true:=by kernel_rfl) (hr:(Region.ready md ops listed).contains i=true:=by kernel_rfl)
  (hQ:∀ c a w,Q (.panic c) (a.put (some k) v) w→Q (.panic c) a w:=by exact fun _ _ _ h=>h) (hw:Region.wanted oi (yielded ops a.tmps)=true:=by kernel_rfl):mu P md ops Q T d (fuel+1) listed a w :=
 ko (some k) hy hS (by rw [ha];exact h) hi hd hwt hs hf hr hQ hw
theorem tGX (i k:Nat) (hS:T w)
  (h:mf P md ops Q T d fuel (listed.setIfInBounds i true) a' w) (hi:ops[i]?=some oi:=by rfl) (hd:oi.dst=some k:=by rfl)
  (hy:∀ w,T w→(execOp a.eval oi).run P w=.ok (.value v) w:=by intro wx hSw;have hCw:=Hcs wx hSw;(repeat (have hL:=And.left hCw;replace hCw:=And.right hCw));go_simp;try with_reducible rfl)
  (ha:a.put (some k) v=a':=by (try simp only [Act.put,PZ]);try exact rfl) (hwt:lG md ops d i=true:=by kernel_rfl)
  (hs:Region.noSelect ops=true:=by kernel_rfl) (hf:Region.free md ops listed i=true:=by kernel_rfl) (hr:(Region.ready md ops listed).contains i=true:=by kernel_rfl)
  (hQ:∀ c a w,Q (.panic c) (a.put (some k) v) w→Q (.panic c) a w:=by exact fun _ _ _ h=>h) (hdu:(listed[d]? == some true)=false:=by kernel_rfl) (hw:Region.wanted oi (yielded ops a.tmps)=true:=by kernel_rfl):mf P md ops Q T d (fuel+1) listed a w :=
 rp (some k) hy hS (by rw [ha];exact h) hi hd hwt hs hf hr hQ hdu hw
end
def Pkt.more (y:Pkt):Pkt:={ y with refs:=y.refs+1 }
theorem layT (l:Lng) (id:Int) (a:Option Addr) (c:Nat):lay l.cells 1 #[.slice a (l.nT+1) c]=(l.rh id a c).cells:=by simp [lay,Lng.cells,Lng.rh]
theorem layR (l:Lng) (X:Rnd):lay l.cells 3 X.cells=({ l with R:=X }:Lng).cells:=by simp [lay,Lng.cells,Rnd.cells]
theorem Eo:(Tryz.prog.info? 27).map (·.size)=some 1:=by kernel_rfl
theorem BW:(Tryz.prog.info? 46).map (·.size)=some 5:=by kernel_rfl
theorem C3 {p:Int} (h:p=2) (a:Option Addr) (c:Nat):iT (l.wait p id cl) (l.rh id a c):=by
 unfold Lng.wait
 rw [if_pos h]
 exact ⟨rfl,rfl,rfl,rfl,rfl,rfl,Alike.refl _⟩
theorem C5 {p:Int} (h:p=(k:Int)) (h2:p≠2) (a:Option Addr) (c:Nat) {R:Rnd} (hR:Alike (l.R.push k cl none 0) R):iT (l.wait p id cl) { l.ql k id a c with R:=R }:=by
 unfold Lng.wait
 rw [if_neg h2,h,Int.toNat_natCast]
 exact ⟨rfl,rfl,rfl,rfl,rfl,rfl,hR⟩
def Pkt.frc (x:Pkt):Array Value:=#[.int .i64 x.k,.int .i64 x.d,.int .i64 x.s,.int .i64 x.p,.string x.b]
theorem vX:(Tryz.prog.info? 30).map (·.size)=some 3:=by kernel_rfl
theorem Fl:(Tryz.prog.info? 25).map (·.size)=some 7:=by kernel_rfl
structure AdS (w W:World) (base gS gf:Nat) (P:Swg) (x:Pkt):Prop where
 box:W.heap[gS]?=some (.cells P.cells 34 (0,0))
 fr:W.heap[gf]?=some (.cells x.frc 43 (0,0))
 own:iP W base P
 bel:Below base w W
 le:base≤gS∧base≤gf∧base≤w.heap.size
theorem AdS.up {x:Pkt} (h:AdS w W base gS gf P x) (hb:Below W.heap.size W W'):AdS w W' base gS gf P x :=
 ⟨(hb.block _ (iw h.box)).trans h.box,(hb.block _ (iw h.fr)).trans h.fr,h.own.up hb,h.bel.trans (hb.mono (Nat.le_trans h.le.2.2 h.bel.size)),h.le⟩
theorem AdS.put {P':Swg} {x:Pkt} (h:AdS w W base gS gf P x) (hP:Put W W' gS P'.cells 34) (ho:iP W base P'):AdS w W' base gS gf P' x :=
 ⟨hP.blk,(hP.to.block _ (iw h.fr) (by simpa using jn h.fr h.box (by decide))).trans h.fr,ho.off h.box hP.to,h.bel.trans (hP.to.below (Nat.le_trans h.le.2.2 h.bel.size) (fun y hy=>by simp at hy;rw [hy];exact h.le.1)),h.le⟩
theorem Gk (h:w.heap[g]?=some (.cells P.cells 34 (0,0))):∀ j,j<7→w.cell? (Hh g (0+j))=P.C.cells[j]?:=by
 intro j hj
 rw [Nat.zero_add,iv h]
 rcases j with _ | _ | _ | _ | _ | _ | _ | j
 ·
  rfl
 ·
  rfl
 ·
  rfl
 ·
  rfl
 ·
  rfl
 ·
  rfl
 ·
  rfl
 omega
theorem Gj (h:w.heap[g]?=some (.cells P.cells 34 (0,0))):∀ j,j<3→w.cell? (Hh g (10+j))=P.N.cells[j]?:=by
 intro j hj
 rw [iv h]
 rcases j with _ | _ | _ | j
 ·
  rfl
 ·
  rfl
 ·
  rfl
 omega
theorem xP {x:Pkt} (h:w.heap[g]?=some (.cells x.frc 43 (0,0))):∀ j,j<5→w.cell? (Hh g (0+j))=x.frc[j]?:=by
 intro j hj
 rw [Nat.zero_add,iv h]
theorem AdS.Gl {x:Pkt} {t:TypeId} (h:AdS w W base gS gf P x) (hg:W.heap[g]?=some (.cells cs t (0,0))) (ht:t=30) (hto:Touch [g] W W') (hb:base≤g):AdS w W' base gS gf P x:=by
 subst ht
 have far:∀ {y:Nat} {c:Array Value} {t':TypeId},W.heap[y]?=some (.cells c t' (0,0))→t'≠30→y∉[g]:=fun k hne hy=>jn k hg hne (by simpa using hy)
 refine ⟨(hto.block _ (iw h.box) (far h.box (by decide))).trans h.box,(hto.block _ (iw h.fr) (far h.fr (by decide))).trans h.fr,?_,h.bel.trans (hto.below (Nat.le_trans h.le.2.2 h.bel.size) (fun y hy=>by simp at hy;omega)),h.le⟩
 refine ⟨h.own.e.iB hto (fun y hy=>?_),⟨h.own.n.u.iB hto (fun y hy=>?_),h.own.n.p.iB hto (fun y hy=>?_)⟩,h.own.k.iB hto (fun y hy=>?_),h.own.l.box hg (by decide) (by decide) (by decide) hto,h.own.un⟩
 ·
  obtain ⟨c,k⟩:=h.own.e.type y hy
  exact far k (by decide)
 ·
  obtain ⟨c,k⟩:=h.own.n.u.type y hy
  exact far k (by decide)
 ·
  obtain ⟨c,k⟩:=h.own.n.p.type y hy
  exact far k (by decide)
 obtain ⟨c,k⟩:=h.own.k.type y hy
 exact far k (by decide)
theorem jb.Gl {M:Cnt} (h:jb W base M) (hg:W.heap[g]?=some (.cells cs 30 (0,0))) (hto:Touch [g] W W'):jb W' base M :=
 ⟨h.u.iB hto (fun y hy hz=>by obtain ⟨c,k⟩:=h.u.type y hy;exact jn k hg (by decide) (by simpa using hz)),h.p.iB hto (fun y hy hz=>by obtain ⟨c,k⟩:=h.p.type y hy;exact jn k hg (by decide) (by simpa using hz))⟩
theorem tb {x:Pkt} (hb:jU (k:Int) dst i=false) (j:Nat):P.ka i dst x (k+1) j=P.ka i dst x k j:=by
 unfold Swg.ka
 by_cases e:j=k
 ·
  subst e
  rw [if_neg (fun h=>by rw [hb] at h;exact absurd h.2 (by decide)),if_neg (fun h=>absurd h.1 (Nat.lt_irrefl _))]
 by_cases h:j<k∧jU (j:Int) dst i=true
 ·
  rw [if_pos h,if_pos ⟨by omega,h.2⟩]
 rw [if_neg h,if_neg (fun h2=>h ⟨by omega,h2.2⟩)]
theorem Fj:(Tryz.prog.info? 31).map (·.size)=some 1:=by kernel_rfl
theorem Br {K K':Nat→Pkt} (h:∀ j,j<n→K j=K' j):qm n K=qm n K':=by
 induction n with
 | zero=>rfl
 | succ n ih=>rw [lJ,lJ,ih (fun j hj=>h j (by omega)),h n (by omega)]
theorem iP.GI {K:Nat→Pkt} (h:iP w base P) (hk:OG 50 8 W base (some (Hh g 0)) (P.nK+1) c xs) (ht:Touch (iR P.aK) w W) (hx:qm (P.nK+1) K=xs):iP W base { P with aK:=some (Hh g 0),nK:=P.nK+1,cK:=c,K:=K }:=by
 have far:∀ {y:Nat} {cs:Array Value} {t:TypeId},w.heap[y]?=some (.cells cs t (0,0))→t≠50→y∉iR P.aK:=fun k1 hne hy=>by
  obtain ⟨c2,k2⟩:=h.k.type _ hy
  exact jn k1 k2 hne rfl
 refine ⟨h.e.iB ht (fun y hy=>?_),⟨h.n.u.iB ht (fun y hy=>?_),h.n.p.iB ht (fun y hy=>?_)⟩,by rw [←hx] at hk;exact hk,⟨h.l.l.iB ht (fun y hy=>?_),fun j hj=>(h.l.ls j hj).jE ht (fun y hy=>?_) (fun y hy=>?_) (fun y hy=>?_),h.l.nd,h.l.td⟩,h.un⟩
 ·
  obtain ⟨cs,k⟩:=h.e.type y hy
  exact far k (by decide)
 ·
  obtain ⟨cs,k⟩:=h.n.u.type y hy
  exact far k (by decide)
 ·
  obtain ⟨cs,k⟩:=h.n.p.type y hy
  exact far k (by decide)
 ·
  obtain ⟨cs,k⟩:=h.l.l.type y hy
  exact far k (by decide)
 ·
  obtain ⟨cs,k⟩:=(h.l.ls j hj).type2 y hy
  exact far k (by decide)
 ·
  obtain ⟨cs,k⟩:=(h.l.ls j hj).u.type y hy
  exact far k (by decide)
 obtain ⟨_,cs,k⟩:=(h.l.ls j hj).r.own.s.sF y hy
 exact far k (by decide)
theorem AA (k d s p:Int) (b:ByteArray) (w:World) (hlim:b.size≤1048576) :
  Calls Tryz.prog 185 #[.agg #[.int .i64 k,.int .i64 d,.int .i64 s,.int .i64 p,.string b]] w fun e w'=>e=.returned (.agg #[.int .i64 k,.int .i64 d,.int .i64 s,.int .i64 p,.string b])∧Below w.heap.size w w':=by
 obtain ⟨V,eV⟩:∃ V,(w.alloc (.cells #[.int .i64 k,.int .i64 d,.int .i64 s,.int .i64 p,.string b] 150)).alloc (.cells #[.int .i64 0,.int .i64 0,.int .i64 0,.int .i64 0,.string ⟨#[]⟩] 43)=V:=⟨_,rfl⟩
 have hV:V.heap[w.heap.size+1]?=some (.cells #[.int .i64 0,.int .i64 0,.int .i64 0,.int .i64 0,.string ⟨#[]⟩] 43 (0,0))∧V.heap[w.heap.size]?=some (.cells #[.int .i64 k,.int .i64 d,.int .i64 s,.int .i64 p,.string b] 150 (0,0))∧Below w.heap.size w V∧V.heap.size=w.heap.size+2:=by
  rw [←eV]
  have e:(w.alloc (.cells #[.int .i64 k,.int .i64 d,.int .i64 s,.int .i64 p,.string b] 150)).heap.size=w.heap.size+1:=by simp
  exact ⟨by rw [←e];exact iy _ _,by rw [iN _ (by omega)];exact iy _ _,((Below.refl _ _).alloc (Nat.le_refl _) _).alloc (by omega) _,by simp⟩
 have HV:=aa hV
 clear hV
 have HL:Hid (∀ j,j<5→V.cell? (Hh w.heap.size (0+j))=(#[.int .i64 k,.int .i64 d,.int .i64 s,.int .i64 p,.string b]:Array Value)[j]?):=fun j _=>by rw [Nat.zero_add];exact iv HV.2.1 j
 go_enter Tryz.func185,Tryz.ntmps185
 go_wp2_with (refine iC rfl 43 5 _ Tryz.underlying43 rfl ku (.tmp 3) rfl w.heap.size 0 rfl #[.int .i64 k,.int .i64 d,.int .i64 s,.int .i64 p,.string b] rfl HL.out ?_)
 refine (qV k d s p b _ hlim).mono ?_
 rintro e w1 ⟨rfl,hb⟩
 have HC:Hid (w1.heap[w.heap.size+1]?=some (.cells #[.int .i64 0,.int .i64 0,.int .i64 0,.int .i64 0,.string ⟨#[]⟩] 43 (0,0))∧Below w.heap.size w w1):=⟨(hb.block _ (by have:=HV.2.2.2;omega)).trans HV.1,HV.2.2.1.trans (hb.mono (by have:=HV.2.2.2;omega))⟩
 clear hb
 go_wp2_with (refine iA rfl 43 (.tmp 2) (.tmp 5) rfl (w.heap.size+1) 0 rfl (.agg #[.int .i64 k,.int .i64 d,.int .i64 s,.int .i64 p,.string b]) rfl 5 rfl 43 _ HC.1 ku (Nat.le_of_ble_eq_true rfl) (by simp [Value.cells,Value.oneCell']) ?_)
 intro W hP
 replace hP:Put w1 W (w.heap.size+1) #[.int .i64 k,.int .i64 d,.int .i64 s,.int .i64 p,.string b] 43:=hP.cast rfl
 have HK:=aa hP.blk
 have HB:Hid (Below w.heap.size w W):=HC.2.trans (hP.to.below HC.2.size (fun x hx=>by simp at hx;omega))
 clear hP
 go_wp2_with fail
 exact bodyPost_ret (kr Tryz.results185 5 _ Tryz.underlying43 rfl ku _ _ (w.heap.size+1) #[.int .i64 k,.int .i64 d,.int .i64 s,.int .i64 p,.string b] rfl 43 HK.out rfl) rfl ⟨rfl,HB⟩
theorem ln.row {aL:Option Addr} {nL cL:Nat} {L:Nat→Lng} (h:ln w base aL nL cL L) (hi:i<nL) (eL:aL=some (Hh gL 0)) (kL:w.heap[gL]?=some (.cells cur 48 (0,0))) (hb:w'.heap[gL]?=some (.cells (lay cur (i*8) l2.cells) 48 (0,0))):OG 48 8 w' base aL nL cL (wH nL fun k=>if k=i then l2 else L k):=by
 subst eL
 have hl:w.ownsRow base 48 8 (.slice (some (Hh gL 0)) nL cL) nL (wH nL L):=h.l
 show w'.ownsRow base 48 8 (.slice (some (Hh gL 0)) nL cL) nL _
 refine ⟨ow _ _,?_⟩
 rcases hl.2 with ⟨_,e⟩ | ⟨g,cap,cur',e,hg,hbk,h1,hm,hs,ht⟩
 ·
  omega
 cases e
 rw [kL] at hbk
 cases hbk
 have hsz:nL*8≤cur.size:=by rw [hs];exact Nat.mul_le_mul_right _ h1
 have hf:i*8+l2.cells.size≤cur.size:=by rw [Lng.iW];omega
 refine .inr ⟨gL,cL,_,rfl,hg,hb,h1,hm,by rw [jJ hf];exact hs,?_⟩
 refine List.ext_getElem? fun j=>?_
 by_cases hj:j<nL*8
 ·
  rw [List.getElem?_take_of_lt hj,ta nL _ j hj,Array.getElem?_toList]
  have hfl:=mB (fun k=>if k=i then l2 else L k) (j / 8) (j % 8) (by omega)
  rw [show j / 8*8+j % 8=j by omega] at hfl
  rw [hfl]
  by_cases e:j / 8=i
  ·
   rw [if_pos e]
   have q:=jC hf (j % 8) (by rw [Lng.iW];omega)
   rw [show i*8+j % 8=j by omega] at q
   exact q
  rw [if_neg e]
  have hc:=sv nL L (j / 8) (j % 8) (by omega) (by omega)
  rw [show j / 8*8+j % 8=j by omega,←ht,List.getElem?_take_of_lt hj,Array.getElem?_toList] at hc
  rw [←hc]
  rcases Nat.lt_or_ge j (i*8) with c | c
  ·
   exact kh hf j c
  exact lK hf j (by rw [Lng.iW];omega)
 rw [List.getElem?_eq_none (by rw [List.length_take];omega),List.getElem?_eq_none (by rw [ow];omega)]
theorem layB (l:Lng) (b:Bool):lay l.cells 0 #[.bool b]=({ l with st:=b }:Lng).cells:=by simp [lay,Lng.cells]
theorem iP.stop {b:Bool} (h:iP w base P) (hi:i<P.nL) (eL:P.aL=some (Hh gL 0)) (kL:w.heap[gL]?=some (.cells cur 48 (0,0))) (hP:Put w w' gL (lay cur (i*8) ({ P.L i with st:=b }:Lng).cells) 48):iP w' base (P.stop i b):=by
 have far:∀ {y:Nat} {cs:Array Value} {t:TypeId},w.heap[y]?=some (.cells cs t (0,0))→t≠48→y∉[gL]:=fun k hne hy=>jn k kL hne (by simpa using hy)
 have eb:∀ k,(if k=i then ({ P.L i with st:=b }:Lng) else P.L k).kj=(P.L k).kj:=fun k=>by
  by_cases e:k=i
  ·
   rw [if_pos e,e];rfl
  rw [if_neg e]
 have et:∀ k,(if k=i then ({ P.L i with st:=b }:Lng) else P.L k).pg=(P.L k).pg:=fun k=>by
  by_cases e:k=i
  ·
   rw [if_pos e,e];rfl
  rw [if_neg e]
 have nb:((List.range P.nL).flatMap fun k=>(if k=i then ({ P.L i with st:=b }:Lng) else P.L k).kj)=(List.range P.nL).flatMap fun k=>(P.L k).kj:=jz (fun k _=>eb k)
 have nt:((List.range P.nL).flatMap fun k=>(if k=i then ({ P.L i with st:=b }:Lng) else P.L k).pg)=(List.range P.nL).flatMap fun k=>(P.L k).pg:=jz (fun k _=>et k)
 refine ⟨h.e.iB hP.to (fun y hy=>?_),⟨h.n.u.iB hP.to (fun y hy=>?_),h.n.p.iB hP.to (fun y hy=>?_)⟩,h.k.iB hP.to (fun y hy=>?_),⟨h.l.row hi eL kL hP.blk,fun k hk=>?_,?_,?_⟩,fun y hy hz=>?_⟩
 ·
  obtain ⟨cs,k⟩:=h.e.type y hy
  exact far k (by decide)
 ·
  obtain ⟨cs,k⟩:=h.n.u.type y hy
  exact far k (by decide)
 ·
  obtain ⟨cs,k⟩:=h.n.p.type y hy
  exact far k (by decide)
 ·
  obtain ⟨cs,k⟩:=h.k.type y hy
  exact far k (by decide)
 ·
  show iS w' base (if k=i then ({ P.L i with st:=b }:Lng) else P.L k)
  by_cases e:k=i
  ·
   rw [if_pos e]
   have q:=(h.l.ls i hi).box kL (by decide) (by decide) hP.to
   exact ⟨q.t,q.u,q.z,q.r,q.nd,q.su⟩
  rw [if_neg e]
  exact (h.l.ls k hk).box kL (by decide) (by decide) hP.to
 ·
  show ((List.range P.nL).flatMap fun k=>(if k=i then ({ P.L i with st:=b }:Lng) else P.L k).kj).Nodup
  rw [nb]
  exact h.l.nd
 ·
  show ((List.range P.nL).flatMap fun k=>(if k=i then ({ P.L i with st:=b }:Lng) else P.L k).pg).Nodup
  rw [nt]
  exact h.l.td
 have hz':y∈(List.range P.nL).flatMap fun k=>(if k=i then ({ P.L i with st:=b }:Lng) else P.L k).kj:=hz
 rw [nb] at hz'
 exact h.un y hy hz'
theorem Fm:(Tryz.prog.info? 4).map (·.size)=some 1:=by kernel_rfl
theorem Dg (h:lay cur o l.cells=cur) (hf:o+8≤cur.size) (b:Bool):lay cur o #[.bool b]=lay cur o ({ l with st:=b }:Lng).cells:=by
 have q:=vL (cur:=cur) (a:=l.cells) (b:=#[.bool b]) (o:=o) (k:=0) hf (by show 0+1≤8;omega)
 rw [h,Nat.add_zero,layB] at q
 exact q
theorem iP.pN (h:iP w base S) (p:Int):iP w base (S.pN p):=by
 unfold Swg.pN
 split
 ·
  exact ⟨h.e,h.n,h.k,h.l,h.un⟩
 exact ⟨h.e,h.n,h.k,h.l,h.un⟩
structure Thr (w W:World) (S:Swg) (x:Pkt):Prop where
 a:W.heap[w.heap.size]?=some (.cells S.cells 34 (0,0))
 f:W.heap[w.heap.size+1]?=some (.cells x.frc 43 (0,0))
 z:W.heap[w.heap.size+2]?=some (.cells zSw 34 (0,0))
 bel:Below w.heap.size w W
theorem Thr.up {x:Pkt} (h:Thr w W S x) (hb:Below W.heap.size W W'):Thr w W' S x :=
 ⟨(hb.block _ (iw h.a)).trans h.a,(hb.block _ (iw h.f)).trans h.f,(hb.block _ (iw h.z)).trans h.z,h.bel.trans (hb.mono h.bel.size)⟩
theorem Thr.start (w:World) (S:Swg) (x:Pkt):Thr w (((w.alloc (.cells S.cells 34)).alloc (.cells x.frc 43)).alloc (.cells zSw 34)) S x:=by
 have e1:(w.alloc (.cells S.cells 34)).heap.size=w.heap.size+1:=by simp
 have e2:((w.alloc (.cells S.cells 34)).alloc (.cells x.frc 43)).heap.size=w.heap.size+2:=by simp
 refine ⟨?_,?_,?_,(((Below.refl _ _).alloc (Nat.le_refl _) _).alloc (by omega) _).alloc (by omega) _⟩
 ·
  rw [iN _ (by omega),iN _ (by omega)];exact iy _ _
 ·
  rw [iN _ (by omega),←e1];exact iy _ _
 rw [←e2];exact iy _ _
structure SaL (w W:World) (gS gp g8:Nat) (S Q1:Swg) (M:Cnt) (x:Pkt) (i:Nat) (dst:Int) (k:Nat) (L:Nat→Lng):Prop where
 box:W.heap[gS]?=some (.cells Q1.cells 34 (0,0))
 own:iP W w.heap.size { Q1 with N:=M,L:=L }
 pk:W.heap[gp]?=some (.cells (S.pkt i x (oX dst i k)).cells 50 (0,0))
 al:∀ j,j<S.nL→iT (S.ka i dst x k j) (L j)
 bel:Below w.heap.size w W
 fr:W.heap[w.heap.size+1]?=some (.cells x.frc 43 (0,0))
 a:W.heap[w.heap.size]?=some (.cells S.cells 34 (0,0))
 z:W.heap[w.heap.size+1+1]?=some (.cells zSw 34 (0,0))
 m:W.heap[g8]?=some (.cells M.cells 30 (0,0))
theorem SaL.skip {M:Cnt} {x:Pkt} {L:Nat→Lng} (h:SaL w W gS gp g8 S Q1 M x i dst k L) (hb:jU (k:Int) dst i=false):SaL w W gS gp g8 S Q1 M x i dst (k+1) L:=by
 refine ⟨h.box,h.own,?_,fun j hj=>by rw [tb hb];exact h.al j hj,h.bel,h.fr,h.a,h.z,h.m⟩
 have e:oX dst i (k+1)=oX dst i k:=by show oX dst i k+_=_;rw [if_neg (by rw [hb];decide),Nat.add_zero]
 rw [e]
 exact h.pk
theorem Aw {k i:Int} (h:k=i) (h2:dst≠i):jU k dst i=false:=by
 unfold jU
 split
 ·
  simp [h]
 simp;omega
theorem Ax {k i:Int} (h0:0≤dst) (h:dst≠k):jU k dst i=false:=by
 unfold jU
 rw [if_neg (by omega)]
 simp;omega
theorem BS {k i:Int} (h0:dst=-1) (h:k≠i):jU k dst i=true:=by
 unfold jU
 rw [if_pos h0]
 simp [h]
theorem BR {k i:Int} (h0:0≤dst) (h:dst=k):jU k dst i=true:=by
 unfold jU
 rw [if_neg (by omega)]
 simp;omega
theorem SaL.next {M:Cnt} {x:Pkt} {L:Nat→Lng} (h:SaL w W gS gp g8 S Q1 M x i dst k L) (hb:jU (k:Int) dst i=true) (hk:k<S.nL) (e3:Q1.nL=S.nL) (eL:Q1.aL=some (Hh gL 0)) (hgp:w.heap.size≤gp) (hgk:gp∉iR Q1.aK) (kL:W.heap[gL]?=some (.cells cur 48 (0,0)))
  (kP:W'.heap[gp]?=some (.cells (S.pkt i x (oX dst i k)).more.cells 50 (0,0))) (hA:iT ((L k).wait x.p S.nx x.cl) l2) (hn:Gy W W' w.heap.size gL gp (k*8) cur (L k) l2):SaL w W' gS gp g8 S Q1 M x i dst (k+1) (fun j=>if j=k then l2 else L j):=by
 have hk3:k<({ Q1 with N:=M,L:=L }:Swg).nL:=by show k<Q1.nL;omega
 have ho:=h.own.lane (gp:=gp) hk3 eL kL h.pk hgk hn
 obtain ⟨T,hto,hT⟩:=hn.hit
 have oi:=h.own.l.ls k hk3
 have far:∀ {y:Nat} {cs:Array Value} {t:TypeId},W.heap[y]?=some (.cells cs t (0,0))→t≠48→t≠50→t≠2→t≠27→W'.heap[y]?=some (.cells cs t (0,0)):=by
  intro y cs t ky h1 h2 h3 h4
  refine (hto.block y (iw ky) (fun hx=>?_)).trans ky
  rcases hT y hx with e | e | e | e
  ·
   exact jn ky kL h1 e
  ·
   exact jn ky h.pk h2 e
  ·
   obtain ⟨c2,k2⟩:=oi.type2 y e
   exact jn ky k2 h3 rfl
  obtain ⟨c2,k2⟩:=oi.yn y e
  exact jn ky k2 h4 rfl
 refine ⟨far h.box (by decide) (by decide) (by decide) (by decide),ho,?_,fun j hj=>?_,h.bel.trans (hto.below h.bel.size (fun y hy=>?_)),far h.fr (by decide) (by decide) (by decide) (by decide),far h.a (by decide) (by decide) (by decide) (by decide),far h.z (by decide) (by decide) (by decide) (by decide),far h.m (by decide) (by decide) (by decide) (by decide)⟩
 ·
  have e:oX dst i (k+1)=oX dst i k+1:=by show oX dst i k+_=_;rw [if_pos hb]
  rw [e]
  exact kP
 ·
  have h9:=h.al j hj
  show iT (S.ka i dst x (k+1) j) (if j=k then l2 else L j)
  by_cases e:j=k
  ·
   subst e
   rw [if_pos rfl]
   unfold Swg.ka at h9 ⊢
   rw [if_neg (fun h=>absurd h.1 (Nat.lt_irrefl _))] at h9
   rw [if_pos ⟨by omega,hb⟩]
   exact (Lng.uB h9 _ _ _).trans hA
  rw [if_neg e]
  unfold Swg.ka at h9 ⊢
  by_cases h1:j<k∧jU (j:Int) dst i=true
  ·
   rw [if_pos h1] at h9
   rw [if_pos ⟨by omega,h1.2⟩]
   exact h9
  rw [if_neg h1] at h9
  rw [if_neg (fun h2=>h1 ⟨by omega,h2.2⟩)]
  exact h9
 rcases hT y hy with e | e | e | e
 ·
  rw [e]
  have h1:Q1.aL=some (Hh gL 0):=eL
  exact (h.own.l.l.blk gL (by show gL∈iR Q1.aL;rw [h1];simp [iR])).1
 ·
  rw [e];exact hgp
 ·
  exact (oi.blk y e).1
 exact (oi.FK y e).1
theorem ze {o:Oper} {K:Act→World→Prop} {Q:Exit→Act→World→Prop} {c:Prop} [Decidable c] {E:Prop} (hc:c) (d:Option Tmp) (s x:Operand) (t:TypeId) (vs vx v:Value) (hd:o.dst=d)
  (ho:o.op=.call { callee:=.builtin .append,args:=#[s,x],argTypes:=#[t,t] }) (hty:o.type=t) (hs:a.eval s=vs) (hx:a.eval x=vx)
  (hr:(Builtin.append_ #[t,t] t #[vs,vx]).run Tryz.prog W=.ok v W') (h:K (a.put d v) W'):if c then o.wp Tryz.prog a W K Q else E:=by
 subst hd
 exact vb hc s x t vs vx v ho hty hs hx hr h
def St1 (f:Nat→Ent) (x:Ent) (k:Nat) (d:Bool) (L:List Ent):Prop :=
 (d=false∧(∀ y∈iU k f,y.m<x.m)∧L=iU k f)∨(d=true∧(∃ i,i<k∧x.m≤(f i).m)∧L=mw x (notM x.m (iU k f)))
theorem nA (k:Int) (L:List Ent) (y:Ent):notM k (L++[y])=if y.m=k then notM k L else notM k L++[y]:=by
 by_cases h:y.m=k <;> simp [notM,h]
theorem EI (h:St1 f x k d L):L.length≤k+1:=by
 rcases h with ⟨_,_,rfl⟩ | ⟨_,_,rfl⟩
 ·
  rw [kc];omega
 rw [mz]
 have:=(kJ x.m (iU k f)).length_le
 rw [kc] at this
 omega
theorem vJ (h:∀ y∈iU k f,y.m<x.m):iU k f++[x]=mw x (notM x.m (iU k f)):=by
 rw [qH (fun y hy=>by have:=h y hy;omega),xH h]
theorem Dl (h:St1 f x k false L) (hk:(f k).m<x.m):St1 f x (k+1) false (L++[f k]):=by
 rcases h with ⟨_,h1,rfl⟩ | ⟨h,_⟩
 ·
  refine .inl ⟨rfl,fun y hy=>?_,(kM k f).symm⟩
  rw [kM] at hy
  rcases List.mem_append.1 hy with hy | hy
  ·
   exact h1 y hy
  simp at hy;rw [hy];exact hk
 cases h
theorem Dj (h:St1 f x k false L) (hk:(f k).m=x.m):St1 f x (k+1) true (L++[x]):=by
 rcases h with ⟨_,h1,rfl⟩ | ⟨h,_⟩
 ·
  refine .inr ⟨rfl,⟨k,by omega,by omega⟩,?_⟩
  rw [kM,nA,if_pos hk,vJ h1]
 cases h
theorem Dk (h:St1 f x k false L) (hk:x.m<(f k).m):St1 f x (k+1) true (L++[x]++[f k]):=by
 rcases h with ⟨_,h1,rfl⟩ | ⟨h,_⟩
 ·
  refine .inr ⟨rfl,⟨k,by omega,by omega⟩,?_⟩
  rw [kM,nA,if_neg (by omega),tj hk,vJ h1]
 cases h
theorem Dm (ho:kY n f) (hn:k<n) (h:St1 f x k true L):x.m<(f k).m∧St1 f x (k+1) true (L++[f k]):=by
 rcases h with ⟨h,_⟩ | ⟨_,⟨i,hi,h1⟩,rfl⟩
 ·
  cases h
 have hlt:=ho.lt k i hi hn
 have hk:x.m<(f k).m:=by omega
 refine ⟨hk,.inr ⟨rfl,⟨i,by omega,h1⟩,?_⟩⟩
 rw [kM,nA,if_neg (by omega),tj hk]
theorem EJ (h:St1 f x k d L):(if d then L else L++[x])=mw x (notM x.m (iU k f)):=by
 rcases h with ⟨rfl,h1,rfl⟩ | ⟨rfl,_,rfl⟩
 ·
  exact vJ h1
 rfl
def St2 (f:Nat→Ent) (mac:Int) (k:Nat) (old:Int):Prop :=
 (old=-1∧notM mac (iU k f)=[])∨∃ o:Nat,o<k∧old=o∧(f o).m≠mac∧tu (notM mac (iU k f))=some (f o)
theorem Dh (h:St2 f mac k old) (hk:(f k).m=mac):St2 f mac (k+1) old:=by
 have e:notM mac (iU (k+1) f)=notM mac (iU k f):=by rw [kM,nA,if_pos hk]
 rcases h with ⟨h1,h2⟩ | ⟨o,h1,h2,h3,h4⟩
 ·
  exact .inl ⟨h1,by rw [e];exact h2⟩
 exact .inr ⟨o,by omega,h2,h3,by rw [e];exact h4⟩
theorem Bg (h:St2 f mac k old) (hk:(f k).m≠mac) (h0:old<0):St2 f mac (k+1) k:=by
 have e:notM mac (iU (k+1) f)=notM mac (iU k f)++[f k]:=by rw [kM,nA,if_neg hk]
 rcases h with ⟨h1,h2⟩ | ⟨o,h1,h2,h3,h4⟩
 ·
  exact .inr ⟨k,by omega,rfl,hk,by rw [e,rM,h2];rfl⟩
 omega
theorem Di (h:St2 f mac k o) (hk:(f k).m≠mac):o<k∧((f k).t<(f o).t→St2 f mac (k+1) k)∧(¬ (f k).t<(f o).t→St2 f mac (k+1) o):=by
 have e:notM mac (iU (k+1) f)=notM mac (iU k f)++[f k]:=by rw [kM,nA,if_neg hk]
 rcases h with ⟨h1,h2⟩ | ⟨o',h1,h2,h3,h4⟩
 ·
  omega
 obtain rfl:o=o':=by omega
 refine ⟨h1,fun ht=>.inr ⟨k,by omega,rfl,hk,?_⟩,fun ht=>.inr ⟨o,by omega,rfl,h3,?_⟩⟩
 ·
  rw [e,rM,h4];simp [vA,ht]
 rw [e,rM,h4];simp [vA,ht]
structure Out (w wr:World) (v:Value) (L:List Ent) (x:Ent):Prop where
 own:nY wr w.heap.size v L
 below:Below w.heap.size w wr
 box:wr.heap[w.heap.size+1]?=some (.cells #[.int .i64 x.m,.int .i64 x.p,.int .i64 x.t] 75 (0,0))
 apart:v.ownBlock≠some (w.heap.size+1)
theorem Out.app {wr:World} {v':Value} {y:Ent} {o:Obj} (h:Out w wr v L x) (hown':w'.ownsRow w.heap.size 75 3 v' (L.length+1) (jt L++ly y)) (hg:(wr.alloc o).grownBy w' v.ownBlock) (hat:v'.ownBlock=v.ownBlock∨v'.ownBlock=some (wr.alloc o).heap.size):Out w w' v' (L++[y]) x:=by
 have hg':wr.grownBy w' v.ownBlock:=(World.grownBy_alloc wr o _).trans hg
 have hbl:=iw h.box
 refine ⟨?_,h.below.grown hg' h.below.size (fun j hj=>(World.ownsRow.lt h.own j hj).1),(hg'.block _ hbl (fun e=>h.apart e.symm)).trans h.box,?_⟩
 ·
  unfold nY
  rw [uU,List.length_append]
  exact hown'
 intro e
 rcases hat with e2 | e2
 ·
  rw [e2] at e;exact h.apart e
 rw [e2] at e
 simp at e
 omega
theorem CJ {q:Nat} (h:nY W base v L) (hb:base≤W.heap.size) (hL:L.length≤1000) (hM:M.length≤1000) (hc:∀ j u,(jt M)[j]?=some u→W.cell? (Hh g (q+j))=some u) :
  ∃ v' W',(Builtin.append_ #[26,26] 26 #[v,.slice (some (Hh g q)) M.length c]).run Tryz.prog W=.ok v' W'∧nY W' base v' (L++M)∧W.grownBy W' v.ownBlock:=by
 obtain ⟨i0,hi,hz0,hz1,hz2⟩:=info_parts Fk
 obtain ⟨v',w',hr,h2,h3,h4,h5⟩:=run_append_own_at (P:=Tryz.prog) W base 26 26 75 i0 (.agg #[.int .i64 0,.int .i64 0,.int .i64 0]) 3 24 Tryz.underlying26 hi hz0 hz1 hz2 rfl (by decide) v L.length (jt L) h (Hh g q) M.length c (jt M) (nM M) (fun j u hj=>by
  have:=hc j u hj
  have e:((Hh g q):Addr).add j=(Hh g (q+j)):=by unfold Addr.add;split <;> simp_all
  rw [e];exact this) (fun u hu=>by
  obtain ⟨y,_,hy⟩:=List.mem_flatMap.1 hu
  exact CU y u hy) (by unfold maxLen;omega) (by omega) hb
 refine ⟨v',w',hr,?_,h3⟩
 unfold nY
 rw [show jt (L++M)=jt L++jt M by simp [jt],List.length_append]
 exact h2
theorem oo {sz:Nat} {e:TypeId} (h:w.ownsRow base e sz v (n+1) xs):∃ g cap,v=.slice (some (Hh g 0)) (n+1) cap:=by
 rcases h.2 with ⟨_,h0⟩ | ⟨g,cap,cur,hv,_⟩
 ·
  omega
 exact ⟨g,cap,hv⟩
theorem xT (A B:List Ent):jt (A++B)=jt A++jt B:=by simp [jt]
theorem AF (h:(jt (M.take o))[j]?=some u):(jt M)[j]?=some u:=by
 have e:jt M=jt (M.take o)++jt (M.drop o):=by rw [←xT,List.take_append_drop]
 rw [e,List.getElem?_append_left (List.getElem?_eq_some_iff.1 h).1]
 exact h
theorem AH (ho:o≤M.length) (h:(jt (M.drop o))[j]?=some u):(jt M)[o*3+j]?=some u:=by
 have e:jt M=jt (M.take o)++jt (M.drop o):=by rw [←xT,List.take_append_drop]
 have e2:(jt (M.take o)).length=o*3:=by rw [nM,List.length_take,Nat.min_eq_left ho]
 rw [e,List.getElem?_append_right (by omega),e2]
 simpa using h
theorem nY.at (h:nY W base (.slice (some (Hh g 0)) N cap) M) (hj:(jt M)[j]?=some u):W.cell? (Hh g j)=some u:=by
 have:=World.ownsRow.cells h (g:=g) rfl j u hj
 have e:((Hh g 0):Addr).add j=(Hh g j):=by unfold Addr.add;split <;> simp_all
 rw [e] at this;exact this
theorem Ey (q:Nat) (h:nY W base (.slice (some (Hh g 0)) N cap) M) (hN:M.length=N) (hN9:N≤1000) (ho:o<N) (hb:base≤W.heap.size) (hq:q=(o+1)*3∨N=o+1) (c1 c2:Nat) :
  ∃ v1 W2 v2 W3,(Builtin.append_ #[26,26] 26 #[.slice (some (Hh W.heap.size 0)) 0 0,.slice (some (Hh g 0)) o c1]).run Tryz.prog (W.alloc (.cells #[] 75))=.ok v1 W2 ∧
   (Builtin.append_ #[26,26] 26 #[v1,.slice (some (Hh g q)) (N-(o+1)) c2]).run Tryz.prog W2=.ok v2 W3∧nY W3 base v2 (M.take o++M.drop (o+1))∧Below base W W3:=by
 have hgl:=(World.ownsRow.lt h g rfl).2
 have l1:(M.take o).length=o:=by rw [List.length_take];omega
 have l2:(M.drop (o+1)).length=N-(o+1):=by rw [List.length_drop];omega
 have hE:=nY.empty W base hb
 have b1:Below W.heap.size W (W.alloc (.cells #[] 75)):=(Below.refl _ _).alloc (Nat.le_refl _) _
 have h1:=h.up b1
 obtain ⟨v1,W2,r1,o1,g1⟩:=CJ (M:=M.take o) (g:=g) (q:=0) (c:=c1) hE (by have:=b1.size;omega) (by simp) (by omega) (fun j u hj=>by rw [Nat.zero_add];exact h1.at (AF hj))
 rw [l1] at r1
 have hb2:W2.heap[g]?=(W.alloc (.cells #[] 75)).heap[g]?:=g1.block g (by have:=b1.size;omega) (by simp [Value.ownBlock];omega)
 have h2:nY W2 base (.slice (some (Hh g 0)) N cap) M:=by
  obtain ⟨x1,x2⟩:=h1
  refine ⟨x1,x2.imp id ?_⟩
  rintro ⟨g',cap',cur,e,hg',hbk,hr⟩
  cases e
  exact ⟨_,_,cur,rfl,hg',hb2.trans hbk,hr⟩
 have B2:Below base W W2:=((b1.mono hb).grown g1 (by have:=b1.size;omega) (fun k e=>by cases e;exact hb))
 obtain ⟨v2,W3,r2,o2,g2⟩:=CJ (M:=M.drop (o+1)) (g:=g) (q:=q) (c:=c2) o1 (Nat.le_trans hb B2.size) (by simp;omega) (by omega) (fun j u hj=>by
  rcases hq with rfl | hq
  ·
   exact h2.at (AH (by omega) hj)
  ·
   rw [List.drop_eq_nil_of_le (by omega)] at hj
   simp [jt] at hj)
 rw [l2] at r2
 refine ⟨v1,W2,v2,W3,r1,r2,by simpa using o2,B2.grown g2 (Nat.le_trans hb B2.size) (fun k e=>(World.ownsRow.lt o1 k e).1)⟩
theorem vP (a:Option Addr) (n cap:Nat) (f:Nat→Ent) (m p t:Int) (w:World) (hok:ny n f) (h:lO w a n f) :
  Calls Tryz.prog 119 #[.slice a n cap,.int .i64 m,.int .i64 p,.int .i64 t] w fun e w'=>∃ v,e=.returned v∧nY w' w.heap.size v (jO (iU n f) ⟨m,p,t⟩)∧Below w.heap.size w w':=by
 have HR:Hid (lO w a n f):=h
 have HT:Hid (ny n f):=hok
 have HO:Hid (kY n f):=hok.2
 have h8:=hok.1
 clear h hok
 obtain ⟨i0,hi,hz0,hz1,hz2⟩:=info_parts Fk
 have HI:Hid (Out w ((w.alloc (.cells #[] 75)).alloc (.cells #[.int .i64 m,.int .i64 p,.int .i64 t] 75)) (.slice (some (Hh w.heap.size 0)) 0 0) [] ⟨m,p,t⟩):=by
  have e1:(w.alloc (.cells #[] 75)).heap.size=w.heap.size+1:=by simp
  have hE:=nY.empty w w.heap.size (Nat.le_refl _)
  refine ⟨hE.up ((Below.refl _ _).alloc (Nat.le_refl _) _),((Below.refl _ _).alloc (Nat.le_refl _) _).alloc (by omega) _,?_,by simp [Value.ownBlock]⟩
  rw [←e1];exact iy _ _
 go_enter Tryz.func119,Tryz.ntmps119
 go_wp2_with fail
 go_loopw [9,11,12] (fun v d i wr=>∃ (k:Nat) (b:Bool) (L:List Ent),k≤n∧i=.int .i64 k∧d=.bool b∧St1 f ⟨m,p,t⟩ k b L∧Out w wr v L ⟨m,p,t⟩) (fun _ _ i _=>n-(intOf i).toNat)
 case atStart=>exact ⟨0,false,[],Nat.zero_le _,rfl,rfl,.inl ⟨rfl,fun y hy=>by simp [iU] at hy,rfl⟩,HI.out⟩
 obtain ⟨k,d,L,hk,rfl,rfl,hst,hO⟩:=hrel
 have hL:=EI hst
 clear HI
 have cX:=iv hO.box
 by_cases hlt:k<n
 ·
  have hlt':(k:Int)<n:=by omega
  obtain ⟨g,o,rfl,c1,c2,c3⟩:=(HR.up hO.below) k hlt
  cases d
  ·
   have HSt:Hid (St1 f ⟨m,p,t⟩ k false L):=hst
   clear hst
   rcases Int.lt_trichotomy (f k).m m with hm | hm | hm
   ·
    have HS:Hid (St1 f ⟨m,p,t⟩ (k+1) false (L++[f k])):=Dl HSt hm
    generalize f k=y at *
    obtain ⟨ym,yp,yt⟩:=y
    dsimp only at c1 c2 c3 hm
    have h1:¬ m≤ym:=by omega
    have h2:(ym != m)=true:=by simp;omega
    go_wp2_with (at_builtin;refine wpList_append_own_at _ rfl (.tmp 48) (.tmp 53) 26 rfl w.heap.size 75 i0 (.agg #[.int .i64 0,.int .i64 0,.int .i64 0]) 3 24 Tryz.underlying26 hi hz0 hz1 hz2 rfl (by decide) _ (L.length) _ rfl (World.ownsRow.alloc hO.own _) (Hh wr.heap.size 0) 1 1 (ly ⟨ym,yp,yt⟩) rfl rfl (jw wr ⟨ym,yp,yt⟩ _) (CU _) (by unfold maxLen;omega) (by omega) (by have:=hO.below.size;simp;omega) ?_;intro v2 w2 hown2 hgrow2 hnil2 hat2;obtain ⟨gg2,cap2,rfl⟩:=oo hown2;have hO2:=hO.app hown2 hgrow2 hat2;clear hown2 hgrow2 hnil2 hat2)
    clear cX c1 c2 c3 hO
    go_roundw
    case rel=>exact ⟨k+1,false,_,by omega,by go_num,rfl,HS.out,hO2⟩
    case measure=>simp [intOf];omega
   ·
    have HS:Hid (St1 f ⟨m,p,t⟩ (k+1) true (L++[⟨m,p,t⟩])):=Dj HSt hm
    have HRk:Hid (∀ w2,Below w.heap.size w w2→w2.cell? (Hh g (o+k*3))=some (.int .i64 (f k).m)):=fun w2 hb=>by
     obtain ⟨g',o',eg,c,_,_⟩:=(HR.up hb) k hlt
     cases eg;exact c
    generalize f k=y at *
    obtain ⟨ym,yp,yt⟩:=y
    dsimp only at c1 c2 c3 hm HRk
    have h1:m≤ym:=by omega
    have h2:(ym != m)=false:=by simp [hm]
    clear hm
    go_wp2_with ((at_builtin;refine wpList_append_own_at _ rfl (.tmp 37) (.tmp 39) 26 rfl w.heap.size 75 i0 (.agg #[.int .i64 0,.int .i64 0,.int .i64 0]) 3 24 Tryz.underlying26 hi hz0 hz1 hz2 rfl (by decide) _ (L.length) _ rfl (World.ownsRow.alloc hO.own _) (Hh wr.heap.size 0) 1 1 (ly ⟨m,p,t⟩) rfl rfl (jw wr ⟨m,p,t⟩ _) (CU _) (by unfold maxLen;omega) (by omega) (by have:=hO.below.size;simp;omega) ?_;intro v2 w2 hown2 hgrow2 hnil2 hat2;obtain ⟨gg2,cap2,rfl⟩:=oo hown2;have hO2:=hO.app hown2 hgrow2 hat2;clear hown2 hgrow2 hnil2 hat2);have c1:=HRk _ hO2.below)
    exact fA
   have HS:Hid (St1 f ⟨m,p,t⟩ (k+1) true (L++[⟨m,p,t⟩]++[f k])):=Dk HSt hm
   have HRk:Hid (∀ w2,Below w.heap.size w w2→w2.cell? (Hh g (o+k*3))=some (.int .i64 (f k).m)∧w2.cell? (Hh g (o+k*3+1))=some (.int .i64 (f k).p)∧w2.cell? (Hh g (o+k*3+2))=some (.int .i64 (f k).t)):=fun w2 hb=>by
    obtain ⟨g',o',eg,ca,cb,cc⟩:=(HR.up hb) k hlt
    cases eg;exact ⟨ca,cb,cc⟩
   generalize f k=y at *
   obtain ⟨ym,yp,yt⟩:=y
   dsimp only at c1 c2 c3 hm HRk
   have h1:m≤ym:=by omega
   have h2:(ym != m)=true:=by simp;omega
   have hLL:(L++[(⟨m,p,t⟩:Ent)]).length=L.length+1:=by simp
   go_wp2_with (first | ((at_builtin;refine wpList_append_own_at _ rfl (.tmp 37) (.tmp 39) 26 rfl w.heap.size 75 i0 (.agg #[.int .i64 0,.int .i64 0,.int .i64 0]) 3 24 Tryz.underlying26 hi hz0 hz1 hz2 rfl (by decide) _ (L.length) _ rfl (World.ownsRow.alloc hO.own _) (Hh wr.heap.size 0) 1 1 (ly ⟨m,p,t⟩) rfl rfl (jw wr ⟨m,p,t⟩ _) (CU _) (by unfold maxLen;omega) (by omega) (by have:=hO.below.size;simp;omega) ?_;intro v2 w2 hown2 hgrow2 hnil2 hat2;obtain ⟨gg2,cap2,rfl⟩:=oo hown2;have hO2:=hO.app hown2 hgrow2 hat2;clear hown2 hgrow2 hnil2 hat2);obtain ⟨c1,c2,c3⟩:=HRk _ hO2.below) | (at_builtin;refine wpList_append_own_at _ rfl (.tmp 48) (.tmp 53) 26 rfl w.heap.size 75 i0 (.agg #[.int .i64 0,.int .i64 0,.int .i64 0]) 3 24 Tryz.underlying26 hi hz0 hz1 hz2 rfl (by decide) _ ((L++[(⟨m,p,t⟩:Ent)]).length) _ rfl (World.ownsRow.alloc hO2.own _) (Hh w2.heap.size 0) 1 1 (ly ⟨ym,yp,yt⟩) rfl rfl (jw w2 ⟨ym,yp,yt⟩ _) (CU _) (by unfold maxLen;omega) (by omega) (by have:=hO2.below.size;simp;omega) ?_;intro v3 w3 hown3 hgrow3 hnil3 hat3;obtain ⟨gg3,cap3,rfl⟩:=oo hown3;have hO3:=hO2.app hown3 hgrow3 hat3;clear hown3 hgrow3 hnil3 hat3))
   clear cX c1 c2 c3 hO hO2
   go_roundw
   case rel=>exact ⟨k+1,true,_,by omega,by go_num,rfl,HS.out,by rw [hLL] at hO3;exact hO3⟩
   case measure=>simp [intOf];omega
  obtain ⟨hm,hs⟩:=Dm HO hlt hst
  have HS:Hid (St1 f ⟨m,p,t⟩ (k+1) true (L++[f k])):=hs
  clear hst hs
  generalize f k=y at *
  obtain ⟨ym,yp,yt⟩:=y
  dsimp only at c1 c2 c3 hm
  have h2:(ym != m)=true:=by simp;omega
  go_wp2_with (at_builtin;refine wpList_append_own_at _ rfl (.tmp 48) (.tmp 53) 26 rfl w.heap.size 75 i0 (.agg #[.int .i64 0,.int .i64 0,.int .i64 0]) 3 24 Tryz.underlying26 hi hz0 hz1 hz2 rfl (by decide) _ (L.length) _ rfl (World.ownsRow.alloc hO.own _) (Hh wr.heap.size 0) 1 1 (ly ⟨ym,yp,yt⟩) rfl rfl (jw wr ⟨ym,yp,yt⟩ _) (CU _) (by unfold maxLen;omega) (by omega) (by have:=hO.below.size;simp;omega) ?_;intro v2 w2 hown2 hgrow2 hnil2 hat2;obtain ⟨gg2,cap2,rfl⟩:=oo hown2;have hO2:=hO.app hown2 hgrow2 hat2;clear hown2 hgrow2 hnil2 hat2)
  exact fA
 obtain rfl:k=n:=by omega
 have HE:Hid ((if d then L else L++[⟨m,p,t⟩])=mw ⟨m,p,t⟩ (notM m (iU k f))):=EJ hst
 clear hst
 have hb8:L.length≤9:=by omega
 cases d
 ·
  have HE2:Hid (L++[⟨m,p,t⟩]=mw ⟨m,p,t⟩ (notM m (iU k f))):=HE.out
  by_cases h9:L.length+1≤8
  ·
   have h9':((L.length+1:Nat):Int)≤8:=by omega
   have HQ:Hid (L++[⟨m,p,t⟩]=jO (iU k f) ⟨m,p,t⟩):=by
    rw [Hid,HE2.out];exact qN (by rw [←HE2.out];simp;omega)
   go_wp2_with (at_builtin;refine wpList_append_own_at _ rfl (.tmp 57) (.tmp 59) 26 rfl w.heap.size 75 i0 (.agg #[.int .i64 0,.int .i64 0,.int .i64 0]) 3 24 Tryz.underlying26 hi hz0 hz1 hz2 rfl (by decide) _ (L.length) _ rfl (World.ownsRow.alloc hO.own _) (Hh wr.heap.size 0) 1 1 (ly ⟨m,p,t⟩) rfl rfl (jw wr ⟨m,p,t⟩ _) (CU _) (by unfold maxLen;omega) (by omega) (by have:=hO.below.size;simp;omega) ?_;intro v2 w2 hown2 hgrow2 hnil2 hat2;obtain ⟨gg2,cap2,rfl⟩:=oo hown2;have hO2:=hO.app hown2 hgrow2 hat2;clear hown2 hgrow2 hnil2 hat2)
   go_ret
   exact ⟨_,rfl,by rw [←HQ.out];exact hO2.own,hO2.below⟩
  have h9':¬ ((L.length+1:Nat):Int)≤8:=by omega
  go_wp2_with (at_builtin;refine wpList_append_own_at _ rfl (.tmp 57) (.tmp 59) 26 rfl w.heap.size 75 i0 (.agg #[.int .i64 0,.int .i64 0,.int .i64 0]) 3 24 Tryz.underlying26 hi hz0 hz1 hz2 rfl (by decide) _ (L.length) _ rfl (World.ownsRow.alloc hO.own _) (Hh wr.heap.size 0) 1 1 (ly ⟨m,p,t⟩) rfl rfl (jw wr ⟨m,p,t⟩ _) (CU _) (by unfold maxLen;omega) (by omega) (by have:=hO.below.size;simp;omega) ?_;intro v2 w2 hown2 hgrow2 hnil2 hat2;obtain ⟨gg2,cap2,rfl⟩:=oo hown2;have hO2:=hO.app hown2 hgrow2 hat2;clear hown2 hgrow2 hnil2 hat2)
  have hMl:(L++[(⟨m,p,t⟩:Ent)]).length=L.length+1:=by simp
  have HM:Hid (L++[(⟨m,p,t⟩:Ent)]=mw ⟨m,p,t⟩ (notM m (iU k f))):=HE2.out
  have h9N:L.length+1≤10∧¬ L.length+1≤8:=⟨by omega,h9⟩
  generalize hMM:L++[(⟨m,p,t⟩:Ent)]=M at *
  generalize hNN:L.length+1=N at *
  have HN:Hid (M.length=N):=hMl
  have HO2:Hid (Out w w2 (.slice (some (Hh gg2 0)) N cap2) M ⟨m,p,t⟩):=hO2
  have hrow:ja gg2 75 (N*3) (flat fun i=>M.getD i default) (N*3) w2:=fE
  obtain ⟨fo,hfo⟩:∃ fo:Nat→Ent,fo=fun i=>M.getD i default:=⟨_,rfl⟩
  have HFo:Hid (fo=fun i=>M.getD i default):=hfo
  rw [←hfo] at hrow
  have HRw:Hid (ja gg2 75 (N*3) (flat fo) (N*3) w2):=hrow
  obtain ⟨wB,hwB⟩:∃ wB:World,wB=w2:=⟨_,rfl⟩
  have HWB:Hid (wB=w2):=hwB
  have hN10:=h9N.1
  have HLong:Hid (∀ o,o<M.length→tu (notM m M)=some (M.getD o default)→M.take o++M.drop (o+1)=jO (iU k f) ⟨m,p,t⟩):=fun o ho hb=>by
   rw [HM.out] at ho hb ⊢
   exact sd (x:=⟨m,p,t⟩) (na HO) (by rw [kc];exact h8) (by
    have hh:=h9N.2
    rw [←hMl,HM.out] at hh
    exact hh) ho hb
  have HNe:Hid (notM m M≠[]):=fun e=>by
   rw [HM.out] at e
   have e2:notM m (notM m (iU k f))=[]:=fG
   rw [qH (fun y hy=>vE hy)] at e2
   have e3:=congrArg List.length HM.out
   rw [mz,e2,hMl] at e3
   have:=h9N.2
   simp at e3
   omega
  have H9N:Hid (¬ N≤8):=h9N.2
  clear hrow hfo hO2 hMl h9N h9 h9' cX hO hwB
  go_loopw [13,14] (fun old i wr=>∃ (k:Nat) (q:Int),k≤N∧i=.int .i64 k∧old=.int .i64 q∧St2 fo m k q∧Same wB wr) (fun _ i _=>N-(intOf i).toNat)
  case atStart=>exact ⟨0,-1,Nat.zero_le _,rfl,rfl,.inl ⟨rfl,by simp [iU,notM]⟩,by rw [HWB.out];exact Same.refl _⟩
  obtain ⟨k,q,hk,rfl,rfl,hst,hS⟩:=hrel
  have HSt:Hid (St2 fo m k q):=hst
  have HSm:Hid (Same wB wr):=hS
  have HC:Hid (∀ i,i<N→wr.cell? (Hh gg2 (i*3))=some (.int .i64 (fo i).m)∧wr.cell? (Hh gg2 (i*3+2))=some (.int .i64 (fo i).t)):=fun i hi=>by
   rw [hS.cell,hS.cell,HWB.out,HRw.at _ (by omega),HRw.at _ (by omega),AK,AJ]
   exact ⟨rfl,rfl⟩
  clear hst hS
  by_cases hlt:k<N
  · exact aO
  obtain rfl:k=N:=by omega
  have he:iU k fo=M:=by
   rw [HFo.out]
   conv=>lhs;rw [←HN.out]
   exact nR M
  rcases HSt.out with ⟨h1,h2⟩ | ⟨o,ho,hq,h3,h4⟩
  ·
   rw [he] at h2
   exact absurd h2 HNe
  subst hq
  rw [he] at h4
  have hLast:=HLong o (by rw [HN.out];exact ho) (h4.trans (by rw [HFo.out]))
  have hown:nY wr.drew w.heap.size (.slice (some (Hh gg2 0)) k cap2) M:=nY.up HO2.own (by rw [←HWB.out];exact (HSm.below _).drew)
  exact aH
 have HE2:Hid (L=mw ⟨m,p,t⟩ (notM m (iU k f))):=HE.out
 rcases hO.own.row with ⟨e,e2⟩ | ⟨gg2,cap2,e,_,_⟩
 ·
  exfalso
  have:=congrArg List.length HE2.out
  rw [mz,e2] at this
  simp at this
 subst e
 by_cases h9:L.length≤8
 ·
  have h9':((L.length:Nat):Int)≤8:=by omega
  have HQ:Hid (L=jO (iU k f) ⟨m,p,t⟩):=by
   rw [Hid]
   conv=>lhs;rw [HE2.out]
   exact qN (by rw [←HE2.out];exact h9)
  go_wp2_with fail
  go_ret
  exact ⟨_,rfl,by rw [←HQ.out];exact hO.own,hO.below⟩
 have h9':¬ ((L.length:Nat):Int)≤8:=by omega
 go_wp2_with fail
 have HM:Hid (L=mw ⟨m,p,t⟩ (notM m (iU k f))):=HE2.out
 have h9N:L.length≤10∧¬ L.length≤8:=⟨by omega,h9⟩
 have hO2:=hO
 obtain ⟨N,hNN⟩:∃ N,N=L.length:=⟨_,rfl⟩
 have hMl:L.length=N:=hNN.symm
 rw [←hNN] at h9N hO2 ⊢
 clear hNN
 have HN:Hid (L.length=N):=hMl
 have HO2:Hid (Out w wr (.slice (some (Hh gg2 0)) N cap2) L ⟨m,p,t⟩):=hO2
 have hrow:ja gg2 75 (N*3) (flat fun i=>L.getD i default) (N*3) wr:=fE
 obtain ⟨fo,hfo⟩:∃ fo:Nat→Ent,fo=fun i=>L.getD i default:=⟨_,rfl⟩
 have HFo:Hid (fo=fun i=>L.getD i default):=hfo
 rw [←hfo] at hrow
 have HRw:Hid (ja gg2 75 (N*3) (flat fo) (N*3) wr):=hrow
 obtain ⟨wB,hwB⟩:∃ wB:World,wB=wr:=⟨_,rfl⟩
 have HWB:Hid (wB=wr):=hwB
 have hN10:=h9N.1
 have HLong:Hid (∀ o,o<L.length→tu (notM m L)=some (L.getD o default)→L.take o++L.drop (o+1)=jO (iU k f) ⟨m,p,t⟩):=fun o ho hb=>by
  rw [HM.out] at ho hb ⊢
  exact sd (x:=⟨m,p,t⟩) (na HO) (by rw [kc];exact h8) (by
   have hh:=h9N.2
   rw [←hMl,HM.out] at hh
   exact hh) ho hb
 have HNe:Hid (notM m L≠[]):=fun e=>by
  rw [HM.out] at e
  have e2:notM m (notM m (iU k f))=[]:=fG
  rw [qH (fun y hy=>vE hy)] at e2
  have e3:=congrArg List.length HM.out
  rw [mz,e2,hMl] at e3
  have:=h9N.2
  simp at e3
  omega
 have H9N:Hid (¬ N≤8):=h9N.2
 clear hrow hfo hO2 hMl h9N h9 h9' cX hO hwB
 go_loopw [13,14] (fun old i wr=>∃ (k:Nat) (q:Int),k≤N∧i=.int .i64 k∧old=.int .i64 q∧St2 fo m k q∧Same wB wr) (fun _ i _=>N-(intOf i).toNat)
 case atStart=>exact ⟨0,-1,Nat.zero_le _,rfl,rfl,.inl ⟨rfl,by simp [iU,notM]⟩,by rw [HWB.out];exact Same.refl _⟩
 obtain ⟨k,q,hk,rfl,rfl,hst,hS⟩:=hrel
 have HSt:Hid (St2 fo m k q):=hst
 have HSm:Hid (Same wB wr):=hS
 have HC:Hid (∀ i,i<N→wr.cell? (Hh gg2 (i*3))=some (.int .i64 (fo i).m)∧wr.cell? (Hh gg2 (i*3+2))=some (.int .i64 (fo i).t)):=fun i hi=>by
  rw [hS.cell,hS.cell,HWB.out,HRw.at _ (by omega),HRw.at _ (by omega),AK,AJ]
  exact ⟨rfl,rfl⟩
 clear hst hS
 by_cases hlt:k<N
 · exact aO
 obtain rfl:k=N:=by omega
 have he:iU k fo=L:=by
  rw [HFo.out]
  conv=>lhs;rw [←HN.out]
  exact nR L
 rcases HSt.out with ⟨h1,h2⟩ | ⟨o,ho,hq,h3,h4⟩
 ·
  rw [he] at h2
  exact absurd h2 HNe
 subst hq
 rw [he] at h4
 have hLast:=HLong o (by rw [HN.out];exact ho) (h4.trans (by rw [HFo.out]))
 have hown:nY wr.drew w.heap.size (.slice (some (Hh gg2 0)) k cap2) L:=nY.up HO2.own (by rw [←HWB.out];exact (HSm.below _).drew)
 exact aH
theorem Ct (hk:k<n):Ge (f k).m (iU n f)=true:=by
 unfold Ge
 rw [List.any_eq_true]
 exact ⟨f k,List.mem_map.2 ⟨k,List.mem_range.2 hk,rfl⟩,by simp⟩
theorem kY.inj (h:kY n f) (hi:i<n) (hj:j<n) (e:(f i).m=(f j).m):i=j:=by
 rcases Nat.lt_trichotomy i j with h1 | h1 | h1
 ·
  have:=h.lt j i h1 hj;omega
 ·
  exact h1
 have:=h.lt i j h1 hi;omega
theorem Gm (h:kY n f) (hk:k<n):atM (f k).m (iU n f)=f k:=by
 obtain ⟨h1,h2⟩:=wG (Ct (f:=f) hk)
 obtain ⟨i,hi,e⟩:=List.mem_map.1 h1
 rw [←e] at h2 ⊢
 rw [h.inj (List.mem_range.1 hi) hk h2]
theorem Bp (h:kY n f) (hk:k<n) (h1:(f k).m=mac) (h2:now-(f k).t≤20):xk (iU n f) mac now=(f k).p:=by
 subst h1
 unfold xk
 rw [Gm h hk,if_pos ⟨Ct hk,h2⟩]
theorem Ac (h:∀ i,i<n→¬ ((f i).m=mac∧now-(f i).t≤20)):xk (iU n f) mac now=-1:=by
 unfold xk
 rw [if_neg]
 rintro ⟨h1,h2⟩
 obtain ⟨h3,h4⟩:=wG h1
 obtain ⟨i,hi,e⟩:=List.mem_map.1 h3
 rw [←e] at h4 h2
 exact h i (List.mem_range.1 hi) ⟨h4,h2⟩
theorem yy (a:Option Addr) (n cap:Nat) (f:Nat→Ent) (mac now r:Int) (w:World) (hn:n≤maxLen) (h:lO w a n f) (hr:Gq n f mac now r) :
  Calls Tryz.prog 120 #[.slice a n cap,.int .i64 mac,.int .i64 now] w fun e w'=>e=.returned (.int .i64 r)∧Below w.heap.size w w':=by
 have HR:=aa h
 have HP:=aa hr
 obtain ⟨ok,hok⟩:=yq n f
 have HO:=aa hok
 clear h hr hok
 go_enter Tryz.func120,Tryz.ntmps120
 go_wp2_with fail
 refine (rY a n cap f _ hn HR ok HO).mono ?_
 rintro e w1 ⟨rfl,B1⟩
 cases ok
 ·
  have HF:Hid (r=-1):=HP.bad (fun hh=>absurd (HO.2 hh.1) (by simp))
  exact fx
 have HT:Hid (ny n f):=HO.1 rfl
 go_wp2_with fail
 refine (iK _ _ _ _).mono ?_
 rintro e w' ⟨rfl,rfl⟩
 by_cases ht:0≤now∧now≤1000000000
 ·
  have HTm:=aa ht
  have h8:=HT.1
  rw [decide_eq_true ht]
  go_wp2_with fail
  go_loop [7] (fun i=>∃ k:Nat,k≤n∧i=.int .i64 k∧∀ i,i<k→¬ ((f i).m=mac∧now-(f i).t≤20)) (fun i=>n-(intOf i).toNat)
  case atStart=>exact ⟨0,Nat.zero_le _,rfl,fun i hi=>by omega⟩
  obtain ⟨k,hk,rfl,hall⟩:=hrel
  have HA:=aa hall
  clear hall
  by_cases hlt:k<n
  ·
   have hlt':(k:Int)<n:=by omega
   obtain ⟨g,o,rfl,c1,c2,c3⟩:=(HR.up B1) k hlt
   have hx:=(HT.2 k hlt).1
   have HH:Hid ((f k).m=mac→now-(f k).t≤20→r=(f k).p):=fun e1 e2=>by
    rw [HP.good HT HTm.out,Bp HT.2 hlt e1 e2]
   have HS:Hid (¬ ((f k).m=mac∧now-(f k).t≤20)→∀ i,i<k+1→¬ ((f i).m=mac∧now-(f i).t≤20)):=fun hh i hi=>by
    by_cases e:i=k
    ·
     subst e;exact hh
    exact HA i (by omega)
   generalize f k=x at *
   obtain ⟨m,p,t⟩:=x
   obtain ⟨x1,x2,x3⟩:=hx
   dsimp only at c1 c2 c3 x1 x2 x3 HH HS
   have hw:IntKind.i64.wrap (now-t)=now-t:=lz _ (by omega) (by omega)
   by_cases hm:m=mac
   ·
    have hmq:(m == mac)=true:=by simp [hm]
    by_cases hs:now-t≤20
    ·
     have HF:=aa (HH hm hs)
     clear hm HH HS x1 x2 x3
     exact fx
    have HS2:Hid (∀ i,i<k+1→¬ ((f i).m=mac∧now-(f i).t≤20)):=HS (fun hh=>hs hh.2)
    exact fy
   have hmq:(m == mac)=false:=by simp [hm]
   have HS2:Hid (∀ i,i<k+1→¬ ((f i).m=mac∧now-(f i).t≤20)):=HS (fun hh=>hm hh.1)
   exact fy
  obtain rfl:k=n:=by omega
  have HF:Hid (r=-1):=by rw [Hid,HP.good HT HTm.out,Ac HA.out]
  exact fx
 have HF:Hid (r=-1):=HP.bad (fun hh=>ht hh.2)
 rw [decide_eq_false ht]
 clear ht
 exact fx
