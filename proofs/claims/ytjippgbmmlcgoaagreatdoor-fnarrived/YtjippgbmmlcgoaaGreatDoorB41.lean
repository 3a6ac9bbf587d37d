/- A frame that arrives leaves a right switch, which knows where it came from; one that goes on waits at each port it is for, and at no other one; what is dropped is counted: the law FnArrived returns true for every code, under no condition but that the package's three errors are what the program's text lays: the row, and the tied card. -/
import Derived.Test.YtjippgbmmlcgoaaGreatDoorB40
namespace Go.Proofs.YtjippgbmmlcgoaaGreatDoor
set_option maxRecDepth 100000
open Go.ChangeShapes Go.WideShapes Go.ChangeAt Go.RowKit
open Go.ChangeMaps (open_string shut_string)
set_option linter.unusedVariables false
variable {W:World}
theorem nmF : Tryz.prog.globalNamed "loop.example/g00355/impl.errForm" = some 0 := by kernel_rfl
theorem nmD : Tryz.prog.globalNamed "loop.example/g00355/impl.errDrop" = some 1 := by kernel_rfl
theorem nmL : Tryz.prog.globalNamed "loop.example/g00355/impl.errLoop" = some 2 := by kernel_rfl
theorem nmT : Tryz.prog.globalNamed "errors.errorType" = some 3 := by kernel_rfl
theorem tyF:(Tryz.prog.globals[0]?).map (·.type)=some 61:=by kernel_rfl
theorem tyD:(Tryz.prog.globals[1]?).map (·.type)=some 61:=by kernel_rfl
theorem tyL:(Tryz.prog.globals[2]?).map (·.type)=some 61:=by kernel_rfl
theorem Fx : "*" ++ "errors.errorString" = "*errors.errorString" := by decide
theorem Gk (u : TypeId) (h : Tryz.prog.typeName? 3 u = some "*errors.errorString") : u = 243 :=
 typeName_ptr_named (nm := "errors.errorString") (by rw [Fx]; kernel_rfl) (by kernel_rfl) (by decide) u (by rw [Fx]; exact h)
theorem Ct:Tryz.prog.cellsOf 261=1:=by kernel_rfl
theorem Cs:Tryz.prog.cellsOf 9=1:=by kernel_rfl
theorem rtE : (Tryz.prog.cutTypes.find? (·.1 == "internal/reflectlite.rtype")).map (·.2) = some 181 := by kernel_rfl
theorem EO:((List.range 273).filter fun t=>Tryz.prog.rowNamed t [101,114,114,111,114])=[61]:=by kernel_rfl
theorem Gj:Tryz.prog.types.size=273:=by kernel_rfl
theorem vW (h:laidMetH Tryz.prog Rows.fnArrivedRow.laid W) :
  ∃ aF aD aL : Addr, tD W W.heap.size aF aD aL ∧ W.var? Tryz.prog "loop.example/g00355/impl.errForm" = some #[.iface 243 (.pointer (some aF))] ∧ W.var? Tryz.prog "loop.example/g00355/impl.errLoop" = some #[.iface 243 (.pointer (some aL))] ∧ W.var? Tryz.prog "loop.example/g00355/impl.errDrop" = some #[.iface 243 (.pointer (some aD))] := by
 have h' : laidMet Tryz.prog [("loop.example/g00355/impl.errForm", Rows.laid_loop_example_g00355_impl_errForm), ("loop.example/g00355/impl.errDrop", Rows.laid_loop_example_g00355_impl_errDrop), ("loop.example/g00355/impl.errLoop", Rows.laid_loop_example_g00355_impl_errLoop)] W ∧ handlesMet Tryz.prog [("errors.errorType", Rows.laid_errors_errorType)] W := h
 obtain ⟨⟨ps,⟨g0,t0,cs0,f0,p0,q0,hg0,ht0,hv0,hd0,⟨g1,t1,cs1,f1,p1,q1,hg1,ht1,hv1,hd1,⟨g2,t2,cs2,f2,p2,q2,hg2,ht2,hv2,hd2,hq2,e2⟩,e1⟩,e0⟩,hnd,hrows⟩,hh⟩:=h'
 obtain rfl:=Option.some.inj (nmF.symm.trans hg0)
 obtain rfl:=Option.some.inj (nmD.symm.trans hg1)
 obtain rfl:=Option.some.inj (nmL.symm.trans hg2)
 obtain rfl:=Option.some.inj (tyF.symm.trans ht0)
 obtain rfl:=Option.some.inj (tyD.symm.trans ht1)
 obtain rfl:=Option.some.inj (tyL.symm.trans ht2)
 have hq2':q2=[]:=hq2
 subst hq2'
 subst e2
 subst e1
 subst e0
 obtain ⟨l0⟩:=cs0
 obtain ⟨l1⟩:=cs1
 obtain ⟨l2⟩:=cs2
 have ok0:∀ u v,l0=[.iface u v]→Value.okWide Tryz.prog W .any 0 u v:=fun u v e=>by
  subst e
  exact (hrows 0 0 (by simp [MemPlace.row])).2 u v (by simpa using World.var?_cell hg0 hv0 0)
 have ok1:∀ u v,l1=[.iface u v]→Value.okWide Tryz.prog W .any 0 u v:=fun u v e=>by
  subst e
  exact (hrows 1 0 (by simp [MemPlace.row])).2 u v (by simpa using World.var?_cell hg1 hv1 0)
 have ok2:∀ u v,l2=[.iface u v]→Value.okWide Tryz.prog W .any 0 u v:=fun u v e=>by
  subst e
  exact (hrows 2 0 (by simp [MemPlace.row])).2 u v (by simpa using World.var?_cell hg2 hv2 0)
 obtain ⟨a0,s0,rfl,hc0,hs0,hz0,rfl⟩:=errorString_of_trod Tryz.underlying61 Gk Tryz.underlying243 Tryz.underlying261 rfl rfl Tryz.underlying9 Ct Cs hd0 ok0
 obtain ⟨a1,s1,rfl,hc1,hs1,hz1,rfl⟩:=errorString_of_trod Tryz.underlying61 Gk Tryz.underlying243 Tryz.underlying261 rfl rfl Tryz.underlying9 Ct Cs hd1 ok1
 obtain ⟨a2,s2,rfl,hc2,hs2,hz2,rfl⟩:=errorString_of_trod Tryz.underlying61 Gk Tryz.underlying243 Tryz.underlying261 rfl rfl Tryz.underlying9 Ct Cs hd2 ok2
 have hb0:=(hrows a0.block a0.off (by simp [MemPlace.row])).1
 have hb1:=(hrows a1.block a1.off (by simp [MemPlace.row])).1
 have hb2:=(hrows a2.block a2.off (by simp [MemPlace.row])).1
 obtain ⟨name,u,ty,x1,x2,x3,x4,x5⟩:=hh _ (List.mem_singleton.2 rfl)
 have en:name=[101,114,114,111,114]:=(Option.some.inj x1).symm
 subst en
 obtain rfl:=Option.some.inj (rtE.symm.trans x2)
 have hm:ty∈(List.range 273).filter fun t=>Tryz.prog.rowNamed t [101,114,114,111,114]:=List.mem_filter.2 ⟨List.mem_range.2 (by rw [←Gj];exact x3),x4⟩
 rw [EO] at hm
 obtain rfl:=List.mem_singleton.1 hm
 have hth:typeHandle Tryz.prog 61=.pointer (some ⟨4,61,none⟩):=by kernel_rfl
 rw [hth] at x5
 have lt:∀ {b:Nat},(∃ c t,W.heap[b]?=some (.cells c t (0,0)))→b<W.heap.size:=fun ⟨_,_,e⟩=>ig e
 have c3:W.cell? ⟨3,0,none⟩=some (.iface 181 (.agg #[.pointer (some ⟨4,61,none⟩)])):=by simpa using World.var?_cell nmT x5 0
 have h4:3<W.heap.size:=by
  rcases Nat.lt_or_ge 3 W.heap.size with h | h
  ·
   exact h
  simp [World.cell?,Array.getElem?_eq_none h] at c3
 refine ⟨a0,a1,a2,⟨by simpa using World.var?_cell nmF hv0 0,by simpa using World.var?_cell nmD hv1 0,by simpa using World.var?_cell nmL hv2 0,c3,hb0,hb1,hb2,?_,?_,?_,⟨h4,lt hb0,lt hb1,lt hb2⟩⟩,hv0,hv2,hv1⟩
 ·
  rintro rfl
  simp [MemPlace.row] at hnd
 ·
  rintro rfl
  simp [MemPlace.row] at hnd
 rintro rfl
 simp [MemPlace.row] at hnd
abbrev Gy:ByteArray:={ data:=#[116,104,101,114,101,32,105,115,32,110,111,32,115,117,99,104,32,112,111,114,116,44,32,111,114,32,116,104,101,32,102,114,97,109,101,32,105,115,32,110,111,116,32,114,105,103,104,116] }
abbrev GA:ByteArray:={ data:=#[116,104,101,114,101,32,105,115,32,110,111,32,114,111,111,109,32,102,111,114,32,105,116] }
abbrev Gs:ByteArray:={ data:=#[105,116,32,105,115,32,102,111,114,32,116,104,101,32,112,111,114,116,32,102,114,111,109,32,119,104,105,99,104,32,105,116,32,99,97,109,101] }
noncomputable def Fo:Nat:=(World.holding Tryz.prog default ⟨#[],#[],[]⟩).heap.size
noncomputable def FN (os:Os):World :=
 let w0:=World.holding Tryz.prog os ⟨#[.cells #[.string Gy] 261,.cells #[.string GA] 261,.cells #[.string Gs] 261],#[],[]⟩
 { w0 with heap:=(((w0.heap.modify 0 fun
   | .cells _ t frozen=>.cells #[.iface 243 (.pointer (some ⟨Fo,0,none⟩))] t frozen
   | o=>o).modify 1 fun
   | .cells _ t frozen=>.cells #[.iface 243 (.pointer (some ⟨Fo+1,0,none⟩))] t frozen
   | o=>o).modify 2 fun
   | .cells _ t frozen=>.cells #[.iface 243 (.pointer (some ⟨Fo+2,0,none⟩))] t frozen
   | o=>o).modify 3 fun
   | .cells _ t frozen=>.cells #[.iface 181 (.agg #[.pointer (some ⟨4,61,none⟩)])] t frozen
   | o=>o }
theorem Bu (os:Os) (args:Array Value):laidMetH Tryz.prog Rows.fnArrivedRow.laid ((FN os).forCall (fun _ _=>0) ⟨#[],args,[]⟩).memory :=
 laidMetH_of_parts (laidMet_of_run (ps:=[.cell 0 0,.cell Fo 0,.cell 1 0,.cell (Fo+1) 0,.cell 2 0,.cell (Fo+2) 0]) 8 (by kernel_rfl) (by kernel_rfl) (by kernel_rfl)) (by kernel_rfl)
theorem qx {W':World} {n:String} {cs:Array Value} (h:W.var? Tryz.prog n=some cs) (hb:Below W.heap.size W W'):W'.var? Tryz.prog n=some cs:=by
 unfold World.var? at h ⊢
 cases hg:Tryz.prog.globalNamed n with
 | none=>simp [hg] at h
 | some g =>
  simp only [hg,Option.bind_some] at h ⊢
  have hlt:g<W.heap.size:=by
   rcases Nat.lt_or_ge g W.heap.size with h' | h'
   ·
    exact h'
   simp [Array.getElem?_eq_none h'] at h
  rw [hb.block g hlt]
  exact h
theorem vV {H : Type} (enc : TypeId × Value → H) {W : World} {x0 x1 x2 : Value} (h0 : W.var? Tryz.prog "loop.example/g00355/impl.errForm" = some #[x0]) (h1 : W.var? Tryz.prog "loop.example/g00355/impl.errLoop" = some #[x1]) (h2 : W.var? Tryz.prog "loop.example/g00355/impl.errDrop" = some #[x2]) (i0 : IsIface x0) (i1 : IsIface x1) (i2 : IsIface x2) (sp : Nat → Bool) :
  DataW.TrodVars enc Tryz.prog W sp ["loop.example/g00355/impl.errForm", "loop.example/g00355/impl.errLoop", "loop.example/g00355/impl.errDrop"] [tok enc x0, tok enc x1, tok enc x2] [.cell 0 0, .cell 2 0, .cell 1 0] :=
 ⟨0,61,#[x0],1,[],[.cell 2 0,.cell 1 0],nmF,tyF,h0,trod_held Tryz.underlying61 i0 0,⟨2,61,#[x1],1,[],[.cell 1 0],nmL,tyL,h1,trod_held Tryz.underlying61 i1 0,⟨1,61,#[x2],1,[],[],nmD,tyD,h2,trod_held Tryz.underlying61 i2 0,rfl,rfl⟩,rfl⟩,rfl⟩
theorem yy (os:Os) (started:os.Started) (H:Type) (enc:TypeId × Value→H) :
  ReturnsInHanded {} Tryz.checked os 3 .any (fun w args=>(Rows.fnArrivedSpec.pre enc Tryz.prog Tryz.f3 [] false w args∧laidMetH Tryz.prog Rows.fnArrivedRow.laid w)∧sizedMet enc Tryz.prog Tryz.f3 (OpenSpec.ofChange Rows.fnArrivedSpec) false w args)
   (Rows.fnArrivedSpec.post enc Tryz.prog Tryz.f3 false true false false):=by
 refine returnsInHanded_of_change_and (C:=Tryz.checked) (X:=fun w _=>laidMetH Tryz.prog Rows.fnArrivedRow.laid w) (fun _ _ _ hh h=>h.of_heap hh) own started (by kernel_rfl) Tryz.func3
  (ChangeSpec.witness_at (enc:=enc) (C:=Tryz.checked) (os:=os) (X:=fun w _=>laidMetH Tryz.prog Rows.fnArrivedRow.laid w) false (FN os) #[.slice none 0 0] 8 rfl (by kernel_rfl) (by kernel_rfl) (by kernel_rfl) (by kernel_rfl) (by kernel_rfl) (Bu os _)) ?_
 intro W base args ds gs before hval0 hW _ _ hL _
 have hval:∀ (j:Nat) t v,Tryz.f3.params[j]?=some t→args[j]?=some v→Value.okWide Tryz.prog W .any base t v:=hval0
 have hW':=hW
 obtain ⟨p,q,hA0,hV0,rfl,hfz,hnd⟩:=hW
 have hA:DataW.TrodAll enc Tryz.prog W 0 (fun _=>true) true Tryz.f3.params.toList args.toList ds p:=hA0
 have hV : DataW.TrodVars enc Tryz.prog W (fun _ => true) ["loop.example/g00355/impl.errForm", "loop.example/g00355/impl.errLoop", "loop.example/g00355/impl.errDrop"] gs q := hV0
 rw [Tryz.params3] at hA hval
 obtain ⟨v0,vs0,d0,ds0,p0,q0,hargs,rfl,rfl,h0,r0⟩:=trodAll_cons hA
 obtain ⟨rfl,rfl,rfl⟩:=trodAll_nil r0
 obtain rfl:args=#[v0]:=by cases args;simp_all
 obtain ⟨a0,len0,cap0,rfl⟩:=okWide_slice Tryz.underlying22 (hval 0 22 v0 rfl rfl)
 have k0:=h0
 have lt0:∀ x∈p0,x.block<W.heap.size:=by obtain ⟨m,hm⟩:=k0;exact DataW.trod_lt m _ _ _ hm
 obtain ⟨hm,hc⟩:=zJ h0
 obtain ⟨aF,aD,aL,hvs,hv0,hv1,hv2⟩:=vW hL
 obtain ⟨rfl,rfl⟩:=hV.unique (vV enc hv0 hv1 hv2 trivial trivial trivial _)
 clear hA0 hval0 hV0
 refine (DR a0 len0 cap0 aF aD aL W hm hc hvs).mono fun e W' ⟨he,bel⟩=>?_
 subst he
 exact ⟨_,rfl,_,_,_,[],_,[.cell 0 0,.cell 2 0,.cell 1 0],hW',trodAll_mk1 (shut_bool Tryz.underlying4 _),(trodAll_cons_mk (Below.trod laidOut (by kernel_rfl) (of_decide_eq_true (by kernel_rfl)) k0 bel lt0) trodAll_mk0),vV enc (qx hv0 bel) (qx hv1 bel) (qx hv2 bel) trivial trivial trivial _,bel.frame _,fun h=>by cases h⟩
theorem Ax:Rows.FnArrivedSaid :=
 OpenClaim.holds_of_wide 3 Tryz.f3 rfl rfl rfl rfl rfl rfl rfl ⟨rfl,rfl,rfl,rfl,rfl⟩ rfl rfl rfl rfl rfl (by kernel_rfl) Tryz.func3 (by kernel_rfl)
  (of_decide_eq_true (by kernel_rfl)) (by unfold Func.isWrapper;first | (rw [if_pos (by decide +kernel)];kernel_rfl) | (rw [if_neg (by decide +kernel)];exact ⟨rfl,rfl⟩))
  (fun os started H enc _=>yy os started H enc)
theorem arrD_card:Rows.FnArrivedCardSaid :=
 Claim7.holds_tied_plain_at .later [] [.handle,.sentinel,.sentinel,.sentinel] true Rows.fnArrivedCard.stood.harness true
  Ax (fun _ h=>by cases h) (by kernel_rfl) (fun _ h=>by cases h) fnArrived_row_tie rfl ⟨rfl,rfl⟩ (by kernel_rfl) rfl
  (fun f fn hf hfn=>by
   obtain rfl : f = 3 := Option.some.inj ((show Tryz.prog.funcNamed "loop.example/g00355/laws.FnArrived" = some 3 by kernel_rfl).symm.trans hf) |>.symm
   obtain rfl:fn=Tryz.f3:=(Option.some.inj (Tryz.func3.symm.trans hfn)).symm
   exact ⟨by kernel_rfl,fun j t ht=>by
    rw [Tryz.params3] at ht
    have hm:t∈[22]:=by simpa using Array.mem_of_getElem? ht
    have hall:([22].all fun u=>!Tryz.prog.wantsStandIn u)=true:=by kernel_rfl
    exact (show Tryz.prog.wantsStandIn t=false by simpa using List.all_eq_true.1 hall t hm)⟩)
  (by kernel_rfl)
#print axioms arrD_card
