import Derived.Test.YtjaobmbcmjgjgaaGreatDoorA23
import Derived.Test.YtjaobmbcmjgjgaaGreatDoorProg
import Derived.Ground.GgzProg
import Derived.Ground.SlgmProg
import Derived.Shelf.SlIterI.Nil
import Derived.Shelf.SortM.Plain
import Derived.Shelf.SortM.SortNone
namespace Go.Proofs.YtjaobmbcmjgjgaaGreatDoor
set_option maxHeartbeats 4000000
open Go.RowKit
set_option linter.unusedVariables false
set_option linter.unusedSimpArgs false
theorem cZ {p:Prop} (h:p:=by
 obtain ⟨av,cv,hvv,_⟩:=HV.out.read
 subst hvv
 go_wp2_with fail
 exact bodyPost_ret (v:=.tuple #[.slice av A.length cv,.bool true]) (by simp [results,Tryz.results139,go_sem]) rfl ⟨_,by rw [HA.out.2],HV.out,B9⟩):p:=h
theorem da {p:Prop} (h:p:=by
 clear hs hb3 hlk HQ x1 x2 x3 h20
 go_wp2_with fail
 go_ret
 exact ⟨iM HF.out.symm,B3⟩):p:=h
def lr (N:Cnt) (port prio y:Int):Cnt:=if prio=2 then N.mG port.toNat y else N.zP y
theorem pA {N:Cnt} {i:Nat} {y:Int}:lr N (i:Int) 2 y=N.mG i y:=by unfold lr;rw [if_pos rfl,Int.toNat_natCast]
theorem nF {N:Cnt} {port prio y:Int} (h:prio≠2):lr N port prio y=N.zP y:=by unfold lr;rw [if_neg h]
theorem na (C:Cfg) (N:Cnt) (port prio cells:Int) (w:World) (hf:N.Fit) (h:jo w N) (ok:Bool) (hok:ok=true↔ry C N port prio cells∧Cnt.Ok C (lr N port prio cells)) :
  Calls Tryz.prog 141 #[.agg C.cells,.agg N.cells,.int .i64 port,.int .i64 prio,.int .i64 cells] w fun e w'=>∃ M:Cnt,e=.returned (.tuple #[.agg M.cells,.bool ok])∧gV w' w.heap.size M∧Below w.heap.size w w'∧gw (jt (lr N port prio cells) ok) M:=by
 obtain ⟨b,hb⟩:=mx (ry C N port prio cells)
 have HO:Hid (ok=true↔ry C N port prio cells∧Cnt.Ok C (lr N port prio cells)):=hok
 have HR:Hid (jo w N):=h
 have HF:Hid N.Fit:=hf
 have HCb:Hid (b=true↔ry C N port prio cells):=hb
 have HB0:Hid (Below (w.heap.size+3) (((w.alloc (.cells #[.int .i64 C.p,.int .i64 C.c,.int .i64 C.xo,.int .i64 C.xn,.int .i64 C.hd,.int .i64 C.lo,.int .i64 C.dl] 37)).alloc (.cells #[.slice N.aU N.nU N.cU,.int .i64 N.lo,.slice N.aP N.nP N.cP] 39)).alloc (.cells #[.slice none 0 0,.int .i64 0,.slice none 0 0] 39)) (((w.alloc (.cells #[.int .i64 C.p,.int .i64 C.c,.int .i64 C.xo,.int .i64 C.xn,.int .i64 C.hd,.int .i64 C.lo,.int .i64 C.dl] 37)).alloc (.cells #[.slice N.aU N.nU N.cU,.int .i64 N.lo,.slice N.aP N.nP N.cP] 39)).alloc (.cells #[.slice none 0 0,.int .i64 0,.slice none 0 0] 39))):=Below.refl _ _
 clear hok h hf hb
 unfold Cfg.cells
 rw [show N.cells=#[.slice N.aU N.nU N.cU,.int .i64 N.lo,.slice N.aP N.nP N.cP] from rfl]
 go_enter Tryz.func141,Tryz.ntmps141
 go_wp2_with fail
 refine (zh C N port prio cells _ HF.out (HR.out.up (jg HB0.out)) b HCb.out).mono ?_
 rintro e w1 ⟨rfl,hb1⟩
 have hB:=o7 HB0.out hb1
 clear hb1
 cases b
 ·
  have HE:Hid (ok=false):=by
   show ok=false
   rw [Bool.eq_false_iff]
   intro e
   have:=HCb.out.2 (HO.out.1 e).1
   cases this
  obtain ⟨kC2,kN2,kR2⟩:=jN hB
  have ht:=ie w1 (w.heap.size+1+1) (.slice none 0 0) (.int .i64 0) (.slice none 0 0)
  have HB:Hid (Below w.heap.size w (mc w1 (w.heap.size+1+1) (.slice none 0 0) (.int .i64 0) (.slice none 0 0))):=(jg hB).trans (ht.below (jg hB).size (fun x hx=>by simp at hx;omega))
  have cB:=fF (ja kR2 (.slice none 0 0) (.int .i64 0) (.slice none 0 0))
  have cR:=fF kR2
  have fR:=fZ kR2
  clear ht kC2 kN2 kR2 hB
  unfold mc at cB
  go_wp2_with fail
  have e:=HE.out
  subst e
  exact bodyPost_ret (v:=.tuple #[.agg #[.slice none 0 0,.int .i64 0,.slice none 0 0],.bool false]) (by simp [results,Tryz.results141,go_sem,cB]) rfl ⟨xX,rfl,oI _ _,HB.out,gw.refl _⟩
 have HFo:Hid (ry C N port prio cells):=HCb.out.1 rfl
 clear HCb
 have hc1:=HFo.out.cells.1
 have hc2:=HFo.out.cells.2
 obtain ⟨i,hip⟩:∃ i:Nat,port=(i:Int):=⟨port.toNat,by have:=HFo.out.port;omega⟩
 by_cases hne:prio=2
 ·
  subst hne
  subst hip
  have HE:Hid (ok=true↔Cnt.Ok C (N.mG i cells)):=by
   rw [Hid,HO.out,pA]
   exact ⟨fun k=>k.2,fun k=>⟨HFo.out,k⟩⟩
  have cb:=fF (jN hB).1
  have cn:=fF (jN hB).2.1
  go_wp2_with fail
  refine wp_region_held_drew (S:=fun w'=>(∀ o,w'.cell? ⟨w.heap.size,o,none⟩=(#[.int .i64 C.p,.int .i64 C.c,.int .i64 C.xo,.int .i64 C.xn,.int .i64 C.hd,.int .i64 C.lo,.int .i64 C.dl]:Array Value)[o]?)∧(∀ o,w'.cell? ⟨w.heap.size+1,o,none⟩=(#[.slice N.aU N.nU N.cU,.int .i64 N.lo,.slice N.aP N.nP N.cP]:Array Value)[o]?)) (by kernel_rfl) ⟨cb,cn⟩ (fun hHeld=>?_)
  refine t0 ?_
  iterate 3 refine tN ?_
  refine tQ 5 25 ?_
  refine rq1 4 (fun K hK=>?_)
  go_simp
  refine (mS _ _).mono ?_
  rintro e w' ⟨rfl,hw⟩
  rw [hw]
  clear hw w'
  go_wp2_with fail
  refine hK.out _ _ ⟨cb,cn⟩ (fun hHeld=>?_)
  clear hK K
  try simp only [Act.put,PZ]
  refine rq1 6 (fun K hK=>?_)
  go_simp
  replace hB:=hB.drew
  refine (rj C N i cells _ HFo.out.ok (HR.out.up (jg hB)) (by have:=HFo.out.port;have:=HFo.out.ok.nU;omega) (by omega) (by omega) ok HE.out).mono ?_
  rintro e w2 ⟨M,rfl,hM,hb2,hAM⟩
  have HAM:Hid (gw (jt (N.mG i cells) ok) M):=hAM
  have HLb:Hid (w.heap.size+3≤w1.drew.heap.size):=oO hB
  replace hB:=o7 hB hb2
  obtain ⟨kC2,kN2,kR2⟩:=jN hB
  replace hM:=hM.mono (base':=w.heap.size) (by have:=HLb.out;omega)
  have ht:=ie w2 (w.heap.size+1+1) (.slice M.aU M.nU M.cU) (.int .i64 M.lo) (.slice M.aP M.nP M.cP)
  have HM:Hid (gV (mc w2 (w.heap.size+1+1) (.slice M.aU M.nU M.cU) (.int .i64 M.lo) (.slice M.aP M.nP M.cP)) w.heap.size M):=mK hM kR2
  have HB:Hid (Below w.heap.size w (mc w2 (w.heap.size+1+1) (.slice M.aU M.nU M.cU) (.int .i64 M.lo) (.slice M.aP M.nP M.cP))):=(jg hB).trans (ht.below (jg hB).size (fun x hx=>by simp at hx;omega))
  have cB:=fF (ja kR2 (.slice M.aU M.nU M.cU) (.int .i64 M.lo) (.slice M.aP M.nP M.cP))
  have cC:=fF ((ht.block _ (fG kC2) (fun hx=>by have:=List.mem_singleton.1 hx;omega)).trans kC2)
  have cN:=fF ((ht.block _ (fG kN2) (fun hx=>by have:=List.mem_singleton.1 hx;omega)).trans kN2)
  have cR:=fF kR2
  have fR:=fZ kR2
  have s1:=fF kC2
  have s2:=fF kN2
  clear hM hb2 hAM ht kC2 kN2 kR2 hB
  unfold mc at cB cC cN
  dsimp only [Cnt.cells]
  clear cb cn
  go_wp2_with fail
  refine hK.out _ _ ⟨s1,s2⟩ (fun hHeld=>?_)
  clear hK K
  try simp only [Act.put,PZ]
  refine tQ 7 27 ?_
  refine tQ 8 28 ?_
  refine rq1 9 (fun K hK=>?_)
  go_simp
  refine hK.out _ _ ⟨cC,cN⟩ (fun hHeld=>?_)
  clear hK K
  try simp only [Act.put,PZ]
  refine rq1 10 (fun K hK=>?_)
  go_simp
  refine hK.out _ _ ⟨cC,cN⟩ (fun hHeld=>?_)
  clear hK K
  try simp only [Act.put,PZ]
  refine dnq ?_
  clear cC cN cR fR s1 s2 hHeld
  go_wp2_with fail
  exact bodyPost_ret (v:=.tuple #[.agg M.cells,.bool ok]) (by simp [results,Tryz.results141,go_sem,cB,Cnt.cells]) rfl ⟨M,rfl,HM.out,HB.out,by rw [pA];exact HAM.out⟩
 clear hip
 have HE:Hid (ok=true↔Cnt.Ok C (N.zP cells)):=by
  rw [Hid,HO.out,nF hne]
  exact ⟨fun k=>k.2,fun k=>⟨HFo.out,k⟩⟩
 have cb:=fF (jN hB).1
 have cn:=fF (jN hB).2.1
 have Hne:Hid (prio≠2):=hne
 clear hne
 go_wp2_with fail
 refine wp_region_held_drew (S:=fun w'=>(∀ o,w'.cell? ⟨w.heap.size,o,none⟩=(#[.int .i64 C.p,.int .i64 C.c,.int .i64 C.xo,.int .i64 C.xn,.int .i64 C.hd,.int .i64 C.lo,.int .i64 C.dl]:Array Value)[o]?)∧(∀ o,w'.cell? ⟨w.heap.size+1,o,none⟩=(#[.slice N.aU N.nU N.cU,.int .i64 N.lo,.slice N.aP N.nP N.cP]:Array Value)[o]?)) (by kernel_rfl) ⟨cb,cn⟩ (fun hHeld=>?_)
 refine t0 ?_
 iterate 3 refine tN ?_
 refine tQ 5 25 ?_
 refine rq1 4 (fun K hK=>?_)
 go_simp
 refine (mn _ _ _ Hne.out).mono ?_
 rintro e w' ⟨rfl,hw⟩
 rw [hw]
 clear hw w'
 go_wp2_with fail
 refine hK.out _ _ ⟨cb,cn⟩ (fun hHeld=>?_)
 clear hK K
 try simp only [Act.put,PZ]
 refine rq1 6 (fun K hK=>?_)
 go_simp
 replace hB:=hB.drew
 refine (rm C N cells _ HFo.out.ok (HR.out.up (jg hB)) (by omega) (by omega) ok HE.out).mono ?_
 rintro e w2 ⟨M,rfl,hM,hb2,hAM⟩
 have HAM:Hid (gw (jt (N.zP cells) ok) M):=hAM
 have HLb:Hid (w.heap.size+3≤w1.drew.heap.size):=oO hB
 replace hB:=o7 hB hb2
 obtain ⟨kC2,kN2,kR2⟩:=jN hB
 replace hM:=hM.mono (base':=w.heap.size) (by have:=HLb.out;omega)
 have ht:=ie w2 (w.heap.size+1+1) (.slice M.aU M.nU M.cU) (.int .i64 M.lo) (.slice M.aP M.nP M.cP)
 have HM:Hid (gV (mc w2 (w.heap.size+1+1) (.slice M.aU M.nU M.cU) (.int .i64 M.lo) (.slice M.aP M.nP M.cP)) w.heap.size M):=mK hM kR2
 have HB:Hid (Below w.heap.size w (mc w2 (w.heap.size+1+1) (.slice M.aU M.nU M.cU) (.int .i64 M.lo) (.slice M.aP M.nP M.cP))):=(jg hB).trans (ht.below (jg hB).size (fun x hx=>by simp at hx;omega))
 have cB:=fF (ja kR2 (.slice M.aU M.nU M.cU) (.int .i64 M.lo) (.slice M.aP M.nP M.cP))
 have cC:=fF ((ht.block _ (fG kC2) (fun hx=>by have:=List.mem_singleton.1 hx;omega)).trans kC2)
 have cN:=fF ((ht.block _ (fG kN2) (fun hx=>by have:=List.mem_singleton.1 hx;omega)).trans kN2)
 have cR:=fF kR2
 have fR:=fZ kR2
 have s1:=fF kC2
 have s2:=fF kN2
 clear hM hb2 hAM ht kC2 kN2 kR2 hB
 unfold mc at cB cC cN
 dsimp only [Cnt.cells]
 clear cb cn
 go_wp2_with fail
 refine hK.out _ _ ⟨s1,s2⟩ (fun hHeld=>?_)
 clear hK K
 try simp only [Act.put,PZ]
 refine tQ 7 27 ?_
 refine tQ 8 28 ?_
 refine rq1 9 (fun K hK=>?_)
 go_simp
 refine hK.out _ _ ⟨cC,cN⟩ (fun hHeld=>?_)
 clear hK K
 try simp only [Act.put,PZ]
 refine rq1 10 (fun K hK=>?_)
 go_simp
 refine hK.out _ _ ⟨cC,cN⟩ (fun hHeld=>?_)
 clear hK K
 try simp only [Act.put,PZ]
 refine dnq ?_
 clear cC cN cR fR s1 s2 hHeld
 go_wp2_with fail
 exact bodyPost_ret (v:=.tuple #[.agg M.cells,.bool ok]) (by simp [results,Tryz.results141,go_sem,cB,Cnt.cells]) rfl ⟨M,rfl,HM.out,HB.out,by rw [nF Hne.out];exact HAM.out⟩
open Go.Shelf
def th:Go.Shelf.Ren:=⟨fun | 7=>169 | 10=>174 | n=>n,fun | 23=>217 | 26=>2 | 3=>92 | 28=>239 | 0=>0 | 27=>238 | 33=>129 | 4=>4 | n=>n,fun | n=>n⟩
theorem CJ:Go.Proofs.SlLaysZI.n7 Tryz.prog th:={
 mixed:=by kernel_rfl
 f7:=⟨Tryz.f169.name,by decide,Tryz.func169.trans (congrArg some (by kernel_rfl))⟩
 f10:=⟨Tryz.f174.name,by decide,Tryz.func174.trans (congrArg some (by kernel_rfl))⟩
 t0:=Tryz.underlying0
 a0:=Tryz.isAgg0
 z0:=Tryz.sizeOf0
 v0:=Tryz.zeroValue0
 t4:=Tryz.underlying4
 a4:=Tryz.isAgg4
 z4:=Tryz.sizeOf4
 v4:=Tryz.zeroValue4
 t23:=Tryz.underlying217
 a23:=Tryz.isAgg217
 z23:=Tryz.sizeOf217
 v23:=Tryz.zeroValue217
 t26:=Tryz.underlying2
 a26:=Tryz.isAgg2
 z26:=Tryz.sizeOf2
 v26:=Tryz.zeroValue2
 t27:=Tryz.underlying238
 a27:=Tryz.isAgg238
 z27:=Tryz.sizeOf238
 v27:=Tryz.zeroValue238
 t28:=Tryz.underlying239
 a28:=Tryz.isAgg239
 z28:=Tryz.sizeOf239
 v28:=Tryz.zeroValue239
 t33:=Tryz.underlying129
 a33:=Tryz.isAgg129
 z33:=Tryz.sizeOf129
 v33:=Tryz.zeroValue129 }
def oY:Go.Shelf.Ren:=⟨fun | 6=>168 | 8=>172 | 9=>173 | 11=>175 | 13=>177 | 12=>176 | 23=>187 | 24=>188 | 14=>178 | 15=>179 | 16=>180 | 17=>181 | 18=>182 | 19=>183 | 20=>184 | 21=>185 | 22=>186 | 25=>189 | 26=>190 | 27=>191 | 28=>192 | 29=>193 | 30=>171 | 31=>194 | n=>n,fun | 26=>2 | 28=>239 | 24=>25 | 0=>0 | 3=>3 | 37=>241 | 48=>255 | 50=>257 | 4=>4 | 40=>248 | 39=>247 | 45=>233 | 5=>5 | 9=>9 | 51=>258 | 55=>262 | 57=>264 | 58=>265 | 33=>129 | n=>n,fun | n=>n⟩
theorem BE:Go.Proofs.SlLaysZI.n6 Tryz.prog oY:={
 mixed:=by kernel_rfl
 f6:=⟨Tryz.f168.name,by decide,Tryz.func168.trans (congrArg some (by kernel_rfl))⟩
 f8:=⟨Tryz.f172.name,by decide,Tryz.func172.trans (congrArg some (by kernel_rfl))⟩
 f11:=⟨Tryz.f175.name,by decide,Tryz.func175.trans (congrArg some (by kernel_rfl))⟩
 t0:=Tryz.underlying0
 a0:=Tryz.isAgg0
 z0:=Tryz.sizeOf0
 v0:=Tryz.zeroValue0
 t24:=Tryz.underlying25
 a24:=Tryz.isAgg25
 z24:=Tryz.sizeOf25
 v24:=Tryz.zeroValue25
 t26:=Tryz.underlying2
 a26:=Tryz.isAgg2
 z26:=Tryz.sizeOf2
 v26:=Tryz.zeroValue2
 t28:=Tryz.underlying239
 a28:=Tryz.isAgg239
 z28:=Tryz.sizeOf239
 v28:=Tryz.zeroValue239
 i26:=by kernel_rfl }
def ye:Go.Shelf.Ren:=⟨fun | 5=>173 | 8=>177 | 7=>176 | 19=>187 | 20=>188 | 10=>178 | 11=>179 | 12=>180 | 13=>181 | 14=>182 | 15=>183 | 16=>184 | 17=>185 | 18=>186 | 30=>189 | 31=>190 | 32=>191 | 33=>192 | 34=>193 | 35=>171 | 40=>194 | n=>n,fun | 23=>25 | 25=>2 | 3=>3 | 32=>241 | 22=>25 | 0=>0 | 44=>255 | 46=>257 | 4=>4 | 36=>248 | 35=>247 | 41=>233 | 5=>5 | 9=>9 | 53=>258 | 57=>262 | 63=>264 | 64=>265 | n=>n,fun | n=>n⟩
theorem Ct:Go.Proofs.SlLaysM.n5 Tryz.prog ye:={
 mixed:=by kernel_rfl
 f5:=⟨Tryz.f173.name,by decide,Tryz.func173.trans (congrArg some (by kernel_rfl))⟩
 f7:=⟨Tryz.f176.name,by decide,Tryz.func176.trans (congrArg some (by kernel_rfl))⟩
 f8:=Tryz.func177.trans (congrArg some (by kernel_rfl))
 f10:=⟨Tryz.f178.name,by decide,Tryz.func178.trans (congrArg some (by kernel_rfl))⟩
 f11:=⟨Tryz.f179.name,by decide,Tryz.func179.trans (congrArg some (by kernel_rfl))⟩
 f12:=⟨Tryz.f180.name,by decide,Tryz.func180.trans (congrArg some (by kernel_rfl))⟩
 f13:=⟨Tryz.f181.name,by decide,Tryz.func181.trans (congrArg some (by kernel_rfl))⟩
 f14:=⟨Tryz.f182.name,by decide,Tryz.func182.trans (congrArg some (by kernel_rfl))⟩
 f15:=⟨Tryz.f183.name,by decide,Tryz.func183.trans (congrArg some (by kernel_rfl))⟩
 f16:=⟨Tryz.f184.name,by decide,Tryz.func184.trans (congrArg some (by kernel_rfl))⟩
 f17:=⟨Tryz.f185.name,by decide,Tryz.func185.trans (congrArg some (by kernel_rfl))⟩
 f18:=⟨Tryz.f186.name,by decide,Tryz.func186.trans (congrArg some (by kernel_rfl))⟩
 f19:=Tryz.func187.trans (congrArg some (by kernel_rfl))
 f20:=Tryz.func188.trans (congrArg some (by kernel_rfl))
 f30:=⟨Tryz.f189.name,by decide,Tryz.func189.trans (congrArg some (by kernel_rfl))⟩
 f31:=Tryz.func190.trans (congrArg some (by kernel_rfl))
 f32:=Tryz.func191.trans (congrArg some (by kernel_rfl))
 f33:=⟨Tryz.f192.name,by decide,Tryz.func192.trans (congrArg some (by kernel_rfl))⟩
 f34:=⟨Tryz.f193.name,by decide,Tryz.func193.trans (congrArg some (by kernel_rfl))⟩
 f35:=⟨Tryz.f171.name,by decide,Tryz.func171.trans (congrArg some (by kernel_rfl))⟩
 f40:=⟨Tryz.f194.name,by decide,Tryz.func194.trans (congrArg some (by kernel_rfl))⟩
 t0:=Tryz.underlying0
 a0:=Tryz.isAgg0
 z0:=Tryz.sizeOf0
 v0:=Tryz.zeroValue0
 t3:=Tryz.underlying3
 a3:=Tryz.isAgg3
 z3:=Tryz.sizeOf3
 v3:=Tryz.zeroValue3
 t4:=Tryz.underlying4
 a4:=Tryz.isAgg4
 z4:=Tryz.sizeOf4
 v4:=Tryz.zeroValue4
 t5:=Tryz.underlying5
 a5:=Tryz.isAgg5
 z5:=Tryz.sizeOf5
 v5:=Tryz.zeroValue5
 t9:=Tryz.underlying9
 a9:=Tryz.isAgg9
 z9:=Tryz.sizeOf9
 v9:=Tryz.zeroValue9
 t22:=Tryz.underlying25
 a22:=Tryz.isAgg25
 z22:=Tryz.sizeOf25
 v22:=Tryz.zeroValue25
 t23:=Tryz.underlying25
 a23:=Tryz.isAgg25
 z23:=Tryz.sizeOf25
 v23:=Tryz.zeroValue25
 t25:=Tryz.underlying2
 a25:=Tryz.isAgg2
 z25:=Tryz.sizeOf2
 v25:=Tryz.zeroValue2
 t32:=Tryz.underlying241
 a32:=Tryz.isAgg241
 z32:=Tryz.sizeOf241
 v32:=Tryz.zeroValue241
 t35:=Tryz.underlying247
 a35:=Tryz.isAgg247
 z35:=Tryz.sizeOf247
 v35:=Tryz.zeroValue247
 t36:=Tryz.underlying248
 a36:=Tryz.isAgg248
 z36:=Tryz.sizeOf248
 v36:=Tryz.zeroValue248
 t41:=Tryz.underlying233
 a41:=Tryz.isAgg233
 z41:=Tryz.sizeOf233
 v41:=Tryz.zeroValue233
 t44:=Tryz.underlying255
 a44:=Tryz.isAgg255
 z44:=Tryz.sizeOf255
 v44:=Tryz.zeroValue255
 t46:=Tryz.underlying257
 a46:=Tryz.isAgg257
 z46:=Tryz.sizeOf257
 v46:=Tryz.zeroValue257
 t53:=Tryz.underlying258
 a53:=Tryz.isAgg258
 z53:=Tryz.sizeOf258
 v53:=Tryz.zeroValue258
 t57:=Tryz.underlying262
 a57:=Tryz.isAgg262
 z57:=Tryz.sizeOf262
 v57:=Tryz.zeroValue262
 t63:=Tryz.underlying264
 a63:=Tryz.isAgg264
 z63:=Tryz.sizeOf264
 v63:=Tryz.zeroValue264
 t64:=Tryz.underlying265
 a64:=Tryz.isAgg265
 z64:=Tryz.sizeOf265
 v64:=Tryz.zeroValue265 }
theorem yC (n:Int) (w:World):(Instr.makeMap 217 (some (.int .i64 n))).run Tryz.prog w=.ok (.map (some w.heap.size)) (w.alloc (.map #[] 0)):=by
 simp [Instr.makeMap,run_underlying Tryz.underlying217,go_sem,Result.andThen]
theorem qc:Maps.Keyed Tryz.prog 2:=Maps.int_keyed Tryz.underlying2
theorem yc {w:World} {b n:Nat} {L:List Ent} {m p t:Int} (h:kg w b n L) (hn:n<maxLen) (h0:-9223372036854775808≤m) (h1:m≤9223372036854775807) :
  ∃ w',(Instr.mapUpdate 217 (.map (some b)) (.int .i64 m) (.agg #[.int .i64 m,.int .i64 p,.int .i64 t])).run Tryz.prog w=.ok () w'∧kg w' b (n+1) (iX ⟨m,p,t⟩ (notM m L))∧w.mapTurned w' b:=by
 obtain ⟨w',h1,h2,h3⟩:=h.store qc Tryz.underlying217 hn (CK h0 h1) (nz ⟨m,p,t⟩)
 refine ⟨w',h1,?_,h3⟩
 have e:=CC ⟨m,p,t⟩ L
 dsimp only at e
 show w'.ownsMap Tryz.prog 2 nA b (n+1) (mD (iX ⟨m,p,t⟩ (notM m L)))
 rw [←e]
 exact h2
theorem jX {B b:Nat} {a w w':World} (h:Below B a w) (ht:w.mapTurned w' b) (hB:B≤w.heap.size) (hb:B≤b):Below B a w' :=
 h.grown ht.grown hB (fun k e=>by cases e;exact hb)
theorem ue (a:Option Addr) (n cap:Nat) (f:Nat→Ent) (w:World) (hok:jr n f) (h:iu w a n f) :
  Calls Tryz.prog 153 #[.slice a n cap] w fun e w'=>e=.returned (.map (some w.heap.size))∧kg w' w.heap.size n (gb n f)∧Below w.heap.size w w':=by
 have HR:Hid (iu w a n f):=h
 have HO:Hid (iE n f):=hok.2
 have h8:n≤8:=hok.1
 have mk:=yC n w
 clear h hok
 go_enter Tryz.func153,Tryz.ntmps153
 go_wp2_with fail
 clear mk
 go_loopw [11] (fun i wr=>∃ k:Nat,k≤n∧i=.int .i64 k∧kg wr w.heap.size k (gb k f)∧Below w.heap.size w wr) (fun i _=>n-(intOf i).toNat)
 case atStart=>exact ⟨0,Nat.zero_le _,rfl,World.ownsMap_made w _ _ _,(Below.refl _ _).alloc (Nat.le_refl _) _⟩
 obtain ⟨k,hk,rfl,hown,hB⟩:=hrel
 by_cases hlt:k<n
 ·
  have hlt':(k:Int)<n:=by omega
  obtain ⟨g,o,rfl,c1,c2,c3⟩:=(HR.out.up hB) k hlt
  have HL:Hid (iX (f k) (notM (f k).m (gb k f))=gb (k+1) f):=by
   have hb:=HO.out.below hlt
   rw [Hid,km (fun y hy=>by have:=hb y hy;omega),ph hb,iK]
  have hm:=(HO.out k hlt).1.1
  generalize hx:f k=x at *
  obtain ⟨m,p,t⟩:=x
  dsimp only at c1 c2 c3 hm HL
  obtain ⟨w2,hrun,hown2,hturn⟩:=yc (p:=p) (t:=t) (hown.alloc (.cells #[.int .i64 m,.int .i64 p,.int .i64 t] 92)) (show k<maxLen by unfold maxLen;omega) (show -9223372036854775808≤m by omega) (show m≤9223372036854775807 by omega)
  have HB2:Hid (Below w.heap.size w w2):=jX (hB.alloc hB.size _) hturn (by have:=hB.size;simp;omega) (Nat.le_refl _)
  have HO2:Hid (kg w2 w.heap.size (k+1) (gb (k+1) f)):=by rw [Hid,←HL.out];exact hown2
  clear hown hown2 hturn hB
  go_wp2_with fail
  go_roundw
  case rel=>exact ⟨k+1,by omega,by go_num,HO2.out,HB2.out⟩
  case measure=>simp [intOf];omega
 obtain rfl:k=n:=by omega
 go_wp2_with fail
 go_ret
 exact ⟨rfl,hown,hB⟩
open Go.RowKit Go.Maps Go.Sort Go.Shelf
theorem Cs (m:Nat):AnyZI.SortsIn Tryz.prog oY Fence.wide m :=
 ⟨fun blk off cap ss W hH hblk hsz=>callsIn_wide.2 (AnyM.slices_Sort_int Ct blk off cap ss W hH hblk hsz),
  fun p cap W=>callsIn_wide.2 (AnyM.slices_Sort_int_none Ct p cap W)⟩
theorem AH (mb:Option Nat) (w:World):Calls Tryz.prog 169 #[.map mb] w fun e w'=>e=.returned (.func (.func 174) #[] #[.pointer (some ⟨w.heap.size,0,none⟩)])∧w'=w.alloc (.cells #[.map mb] 217) :=
 (callsIn_wide (n:=5)).1 (AnyZI.keys_in CJ Fence.wide 5 trivial rfl mb w)
theorem wN {b nn:Nat} {L:List Ent} (w:World) (hown:kg w b nn L) (hl:L.length≤1048576) :
  Calls Tryz.prog 168 #[.func (.func 174) #[] #[.pointer (some ⟨w.heap.size,0,none⟩)]] (w.alloc (.cells #[.map (some b)] 217)) fun e w'=>∃ (v:Value) (ss:List Int),e=.returned v∧ss.Perm (intKeys (mD L)) ∧
   w'.ownsRow (w.heap.size+1) 2 1 v ss.length ((ss.mergeSort (fun x y=>decide (x≤y))).map encZ)∧Below (w.heap.size+1) (w.alloc (.cells #[.map (some b)] 217)) w':=by
 refine (callsIn_wide (n:=6)).1 ?_
 have hbl:=hown.lt
 have hseq:SeqGives Fence.wide 3 Tryz.prog 174 #[.pointer (some ⟨w.heap.size,0,none⟩)] encZ (fun ss=>ss.Perm (intKeys (mD L))) (Maps.size (mD L)) (w.alloc (.cells #[.map (some b)] 217)) :=
  AnyZI.keys_gives (ρ:=th) { CJ with } Fence.wide _ trivial rfl (by omega) w.heap.size b nn (mD L) _ (by simp) (by simp) (by
   obtain ⟨es,clock,hb,Ft,hs,hD⟩:=hown
   exact ⟨es,clock,(Below.heap_alloc _ _ b hbl).trans hb,Ft,hs,hD⟩)
 have cS:=AnyZI.sorted_in BE Fence.wide 6 trivial trivial trivial trivial rfl (by omega) (Cs _) (enters_of Tryz.func173 (by kernel_rfl) rfl) 174 #[.pointer (some ⟨w.heap.size,0,none⟩)] trivial (enters_of Tryz.func174 (by kernel_rfl) rfl) _ _ (by rw [qW];unfold maxLen;omega) (by rw [qW];omega) _ hseq
 change CallsIn _ _ Tryz.prog 168 _ _ _ at cS
 refine cS.mono ?_
 rintro e w' ⟨v,ss,rfl,hS,hrow,hnil,hb⟩
 have e1:(w.alloc (.cells #[.map (some b)] 217)).heap.size=w.heap.size+1:=by simp
 rw [e1] at hrow hb
 exact ⟨v,ss,rfl,hS,hrow,hb⟩
def iA (L:List Ent):Prop:=L.Pairwise fun x y=>x.m<y.m
theorem u7 {L:List Ent} (h:iA L) {ss:List Int} (hp:ss.Perm (intKeys (mD L))):ss.mergeSort (fun x y=>decide (x≤y))=L.map (·.m):=by
 have e:intKeys (mD L)=L.map (·.m):=by simp [intKeys,mD,kv,Go.intOf]
 rw [e] at hp
 refine List.Perm.eq_of_pairwise (le:=fun x y=>(decide (x≤y))=true) (fun a b _ _ h1 h2=>by simp at h1 h2;omega) ?_ ?_ ((List.mergeSort_perm _ _).trans hp)
 ·
  exact List.pairwise_mergeSort (fun a b c h1 h2=>by simp at h1 h2 ⊢;omega) (fun a b=>by simp;omega) ss
 rw [List.pairwise_map]
 exact h.imp (fun h1=>by simp;omega)
theorem iA.at {L:List Ent} (h:iA L):∀ j,j<L.length→atM (L.getD j default).m L=L.getD j default:=by
 induction L with
 | nil=>intro j hj;simp at hj
 | cons y r ih =>
  have hy:=List.pairwise_cons.1 h
  intro j hj
  cases j with
  | zero=>simp [atM,List.find?_cons]
  | succ i =>
   have hi:i<r.length:=by simpa using hj
   have hm:r.getD i default∈r:=by
    rw [List.getD_eq_getElem?_getD,List.getElem?_eq_getElem hi]
    exact List.getElem_mem _
   have hlt:=hy.1 _ hm
   have:=ih hy.2 i hi
   unfold atM at this ⊢
   simp only [List.getD_cons_succ]
   rw [List.find?_cons]
   have hne:¬ y.m=(r.getD i default).m:=by omega
   simp only [hne,decide_false]
   exact this
theorem CF {w:World} {b n:Nat} {L:List Ent} {k:Int} (h:kg w b n L) (h0:-9223372036854775808≤k) (h1:k≤9223372036854775807) :
  (Instr.lookup 217 (.map (some b)) (.int .i64 k) false).run Tryz.prog w=.ok (.agg #[.int .i64 (atM k L).m,.int .i64 (atM k L).p,.int .i64 (atM k L).t]) w:=by
 obtain ⟨v,ps,hrun,hv⟩:=h.lookup qc Tryz.underlying217 (Tryz.zeroValue92 w) (nz ⟨0,0,0⟩) (CK h0 h1)
 rw [CE] at hv
 rw [hrun,px hv];rfl
theorem wW {w:World} {base n j:Nat} {e t:TypeId} {sz:Nat} {v:Value} {xs:List Value} {cs:Array Value} {fr:Nat × Nat} (h:w.ownsRow base e sz v n xs) (hj:w.heap[j]?=some (.cells cs t fr)) (ht:e≠t):v.ownBlock≠some j:=by
 intro hv
 rcases h.2 with ⟨rfl,_⟩ | ⟨g,cap,cur,rfl,_,hb,_⟩
 ·
  cases hv
 simp only [Value.ownBlock,Option.some.injEq] at hv
 subst hv
 rw [hb] at hj
 cases hj
 exact ht rfl
theorem wV {w:World} {base n b nn sz:Nat} {e:TypeId} {v:Value} {xs:List Value} {L:List Ent} (h:w.ownsRow base e sz v n xs) (hm:kg w b nn L):some b≠v.ownBlock:=by
 intro hv
 obtain ⟨es,clock,hb,_⟩:=hm
 rcases h.2 with ⟨rfl,_⟩ | ⟨g,cap,cur,rfl,_,hb',_⟩
 ·
  cases hv
 simp only [Value.ownBlock,Option.some.injEq] at hv
 subst hv
 rw [hb'] at hb
 cases hb
theorem kg.kept {w w':World} {b n:Nat} {L:List Ent} (h:kg w b n L) (hb:w'.heap[b]?=w.heap[b]?):kg w' b n L:=by
 obtain ⟨es,clock,h1,Ft,hs',hD⟩:=h
 exact ⟨es,clock,hb.trans h1,Ft,hs',hD⟩
theorem vC {w wr w':World} {o:Obj} {v:Value} {base n k b nn sz:Nat} {e:TypeId} {xs ys:List Value} {vK:Value} {L:List Ent} (he:e≠2) (hrow:wr.ownsRow base e sz v k xs) (hK:wr.ownsRow (base+1) 2 1 vK n ys) (hO:kg wr b nn L) (hB:Below base w wr) (hz:base≤wr.heap.size)
  (hg:(wr.alloc o).grownBy w' v.ownBlock):w'.ownsRow (base+1) 2 1 vK n ys∧kg w' b nn L∧Below base w w':=by
 have hg':wr.grownBy w' v.ownBlock:=(World.grownBy_alloc wr o _).trans hg
 refine ⟨?_,hO.kept (hg'.block b hO.lt (wV hrow hO)),hB.grown hg' hz (fun j hj=>(hrow.lt j hj).1)⟩
 refine hK.kept hg' ?_
 rcases hK.2 with ⟨rfl,_⟩ | ⟨g,cap,cur,rfl,_,hb,_⟩
 ·
  exact .inl rfl
 exact .inr (fun e1=>wW hrow hb he e1.symm)
theorem mA {b nn:Nat} {L:List Ent} (w:World) (hown:kg w b nn L) (hs:iA L) (hl:L.length≤8) (hr:∀ y∈L,1≤y.m∧y.m≤20) :
  Calls Tryz.prog 155 #[.map (some b)] w fun e w'=>∃ v,e=.returned v∧ks w' w.heap.size v L∧Below w.heap.size w w':=by
 have HO:Hid (kg w b nn L):=hown
 have HS:Hid (iA L):=hs
 have HR:Hid (∀ y∈L,1≤y.m∧y.m≤20):=hr
 clear hown hs hr
 go_enter Tryz.func155,Tryz.ntmps155
 go_wp2_with fail
 refine (AH _ _).mono ?_
 rintro e w1 ⟨rfl,rfl⟩
 go_wp2_with fail
 refine (wN w HO.out (by omega)).mono ?_
 rintro e w2 ⟨vK,ss,rfl,hp,hK,hb2⟩
 rw [u7 HS.out hp] at hK
 have hlen:ss.length=L.length:=by
  have:=hK.1
  simp at this
  omega
 rw [hlen] at hK
 have B2:Below w.heap.size w w2:=under hb2
 have hO2:kg w2 b nn L:=by
  obtain ⟨es,clock,hb,Ft,hs',hD⟩:=HO.out
  exact ⟨es,clock,(B2.block b HO.out.lt).trans hb,Ft,hs',hD⟩
 clear hp hb2 hlen
 obtain ⟨i0,hi,hz0,hz1,hz2⟩:=info_parts BT
 obtain ⟨aK,capK,rfl,hcK⟩:∃ a cap,vK=.slice a L.length cap∧∀ w':World,w'.ownsRow (w.heap.size+1) 2 1 (.slice a L.length cap) L.length ((L.map (·.m)).map encZ)→∀ j,j<L.length→∃ g,a=some ⟨g,0,none⟩∧w'.cell? ⟨g,j,none⟩=some (.int .i64 (L.getD j default).m):=by
  rcases hK.2 with ⟨rfl,h0⟩ | ⟨g,cap,cur,rfl,_⟩
  ·
   exact ⟨none,0,by rw [h0],fun _ _ j hj=>by omega⟩
  refine ⟨_,_,rfl,fun w' h' j hj=>⟨g,rfl,?_⟩⟩
  rw [vV h' j hj]
  rw [List.getElem?_map,List.getElem?_map,List.getElem?_eq_getElem hj,List.getD_eq_getElem?_getD,List.getElem?_eq_getElem hj]
  rfl
 have HC:Hid (∀ w':World,w'.ownsRow (w.heap.size+1) 2 1 (.slice aK L.length capK) L.length ((L.map (·.m)).map encZ)→∀ j,j<L.length→∃ g,aK=some ⟨g,0,none⟩∧w'.cell? ⟨g,j,none⟩=some (.int .i64 (L.getD j default).m)):=hcK
 clear hcK
 go_wp2_with fail
 go_loopw [3,10] (fun v i wr=>∃ k:Nat,k≤L.length∧i=.int .i64 k∧wr.ownsRow w.heap.size 92 3 v k (hF (L.take k))∧wr.ownsRow (w.heap.size+1) 2 1 (.slice aK L.length capK) L.length ((L.map (·.m)).map encZ)∧kg wr b nn L∧Below w.heap.size w wr) (fun _ i _=>L.length-(intOf i).toNat)
 case atStart=>exact ⟨0,Nat.zero_le _,rfl,World.ownsRow_nil _ _ _ _,hK,hO2,B2⟩
 obtain ⟨k,hk,rfl,hrow,hKr,hOr,hB⟩:=hrel
 clear hK hO2 B2
 by_cases hlt:k<L.length
 ·
  have hlt':(k:Int)<L.length:=by omega
  obtain ⟨gK,rfl,hcell⟩:=HC.out wr hKr k hlt
  have hxm:L.getD k default∈L:=by
   rw [List.getD_eq_getElem?_getD,List.getElem?_eq_getElem hlt]
   exact List.getElem_mem _
  have hxr:=HR.out _ hxm
  have hlk:=CF (k:=(L.getD k default).m) hOr (by omega) (by omega)
  rw [HS.out.at k hlt] at hlk
  have HT:Hid (hF (L.take k)++iZ (L.getD k default)=hF (L.take (k+1))):=by
   rw [Hid,List.take_add_one,hF,hF,List.flatMap_append,List.getD_eq_getElem?_getD,List.getElem?_eq_getElem hlt]
   simp
  generalize L.getD k default=x at *
  have hz:=hB.size
  clear hxm hxr
  go_wp2_with (at_builtin;refine wpList_append_own _ rfl (.tmp 14) (.tmp 18) 38 rfl w.heap.size 92 i0 (.agg #[.int .i64 0,.int .i64 0,.int .i64 0]) 3 24 Tryz.underlying38 hi hz0 hz1 hz2 rfl (by decide) _ k _ rfl (hrow.alloc _) ⟨wr.heap.size,0,none⟩ 1 1 (iZ x) rfl rfl (ic _ _ _) (zW _) (by unfold maxLen;omega) (by omega) (by simp;omega) ?_;intro v' w' hown' hgrow' hnil')
  obtain ⟨n1,n2,n3⟩:=vC (by decide) hrow hKr hOr hB hz hgrow'
  rw [HT.out] at hown'
  clear hnil' hgrow' hrow hKr hOr hB hcell hlk
  go_roundw
  case rel=>exact ⟨k+1,by omega,by go_num,hown',n1,n2,n3⟩
  case measure=>simp [intOf];omega
 obtain rfl:k=L.length:=by omega
 clear HC
 go_wp2_with fail
 go_ret
 exact ⟨_,rfl,by rw [List.take_length] at hrow;exact hrow,hB⟩
theorem u9 (m p t now:Int) (w:World) (h0:0≤t) (h1:t≤1000000000) (h2:0≤now) (h3:now≤1000000000) :
  Calls Tryz.prog 156 #[.agg #[.int .i64 m,.int .i64 p,.int .i64 t],.int .i64 now] w fun e w'=>e=.returned (.bool (decide (20<now-t)))∧Below w.heap.size w w':=by
 have hw:IntKind.i64.wrap (now-t)=now-t:=j0 _ (by omega) (by omega)
 go_enter Tryz.func156,Tryz.ntmps156
 go_wp2_with fail
 go_ret
 exact ⟨rfl,(Below.refl _ _).alloc (Nat.le_refl _) _⟩
theorem Dj {w:World} {b n:Nat} {L:List Ent} {k:Int} (h:kg w b n L) (h0:-9223372036854775808≤k) (h1:k≤9223372036854775807) :
  (Instr.lookup 217 (.map (some b)) (.int .i64 k) true).run Tryz.prog w=.ok (.tuple #[.agg #[.int .i64 (atM k L).m,.int .i64 (atM k L).p,.int .i64 (atM k L).t],.bool (AO k L)]) w:=by
 obtain ⟨v,ps,hrun,hv⟩:=h.look_ok qc Tryz.underlying217 (Tryz.zeroValue92 w) (nz ⟨0,0,0⟩) (CK h0 h1)
 rw [CE] at hv
 rw [CD] at hrun
 rw [hrun,px hv];rfl
theorem rX {k:Int} {L:List Ent} (h:AO k L=true):atM k L∈L∧(atM k L).m=k:=by
 unfold AO at h
 unfold atM
 induction L with
 | nil=>simp at h
 | cons y r ih =>
  by_cases e:y.m=k
  ·
   simp [List.find?_cons,e]
  simp only [List.any_cons,e,decide_false,Bool.false_or] at h
  obtain ⟨h1,h2⟩:=ih h
  simp only [List.find?_cons,e,decide_false]
  exact ⟨List.mem_cons_of_mem _ h1,h2⟩
theorem oF {n:Nat} {f:Nat→Ent} (h:iE n f) {y:Ent} (hy:y∈gb n f):jK y:=by
 obtain ⟨i,hi,rfl⟩:=List.mem_map.1 hy
 exact (h i (List.mem_range.1 hi)).1
def vS (now:Int):Prop:=0≤now∧now≤1000000000
def qL (L:List Ent) (mac now:Int):Int:=if AO mac L=true∧now-(atM mac L).t≤20 then (atM mac L).p else -1
structure zT (n:Nat) (f:Nat→Ent) (mac now r:Int):Prop where
 good:jr n f→vS now→r=qL (gb n f) mac now
 bad:¬ (jr n f∧vS now)→r=-1
theorem vf (a:Option Addr) (n cap:Nat) (f:Nat→Ent) (mac now r:Int) (w:World) (hn:n≤maxLen) (h:iu w a n f) (k0:-9223372036854775808≤mac) (k1:mac≤9223372036854775807) (hr:zT n f mac now r) :
  Calls Tryz.prog 140 #[.slice a n cap,.int .i64 mac,.int .i64 now] w fun e w'=>e=.returned (.int .i64 r)∧Below w.heap.size w w':=by
 have HR:Hid (iu w a n f):=h
 have HP:Hid (zT n f mac now r):=hr
 obtain ⟨ok,hok⟩:=oW n f
 have HO:Hid (ok=true↔jr n f):=hok
 clear h hr hok
 go_enter Tryz.func140,Tryz.ntmps140
 go_wp2_with fail
 refine (lZ a n cap f _ hn HR.out ok HO.out).mono ?_
 rintro e w1 ⟨rfl,B1⟩
 cases ok
 ·
  have HF:Hid (r=-1):=HP.out.bad (fun hh=>absurd (HO.out.2 hh.1) (by simp))
  go_wp2_with fail
  go_ret
  exact ⟨iM HF.out.symm,B1⟩
 have HT:Hid (jr n f):=HO.out.1 rfl
 go_wp2_with fail
 refine (iT _ _).mono ?_
 rintro e w' ⟨rfl,rfl⟩
 by_cases ht:0≤now∧now≤1000000000
 ·
  have HTm:Hid (vS now):=ht
  rw [decide_eq_true ht]
  clear ht
  go_wp2_with fail
  refine (ue a n cap f _ HT.out (HR.out.up B1)).mono ?_
  rintro e w2 ⟨rfl,hown,hb2⟩
  have B2:=B1.trans (hb2.mono B1.size)
  have hlk:=Dj hown k0 k1
  clear hb2
  have HA:Hid (∀ ob,Below w.heap.size w (w2.alloc ob)):=fun ob=>B2.alloc B2.size _
  cases hh:AO mac (gb n f)
  ·
   rw [hh] at hlk
   have HF:Hid (r=-1):=by
    rw [Hid,HP.out.good HT.out HTm.out,qL,if_neg (by rw [hh];simp)]
   generalize atM mac (gb n f)=x at *
   clear hh hown
   go_wp2_with fail
   go_ret
   exact ⟨iM HF.out.symm,HA.out _⟩
  rw [hh] at hlk
  have hx:=oF HT.out.2 (rX hh).1
  have HQ:Hid (r=if now-(atM mac (gb n f)).t≤20 then (atM mac (gb n f)).p else -1):=by
   rw [Hid,HP.out.good HT.out HTm.out,qL,hh];simp
  generalize atM mac (gb n f)=x at *
  obtain ⟨m,p,t⟩:=x
  have h20:=HTm.out
  obtain ⟨x1,x2,x3⟩:=hx
  dsimp only at x1 x2 x3 hlk HQ
  clear hh hown
  go_wp2_with fail
  have cb:=fF (fK w2 (.cells #[.int .i64 m,.int .i64 p,.int .i64 t] 92))
  refine (u9 m p t now _ x3.1 x3.2 h20.1 h20.2).mono ?_
  rintro e w3 ⟨rfl,hb3⟩
  have B3:Below w.heap.size w w3:=(HA.out _).trans (hb3.mono (HA.out _).size)
  have cb:=fun i=>(hb3.cell (p:=⟨w2.heap.size,i,none⟩) (by simp)).trans (cb i)
  by_cases hs:20<now-t
  ·
   have HF:Hid (r=-1):=by rw [Hid,HQ.out,if_neg (by omega)]
   rw [decide_eq_true hs]
   exact da
  have HF:Hid (r=p):=by rw [Hid,HQ.out,if_pos (by omega)]
  rw [decide_eq_false hs]
  exact da
 have HF:Hid (r=-1):=HP.out.bad (fun hh=>ht hh.2)
 rw [decide_eq_false ht]
 clear ht
 go_wp2_with fail
 go_ret
 exact ⟨iM HF.out.symm,B1⟩
theorem kp {n:Nat} {f:Nat→Ent} (h:iE n f):iA (gb n f):=by
 unfold iA
 rw [List.pairwise_iff_getElem]
 intro i j hi hj hij
 rw [iH] at hj
 simp [gb]
 exact h.lt j i hij hj
theorem iA.sub {L L':List Ent} (h:iA L) (hs:L'.Sublist L):iA L':=List.Pairwise.sublist hs h
def pC:Option Ent→Ent→Option Ent
 | none,e=>some e
 | some b,e=>some (if e.t<b.t then e else b)
def l8 (L:List Ent):Option Ent:=L.foldl pC none
theorem mf (L:List Ent) (e:Ent):l8 (L++[e])=pC (l8 L) e:=by simp [l8]
theorem wy {z:Ent}:∀ (L:List Ent) (o:Option Ent),L.foldl pC o=some z→z∈L∨o=some z
 | [],o,h=>.inr h
 | y :: r,o,h=>by
  rcases wy r (pC o y) h with h1 | h1
  ·
   exact .inl (List.mem_cons_of_mem _ h1)
  cases o with
  | none=>simp [pC] at h1;exact .inl (by rw [←h1];simp)
  | some b =>
   simp only [pC,Option.some.injEq] at h1
   split at h1
   ·
    exact .inl (by rw [←h1];simp)
   exact .inr (by rw [h1])
theorem ug {L:List Ent} {z:Ent} (h:l8 L=some z):z∈L:=by
 rcases wy L none h with h1 | h1
 ·
  exact h1
 cases h1
theorem ql:∀ (L:List Ent) (b:Ent),∃ z,L.foldl pC (some b)=some z
 | [],b=>⟨b,rfl⟩
 | y :: r,b=>ql r _
def uj (L:List Ent):Ent:=(l8 L).getD default
theorem vW {L:List Ent} (h:L≠[]):uj L∈L∧l8 L=some (uj L):=by
 cases L with
 | nil=>exact absurd rfl h
 | cons y r =>
  obtain ⟨z,hz⟩:=ql r y
  have hb:l8 (y :: r)=some z:=hz
  unfold uj
  rw [hb]
  exact ⟨ug hb,rfl⟩
def im (L:List Ent) (x:Ent):List Ent:=if (notM x.m L).length=8 then iX x (notM (uj (notM x.m L)).m (notM x.m L)) else iX x (notM x.m L)
theorem pg {x y:Ent} (h:x.m<y.m):∀ M:List Ent,iX x (M++[y])=iX x M++[y]
 | []=>by simp [iX,h]
 | z :: r=>by
  by_cases h1:x.m<z.m
  ·
   simp [iX,h1]
  simp [iX,h1,pg h r]
theorem jR (x:Ent):∀ M:List Ent,(iX x M).length=M.length+1
 | []=>rfl
 | z :: r=>by
  unfold iX
  split
  ·
   simp
  simp [jR x r]
theorem oB {x y:Ent}:∀ {M:List Ent},y∈iX x M↔y=x∨y∈M
 | []=>by simp [iX]
 | z :: r=>by
  unfold iX
  split
  ·
   simp
  simp only [List.mem_cons,oB (M:=r)]
  constructor
  ·
   rintro (h | h | h)
   ·
    exact .inr (.inl h)
   ·
    exact .inl h
   exact .inr (.inr h)
  rintro (h | h | h)
  ·
   exact .inr (.inl h)
  ·
   exact .inl h
  exact .inr (.inr h)
theorem ku (x:Ent):∀ M:List Ent,notM x.m (iX x M)=notM x.m M
 | []=>by simp [iX,notM]
 | z :: r=>by
  have ih:=ku x r
  unfold notM at ih ⊢
  unfold iX
  split
  ·
   simp
  simp only [List.filter_cons,ih]
theorem yT {x:Ent} {M:List Ent} (h:∀ y∈M,x.m<y.m):iX x M=x :: M:=by
 cases M with
 | nil=>rfl
 | cons z r=>unfold iX;rw [if_pos (h z (by simp))]
theorem sY {x:Ent} {k:Int} (hk:x.m≠k):∀ {M:List Ent},iA M→notM k (iX x M)=iX x (notM k M)
 | [],_=>by simp [iX,notM,hk]
 | z :: r,h=>by
  obtain ⟨h1,h2⟩:=List.pairwise_cons.1 h
  have ih:=sY hk h2
  by_cases hz:x.m<z.m
  ·
   have e1:iX x (z :: r)=x :: z :: r:=by unfold iX;rw [if_pos hz]
   have e2:iX x (notM k (z :: r))=x :: notM k (z :: r):=yT (fun y hy=>by
    have hy2:=(List.mem_filter.1 hy).1
    rcases List.mem_cons.1 hy2 with rfl | hy3
    ·
     exact hz
    ·
     have:=h1 y hy3;omega)
   rw [e1,e2]
   simp [notM,hk]
  have e1:iX x (z :: r)=z :: iX x r:=by rw [iX,if_neg hz]
  rw [e1]
  by_cases hzk:z.m=k
  ·
   have e3:notM k (z :: iX x r)=notM k (iX x r):=by simp [notM,hzk]
   have e4:notM k (z :: r)=notM k r:=by simp [notM,hzk]
   rw [e3,e4,ih]
  have e3:notM k (z :: iX x r)=z :: notM k (iX x r):=by simp [notM,hzk]
  have e4:notM k (z :: r)=z :: notM k r:=by simp [notM,hzk]
  rw [e3,e4,ih,iX,if_neg hz]
theorem lC {x:Ent}:∀ {M:List Ent},iA M→(∀ y∈M,y.m≠x.m)→iA (iX x M)
 | [],_,_=>by simp [iX,iA]
 | z :: r,h,hx=>by
  obtain ⟨h1,h2⟩:=List.pairwise_cons.1 h
  unfold iX
  split
  ·
   rename_i hz
   refine List.pairwise_cons.2 ⟨fun y hy=>?_,h⟩
   rcases List.mem_cons.1 hy with rfl | hy
   ·
    exact hz
   have:=h1 y hy;omega
  rename_i hz
  refine List.pairwise_cons.2 ⟨fun y hy=>?_,lC h2 (fun y hy=>hx y (by simp [hy]))⟩
  rcases oB.1 hy with rfl | hy
  ·
   have:=hx z (by simp);omega
  exact h1 y hy
theorem jb (k:Int) (L:List Ent):(notM k L).Sublist L:=List.filter_sublist
theorem o6 {k:Int} {L:List Ent} {y:Ent} (h:y∈notM k L):y.m≠k:=by
 have:=(List.mem_filter.1 h).2
 simpa using this
theorem Bj:∀ {L:List Ent} {o:Nat},iA L→o<L.length→L.take o++L.drop (o+1)=notM (L.getD o default).m L
 | [],o,_,h=>by simp at h
 | z :: r,0,h,_=>by
  obtain ⟨h1,h2⟩:=List.pairwise_cons.1 h
  have h3:notM z.m r=r:=km (fun y hy=>by have:=h1 y hy;omega)
  have h4:notM z.m (z :: r)=notM z.m r:=by simp [notM]
  show r=notM z.m (z :: r)
  rw [h4,h3]
 | z :: r,o+1,h,hl=>by
  obtain ⟨h1,h2⟩:=List.pairwise_cons.1 h
  have hl':o<r.length:=by simpa using hl
  have ih:=Bj h2 hl'
  have hm:r.getD o default∈r:=by
   rw [List.getD_eq_getElem?_getD,List.getElem?_eq_getElem hl']
   exact List.getElem_mem _
  have hne:z.m≠(r.getD o default).m:=by have:=h1 _ hm;omega
  simp only [List.getD_cons_succ,List.take_succ_cons,List.drop_succ_cons,List.cons_append]
  rw [ih]
  simp only [notM,List.filter_cons]
  simp only [hne,ne_eq,not_false_eq_true,decide_true,if_true]
theorem mV {L:List Ent} {x:Ent} (h:(iX x (notM x.m L)).length≤8):iX x (notM x.m L)=im L x:=by
 rw [jR] at h
 unfold im
 rw [if_neg (by omega)]
theorem nX {L:List Ent} {x:Ent} {o:Nat} (hs:iA L) (hl:L.length≤8) (h:¬ (iX x (notM x.m L)).length≤8) (ho:o<(iX x (notM x.m L)).length) (hb:l8 (notM x.m (iX x (notM x.m L)))=some ((iX x (notM x.m L)).getD o default)) :
  (iX x (notM x.m L)).take o++(iX x (notM x.m L)).drop (o+1)=im L x:=by
 have hO:=hs.sub (jb x.m L)
 have hn:∀ y∈notM x.m L,y.m≠x.m:=fun y hy=>o6 hy
 have e1:notM x.m (iX x (notM x.m L))=notM x.m L:=by rw [ku];exact km hn
 rw [e1] at hb
 have hlen:=(jb x.m L).length_le
 rw [jR] at h
 rw [Bj (lC hO hn) ho]
 unfold im
 rw [if_pos (by omega)]
 have hz:=ug hb
 have e2:uj (notM x.m L)=(iX x (notM x.m L)).getD o default:=by unfold uj;rw [hb];rfl
 rw [e2,sY (fun e=>hn _ hz e.symm) hO]
structure wG (n:Nat) (f:Nat→Ent) (x:Ent) (A:List Ent) (b:Bool):Prop where
 good:jr n f→jK x→A=im (gb n f) x∧b=true
 bad:¬ (jr n f∧jK x)→A=[]∧b=false
theorem jQ {n:Nat} {f:Nat→Ent} {x:Ent} (h:jr n f) (hx:jK x):iA (im (gb n f) x)∧(im (gb n f) x).length≤8∧∀ y∈im (gb n f) x,jK y:=by
 have hs:=kp h.2
 have hO:=hs.sub (jb x.m (gb n f))
 have hn:∀ y∈notM x.m (gb n f),y.m≠x.m:=fun y hy=>o6 hy
 have hlen:=(jb x.m (gb n f)).length_le
 rw [iH] at hlen
 have h8:=h.1
 unfold im
 split
 ·
  rename_i h9
  have hne:notM x.m (gb n f)≠[]:=by intro e;rw [e] at h9;simp at h9
  have hold:=(vW hne).1
  have hlt:(notM (uj (notM x.m (gb n f))).m (notM x.m (gb n f))).length<(notM x.m (gb n f)).length:=by
   unfold notM
   rw [List.length_filter_lt_length_iff_exists]
   exact ⟨_,hold,by simp [notM]⟩
  refine ⟨lC (hO.sub (jb _ _)) (fun y hy=>hn y ((jb _ _).subset hy)),by rw [jR];omega,fun y hy=>?_⟩
  rcases oB.1 hy with rfl | hy
  ·
   exact hx
  exact oF h.2 ((jb _ _).subset ((jb _ _).subset hy))
 refine ⟨lC hO hn,by rw [jR];omega,fun y hy=>?_⟩
 rcases oB.1 hy with rfl | hy
 ·
  exact hx
 exact oF h.2 ((jb _ _).subset hy)
theorem wG.len {n:Nat} {f:Nat→Ent} {x:Ent} {A:List Ent} {b:Bool} (h:wG n f x A b):A.length≤1048576:=by
 by_cases hh:jr n f∧jK x
 ·
  rw [(h.good hh.1 hh.2).1]
  have:=(jQ hh.1 hh.2).2.1
  omega
 rw [(h.bad hh).1];simp
def Swg.lrL (S:Swg) (port:Int) (x:Pkt):List Ent:=im (gb S.nE S.e) ⟨x.s,port,S.now⟩
def Swg.hI (S:Swg) (port:Int) (x:Pkt) (aE:Option Addr) (cE:Nat):Swg:={ S with aE:=aE,nE:=(S.lrL port x).length,cE:=cE,e:=fun i=>(S.lrL port x).getD i default }
def Swg.toP (S:Swg) (port:Int) (x:Pkt):Int:=qL (S.lrL port x) x.d S.now
def iR (k dst src:Int):Bool:=if dst=-1 then decide (k≠src) else decide (k=dst)
def kE (dst src:Int):Nat→Nat
 | 0=>0
 | n+1=>kE dst src n+if iR n dst src=true then 1 else 0
theorem vn (dst src:Int):∀ n,kE dst src n≤n
 | 0=>Nat.le_refl _
 | n+1=>by
  have:=vn dst src n
  show kE dst src n+_≤_
  split <;> omega
def Swg.pkt (S:Swg) (port:Int) (x:Pkt) (refs:Nat):Pkt:=⟨S.nx,port,refs,x.k,x.d,x.s,x.p,x.b⟩
def Swg.iO (S:Swg) (port dst:Int) (x:Pkt) (n:Nat) (i:Nat):Lng:=if i<n∧iR i dst port=true then (S.L i).wait x.p S.nx x.cl else S.L i
def Swg.waits (S:Swg) (port:Int) (x:Pkt) (dst:Int):Swg :=
 { S with N:=lr S.N port x.p x.cl,nx:=S.nx+1,nK:=S.nK+1,K:=fun i=>if i=S.nK then S.pkt port x (kE dst port S.nL) else S.K i,L:=S.iO port dst x S.nL }
def Swg.lf (S:Swg) (p:Int):Swg:=if p=2 then { S with lst:=min (S.lst+1) 1000000000 } else { S with dr:=min (S.dr+1) 1000000000 }
def Swg.stop (S:Swg) (i:Nat) (b:Bool):Swg:={ S with L:=fun k=>if k=i then { S.L i with st:=b } else S.L k }
def nG (S S':Swg) (i:Nat) (x:Pkt) (code:Int):Prop :=
 (S.toP i x=i∧S'=S.hI i x none 0∧code=4) ∨
 (S.toP i x≠i∧¬ (Cnt.Ok S.C (lr S.N i x.p x.cl)∧S.nx≠1000000000)∧S'=(S.hI i x none 0).lf x.p∧code=3) ∨
 (S.toP i x≠i∧Cnt.Ok S.C (lr S.N i x.p x.cl)∧S.nx≠1000000000∧S'=(S.hI i x none 0).waits i x (S.toP i x)∧code=0)
def pQ (S S':Swg) (port:Int) (x:Pkt) (code:Int):Prop :=
 (¬ S.Ok∧S'=mH∧code=1) ∨
 (S.Ok∧¬ ((0≤port∧port≤S.C.p-1)∧jT x.k x.d x.s x.p x.b.size=true)∧S'=S∧code=2) ∨
 (S.Ok∧jT x.k x.d x.s x.p x.b.size=true∧∃ i:Nat,port=(i:Int)∧i<S.nL∧((x.k≠1∧S'=S.stop i (decide (x.k=2))∧code=0)∨(x.k=1∧nG S S' i x code)))
theorem AX (S:Swg) (i:Nat) (x:Pkt):∃ S' code,nG S S' i x code:=by
 by_cases h1:S.toP i x=i
 ·
  exact ⟨_,_,.inl ⟨h1,rfl,rfl⟩⟩
 by_cases h2:Cnt.Ok S.C (lr S.N i x.p x.cl)∧S.nx≠1000000000
 ·
  exact ⟨_,_,.inr (.inr ⟨h1,h2.1,h2.2,rfl,rfl⟩)⟩
 exact ⟨_,_,.inr (.inl ⟨h1,h2,rfl,rfl⟩)⟩
theorem Cj (S:Swg) (port:Int) (x:Pkt):∃ S' code,pQ S S' port x code:=by
 by_cases h:S.Ok
 ·
  by_cases h2:(0≤port∧port≤S.C.p-1)∧jT x.k x.d x.s x.p x.b.size=true
  ·
   obtain ⟨i,rfl⟩:∃ i:Nat,port=(i:Int):=⟨port.toNat,by omega⟩
   have hi:i<S.nL:=by have:=h.nl;omega
   by_cases hk:x.k=1
   ·
    obtain ⟨S',code,hd⟩:=AX S i x
    exact ⟨S',code,.inr (.inr ⟨h,h2.2,i,rfl,hi,.inr ⟨hk,hd⟩⟩)⟩
   exact ⟨_,_,.inr (.inr ⟨h,h2.2,i,rfl,hi,.inl ⟨hk,rfl,rfl⟩⟩)⟩
  exact ⟨_,_,.inr (.inl ⟨h,h2,rfl,rfl⟩)⟩
 exact ⟨_,_,.inl ⟨h,rfl,rfl⟩⟩
theorem qm {A B:Cnt} (h:gw A B) (port prio y:Int):gw (lr A port prio y) (lr B port prio y):=by
 unfold lr
 split
 ·
  exact ⟨h.nU,by unfold Cnt.mG;dsimp only;rw [h.u],h.lo,h.nP,h.p⟩
 exact ⟨h.nU,h.u,by unfold Cnt.zP;dsimp only;rw [h.lo],h.nP,h.p⟩
theorem Lng.ns {a b:Lng} (h:gk a b) (p id cl:Int):gk (a.wait p id cl) (b.wait p id cl):=by
 unfold Lng.wait
 split
 ·
  exact ⟨h.st,by unfold Lng.lP;dsimp only;rw [h.nT],by unfold Lng.lP;dsimp only;rw [h.nT,h.t],h.nU,h.l,h.z,h.r⟩
 refine ⟨h.st,h.nT,h.t,h.nU,?_,?_,?_⟩
 ·
  show (fun i=>if i=p.toNat then b.uL p.toNat+1 else b.uL i)=fun i=>if i=p.toNat then a.uL p.toNat+1 else a.uL i
  rw [h.l]
 ·
  show (fun i j=>if i=p.toNat then kY (b.uL p.toNat) id (b.uz p.toNat) j else b.uz i j)=fun i j=>if i=p.toNat then kY (a.uL p.toNat) id (a.uz p.toNat) j else a.uz i j
  rw [h.l,h.z]
 exact ⟨h.r.nQ,h.r.q,h.r.nD,h.r.d,h.r.t,h.r.f,h.r.nS,by unfold Rnd.push;dsimp only;rw [h.r.l],by unfold Rnd.push;dsimp only;rw [h.r.l,h.r.z]⟩
theorem fP.lrL {A B:Swg} (h:fP A B) (port:Int) (x:Pkt):B.lrL port x=A.lrL port x:=by unfold Swg.lrL;rw [h.nE,h.e,h.now]
theorem fP.toP {A B:Swg} (h:fP A B) (port:Int) (x:Pkt):B.toP port x=A.toP port x:=by unfold Swg.toP;rw [h.lrL,h.now]
theorem fP.hI {A B:Swg} (h:fP A B) (port:Int) (x:Pkt) (a a':Option Addr) (c c':Nat):fP (A.hI port x a c) (B.hI port x a' c') :=
 ⟨h.c,h.now,h.nx,by show (B.lrL port x).length=(A.lrL port x).length;rw [h.lrL],by show (fun i=>(B.lrL port x).getD i default)=fun i=>(A.lrL port x).getD i default;rw [h.lrL],h.n,h.nK,h.k,h.nL,h.l,h.dr,h.lst⟩
theorem fP.lf {A B:Swg} (h:fP A B) (p:Int):fP (A.lf p) (B.lf p):=by
 unfold Swg.lf
 split
 ·
  exact ⟨h.c,h.now,h.nx,h.nE,h.e,h.n,h.nK,h.k,h.nL,h.l,h.dr,by dsimp only;rw [h.lst]⟩
 exact ⟨h.c,h.now,h.nx,h.nE,h.e,h.n,h.nK,h.k,h.nL,h.l,by dsimp only;rw [h.dr],h.lst⟩
theorem fP.waits {A B:Swg} (h:fP A B) (port:Int) (x:Pkt) (dst:Int):fP (A.waits port x dst) (B.waits port x dst):=by
 refine ⟨h.c,h.now,by show B.nx+1=A.nx+1;rw [h.nx],h.nE,h.e,qm h.n _ _ _,by show B.nK+1=A.nK+1;rw [h.nK],?_,h.nL,fun i hi=>?_,h.dr,h.lst⟩
 ·
  show (fun i=>if i=B.nK then B.pkt port x (kE dst port B.nL) else B.K i)=fun i=>if i=A.nK then A.pkt port x (kE dst port A.nL) else A.K i
  unfold Swg.pkt
  rw [h.nK,h.nx,h.nL,h.k]
 show gk (A.iO port dst x A.nL i) (B.iO port dst x B.nL i)
 unfold Swg.iO
 rw [h.nL]
 split
 ·
  rw [h.nx]
  exact Lng.ns (h.l i hi) _ _ _
 exact h.l i hi
theorem fP.stop {A B:Swg} (h:fP A B) {i:Nat} (hi:i<A.nL) (b:Bool):fP (A.stop i b) (B.stop i b):=by
 refine ⟨h.c,h.now,h.nx,h.nE,h.e,h.n,h.nK,h.k,h.nL,fun k hk=>?_,h.dr,h.lst⟩
 show gk (if k=i then { A.L i with st:=b } else A.L k) (if k=i then { B.L i with st:=b } else B.L k)
 have hi2:=h.l i hi
 split
 ·
  exact ⟨rfl,hi2.nT,hi2.t,hi2.nU,hi2.l,hi2.z,hi2.r⟩
 exact h.l k hk
theorem nG.AE {S S' P:Swg} {i:Nat} {x:Pkt} {code:Int} (h:nG S S' i x code) (ha:fP S P):∃ P',nG P P' i x code∧fP S' P':=by
 have et:=ha.toP i x
 have eo:Cnt.Ok P.C (lr P.N i x.p x.cl)↔Cnt.Ok S.C (lr S.N i x.p x.cl):=by rw [ha.c];exact (qm ha.n _ _ _).ok
 rcases h with ⟨h1,h2,h3⟩ | ⟨h1,h2,h3,h4⟩ | ⟨h1,h2,h3,h4,h5⟩
 ·
  exact ⟨_,.inl ⟨by rw [et];exact h1,rfl,h3⟩,by rw [h2];exact ha.hI _ _ _ _ _ _⟩
 ·
  exact ⟨_,.inr (.inl ⟨by rw [et];exact h1,by rw [eo,ha.nx];exact h2,rfl,h4⟩),by rw [h3];exact (ha.hI _ _ _ _ _ _).lf _⟩
 exact ⟨_,.inr (.inr ⟨by rw [et];exact h1,eo.2 h2,by rw [ha.nx];exact h3,rfl,h5⟩),by rw [h4,et];exact (ha.hI _ _ _ _ _ _).waits _ _ _⟩
theorem pQ.AE {S S' P:Swg} {port:Int} {x:Pkt} {code:Int} (h:pQ S S' port x code) (ha:fP S P):∃ P',pQ P P' port x code∧fP S' P':=by
 rcases h with ⟨h1,h2,h3⟩ | ⟨h1,h2,h3,h4⟩ | ⟨h1,h2,i,h3,h4,h5⟩
 ·
  exact ⟨mH,.inl ⟨by rw [ha.ok];exact h1,rfl,h3⟩,by rw [h2];exact fP.refl _⟩
 ·
  exact ⟨P,.inr (.inl ⟨ha.ok1 h1,by rw [ha.c];exact h2,rfl,h4⟩),by rw [h3];exact ha⟩
 rcases h5 with ⟨k1,k2,k3⟩ | ⟨k1,k2⟩
 ·
  exact ⟨_,.inr (.inr ⟨ha.ok1 h1,h2,i,h3,by rw [ha.nL];exact h4,.inl ⟨k1,rfl,k3⟩⟩),by rw [k2];exact ha.stop h4 _⟩
 obtain ⟨P',hp,hA⟩:=k2.AE ha
 exact ⟨P',.inr (.inr ⟨ha.ok1 h1,h2,i,h3,by rw [ha.nL];exact h4,.inr ⟨k1,hp⟩⟩),hA⟩
theorem wZ (a:Option Addr) (n cap:Nat) (f:Nat→Ent) (w:World) (h1:1≤n) (h8:n≤8) (h:iu w a n f) :
  Calls Tryz.prog 154 #[.slice a n cap] w fun e w'=>e=.returned (.int .i64 (uj (gb n f)).m)∧Below w.heap.size w w':=by
 have HR:Hid (iu w a n f):=h
 obtain ⟨g0,o0,rfl,c1,c2,c3⟩:=h 0 (by omega)
 simp only [Nat.zero_mul,Nat.add_zero] at c1 c2 c3
 have hn0:(0:Int)<n:=by omega
 clear h
 go_enter Tryz.func154,Tryz.ntmps154
 go_wp2_with fail
 clear c1 c2 c3
 go_loopw [11] (fun i wr=>∃ (k:Nat) (b:Ent),k≤n∧i=.int .i64 k∧((k=0∧b=f 0)∨l8 (gb k f)=some b)∧wr.heap[w.heap.size]?=some (.cells #[.int .i64 b.m,.int .i64 b.p,.int .i64 b.t] 92 (0,0))∧Below w.heap.size w wr) (fun i _=>n-(intOf i).toNat)
 case atStart=>exact ⟨0,f 0,Nat.zero_le _,rfl,.inl ⟨rfl,rfl⟩,fK w _,(Below.refl _ _).alloc (Nat.le_refl _) _⟩
 obtain ⟨k,b,hk,rfl,hb,hbox,hB⟩:=hrel
 have HB:Hid ((k=0∧b=f 0)∨l8 (gb k f)=some b):=hb
 clear hb
 by_cases hlt:k<n
 ·
  have hlt':(k:Int)<n:=by omega
  obtain ⟨g,o,eg,c1,c2,c3⟩:=(HR.out.up hB) k hlt
  cases eg
  have HN:Hid (l8 (gb (k+1) f)=some (if (f k).t<b.t then f k else b)):=by
   rw [Hid,iK,mf]
   rcases HB.out with ⟨rfl,rfl⟩ | hb
   ·
    simp [gb,l8,pC]
   rw [hb];rfl
  generalize f k=x at *
  obtain ⟨m,p,t⟩:=x
  obtain ⟨bm,bp,bt⟩:=b
  dsimp only at c1 c2 c3 hbox HN
  have hz:=hB.size
  have hbl:=fG hbox
  have kX:=(fY (.cells #[.int .i64 m,.int .i64 p,.int .i64 t] 92) hbl).trans hbox
  have cX0:wr.cell? ⟨w.heap.size,0,none⟩=some (.int .i64 bm):=fF hbox 0
  have cX1:wr.cell? ⟨w.heap.size,1,none⟩=some (.int .i64 bp):=fF hbox 1
  have cX2:wr.cell? ⟨w.heap.size,2,none⟩=some (.int .i64 bt):=fF hbox 2
  have fX0:=fZ hbox 0
  have fX1:=fZ hbox 1
  have fX2:=fZ hbox 2
  have cN:=fF (fK wr (.cells #[.int .i64 m,.int .i64 p,.int .i64 t] 92))
  have HA:Hid (∀ ob,Below w.heap.size w (wr.alloc ob)):=fun ob=>hB.alloc hz _
  by_cases hs:t<bt
  ·
   have HN2:Hid (l8 (gb (k+1) f)=some ⟨m,p,t⟩):=by rw [Hid,HN.out,if_pos hs]
   have s1:=gv (i:=0) hbox (.int .i64 m)
   have s2:=gv (i:=1) s1 (.int .i64 p)
   have s3:=gv (i:=2) s2 (.int .i64 t)
   have s4:=(fY (.cells #[.int .i64 m,.int .i64 p,.int .i64 t] 92) (fG s3)).trans s3
   have HX:Hid (((((wr.setCell ⟨w.heap.size,0,none⟩ (.int .i64 m)).setCell ⟨w.heap.size,1,none⟩ (.int .i64 p)).setCell ⟨w.heap.size,2,none⟩ (.int .i64 t)).alloc (.cells #[.int .i64 m,.int .i64 p,.int .i64 t] 92)).heap[w.heap.size]?=some (.cells #[.int .i64 m,.int .i64 p,.int .i64 t] 92 (0,0))):=s4
   have B4:=((hB.setCell (p:=⟨w.heap.size,0,none⟩) (Nat.le_refl _) (.int .i64 m)).setCell (p:=⟨w.heap.size,1,none⟩) (Nat.le_refl _) (.int .i64 p)).setCell (p:=⟨w.heap.size,2,none⟩) (Nat.le_refl _) (.int .i64 t)
   have HB4:Hid (Below w.heap.size w ((((wr.setCell ⟨w.heap.size,0,none⟩ (.int .i64 m)).setCell ⟨w.heap.size,1,none⟩ (.int .i64 p)).setCell ⟨w.heap.size,2,none⟩ (.int .i64 t)).alloc (.cells #[.int .i64 m,.int .i64 p,.int .i64 t] 92))):=B4.alloc B4.size _
   clear s4 B4
   clear HN s1 s2 s3 kX hbox
   go_wp2_with fail
   go_roundw
   case rel=>exact ⟨k+1,⟨m,p,t⟩,by omega,by go_num,.inr HN2.out,HX.out,HB4.out⟩
   case measure=>simp [intOf];omega
  have HN2:Hid (l8 (gb (k+1) f)=some ⟨bm,bp,bt⟩):=by rw [Hid,HN.out,if_neg hs]
  have HX:Hid ((wr.alloc (.cells #[.int .i64 m,.int .i64 p,.int .i64 t] 92)).heap[w.heap.size]?=some (.cells #[.int .i64 bm,.int .i64 bp,.int .i64 bt] 92 (0,0))):=kX
  clear HN kX hbox
  go_wp2_with fail
  go_roundw
  case rel=>exact ⟨k+1,⟨bm,bp,bt⟩,by omega,by go_num,.inr HN2.out,HX.out,HA.out _⟩
  case measure=>simp [intOf];omega
 obtain rfl:k=n:=by omega
 have HE:Hid ((uj (gb k f)).m=b.m):=by
  rcases HB.out with ⟨h0,_⟩ | hb
  ·
   omega
  rw [Hid,uj,hb];rfl
 have cX:=fF hbox
 go_wp2_with fail
 go_ret
 exact ⟨iM HE.out.symm,hB⟩
theorem lq (L:List Ent):gb L.length (fun i=>L.getD i default)=L:=by
 apply List.ext_getElem?
 intro i
 by_cases h:i<L.length
 ·
  simp [gb,h]
 simp [gb,h]
theorem uf {w w1 w2:World} {C:Array Value} {t:TypeId} (hb:Below w1.heap.size w1 w2) (hk:w1.heap[w.heap.size]?=some (.cells C t (0,0))):w2.heap[w.heap.size]?=some (.cells C t (0,0)):=(hb.block _ (fG hk)).trans hk
theorem qw {w w':World} {b j:Nat} (h:w.mapTurned w' b) (hj:j<w.heap.size) (hne:j≠b):w'.heap[j]?=w.heap[j]?:=h.grown.block j hj (fun e=>hne (by cases e;rfl))
theorem ts (a:Option Addr) (n cap:Nat) (f:Nat→Ent) (m p t:Int) (A:List Ent) (b:Bool) (w:World) (hn:n≤maxLen) (h:iu w a n f) (k0:-9223372036854775808≤m) (k1:m≤9223372036854775807) (hA:wG n f ⟨m,p,t⟩ A b) :
  Calls Tryz.prog 139 #[.slice a n cap,.int .i64 m,.int .i64 p,.int .i64 t] w fun e w'=>∃ v,e=.returned (.tuple #[v,.bool b])∧ks w' w.heap.size v A∧Below w.heap.size w w':=by
 have HR:Hid (iu w a n f):=h
 have HP:Hid (wG n f ⟨m,p,t⟩ A b):=hA
 obtain ⟨ok,hok⟩:=oW n f
 have HO:Hid (ok=true↔jr n f):=hok
 clear h hA hok
 have BX:Below w.heap.size w (w.alloc (.cells #[.int .i64 m,.int .i64 p,.int .i64 t] 92)):=(Below.refl _ _).alloc (Nat.le_refl _) _
 have kX:=fK w (.cells #[.int .i64 m,.int .i64 p,.int .i64 t] 92)
 go_enter Tryz.func139,Tryz.ntmps139
 go_wp2_with fail
 refine (lZ a n cap f _ hn (HR.out.up BX) ok HO.out).mono ?_
 rintro e w1 ⟨rfl,hb1⟩
 have B1:=BX.trans (hb1.mono BX.size)
 have kX1:=uf hb1 kX
 have cX:=fF kX1
 clear hb1 BX kX
 cases ok
 ·
  have HF:Hid (A=[]∧b=false):=HP.out.bad (fun hh=>absurd (HO.out.2 hh.1) (by simp))
  go_wp2_with fail
  exact bodyPost_ret (v:=.tuple #[.slice none 0 0,.bool false]) (by simp [results,Tryz.results139,go_sem]) rfl ⟨_,by rw [HF.out.2],by rw [HF.out.1];exact ks.nil _ _,B1⟩
 have HT:Hid (jr n f):=HO.out.1 rfl
 go_wp2_with fail
 refine (j8 _ _ _ _).mono ?_
 rintro e w2 ⟨rfl,hb2⟩
 have B2:=B1.trans (hb2.mono B1.size)
 have kX2:=uf hb2 kX1
 have cX:=fF kX2
 clear hb2 B1 kX1
 by_cases hx:jK ⟨m,p,t⟩
 rotate_left
 ·
  have HF:Hid (A=[]∧b=false):=HP.out.bad (fun hh=>hx hh.2)
  rw [decide_eq_false hx]
  clear hx
  go_wp2_with fail
  exact bodyPost_ret (v:=.tuple #[.slice none 0 0,.bool false]) (by simp [results,Tryz.results139,go_sem]) rfl ⟨_,by rw [HF.out.2],by rw [HF.out.1];exact ks.nil _ _,B2⟩
 have HX:Hid (jK ⟨m,p,t⟩):=hx
 have HA:Hid (A=im (gb n f) ⟨m,p,t⟩∧b=true):=HP.out.good HT.out hx
 rw [decide_eq_true hx]
 clear hx
 go_wp2_with fail
 refine (ue a n cap f _ HT.out (HR.out.up B2)).mono ?_
 rintro e w3 ⟨rfl,hown,hb3⟩
 have B3:=B2.trans (hb3.mono B2.size)
 have kX3:=uf hb3 kX2
 have hXl:w.heap.size<w2.heap.size:=fG kX2
 obtain ⟨bM,hbM⟩:∃ bM,bM=w2.heap.size:=⟨_,rfl⟩
 rw [←hbM] at hown ⊢
 have hM:w.heap.size<bM:=by rw [hbM];exact hXl
 have h8:=HT.out.1
 have hkey:keyOf Tryz.prog 2 (.int .i64 m)=some (.int .i64 m):=CK k0 k1
 clear hb3 hbM B2 kX2 cX hXl
 have HS:Hid (iA (gb n f)):=kp HT.out.2
 obtain ⟨O,hO⟩:∃ O,O=notM m (gb n f):=⟨_,rfl⟩
 have HOs:Hid (O.Sublist (gb n f)):=by rw [Hid,hO];exact jb _ _
 have hOl:=HOs.out.length_le
 rw [iH] at hOl
 have HOn:Hid (∀ y∈O,y.m≠m):=fun y hy=>by rw [hO] at hy;exact o6 hy
 have HOk:Hid (∀ y∈O,jK y):=fun y hy=>oF HT.out.2 (HOs.out.subset hy)
 have HL:Hid (im (gb n f) ⟨m,p,t⟩=if O.length=8 then iX ⟨m,p,t⟩ (notM (uj O).m O) else iX ⟨m,p,t⟩ O):=by rw [Hid,im,hO]
 have HD:Hid ((mD (gb n f)).del (.int .i64 m)=mD O):=by rw [Hid,hO,Bc]
 obtain ⟨F1,F2,F3⟩:=jQ HT.out HX.out
 have HF1:Hid (iA A):=by rw [Hid,HA.out.1];exact F1
 have HF2:Hid (A.length≤8):=by rw [Hid,HA.out.1];exact F2
 have HF3:Hid (∀ y∈A,jK y):=by rw [Hid,HA.out.1];exact F3
 clear F1 F2 F3 hO
 by_cases h9:O.length=8
 ·
  have h9':(((O.length:Nat):Int) == 8)=true:=by simp [h9]
  have HL2:Hid (A=iX ⟨m,p,t⟩ (notM (uj O).m O)):=by rw [Hid,HA.out.1,HL.out,if_pos h9]
  have H9:Hid (O.length=8):=h9
  clear h9
  go_wp2_with (at_delete;refine wpList_delete_own _ rfl _ _ 217 2 rfl 92 qc Tryz.underlying217 _ bM n _ rfl hown _ _ rfl hkey ?_;intro w4 hown4 hturn4;rw [HD.out] at hown4;have hlen4:=World.ownsMap.len hown4 Tryz.underlying217 3;rw [qW] at hlen4)
  have B4:=jX B3 hturn4 B3.size (Nat.le_of_lt hM)
  have kX4:=(qw hturn4 (fG kX3) (by omega)).trans kX3
  clear hturn4 B3 kX3 hown hlen4 h9'
  refine (mA _ hown4 (HS.out.sub HOs.out) (by omega) (fun y hy=>(HOk.out y hy).1)).mono ?_
  rintro e w5 ⟨vO,rfl,hvO,hb5⟩
  obtain ⟨aO,cO,hv,rO⟩:=hvO.read
  subst hv
  have B5:=B4.trans (hb5.mono B4.size)
  have kX5:=uf hb5 kX4
  have hown5:kg w5 bM n O:=kg.kept hown4 (hb5.block _ (World.ownsMap.lt hown4))
  clear hb5 B4 kX4 hown4 hvO
  go_wp2_with fail
  refine (wZ aO O.length cO _ _ (by have:=H9.out;omega) (by have:=H9.out;omega) rO).mono ?_
  rintro e w6 ⟨rfl,hb6⟩
  rw [lq]
  have B6:=B5.trans (hb6.mono B5.size)
  have kX6:=uf hb6 kX5
  have hown6:kg w6 bM n O:=kg.kept hown5 (hb6.block _ (World.ownsMap.lt hown5))
  clear hb6 B5 kX5 hown5 rO
  have hq:=(HOk.out _ (vW (by intro e;have:=H9.out;rw [e] at this;simp at this)).1).1
  have HL3:Hid (A=iX ⟨m,p,t⟩ (notM m (notM (uj O).m O))):=by
   rw [Hid,HL2.out,km (k:=m) (fun y hy=>HOn.out y ((jb _ _).subset hy))]
  have HD2:Hid ((mD O).del (.int .i64 (uj O).m)=mD (notM (uj O).m O)):=Bc _ _
  generalize (uj O).m=q at *
  have hkq:keyOf Tryz.prog 2 (.int .i64 q)=some (.int .i64 q):=CK (by omega) (by omega)
  clear hq HL2
  go_wp2_with (at_delete;refine wpList_delete_own _ rfl _ _ 217 2 rfl 92 qc Tryz.underlying217 _ bM n _ rfl hown6 _ _ rfl hkq ?_;intro w7 hown7 hturn7;rw [HD2.out] at hown7;have kX7:=(qw hturn7 (fG kX6) (by omega)).trans kX6;have cX:=fF kX7;obtain ⟨w8,hrun8,hown8,hturn8⟩:=yc (p:=p) (t:=t) hown7 (show n<maxLen by unfold maxLen;omega) k0 k1)
  have B7:=jX B6 hturn7 B6.size (Nat.le_of_lt hM)
  have B8:=jX B7 hturn8 B7.size (Nat.le_of_lt hM)
  rw [←HL3.out] at hown8
  clear hturn7 hturn8 hrun8 hown7 hown6 B6 B7 kX6 kX7 cX
  refine (mA _ hown8 HF1.out HF2.out (fun y hy=>(HF3.out y hy).1)).mono ?_
  rintro e w9 ⟨v,rfl,hv,hb9⟩
  have B9:=B8.trans (hb9.mono B8.size)
  have HV:Hid (ks w9 w.heap.size v A):=hv.mono B8.size
  clear hv hb9 B8
  exact cZ
 have h9':(((O.length:Nat):Int) == 8)=false:=by simp;omega
 have HL2:Hid (A=iX ⟨m,p,t⟩ O):=by rw [Hid,HA.out.1,HL.out,if_neg h9]
 clear h9
 go_wp2_with (at_delete;refine wpList_delete_own _ rfl _ _ 217 2 rfl 92 qc Tryz.underlying217 _ bM n _ rfl hown _ _ rfl hkey ?_;intro w4 hown4 hturn4;rw [HD.out] at hown4;have hlen4:=World.ownsMap.len hown4 Tryz.underlying217 3;rw [qW] at hlen4;have kX4:=(qw hturn4 (fG kX3) (by omega)).trans kX3;have cX:=fF kX4;obtain ⟨w6,hrun6,hown6,hturn6⟩:=yc (p:=p) (t:=t) hown4 (show n<maxLen by unfold maxLen;omega) k0 k1)
 have B4:=jX B3 hturn4 B3.size (Nat.le_of_lt hM)
 have B6:=jX B4 hturn6 B4.size (Nat.le_of_lt hM)
 have HL3:Hid (A=iX ⟨m,p,t⟩ (notM m O)):=by rw [Hid,HL2.out,km (k:=m) HOn.out]
 rw [←HL3.out] at hown6
 clear hturn4 hturn6 hrun6 hown4 hown B3 B4 kX3 kX4 cX hlen4 h9'
 refine (mA _ hown6 HF1.out HF2.out (fun y hy=>(HF3.out y hy).1)).mono ?_
 rintro e w9 ⟨v,rfl,hv,hb9⟩
 have B9:=B6.trans (hb9.mono B6.size)
 have HV:Hid (ks w9 w.heap.size v A):=hv.mono B6.size
 clear hv hb9 B6
 exact cZ
structure Mk2 (R:Rnd) (w W:World) (E1 E2:Option Nat) (Q D:Option (Option Addr)) (B:Option Nat):Prop where
 below:Below w.heap.size w W
 e1:∀ g,E1=some g→w.heap.size≤g∧W.heap[g]?=some (.cells #[] 2 (0,0))
 e2:∀ g,E2=some g→w.heap.size≤g∧W.heap[g]?=some (.cells #[] 2 (0,0))
 ee:∀ g g',E1=some g→E2=some g'→g≠g'
 q:∀ a,Q=some a→VI W w.heap.size a R.nQ R.q
 d:∀ a,D=some a→VI W w.heap.size a R.nD R.d
 qe:∀ a g,Q=some a→E2=some g→g∉jO a R.nQ
 qd:∀ a a',Q=some a→D=some a'→jy a R.nQ a' R.nD
 b:∀ g,B=some g→w.heap.size≤g∧W.heap[g]?=some (.cells oJ 97 (0,0))
theorem Mk2.start {R:Rnd} {w W:World} (h:Below w.heap.size w W):Mk2 R w W none none none none none :=
 ⟨h,fun _ e=>by simp at e,fun _ e=>by simp at e,fun _ _ e=>by simp at e,fun _ e=>by simp at e,fun _ e=>by simp at e,fun _ _ e=>by simp at e,fun _ _ e=>by simp at e,fun _ e=>by simp at e⟩
theorem Mk2.up {R:Rnd} {w W W':World} {E1 E2:Option Nat} {Q D:Option (Option Addr)} {B:Option Nat} (h:Mk2 R w W E1 E2 Q D B) (hb:Below W.heap.size W W'):Mk2 R w W' E1 E2 Q D B :=
 ⟨h.below.trans (hb.mono h.below.size),fun g e=>⟨(h.e1 g e).1,(hb.block _ (fG (h.e1 g e).2)).trans (h.e1 g e).2⟩,fun g e=>⟨(h.e2 g e).1,(hb.block _ (fG (h.e2 g e).2)).trans (h.e2 g e).2⟩,h.ee,fun a e=>(h.q a e).up hb,fun a e=>(h.d a e).up hb,h.qe,h.qd,
  fun g e=>⟨(h.b g e).1,(hb.block _ (fG (h.b g e).2)).trans (h.b g e).2⟩⟩
theorem Mk2.Ap {R:Rnd} {w W:World} {E2:Option Nat} {Q D:Option (Option Addr)} {B:Option Nat} (h:Mk2 R w W none E2 Q D B) :
  ∃ g W',g=W.heap.size∧W'=W.alloc (.cells #[] 2)∧Mk2 R w W' (some g) E2 Q D B:=by
 have h':=h.up (W':=W.alloc (.cells #[] 2)) ((Below.refl _ _).alloc (Nat.le_refl _) _)
 exact ⟨_,_,rfl,rfl,h'.below,fun g e=>by cases e;exact ⟨h.below.size,fK _ _⟩,h'.e2,fun g g' e e'=>by cases e;have:=fG (h.e2 g' e').2;omega,h'.q,h'.d,h'.qe,h'.qd,h'.b⟩
theorem Mk2.wQ {R:Rnd} {w W:World} {E1:Option Nat} {Q D:Option (Option Addr)} {B:Option Nat} (h:Mk2 R w W E1 none Q D B) :
  ∃ g W',g=W.heap.size∧W'=W.alloc (.cells #[] 2)∧Mk2 R w W' E1 (some g) Q D B:=by
 have h':=h.up (W':=W.alloc (.cells #[] 2)) ((Below.refl _ _).alloc (Nat.le_refl _) _)
 exact ⟨_,_,rfl,rfl,h'.below,h'.e1,fun g e=>by cases e;exact ⟨h.below.size,fK _ _⟩,fun g g' e e'=>by cases e';have:=fG (h.e1 g e).2;omega,h'.q,h'.d,fun a g e e' hx=>by cases e';have:=((h.q a e).blk _ hx).2;omega,h'.qd,h'.b⟩
theorem Mk2.A6 {R:Rnd} {w W:World} {E1 E2:Option Nat} {Q D:Option (Option Addr)} (h:Mk2 R w W E1 E2 Q D none) :
  ∃ g W',g=W.heap.size∧W'=W.alloc (.cells #[.slice none 0 0,.slice none 0 0,.int .i64 0,.bool false,.slice none 0 0] 97)∧Mk2 R w W' E1 E2 Q D (some g):=by
 have h':=h.up (W':=W.alloc (.cells oJ 97)) ((Below.refl _ _).alloc (Nat.le_refl _) _)
 exact ⟨_,_,rfl,rfl,h'.below,h'.e1,h'.e2,h'.ee,h'.q,h'.d,h'.qe,h'.qd,fun g e=>by cases e;exact ⟨h.below.size,fK _ _⟩⟩
theorem Bo {W:World} {g gE:Nat} {arr:Array Value} {t:TypeId} (ht:t≠2) (h:W.heap[g]?=some (.cells arr t (0,0))) (hE:W.heap[gE]?=some (.cells #[] 2 (0,0))):g≠gE:=by
 rintro rfl
 rw [h] at hE
 simp at hE
 exact ht hE.2
theorem Mk2.CZ {R:Rnd} {w W:World} {E2:Option Nat} {B:Option Nat} {g1:Nat} {a:Option Addr} (c:Nat) (h:Mk2 R w W (some g1) E2 none none B) (hn:R.nQ≤1048576) (hr:fW W a R.nQ fun i=>.int .i64 (R.q i)) :
  ∃ aq cq W',(Builtin.append_ #[25,25] 25 #[.slice (some ⟨g1,0,none⟩) 0 0,.slice a R.nQ c]).run Tryz.prog W=.ok (.slice aq R.nQ cq) W'∧Mk2 R w W' none E2 (some aq) none B:=by
 have hE:=h.e1 g1 rfl
 obtain ⟨a',c',W',hrun,ho,hg,hp⟩:=l9 (c:=c) (o4 hE.1 hE.2) h.below.size hn hr
 have hk:∀ k,k<W.heap.size→k≠g1→W'.heap[k]?=W.heap[k]?:=fun k hk hne=>hg.block k hk (by simpa [Value.ownBlock] using hne)
 refine ⟨a',c',W',hrun,h.below.grown hg h.below.size (fun k e=>by simp [Value.ownBlock] at e;rw [←e];exact hE.1),fun _ e=>by simp at e,fun g e=>⟨(h.e2 g e).1,(hk g (fG (h.e2 g e).2) (h.ee g1 g rfl e).symm).trans (h.e2 g e).2⟩,fun _ _ e=>by simp at e,fun a e=>by cases e;exact ho.vi,fun _ e=>by simp at e,fun a g e e' hx=>?_,fun _ _ _ e=>by simp at e,fun g e=>⟨(h.b g e).1,(hk g (fG (h.b g e).2) (Bo (by decide) (h.b g e).2 hE.2)).trans (h.b g e).2⟩⟩
 cases e
 rcases hp g (iU hx) with h6 | h6
 ·
  simp [Value.ownBlock] at h6
  exact h.ee g1 g rfl e' h6.symm
 have:=fG (h.e2 g e').2
 omega
theorem Mk2.Dd {R:Rnd} {w W:World} {B:Option Nat} {g2:Nat} {a aq:Option Addr} (c:Nat) (h:Mk2 R w W none (some g2) (some aq) none B) (hn:R.nD≤1048576) (hr:fW W a R.nD fun i=>.int .i64 (R.d i)) :
  ∃ ad cd W',(Builtin.append_ #[25,25] 25 #[.slice (some ⟨g2,0,none⟩) 0 0,.slice a R.nD c]).run Tryz.prog W=.ok (.slice ad R.nD cd) W'∧Mk2 R w W' none none (some aq) (some ad) B:=by
 have hE:=h.e2 g2 rfl
 obtain ⟨a',c',W',hrun,ho,hg,hp⟩:=l9 (c:=c) (o4 hE.1 hE.2) h.below.size hn hr
 have hk:∀ k,k<W.heap.size→k≠g2→W'.heap[k]?=W.heap[k]?:=fun k hk hne=>hg.block k hk (by simpa [Value.ownBlock] using hne)
 refine ⟨a',c',W',hrun,h.below.grown hg h.below.size (fun k e=>by simp [Value.ownBlock] at e;rw [←e];exact hE.1),fun _ e=>by simp at e,fun _ e=>by simp at e,fun _ _ e=>by simp at e,fun a e=>by cases e;exact (h.q aq rfl).CL (fun x hx hlt=>hk x hlt (fun e=>h.qe aq g2 rfl rfl (e▸hx))),fun a e=>by cases e;exact ho.vi,fun _ _ _ e=>by simp at e,fun a a2 e e' x hx hy=>?_,fun g e=>⟨(h.b g e).1,(hk g (fG (h.b g e).2) (Bo (by decide) (h.b g e).2 hE.2)).trans (h.b g e).2⟩⟩
 cases e
 cases e'
 rcases hp x (iU hy) with h6 | h6
 ·
  simp [Value.ownBlock] at h6
  exact h.qe aq g2 rfl rfl (h6▸hx)
 have:=((h.q aq rfl).blk x hx).2
 omega
def slV (k:Nat) (A:Nat→Option Addr) (L C:Nat→Nat):List Value:=(List.range k).map fun i=>.slice (A i) (L i) (C i)
theorem Am (k:Nat) (A:Nat→Option Addr) (L C:Nat→Nat) (a:Option Addr) (c:Nat):slV k A L C++[.slice a (L k) c]=slV (k+1) (fun i=>if i=k then a else A i) L (fun i=>if i=k then c else C i):=by
 unfold slV
 rw [List.range_succ,List.map_append]
 congr 1
 ·
  refine List.map_congr_left fun j hj=>?_
  have:j<k:=List.mem_range.1 hj
  dsimp only
  rw [if_neg (show ¬ j=k by omega),if_neg (show ¬ j=k by omega)]
 simp
theorem VI.ow {W W':World} {base:Nat} {a:Option Addr} {n:Nat} {f:Nat→Int} (h:VI W base a n f) (hk:∀ (g:Nat) (arr:Array Value),W.heap[g]?=some (.cells arr 2 (0,0))→W'.heap[g]?=some (.cells arr 2 (0,0))):VI W' base a n f :=
 h.imp id (by
  rintro ⟨g,ha,hg,arr,hb,hr⟩
  exact ⟨g,ha,hg,arr,hk g arr hb,hr⟩)
theorem OI.ow {W W':World} {base:Nat} {a:Option Addr} {n c:Nat} {f:Nat→Int} (h:OI W base a n c f) (hk:∀ (g:Nat) (arr:Array Value),W.heap[g]?=some (.cells arr 2 (0,0))→W'.heap[g]?=some (.cells arr 2 (0,0))):OI W' base a n c f:=by
 refine ⟨h.1,h.2.imp id ?_⟩
 rintro ⟨g,cap,cur,e,hg,hbk,hr⟩
 exact ⟨g,cap,cur,e,hg,hk g cur hbk,hr⟩
structure Cp2 (R:Rnd) (base:Nat) (W:World) (aQ aD av:Option Addr) (cv:Nat) (A:Nat→Option Addr) (C:Nat→Nat) (k:Nat):Prop where
 q:VI W base aQ R.nQ R.q
 d:VI W base aD R.nD R.d
 s:W.ownsRow base 25 1 (.slice av k cv) k (slV k A R.L C)
 z:∀ i,i<k→OI W base (A i) (R.L i) (C i) (R.z i)
 qd:jy aQ R.nQ aD R.nD
 qz:∀ i,i<k→∀ x∈jO aQ R.nQ,x∉gi (A i)
 dz:∀ i,i<k→∀ x∈jO aD R.nD,x∉gi (A i)
 zz:∀ i j,i<k→j<k→i≠j→∀ x∈gi (A i),x∉gi (A j)
theorem Ar {w:World} {base n:Nat} {e:TypeId} {sz:Nat} {v:Value} {xs:List Value} (h:w.ownsRow base e sz v n xs):∃ a c,v=.slice a n c:=by
 rcases h.2 with ⟨e,h0⟩ | ⟨g,cap,cur,e,_⟩
 ·
  subst h0
  exact ⟨_,_,e⟩
 exact ⟨_,_,e⟩
theorem Cp2.step {R:Rnd} {base:Nat} {W:World} {aQ aD av:Option Addr} {cv:Nat} {A:Nat→Option Addr} {C:Nat→Nat} {k:Nat} (h:Cp2 R base W aQ aD av cv A C k) (hk:k<1048576) (hl:R.L k≤1048576) (hb:base≤W.heap.size) (hr:fW (W.alloc (.cells #[] 2)) (R.A k) (R.L k) fun j=>.int .i64 (R.z k j)) (cc:Nat) :
  ∃ a' c' W2 av' cv' W4,(Builtin.append_ #[25,25] 25 #[.slice (some ⟨W.heap.size,0,none⟩) 0 0,.slice (R.A k) (R.L k) cc]).run Tryz.prog (W.alloc (.cells #[] 2))=.ok (.slice a' (R.L k) c') W2 ∧
   (Builtin.append_ #[83,83] 83 #[.slice av k cv,.slice (some ⟨W2.heap.size,0,none⟩) 1 1]).run Tryz.prog (W2.alloc (.cells #[.slice a' (R.L k) c'] 25))=.ok (.slice av' (k+1) cv') W4 ∧
   Cp2 R base W4 aQ aD av' cv' (fun i=>if i=k then a' else A i) (fun i=>if i=k then c' else C i) (k+1)∧Below base W W4∧Below W.heap.size W W2 ∧
   (∀ (g:Nat) (arr:Array Value) (t:TypeId),t≠25→W.heap[g]?=some (.cells arr t (0,0))→W4.heap[g]?=some (.cells arr t (0,0))):=by
 have hA:Below W.heap.size W (W.alloc (.cells #[] 2)):=(Below.refl _ _).alloc (Nat.le_refl _) _
 have e1:(W.alloc (.cells #[] 2)).heap.size=W.heap.size+1:=by simp
 obtain ⟨a',c',W2,r1,ho,hg,hp⟩:=l9 (W:=W.alloc (.cells #[] 2)) (base:=W.heap.size) (c:=cc) (o4 (Nat.le_refl _) (fK W _)) (by omega) hl hr
 have B2:Below W.heap.size W W2:=hA.grown hg (by omega) (fun x e=>by simp [Value.ownBlock] at e;omega)
 have hA3:Below W2.heap.size W2 (W2.alloc (.cells #[.slice a' (R.L k) c'] 25)):=(Below.refl _ _).alloc (Nat.le_refl _) _
 have e3:(W2.alloc (.cells #[.slice a' (R.L k) c'] 25)).heap.size=W2.heap.size+1:=by simp
 have B3:Below W.heap.size W (W2.alloc (.cells #[.slice a' (R.L k) c'] 25)):=B2.trans (hA3.mono B2.size)
 obtain ⟨i0,hi,hz0,hz1,hz2⟩:=info_parts tm
 have hnew:=fF (fK W2 (.cells #[.slice a' (R.L k) c'] 25))
 obtain ⟨v',W4,r2,h2,h3,h4,h5⟩:=run_append_own_at (P:=Tryz.prog) (W2.alloc (.cells #[.slice a' (R.L k) c'] 25)) base 83 83 25 i0 (.slice none 0 0) 1 24 Tryz.underlying83 hi hz0 hz1 hz2 rfl (by decide) (.slice av k cv) k (slV k A R.L C) (k7 h.s B3 (Nat.le_refl _)) ⟨W2.heap.size,0,none⟩ 1 1 [.slice a' (R.L k) c'] rfl (fun j u hj=>by
  have hj0:j=0:=by
   have:=(List.getElem?_eq_some_iff.1 hj).1
   simp at this
   exact this
  subst hj0
  have e:(⟨W2.heap.size,0,none⟩:Addr).add 0=⟨W2.heap.size,0,none⟩:=by unfold Addr.add;split <;> simp_all
  rw [e,hnew 0]
  simpa using hj) (fun u hu=>by
  simp at hu
  subst hu
  rfl) (by unfold maxLen;omega) (by omega) (by have:=B2.size;omega)
 rw [Am] at h2
 obtain ⟨av',cv',rfl⟩:=Ar h2
 have hty:∀ x,(Value.slice av k cv).ownBlock=some x→base≤x∧∃ arr,W.heap[x]?=some (.cells arr 25 (0,0)):=fun x hx=>by
  rcases h.s.2 with ⟨e,_⟩ | ⟨g,cap,cur,e,hg,hbk,_⟩
  ·
   rw [e] at hx
   simp [Value.ownBlock] at hx
  rw [e] at hx
  simp [Value.ownBlock] at hx
  subst hx
  exact ⟨hg,cur,hbk⟩
 have hkeep:∀ (g:Nat) (arr:Array Value) (t:TypeId),t≠25→(W2.alloc (.cells #[.slice a' (R.L k) c'] 25)).heap[g]?=some (.cells arr t (0,0))→W4.heap[g]?=some (.cells arr t (0,0)):=fun g arr t ht hgg=>by
  refine (h3.block g (fG hgg) (fun e=>?_)).trans hgg
  obtain ⟨_,arr',h'⟩:=hty g e.symm
  have h6:=(B3.block g (fG h')).trans h'
  rw [hgg] at h6
  simp at h6
  exact ht h6.2
 have k2:∀ (g:Nat) (arr:Array Value),W.heap[g]?=some (.cells arr 2 (0,0))→W4.heap[g]?=some (.cells arr 2 (0,0)):=fun g arr hgg=>hkeep g arr 2 (by decide) ((B3.block g (fG hgg)).trans hgg)
 have hoW:OI W4 W.heap.size a' (R.L k) c' (R.z k):=(ho.up hA3).ow (fun g arr hgg=>hkeep g arr 2 (by decide) hgg)
 refine ⟨a',c',W2,av',cv',W4,r1,r2,⟨h.q.ow k2,h.d.ow k2,h2,fun i hi=>?_,h.qd,fun i hi=>?_,fun i hi=>?_,fun i j hi hj hne=>?_⟩,?_,B2,fun g arr t ht hgg=>hkeep g arr t ht ((B3.block g (fG hgg)).trans hgg)⟩
 ·
  by_cases e:i=k
  ·
   subst e
   simp only [if_true]
   exact hoW.mono hb
  simp only [if_neg e]
  exact (h.z i (by omega)).ow k2
 ·
  by_cases e:i=k
  ·
   subst e
   simp only [if_true]
   exact mg h.q hoW (Nat.le_refl _)
  simp only [if_neg e]
  exact h.qz i (by omega)
 ·
  by_cases e:i=k
  ·
   subst e
   simp only [if_true]
   exact mg h.d hoW (Nat.le_refl _)
  simp only [if_neg e]
  exact h.dz i (by omega)
 ·
  by_cases e:i=k
  ·
   subst e
   simp only [if_true,if_neg (Ne.symm hne)]
   exact fun x hx hy=>lI (h.z j (by omega)) hoW (Nat.le_refl _) x hy hx
  by_cases e2:j=k
  ·
   subst e2
   simp only [if_true,if_neg e]
   exact lI (h.z i (by omega)) hoW (Nat.le_refl _)
  simp only [if_neg e,if_neg e2]
  exact h.zz i j (by omega) (by omega) hne
 exact (B3.mono hb).grown h3 (by have:=B2.size;omega) (fun x e=>(hty x e).1)
theorem Cp2.up {R:Rnd} {base:Nat} {W W':World} {aQ aD av:Option Addr} {cv:Nat} {A:Nat→Option Addr} {C:Nat→Nat} {k:Nat} (h:Cp2 R base W aQ aD av cv A C k) (hb:Below W.heap.size W W'):Cp2 R base W' aQ aD av cv A C k :=
 ⟨h.q.up hb,h.d.up hb,k7 h.s hb (Nat.le_refl _),fun i hi=>(h.z i hi).up hb,h.qd,h.qz,h.dz,h.zz⟩
theorem Cp2.ow {R:Rnd} {base:Nat} {W W':World} {aQ aD av:Option Addr} {cv:Nat} {A:Nat→Option Addr} {C:Nat→Nat} {k:Nat} (h:Cp2 R base W aQ aD av cv A C k) (h2:∀ (g:Nat) (arr:Array Value),W.heap[g]?=some (.cells arr 2 (0,0))→W'.heap[g]?=some (.cells arr 2 (0,0))) (h3:∀ (g:Nat) (arr:Array Value),W.heap[g]?=some (.cells arr 25 (0,0))→W'.heap[g]?=some (.cells arr 25 (0,0))):Cp2 R base W' aQ aD av cv A C k:=by
 refine ⟨h.q.ow h2,h.d.ow h2,⟨h.s.1,h.s.2.imp id ?_⟩,fun i hi=>(h.z i hi).ow h2,h.qd,h.qz,h.dz,h.zz⟩
 rintro ⟨g,cap,cur,e,hg,hbk,hr⟩
 exact ⟨g,cap,cur,e,hg,h3 g cur hbk,hr⟩
def Rnd.cp2 (R:Rnd) (aQ:Option Addr) (cQ:Nat) (aD:Option Addr) (cD:Nat) (av:Option Addr) (cv:Nat) (A:Nat→Option Addr) (C:Nat→Nat):Rnd :=
 ⟨aQ,R.nQ,cQ,R.q,aD,R.nD,cD,R.d,R.turn,R.fresh,av,R.nS,cv,A,R.L,C,R.z⟩
theorem Cp2.own {R:Rnd} {base:Nat} {W:World} {aQ aD av:Option Addr} {cv:Nat} {A:Nat→Option Addr} {C:Nat→Nat} (h:Cp2 R base W aQ aD av cv A C R.nS) (cQ cD:Nat):iv W base (R.cp2 aQ cQ aD cD av cv A C):=by
 refine ⟨⟨h.q,h.d,?_,fun i hi=>(h.z i hi).vi,h.qd,fun i hi x hx hy=>h.qz i hi x hx (iU hy),fun i hi x hx hy=>h.dz i hi x hx (iU hy),fun i j hi hj hne x hx hy=>h.zz i j hi hj hne x (iU hx) (iU hy)⟩,h.z,h.qz,h.dz,h.zz⟩
 rcases h.s.2 with ⟨_,h0⟩ | ⟨g,cap,cur,e,hg,hbk,hnc,hcm,hcs,htake⟩
 ·
  exact .inl h0
 injection e with e2
 refine .inr ⟨g,e2,hg,cur,hbk,by show R.nS≤_;omega,fun i hi=>?_⟩
 have hi':i<R.nS:=hi
 have e3:(cur.toList.take (R.nS*1))[i]?=some (.slice (A i) (R.L i) (C i)):=by rw [htake];simp [slV,hi']
 rw [List.getElem?_take_of_lt (by omega)] at e3
 have e4:cur[i]?=some (Value.slice (A i) (R.L i) (C i)):=by simpa using e3
 exact e4
end Go.Proofs.YtjaobmbcmjgjgaaGreatDoor
