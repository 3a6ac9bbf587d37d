import Derived.Test.YtjippgbmmlcgoaaGreatDoorB07
import Derived.Test.YtjippgbmmlcgoaaGreatDoorB08
namespace Go.Proofs.YtjippgbmmlcgoaaGreatDoor
set_option maxRecDepth 100000
set_option maxHeartbeats 9000000
open Go.RowKit
set_option linter.unusedVariables false
set_option linter.unusedSimpArgs false
variable {a:Act} {ops:Array Oper} {Q:Exit→Act→World→Prop} {rest:List Oper} {g n:Nat} {f:Nat→Value} {o o':Obj} {p:Prop} {t:TypeId} {w wi:World}
theorem bl (h:p:=by
 iterate 16 refine sN ?_
 refine tN ?_
 exact bs):p:=h
theorem bo (h:p:=by
 go_wp2_with fail
 go_ret
 exact ⟨rfl,under hB⟩):p:=h
theorem bq (h:p:=by
 refine dnq ?_
 clear c1 c2 c3 he sB hb1 hHeld
 go_wp2_with fail
 go_ret
 exact ⟨iv HF.symm,b1⟩):p:=h
theorem br (h:p:=by
 go_enter Tryz.func72,Tryz.ntmps72
 go_wp2_with fail
 go_ret
 exact ⟨rfl,rfl⟩):p:=h
theorem bs (h:p:=by
 refine dnq ?_
 go_wp2_with fail
 go_ret
 exact ⟨iv HF.symm,hB.drew⟩):p:=h
structure yn (C:Cfg) (N:Cnt) (port prio cells:Int):Prop where
 ok:Cnt.Ok C N
 port:0≤port∧port≤C.p-1
 prio:0≤prio∧prio≤2
 cells:1≤cells∧cells≤5
theorem yg (n:Int) (w:World) :
  Calls Tryz.prog 144 #[.int .i64 n] w fun e w'=>e=.returned (.bool (decide (1≤n∧n≤5)))∧w'=w:=by
 by_cases h1:1≤n
 ·
  go_enter Tryz.func144,Tryz.ntmps144
  go_wp2
  go_ret
  exact ⟨by simp [h1],rfl⟩
 go_enter Tryz.func144,Tryz.ntmps144
 exact ak
theorem Ca (C:Cfg) (N:Cnt) (port prio cells:Int) (w:World) (hf:N.Fit) (h:my w N) (ok:Bool) (hok:ok=true↔yn C N port prio cells) :
  Calls Tryz.prog 131 #[.agg C.cells,.agg N.cells,.int .i64 port,.int .i64 prio,.int .i64 cells] w fun e w'=>e=.returned (.bool ok)∧Below w.heap.size w w':=by
 obtain ⟨b,hb⟩:=oo (Cnt.Ok C N)
 have HO:=aa hok
 have HR:=aa h
 have HF:=aa hf
 have HCb:=aa hb
 have HB0:Hid (Below (w.heap.size+2) ((w.alloc (.cells #[.int .i64 C.p,.int .i64 C.c,.int .i64 C.xo,.int .i64 C.xn,.int .i64 C.hd,.int .i64 C.lo,.int .i64 C.dl] 25)).alloc (.cells #[.slice N.aU N.nU N.cU,.int .i64 N.lo,.slice N.aP N.nP N.cP] 30)) ((w.alloc (.cells #[.int .i64 C.p,.int .i64 C.c,.int .i64 C.xo,.int .i64 C.xn,.int .i64 C.hd,.int .i64 C.lo,.int .i64 C.dl] 25)).alloc (.cells #[.slice N.aU N.nU N.cU,.int .i64 N.lo,.slice N.aP N.nP N.cP] 30))):=Below.refl _ _
 clear hok h hf hb
 unfold Cfg.cells Cnt.cells
 go_enter Tryz.func131,Tryz.ntmps131
 go_wp2_with fail
 refine (ma C N _ HF (HR.up (jt HB0)) b HCb).mono ?_
 rintro e w1 ⟨rfl,hb1⟩
 have hB:=ki HB0 hb1
 have cb:=(je hB).1
 have cn:=(je hB).2
 clear hb1
 cases b
 ·
  have HE:Hid (ok=false):=by
   show ok=false
   rw [Bool.eq_false_iff]
   intro e
   have:=HCb.2 (HO.1 e).ok
   cases this
  have B:=jt hB
  exact aX
 have HC:Hid (Cnt.Ok C N):=HCb.1 rfl
 clear HCb
 have hp1:2≤C.p:=HC.c.num.p.1
 have hp2:C.p≤4:=HC.c.num.p.2
 go_wp2_with fail
 refine (iS _ _ _ _).mono ?_
 rintro e w' ⟨rfl,hw⟩
 rw [hw]
 clear hw w'
 by_cases h_port:0≤port∧port≤C.p-1
 rotate_left
 ·
  have HE:Hid (ok=false):=by
   show ok=false
   rw [Bool.eq_false_iff]
   intro e
   exact h_port (HO.1 e).port
  have B:=jt hB
  rw [decide_eq_false h_port]
  clear h_port
  exact aX
 rw [decide_eq_true h_port]
 have H_port:=aa h_port
 clear h_port
 go_wp2_with fail
 refine (iS _ _ _ _).mono ?_
 rintro e w' ⟨rfl,hw⟩
 rw [hw]
 clear hw w'
 by_cases h_prio:0≤prio∧prio≤2
 rotate_left
 ·
  have HE:Hid (ok=false):=by
   show ok=false
   rw [Bool.eq_false_iff]
   intro e
   exact h_prio (HO.1 e).prio
  have B:=jt hB
  rw [decide_eq_false h_prio]
  clear h_prio
  exact aX
 rw [decide_eq_true h_prio]
 have H_prio:=aa h_prio
 clear h_prio
 go_wp2_with fail
 refine (yg _ _).mono ?_
 rintro e w' ⟨rfl,hw⟩
 rw [hw]
 clear hw w'
 by_cases h_cells:1≤cells∧cells≤5
 rotate_left
 ·
  have HE:Hid (ok=false):=by
   show ok=false
   rw [Bool.eq_false_iff]
   intro e
   exact h_cells (HO.1 e).cells
  have B:=jt hB
  rw [decide_eq_false h_cells]
  clear h_cells
  exact aX
 rw [decide_eq_true h_cells]
 have H_cells:=aa h_cells
 clear h_cells
 have HT:Hid (ok=true):=HO.2 ⟨HC.out,H_port.out,H_prio.out,H_cells.out⟩
 have B:=jt hB
 go_wp2_with fail
 go_ret
 exact ⟨iv HT.symm,B⟩
theorem pW (port:Int) (w:World):Calls Tryz.prog 72 #[.int .i64 port,.int .i64 2] w fun e w'=>e=.returned (.iface 156 (.agg #[.int .i64 port]))∧w'=w:=br
theorem pn (port prio:Int) (w:World) (h:prio≠2):Calls Tryz.prog 72 #[.int .i64 port,.int .i64 prio] w fun e w'=>e=.returned (.iface 154 (.agg #[]))∧w'=w:=by
 have h':(prio == 2)=false:=by simpa using h
 clear h
 exact br
theorem ja.wz (h:ja g t n f n w) (j:Nat) (v:Value) (hj:j<n):ja g t n (fun i=>if i=j then v else f i) n (w.setCell ⟨g,j,none⟩ v):=by
 obtain ⟨arr,hb,hn,hc⟩:=h
 refine ⟨_,iL hb _,by simpa using hn,fun i hi=>?_⟩
 by_cases e:i=j
 ·
  subst e
  rw [Array.getElem?_setIfInBounds_self_of_lt (by omega)];simp
 rw [Array.getElem?_setIfInBounds_ne (by omega)]
 simp only [if_neg e]
 exact hc i hi
theorem ja.AM {f':Nat→Value} (h:ja g t n f n w) (e:∀ i,i<n→f i=f' i):ja g t n f' n w:=by
 obtain ⟨arr,hb,hn,hc⟩:=h
 exact ⟨arr,hb,hn,fun i hi=>by rw [←e i hi];exact hc i hi⟩
def qt (u:Nat→Int) (i:Nat) (y:Int):Nat→Int:=fun k=>if k=i then u k+y else u k
theorem ov (g:Nat) (v0 v2:Value) (lo y:Int) (w:World) (k:w.heap[g]?=some (.cells #[v0,.int .i64 lo,v2] 30 (0,0))) (h1:-10000≤lo+y) (h2:lo+y≤10000) :
  Calls Tryz.prog 190 #[.agg #[],.pointer (some ⟨g,0,none⟩),.int .i64 y] w fun e w'=>e=.returned (.tuple #[])∧w'.heap[g]?=some (.cells #[v0,.int .i64 (lo+y),v2] 30 (0,0))∧Touch [g] w w':=by
 have e1:IntKind.i64.wrap (lo+y)=lo+y:=lI _ (by omega) (by omega)
 have hb:Below w.heap.size w (w.alloc (.cells #[] 154)):=(Below.refl _ _).alloc (Nat.le_refl _) _
 have k1:=(hb.block _ (ig k)).trans k
 have HK:Hid (((w.alloc (.cells #[] 154)).setCell ⟨g,1,none⟩ (.int .i64 (lo+y))).heap[g]?=some (.cells #[v0,.int .i64 (lo+y),v2] 30 (0,0))):=iL k1 _
 have HT:Hid (Touch [g] w ((w.alloc (.cells #[] 154)).setCell ⟨g,1,none⟩ (.int .i64 (lo+y)))):=(Touch.jq hb).set (by simp) 1 _
 have c1:=ie k1
 have f1:=ix k1
 clear k k1 hb h1 h2
 go_enter Tryz.func190,Tryz.ntmps190
 go_wp2_with fail
 go_returns
 exact ⟨rfl,HK,HT⟩
theorem pg (g gU nU cU i:Nat) (v1 v2:Value) (u:Nat→Int) (y:Int) (w:World) (hi:i<nU) (hm:nU≤1048576) (k:w.heap[g]?=some (.cells #[.slice (some ⟨gU,0,none⟩) nU cU,v1,v2] 30 (0,0))) (hr:ja gU 2 nU (fun i=>.int .i64 (u i)) nU w) (h1:-10000≤u i+y) (h2:u i+y≤10000) :
  Calls Tryz.prog 193 #[.agg #[.int .i64 i],.pointer (some ⟨g,0,none⟩),.int .i64 y] w fun e w'=>e=.returned (.tuple #[])∧ja gU 2 nU (fun k=>.int .i64 (qt u i y k)) nU w'∧Touch [gU] w w':=by
 have e1:IntKind.i64.wrap (u i+y)=u i+y:=lI _ (by omega) (by omega)
 have hi2:(i:Int)<nU:=by omega
 have hm2:(nU:Int)≤1048576:=by omega
 have hb:Below w.heap.size w (w.alloc (.cells #[.int .i64 i] 156)).drew:=((Below.refl _ _).alloc (Nat.le_refl _) _).drew
 have k1:=(hb.block _ (ig k)).trans k
 have kl:(w.alloc (.cells #[.int .i64 i] 156)).drew.heap[w.heap.size]?=some (.cells #[.int .i64 i] 156 (0,0)):=im w _
 have r1:=hr.jQ (hb.block _ hr.lt)
 have hgU:gU≠g:=by
  rintro rfl
  obtain ⟨arr,hk,_⟩:=hr
  rw [k] at hk
  simp at hk
 have hgl:gU≠w.heap.size:=by have:=hr.lt;omega
 have c0:=r1.at i hi
 have f0:=r1.free i
 have S0:(∀ o,(w.alloc (.cells #[.int .i64 i] 156)).drew.cell? ⟨g,o,none⟩=(#[.slice (some ⟨gU,0,none⟩) nU cU,v1,v2]:Array Value)[o]?)∧(∀ o,(w.alloc (.cells #[.int .i64 i] 156)).drew.cell? ⟨w.heap.size,o,none⟩=(#[.int .i64 i]:Array Value)[o]?):=⟨ie k1,ie kl⟩
 have S1:(∀ o,((w.alloc (.cells #[.int .i64 i] 156)).drew.setCell ⟨gU,i,none⟩ (.int .i64 (u i+y))).cell? ⟨g,o,none⟩=(#[.slice (some ⟨gU,0,none⟩) nU cU,v1,v2]:Array Value)[o]?)∧(∀ o,((w.alloc (.cells #[.int .i64 i] 156)).drew.setCell ⟨gU,i,none⟩ (.int .i64 (u i+y))).cell? ⟨w.heap.size,o,none⟩=(#[.int .i64 i]:Array Value)[o]?):=⟨ie ((iE (fun e=>hgU e.symm) _).trans k1),ie ((iE (fun e=>hgl e.symm) _).trans kl)⟩
 have HR:Hid (ja gU 2 nU (fun k=>.int .i64 (qt u i y k)) nU ((w.alloc (.cells #[.int .i64 i] 156)).drew.setCell ⟨gU,i,none⟩ (.int .i64 (u i+y)))):=(r1.wz i (.int .i64 (u i+y)) hi).AM (fun j _=>by
  unfold qt
  by_cases e:j=i
  ·
   subst e;simp
  ·
   simp [e])
 have HT:Hid (Touch [gU] w ((w.alloc (.cells #[.int .i64 i] 156)).drew.setCell ⟨gU,i,none⟩ (.int .i64 (u i+y)))):=(Touch.jq hb).set (by simp) i _
 clear k k1 kl hb hr r1 h1 h2 hgU hgl
 go_enter Tryz.func193,Tryz.ntmps193
 go_wp2_with fail
 refine wp_region_held_drew (S:=fun w'=>(∀ o,w'.cell? ⟨g,o,none⟩=(#[.slice (some ⟨gU,0,none⟩) nU cU,v1,v2]:Array Value)[o]?)∧(∀ o,w'.cell? ⟨w.heap.size,o,none⟩=(#[.int .i64 i]:Array Value)[o]?)) (by kernel_rfl) S0 (fun hHeld=>?_)
 refine t0 ?_
 iterate 6 refine tN ?_
 refine tQ 8 14 ?_
 refine rq1 7 (fun K hK=>?_)
 go_simp
 refine ah (hK _ _ S0) ?_
 intro hHeld
 clear hK K
 refine tQ 9 15 ?_
 refine tQ 10 16 ?_
 refine rq1 11 (fun K hK=>?_)
 go_simp
 refine ah (hK _ _ S1) ?_
 intro hHeld
 clear hK K
 refine dnq ?_
 go_wp2_with fail
 go_returns
 exact ⟨rfl,HR,HT⟩
theorem mw (m p t:Int) (w:World) :
  Calls Tryz.prog 75 #[.agg #[.int .i64 m,.int .i64 p,.int .i64 t]] w fun e w'=>e=.returned (.bool (decide (me ⟨m,p,t⟩)))∧Below w.heap.size w w':=by
 go_enter Tryz.func75,Tryz.ntmps75
 go_wp2_with (first | (go_at_call 109;refine (qa _ _).mono ?_;rintro e w' ⟨rfl,rfl⟩) | (go_at_call 110;refine (Ab _ _).mono ?_;rintro e w' ⟨rfl,rfl⟩) | (go_at_call 33;refine (jW _ _).mono ?_;rintro e w' ⟨rfl,rfl⟩))
 all_goals go_ret
 all_goals refine ⟨iv ?_,(Below.refl _ _).alloc (Nat.le_refl _) _⟩
 all_goals (rw [Bool.eq_iff_iff,decide_eq_true_iff];unfold me;simp at *;try omega)
theorem oD (a:Option Addr) (n cap:Nat) (f:Nat→Ent) (w:World) (hn:n≤maxLen) (h:lD w a n f) (ok:Bool) (hok:ok=true↔mA n f) :
  Calls Tryz.prog 32 #[.slice a n cap] w fun e w'=>e=.returned (.bool ok)∧Below w.heap.size w w':=by
 have HO:=aa hok
 clear hok
 have hm:(n:Int)≤9223372036854775807:=by unfold maxLen at hn;omega
 by_cases h8:8<n
 ·
  have h8':(8:Int)<n:=by omega
  have HF:Hid (ok=false):=by
   show ok=false
   rw [Bool.eq_false_iff]
   intro e
   have:=(HO.1 e).1
   omega
  clear HO h
  go_enter Tryz.func32,Tryz.ntmps32
  go_wp2_with fail
  go_ret
  exact ⟨iv HF.symm,Below.refl _ _⟩
 have h8':¬ (8:Int)<n:=by omega
 have HR:=aa h
 clear h
 go_enter Tryz.func32,Tryz.ntmps32
 go_wp2_with fail
 go_loopw [10] (fun i wr=>∃ k:Nat,k≤n∧i=.int .i64 k∧ka k f∧Below w.heap.size w wr) (fun i _=>n-(intOf i).toNat)
 case atStart=>exact ⟨0,Nat.zero_le _,rfl,fun i hi=>by omega,Below.refl _ _⟩
 obtain ⟨k,hk,rfl,hall,hB⟩:=hrel
 have HA:=aa hall
 clear hall
 by_cases hlt:k<n
 ·
  have hlt':(k:Int)<n:=by omega
  obtain ⟨g,o,rfl,c1,c2,c3⟩:=(HR.up hB) k hlt
  have HN:Hid (¬ (me (f k)∧(0<k→(f (k-1)).m<(f k).m))→ok=false):=fun hh=>by
   rw [Bool.eq_false_iff]
   intro e
   exact hh ((HO.1 e).2 k hlt)
  have HB:=aa hB
  have hz:=hB.size
  generalize hx:f k=x at *
  obtain ⟨m,p,t⟩:=x
  have sB:∀ i,(wr.alloc (.cells #[.int .i64 m,.int .i64 p,.int .i64 t] 71)).cell? ⟨wr.heap.size,i,none⟩=_:=fun i=>ie (im wr (.cells #[.int .i64 m,.int .i64 p,.int .i64 t] 71)) i
  have b1:Below w.heap.size w (wr.alloc (.cells #[.int .i64 m,.int .i64 p,.int .i64 t] 71)):=hB.alloc hz _
  have e1:∀ ob,(wr.alloc ob).heap.size=wr.heap.size+1:=fun ob=>by simp
  clear hB
  dsimp only at c1 c2 c3
  by_cases he:me ⟨m,p,t⟩
  ·
   have HE:=aa he
   have he:decide (me ⟨m,p,t⟩)=true:=decide_eq_true he
   by_cases h0:k=0
   ·
    subst h0
    have HS:Hid (ka (0+1) f):=HA.step (by rw [hx];exact HE.out) (fun h=>by omega)
    simp only [Nat.zero_mul,Nat.add_zero] at c1 c2 c3
    have hlt0:(0:Int)<n:=by omega
    clear hlt'
    go_wp2_with fail
    refine wp_region_held_drew (S:=fun w'=>w'.cell? ⟨wr.heap.size,0,none⟩=some (.int .i64 m)∧w'.cell? ⟨wr.heap.size,1,none⟩=some (.int .i64 p)∧w'.cell? ⟨wr.heap.size,2,none⟩=some (.int .i64 t)) (by kernel_rfl) ⟨sB 0,sB 1,sB 2⟩ (fun hHeld=>?_)
    refine t0 ?_
    refine rq1 1 (fun K hK=>?_)
    go_simp
    refine (mw _ _ _ _).mono ?_
    rintro e w1 ⟨rfl,hb1⟩
    have sB:=fun i=>(hb1.cell (p:=⟨wr.heap.size,i,none⟩) (by show wr.heap.size<(wr.alloc _).heap.size;rw [e1];exact Nat.lt_succ_self _)).trans (sB i)
    have b1:Below w.heap.size w w1:=b1.trans (((Below.refl _ _).drew:Below w.heap.size _ _).trans (hb1.mono (by show w.heap.size≤(wr.alloc _).heap.size;rw [e1];exact Nat.le_succ_of_le hz)))
    rw [he]
    go_wp2_with fail
    refine ah (hK _ _ ⟨sB 0,sB 1,sB 2⟩) ?_
    intro hHeld
    clear hK K
    iterate 5 refine tN ?_
    iterate 9 refine sN ?_
    iterate 2 refine tN ?_
    refine dnq ?_
    clear he sB hb1 c1 c2 c3 hHeld
    go_wp2_with fail
    go_roundw
    case rel=>exact ⟨1,by omega,by go_num,HS.out,b1⟩
    case measure=>simp [intOf];omega
   obtain ⟨j,rfl⟩:∃ j,k=j+1:=⟨k-1,by omega⟩
   have hj':(j:Int)<n:=by omega
   have hjj:(0:Int)<(j:Int)+1:=by omega
   have hj1:(j:Int)+1<n:=by omega
   have hwj:IntKind.i64.wrap (j:Int)=(j:Int):=jS _ (by omega) (by omega)
   obtain ⟨g',o',eg,cP,_,_⟩:=(HR.up HB.out) j (by omega)
   cases eg
   have gl:=kQ cP
   have cP:(wr.alloc (.cells #[.int .i64 m,.int .i64 p,.int .i64 t] 71)).cell? ⟨g,o+j*3,none⟩=_:=(World.cell?_of_block (w:=wr) (a:=⟨g,o+j*3,none⟩) (iH _ gl)).trans cP
   by_cases hq:(f j).m<m
   ·
    have HS:Hid (ka (j+1+1) f):=HA.step (by rw [hx];exact HE.out) (fun h=>by rw [hx];exact hq)
    generalize (f j).m=q at *
    have hq':¬ m≤q:=by omega
    go_wp2_with fail
    refine wp_region_held_drew (S:=fun w'=>w'.cell? ⟨wr.heap.size,0,none⟩=some (.int .i64 m)∧w'.cell? ⟨wr.heap.size,1,none⟩=some (.int .i64 p)∧w'.cell? ⟨wr.heap.size,2,none⟩=some (.int .i64 t)∧w'.cell? ⟨g,o+j*3,none⟩=some (.int .i64 q)) (by kernel_rfl) ⟨sB 0,sB 1,sB 2,cP⟩ (fun hHeld=>?_)
    refine t0 ?_
    refine rq1 1 (fun K hK=>?_)
    go_simp
    refine (mw _ _ _ _).mono ?_
    rintro e w1 ⟨rfl,hb1⟩
    have sB:=fun i=>(hb1.cell (p:=⟨wr.heap.size,i,none⟩) (by show wr.heap.size<(wr.alloc _).heap.size;rw [e1];exact Nat.lt_succ_self _)).trans (sB i)
    have b1:Below w.heap.size w w1:=b1.trans (((Below.refl _ _).drew:Below w.heap.size _ _).trans (hb1.mono (by show w.heap.size≤(wr.alloc _).heap.size;rw [e1];exact Nat.le_succ_of_le hz)))
    have cP:=(hb1.cell (p:=⟨g,o+j*3,none⟩) (by show g<(wr.alloc _).heap.size;rw [e1];exact Nat.lt_succ_of_lt gl)).trans cP
    rw [he]
    go_wp2_with fail
    refine ah (hK _ _ ⟨sB 0,sB 1,sB 2,cP⟩) ?_
    intro hHeld
    clear hK K
    iterate 16 refine tN ?_
    refine dnq ?_
    clear he sB hb1 c1 c2 c3 cP hHeld
    go_wp2_with fail
    go_roundw
    case rel=>exact ⟨j+1+1,by omega,by go_num,HS.out,b1⟩
    case measure=>simp [intOf];omega
   have HF:Hid (ok=false):=HN (fun h=>hq (h.2 (by omega)))
   generalize (f j).m=q at *
   have hq':m≤q:=by omega
   go_wp2_with fail
   refine wp_region_held_drew (S:=fun w'=>w'.cell? ⟨wr.heap.size,0,none⟩=some (.int .i64 m)∧w'.cell? ⟨wr.heap.size,1,none⟩=some (.int .i64 p)∧w'.cell? ⟨wr.heap.size,2,none⟩=some (.int .i64 t)∧w'.cell? ⟨g,o+j*3,none⟩=some (.int .i64 q)) (by kernel_rfl) ⟨sB 0,sB 1,sB 2,cP⟩ (fun hHeld=>?_)
   refine t0 ?_
   refine rq1 1 (fun K hK=>?_)
   go_simp
   refine (mw _ _ _ _).mono ?_
   rintro e w1 ⟨rfl,hb1⟩
   have sB:=fun i=>(hb1.cell (p:=⟨wr.heap.size,i,none⟩) (by show wr.heap.size<(wr.alloc _).heap.size;rw [e1];exact Nat.lt_succ_self _)).trans (sB i)
   have b1:Below w.heap.size w w1:=b1.trans (((Below.refl _ _).drew:Below w.heap.size _ _).trans (hb1.mono (by show w.heap.size≤(wr.alloc _).heap.size;rw [e1];exact Nat.le_succ_of_le hz)))
   have cP:=(hb1.cell (p:=⟨g,o+j*3,none⟩) (by show g<(wr.alloc _).heap.size;rw [e1];exact Nat.lt_succ_of_lt gl)).trans cP
   rw [he]
   go_wp2_with fail
   refine ah (hK _ _ ⟨sB 0,sB 1,sB 2,cP⟩) ?_
   intro hHeld
   clear hK K
   iterate 16 refine tN ?_
   exact bq
  have HF:Hid (ok=false):=HN (fun h=>he h.1)
  have he:decide (me ⟨m,p,t⟩)=false:=decide_eq_false he
  go_wp2_with fail
  refine wp_region_held_drew (S:=fun w'=>w'.cell? ⟨wr.heap.size,0,none⟩=some (.int .i64 m)∧w'.cell? ⟨wr.heap.size,1,none⟩=some (.int .i64 p)∧w'.cell? ⟨wr.heap.size,2,none⟩=some (.int .i64 t)) (by kernel_rfl) ⟨sB 0,sB 1,sB 2⟩ (fun hHeld=>?_)
  refine t0 ?_
  refine rq1 1 (fun K hK=>?_)
  go_simp
  refine (mw _ _ _ _).mono ?_
  rintro e w1 ⟨rfl,hb1⟩
  have sB:=fun i=>(hb1.cell (p:=⟨wr.heap.size,i,none⟩) (by show wr.heap.size<(wr.alloc _).heap.size;rw [e1];exact Nat.lt_succ_self _)).trans (sB i)
  have b1:Below w.heap.size w w1:=b1.trans (((Below.refl _ _).drew:Below w.heap.size _ _).trans (hb1.mono (by show w.heap.size≤(wr.alloc _).heap.size;rw [e1];exact Nat.le_succ_of_le hz)))
  rw [he]
  go_wp2_with fail
  refine ah (hK _ _ ⟨sB 0,sB 1,sB 2⟩) ?_
  intro hHeld
  clear hK K
  iterate 2 refine tN ?_
  iterate 13 refine sN ?_
  refine tN ?_
  exact bq
 obtain rfl:k=n:=by omega
 have HT:Hid (ok=true):=HO.2 ⟨by omega,HA.out⟩
 have HB:=aa hB
 clear hB
 go_wp2_with fail
 go_ret
 exact ⟨iv HT.symm,HB⟩
theorem qX (a:Option Addr) (n cap:Nat) (f:Nat→Ent) (w:World) (hn:n≤maxLen) (h:lD w a n f) (ok:Bool) (hok:ok=true↔mA n f) :
  Calls Tryz.prog 55 #[.slice a n cap] w fun e w'=>e=.returned (.bool ok)∧Below w.heap.size w w':=by
 have HO:=aa hok
 have HR:=aa h
 clear hok h
 have hm:(n:Int)≤9223372036854775807:=by unfold maxLen at hn;omega
 go_enter Tryz.func55,Tryz.ntmps55
 go_wp2_with fail
 go_loopw [3] (fun i wr=>∃ k:Nat,k≤n∧i=.int .i64 k∧ka k f∧Same w wr) (fun i _=>n-(intOf i).toNat)
 case atStart=>exact ⟨0,Nat.zero_le _,rfl,fun i hi=>by omega,Same.refl _⟩
 obtain ⟨k,hk,rfl,hall,hS⟩:=hrel
 have HA:=aa hall
 clear hall
 have hB:Below w.heap.size w wr:=hS.below _
 by_cases hlt:k<n
 ·
  have hlt':(k:Int)<n:=by omega
  obtain ⟨g,o,rfl,c1,c2,c3⟩:=(HR.up hB) k hlt
  have HN:Hid (¬ (me (f k)∧(0<k→(f (k-1)).m<(f k).m))→ok=false):=fun hh=>by
   rw [Bool.eq_false_iff]
   intro e
   exact hh ((HO.1 e).2 k hlt)
  generalize hx:f k=x at *
  obtain ⟨m,p,t⟩:=x
  dsimp only at c1 c2 c3
  by_cases hm0:1≤m∧m≤20
  ·
   have HM:=aa hm0
   have hm:decide (1≤m∧m≤20)=true:=decide_eq_true hm0
   clear hm0
   by_cases hp0:0≤p∧p≤3
   ·
    have HP:=aa hp0
    have hp:decide (0≤p∧p≤3)=true:=decide_eq_true hp0
    clear hp0
    by_cases ht0:0≤t∧t≤1000000000
    ·
     have HT:=aa ht0
     have ht:decide (0≤t∧t≤1000000000)=true:=decide_eq_true ht0
     clear ht0
     have HE:Hid (me ⟨m,p,t⟩):=⟨HM.out,HP.out,HT.out⟩
     by_cases h0:k=0
     ·
      subst h0
      have HS:Hid (ka (0+1) f):=HA.step (by rw [hx];exact HE.out) (fun h=>by omega)
      simp only [Nat.zero_mul,Nat.add_zero] at c1 c2 c3
      have hlt0:(0:Int)<n:=by omega
      clear hlt'
      go_wp2_with fail
      refine wp_region_held_drew (S:=fun w'=>w'.cell? ⟨g,o,none⟩=some (.int .i64 m)∧w'.cell? ⟨g,o+1,none⟩=some (.int .i64 p)∧w'.cell? ⟨g,o+2,none⟩=some (.int .i64 t)) (by kernel_rfl) ⟨c1,c2,c3⟩ (fun hHeld=>?_)
      refine t0 ?_
      iterate 4 refine tN ?_
      refine rq1 5 (fun K hK=>?_)
      go_simp
      refine (mr _ _).mono ?_
      rintro e w1 ⟨rfl,rfl⟩
      rw [hm]
      go_wp2_with fail
      refine ah (hK _ _ ⟨c1,c2,c3⟩) ?_
      intro hHeld
      clear hK K
      iterate 7 refine tN ?_
      refine rq1 13 (fun K hK=>?_)
      go_simp
      refine (iB _ _ _ _).mono ?_
      rintro e w1 ⟨rfl,rfl⟩
      rw [hp]
      go_wp2_with fail
      refine ah (hK _ _ ⟨c1,c2,c3⟩) ?_
      intro hHeld
      clear hK K
      iterate 8 refine tN ?_
      refine rq1 22 (fun K hK=>?_)
      go_simp
      refine (iB _ _ _ _).mono ?_
      rintro e w1 ⟨rfl,rfl⟩
      rw [ht]
      go_wp2_with fail
      refine ah (hK _ _ ⟨c1,c2,c3⟩) ?_
      intro hHeld
      clear hK K
      iterate 6 refine tN ?_
      iterate 12 refine sN ?_
      iterate 2 refine tN ?_
      refine dnq ?_
      go_wp2_with fail
      go_roundw
      case rel=>exact ⟨1,by omega,by go_num,HS.out,hS.drewN 1⟩
      case measure=>simp [intOf];omega
     obtain ⟨j,rfl⟩:∃ j,k=j+1:=⟨k-1,by omega⟩
     have hj':(j:Int)<n:=by omega
     have hjj:(0:Int)<(j:Int)+1:=by omega
     have hj0:(0:Int)≤(j:Int)+1:=by omega
     have hj1:(j:Int)+1<n:=by omega
     have hwj:IntKind.i64.wrap (j:Int)=(j:Int):=jS _ (by omega) (by omega)
     obtain ⟨g',o',eg,cP,_,_⟩:=(HR.up hB) j (by omega)
     cases eg
     by_cases hq:(f j).m<m
     ·
      have HS:Hid (ka (j+1+1) f):=HA.step (by rw [hx];exact HE.out) (fun h=>by rw [hx];exact hq)
      generalize (f j).m=q at *
      have hq':¬ m≤q:=by omega
      go_wp2_with fail
      refine wp_region_held_drew (S:=fun w'=>w'.cell? ⟨g,o+(j+1)*3,none⟩=some (.int .i64 m)∧w'.cell? ⟨g,o+(j+1)*3+1,none⟩=some (.int .i64 p)∧w'.cell? ⟨g,o+(j+1)*3+2,none⟩=some (.int .i64 t)∧w'.cell? ⟨g,o+j*3,none⟩=some (.int .i64 q)) (by kernel_rfl) ⟨c1,c2,c3,cP⟩ (fun hHeld=>?_)
      refine t0 ?_
      iterate 4 refine tN ?_
      refine rq1 5 (fun K hK=>?_)
      go_simp
      refine (mr _ _).mono ?_
      rintro e w1 ⟨rfl,rfl⟩
      rw [hm]
      go_wp2_with fail
      refine ah (hK _ _ ⟨c1,c2,c3,cP⟩) ?_
      intro hHeld
      clear hK K
      iterate 7 refine tN ?_
      refine rq1 13 (fun K hK=>?_)
      go_simp
      refine (iB _ _ _ _).mono ?_
      rintro e w1 ⟨rfl,rfl⟩
      rw [hp]
      go_wp2_with fail
      refine ah (hK _ _ ⟨c1,c2,c3,cP⟩) ?_
      intro hHeld
      clear hK K
      iterate 8 refine tN ?_
      refine rq1 22 (fun K hK=>?_)
      go_simp
      refine (iB _ _ _ _).mono ?_
      rintro e w1 ⟨rfl,rfl⟩
      rw [ht]
      go_wp2_with fail
      refine ah (hK _ _ ⟨c1,c2,c3,cP⟩) ?_
      intro hHeld
      clear hK K
      iterate 20 refine tN ?_
      refine dnq ?_
      go_wp2_with fail
      go_roundw
      case rel=>exact ⟨j+1+1,by omega,by go_num,HS.out,hS.drewN 1⟩
      case measure=>simp [intOf];omega
     have HF:Hid (ok=false):=HN (fun h=>hq (h.2 (by omega)))
     generalize (f j).m=q at *
     have hq':m≤q:=by omega
     go_wp2_with fail
     refine wp_region_held_drew (S:=fun w'=>w'.cell? ⟨g,o+(j+1)*3,none⟩=some (.int .i64 m)∧w'.cell? ⟨g,o+(j+1)*3+1,none⟩=some (.int .i64 p)∧w'.cell? ⟨g,o+(j+1)*3+2,none⟩=some (.int .i64 t)∧w'.cell? ⟨g,o+j*3,none⟩=some (.int .i64 q)) (by kernel_rfl) ⟨c1,c2,c3,cP⟩ (fun hHeld=>?_)
     refine t0 ?_
     iterate 4 refine tN ?_
     refine rq1 5 (fun K hK=>?_)
     go_simp
     refine (mr _ _).mono ?_
     rintro e w1 ⟨rfl,rfl⟩
     rw [hm]
     go_wp2_with fail
     refine ah (hK _ _ ⟨c1,c2,c3,cP⟩) ?_
     intro hHeld
     clear hK K
     iterate 7 refine tN ?_
     refine rq1 13 (fun K hK=>?_)
     go_simp
     refine (iB _ _ _ _).mono ?_
     rintro e w1 ⟨rfl,rfl⟩
     rw [hp]
     go_wp2_with fail
     refine ah (hK _ _ ⟨c1,c2,c3,cP⟩) ?_
     intro hHeld
     clear hK K
     iterate 8 refine tN ?_
     refine rq1 22 (fun K hK=>?_)
     go_simp
     refine (iB _ _ _ _).mono ?_
     rintro e w1 ⟨rfl,rfl⟩
     rw [ht]
     go_wp2_with fail
     refine ah (hK _ _ ⟨c1,c2,c3,cP⟩) ?_
     intro hHeld
     clear hK K
     iterate 20 refine tN ?_
     exact bs
    have HF:Hid (ok=false):=HN (fun h=>ht0 h.1.2.2)
    have ht:decide (0≤t∧t≤1000000000)=false:=decide_eq_false ht0
    clear ht0
    go_wp2_with fail
    refine wp_region_held_drew (S:=fun w'=>w'.cell? ⟨g,o+k*3,none⟩=some (.int .i64 m)∧w'.cell? ⟨g,o+k*3+1,none⟩=some (.int .i64 p)∧w'.cell? ⟨g,o+k*3+2,none⟩=some (.int .i64 t)) (by kernel_rfl) ⟨c1,c2,c3⟩ (fun hHeld=>?_)
    refine t0 ?_
    iterate 4 refine tN ?_
    refine rq1 5 (fun K hK=>?_)
    go_simp
    refine (mr _ _).mono ?_
    rintro e w1 ⟨rfl,rfl⟩
    rw [hm]
    go_wp2_with fail
    refine ah (hK _ _ ⟨c1,c2,c3⟩) ?_
    intro hHeld
    clear hK K
    iterate 7 refine tN ?_
    refine rq1 13 (fun K hK=>?_)
    go_simp
    refine (iB _ _ _ _).mono ?_
    rintro e w1 ⟨rfl,rfl⟩
    rw [hp]
    go_wp2_with fail
    refine ah (hK _ _ ⟨c1,c2,c3⟩) ?_
    intro hHeld
    clear hK K
    iterate 8 refine tN ?_
    refine rq1 22 (fun K hK=>?_)
    go_simp
    refine (iB _ _ _ _).mono ?_
    rintro e w1 ⟨rfl,rfl⟩
    rw [ht]
    go_wp2_with fail
    refine ah (hK _ _ ⟨c1,c2,c3⟩) ?_
    intro hHeld
    clear hK K
    iterate 3 refine tN ?_
    exact bl
   have HF:Hid (ok=false):=HN (fun h=>hp0 h.1.2.1)
   have hp:decide (0≤p∧p≤3)=false:=decide_eq_false hp0
   clear hp0
   go_wp2_with fail
   refine wp_region_held_drew (S:=fun w'=>w'.cell? ⟨g,o+k*3,none⟩=some (.int .i64 m)∧w'.cell? ⟨g,o+k*3+1,none⟩=some (.int .i64 p)∧w'.cell? ⟨g,o+k*3+2,none⟩=some (.int .i64 t)) (by kernel_rfl) ⟨c1,c2,c3⟩ (fun hHeld=>?_)
   refine t0 ?_
   iterate 4 refine tN ?_
   refine rq1 5 (fun K hK=>?_)
   go_simp
   refine (mr _ _).mono ?_
   rintro e w1 ⟨rfl,rfl⟩
   rw [hm]
   go_wp2_with fail
   refine ah (hK _ _ ⟨c1,c2,c3⟩) ?_
   intro hHeld
   clear hK K
   iterate 7 refine tN ?_
   refine rq1 13 (fun K hK=>?_)
   go_simp
   refine (iB _ _ _ _).mono ?_
   rintro e w1 ⟨rfl,rfl⟩
   rw [hp]
   go_wp2_with fail
   refine ah (hK _ _ ⟨c1,c2,c3⟩) ?_
   intro hHeld
   clear hK K
   iterate 3 refine tN ?_
   iterate 7 refine sN ?_
   iterate 2 refine tN ?_
   exact bl
  have HF:Hid (ok=false):=HN (fun h=>hm0 h.1.1)
  have hm:decide (1≤m∧m≤20)=false:=decide_eq_false hm0
  clear hm0
  go_wp2_with fail
  refine wp_region_held_drew (S:=fun w'=>w'.cell? ⟨g,o+k*3,none⟩=some (.int .i64 m)∧w'.cell? ⟨g,o+k*3+1,none⟩=some (.int .i64 p)∧w'.cell? ⟨g,o+k*3+2,none⟩=some (.int .i64 t)) (by kernel_rfl) ⟨c1,c2,c3⟩ (fun hHeld=>?_)
  refine t0 ?_
  iterate 4 refine tN ?_
  refine rq1 5 (fun K hK=>?_)
  go_simp
  refine (mr _ _).mono ?_
  rintro e w1 ⟨rfl,rfl⟩
  rw [hm]
  go_wp2_with fail
  refine ah (hK _ _ ⟨c1,c2,c3⟩) ?_
  intro hHeld
  clear hK K
  iterate 2 refine tN ?_
  iterate 7 refine sN ?_
  iterate 2 refine tN ?_
  iterate 7 refine sN ?_
  iterate 2 refine tN ?_
  exact bl
 obtain rfl:k=n:=by omega
 by_cases h8:k≤8
 ·
  have h8':(k:Int)≤8:=by omega
  have HT:Hid (ok=true):=HO.2 ⟨h8,HA.out⟩
  go_wp2_with fail
  go_ret
  exact ⟨iv HT.symm,hB⟩
 have h8':¬ (k:Int)≤8:=by omega
 have HF:Hid (ok=false):=by
  show ok=false
  rw [Bool.eq_false_iff]
  intro e
  exact h8 (HO.1 e).1
 go_wp2_with fail
 go_ret
 exact ⟨iv HF.symm,hB⟩
theorem wY (S:Swg) (w:World) (ok:Bool) (hok:ok=true↔S.Fl) :
  Calls Tryz.prog 26 #[.agg S.cells] w fun e w'=>e=.returned (.bool ok)∧Below w.heap.size w w':=by
 have HO:=aa hok
 have hB:Below (w.heap.size+1) (w.alloc (.cells S.cells 34)) (w.alloc (.cells S.cells 34)):=Below.refl _ _
 have cb:=boxed hB
 have c7:(w.alloc (.cells S.cells 34)).cell? ⟨w.heap.size,7,none⟩=some (.int .i64 S.now):=cb 7
 have c8:(w.alloc (.cells S.cells 34)).cell? ⟨w.heap.size,8,none⟩=some (.int .i64 S.nx):=cb 8
 have c15:(w.alloc (.cells S.cells 34)).cell? ⟨w.heap.size,15,none⟩=some (.int .i64 S.dr):=cb 15
 have c16:(w.alloc (.cells S.cells 34)).cell? ⟨w.heap.size,16,none⟩=some (.int .i64 S.lst):=cb 16
 clear cb hok
 by_cases h1:0≤S.now∧S.now≤1000000000
 ·
  by_cases h2:1≤S.nx∧S.nx≤1000000000
  ·
   by_cases h3:0≤S.dr∧S.dr≤1000000000
   ·
    have HF:Hid (decide (0≤S.lst∧S.lst≤1000000000)=ok):=by
     rw [Hid,Bool.eq_iff_iff,HO.out]
     simp only [decide_eq_true_eq]
     exact ⟨fun h=>⟨h1,h2,h3,h⟩,fun h=>h.lst⟩
    have H1:Hid _:=h1
    have H2:Hid _:=h2
    have H3:Hid _:=h3
    clear h1 h2 h3
    go_enter Tryz.func26,Tryz.ntmps26
    go_wp2_with fail
    refine (jW _ _).mono ?_
    rintro e w1 ⟨rfl,rfl⟩
    rw [decide_eq_true H1.out]
    go_wp2_with fail
    refine (iS _ _ _ _).mono ?_
    rintro e w1 ⟨rfl,rfl⟩
    rw [decide_eq_true H2.out]
    go_wp2_with fail
    refine (jW _ _).mono ?_
    rintro e w1 ⟨rfl,rfl⟩
    rw [decide_eq_true H3.out]
    go_wp2_with fail
    refine (jW _ _).mono ?_
    rintro e w1 ⟨rfl,rfl⟩
    rw [HF.out]
    exact bo
   obtain rfl:ok=false:=by
    rw [Bool.eq_false_iff]
    intro e
    exact h3 (HO.1 e).dr
   have H1:Hid _:=h1
   have H2:Hid _:=h2
   have H3:Hid _:=h3
   clear h1 h2 h3
   go_enter Tryz.func26,Tryz.ntmps26
   go_wp2_with fail
   refine (jW _ _).mono ?_
   rintro e w1 ⟨rfl,rfl⟩
   rw [decide_eq_true H1.out]
   go_wp2_with fail
   refine (iS _ _ _ _).mono ?_
   rintro e w1 ⟨rfl,rfl⟩
   rw [decide_eq_true H2.out]
   go_wp2_with fail
   refine (jW _ _).mono ?_
   rintro e w1 ⟨rfl,rfl⟩
   rw [decide_eq_false H3.out]
   exact bo
  obtain rfl:ok=false:=by
   rw [Bool.eq_false_iff]
   intro e
   exact h2 (HO.1 e).nx
  have H1:Hid _:=h1
  have H2:Hid _:=h2
  clear h1 h2
  go_enter Tryz.func26,Tryz.ntmps26
  go_wp2_with fail
  refine (jW _ _).mono ?_
  rintro e w1 ⟨rfl,rfl⟩
  rw [decide_eq_true H1.out]
  go_wp2_with fail
  refine (iS _ _ _ _).mono ?_
  rintro e w1 ⟨rfl,rfl⟩
  rw [decide_eq_false H2.out]
  exact bo
 obtain rfl:ok=false:=by
  rw [Bool.eq_false_iff]
  intro e
  exact h1 (HO.1 e).now
 have H1:Hid _:=h1
 clear h1
 go_enter Tryz.func26,Tryz.ntmps26
 go_wp2_with fail
 refine (jW _ _).mono ?_
 rintro e w1 ⟨rfl,rfl⟩
 rw [decide_eq_false H1.out]
 exact bo
theorem pF (S:Swg) (p:Int) (w:World) (h1:-1000000≤S.C.p) (h2:S.C.p≤1000000) :
  Calls Tryz.prog 69 #[.agg S.cells,.int .i64 p] w fun e w'=>e=.returned (.bool (decide (0≤p∧p≤S.C.p-1)))∧Below w.heap.size w w':=by
 have hB:Below (w.heap.size+1) (w.alloc (.cells S.cells 34)) (w.alloc (.cells S.cells 34)):=Below.refl _ _
 have c0:(w.alloc (.cells S.cells 34)).cell? ⟨w.heap.size,0,none⟩=some (.int .i64 S.C.p):=boxed hB 0
 go_enter Tryz.func69,Tryz.ntmps69
 go_wp2_with fail
 refine (iS _ _ _ _).mono ?_
 rintro e w1 ⟨rfl,rfl⟩
 go_wp2_with fail
 go_ret
 exact ⟨iv (by simp),under hB⟩
theorem BE:(Tryz.prog.info? 34).map (·.size)=some 17:=by kernel_rfl
theorem xJ {o:Oper} (hg:o.guard=none) (x:Operand) (ho:o.op=.load 34 x) (g:Nat) (hx:a.eval x=.pointer (some ⟨g,0,none⟩))
  (S:Swg) (hk:w.heap[g]?=some (.cells S.cells 34 (0,0))) (h:wpList Tryz.prog ops Q rest (a.put o.dst (.agg S.cells)) w):wpList Tryz.prog ops Q (o :: rest) a w :=
 wpList_plain hg fun _ hK=>wp_load_row 34 x ho g hx 34 S.cells (0,0) _ hk Tryz.underlying34 rfl BE (hK _ _ h)
theorem kD {o:Oper} (x:Operand) (ho:o.op=.load 34 x) (hw:Region.wanted o (yielded ops a.tmps)=true) (g:Nat) (hx:a.eval x=.pointer (some ⟨g,0,none⟩))
  (S:Swg) (hk:w.heap[g]?=some (.cells S.cells 34 (0,0))) (h:wpList Tryz.prog ops Q rest (a.put o.dst (.agg S.cells)) w):wpList Tryz.prog ops Q (o :: rest) a w :=
 wpList_step fun K hK=>by
  rw [if_pos hw]
  exact wp_load_row 34 x ho g hx 34 S.cells (0,0) _ hk Tryz.underlying34 rfl BE (hK _ _ h)
theorem se {oi:Oper} {ev:Operand→Value} (ty:TypeId) (x:Operand) (ho:oi.op=.load ty x) (g:Nat) (hx:ev x=.pointer (some ⟨g,0,none⟩)) (v:Value)
  (hl:(loadVar ty ⟨g,0,none⟩).run Tryz.prog w=.ok v w):(execOp ev oi).run Tryz.prog w=.ok (.value v) w:=by
 unfold execOp
 simp only [ho,hx,Instr.loadAt,Instr.sureAddr,Sem.run_bind,Sem.run_pure,Result.andThen_ok,hl]
theorem yM {S:Swg} (hk:w.heap[g]?=some (.cells S.cells 34 (0,0))):(loadVar 34 ⟨g,0,none⟩).run Tryz.prog w=.ok (.agg S.cells) w :=
 run_loadVar_row w g 34 34 S.cells (0,0) _ hk Tryz.underlying34 rfl BE
theorem rq:(Tryz.prog.info? 51).map (·.size)=some 8:=by kernel_rfl
theorem C4 {x:Pkt} (hk:w.heap[g]?=some (.cells x.cells 51 (0,0))):(loadVar 51 ⟨g,0,none⟩).run Tryz.prog w=.ok (.agg x.cells) w :=
 run_loadVar_row w g 51 51 x.cells (0,0) _ hk Tryz.underlying51 rfl rq
theorem BV (S:Swg) (w:World) (hs:S.nE≤1048576) (hr:lD w S.aE S.nE S.e) (h1:0≤S.C.p) (h2:S.C.p≤1000000) (ok:Bool) (hok:ok=true↔S.seen) :
  Calls Tryz.prog 27 #[.agg S.cells] w fun e w'=>e=.returned (.bool ok)∧Below w.heap.size w w':=by
 have HO:=aa hok
 have HR:=aa hr
 have hB:Below (w.heap.size+1) (w.alloc (.cells S.cells 34)) (w.alloc (.cells S.cells 34)):=Below.refl _ _
 have c9:(w.alloc (.cells S.cells 34)).cell? ⟨w.heap.size,9,none⟩=some (.slice S.aE S.nE S.cE):=boxed hB 9
 obtain ⟨tk,htk⟩:=sb S.nE S.e
 have HT:=aa htk
 clear hok hr htk
 go_enter Tryz.func27,Tryz.ntmps27
 go_wp2_with fail
 refine (oD S.aE S.nE S.cE S.e _ (by unfold maxLen;omega) (HR.up (under hB)) tk HT).mono ?_
 rintro e w1 ⟨rfl,hb⟩
 replace hB:=next hB hb
 clear c9 hb
 have c9:w1.cell? ⟨w.heap.size,9,none⟩=some (.slice S.aE S.nE S.cE):=boxed hB 9
 cases tk
 ·
  obtain rfl:ok=false:=by
   rw [Bool.eq_false_iff]
   intro e
   exact absurd (HT.2 (HO.1 e).1) (by simp)
  exact bo
 have HT2:Hid (mA S.nE S.e):=HT.1 rfl
 clear HT
 go_wp2_with fail
 go_loopw [12] (fun i wr=>∃ k:Nat,k≤S.nE∧i=.int .i64 k∧(∀ i,i<k→(S.e i).p<S.C.p∧(S.e i).t≤S.now)∧Below (w.heap.size+1) (w.alloc (.cells S.cells 34)) wr) (fun i _=>S.nE-(intOf i).toNat)
 case atStart=>exact ⟨0,Nat.zero_le _,rfl,fun i hi=>by omega,hB⟩
 clear hB c9
 obtain ⟨k,hk,rfl,hall,hB⟩:=hrel
 have HA:=aa hall
 clear hall
 by_cases hlt:k<S.nE
 ·
  have hlt':(k:Int)<S.nE:=by omega
  obtain ⟨g,o,ea,e0,e1,e2⟩:=(HR.up (under hB)) k hlt
  obtain ⟨V,eV⟩:∃ V,wr.alloc (.cells #[.int .i64 (S.e k).m,.int .i64 (S.e k).p,.int .i64 (S.e k).t] 71)=V:=⟨_,rfl⟩
  have hbV:Below wr.heap.size wr V:=by rw [←eV];exact (Below.refl _ _).alloc (Nat.le_refl _) _
  have kV:V.heap[wr.heap.size]?=some (.cells #[.int .i64 (S.e k).m,.int .i64 (S.e k).p,.int .i64 (S.e k).t] 71 (0,0)):=by rw [←eV];exact im _ _
  have hBV:=next hB hbV
  have cV:=ie kV
  have HkS:Hid (V.heap[w.heap.size]?=some (.cells S.cells 34 (0,0))):=(hBV.block _ (by omega)).trans (im _ _)
  rw [ea]
  clear hbV kV
  go_wp2_with (refine xJ rfl (.tmp 1) rfl w.heap.size rfl S HkS.out ?_)
  clear HkS
  refine (pF S (S.e k).p _ (by omega) (by omega)).mono ?_
  rintro e w2 ⟨rfl,hb⟩
  have hB2:=next hBV hb
  have cV2:∀ o,w2.cell? ⟨wr.heap.size,o,none⟩=(#[.int .i64 (S.e k).m,.int .i64 (S.e k).p,.int .i64 (S.e k).t]:Array Value)[o]?:=fun o=>(hb.cell (p:=⟨wr.heap.size,o,none⟩) (by rw [←eV];simp)).trans (cV o)
  have c7:w2.cell? ⟨w.heap.size,7,none⟩=some (.int .i64 S.now):=boxed hB2 7
  clear cV hb hBV eV hB e0 e1 e2 ea
  have hpe:=(HT2.2 k hlt).1.2.1
  by_cases h5:(S.e k).p<S.C.p
  ·
   rw [decide_eq_true (show 0≤(S.e k).p∧(S.e k).p≤S.C.p-1 by omega)]
   have HP:=aa h5
   clear h5 hpe
   by_cases h6:(S.e k).t≤S.now
   ·
    have h6':¬ S.now<(S.e k).t:=by omega
    have HP2:=aa h6
    clear h6
    go_wp2_with fail
    go_roundw
    case rel=>exact ⟨k+1,by omega,by go_num,fun i hi=>by
     by_cases e:i=k
     ·
      subst e;exact ⟨HP.out,HP2.out⟩
     ·
      exact HA i (by omega),hB2⟩
    case measure=>simp [intOf];omega
   have h6':S.now<(S.e k).t:=by omega
   obtain rfl:ok=false:=by
    rw [Bool.eq_false_iff]
    intro e
    exact h6 ((HO.1 e).2 k hlt).2
   clear h6
   go_wp2_with fail
   go_ret
   exact ⟨rfl,under hB2⟩
  rw [decide_eq_false (show ¬ (0≤(S.e k).p∧(S.e k).p≤S.C.p-1) by omega)]
  obtain rfl:ok=false:=by
   rw [Bool.eq_false_iff]
   intro e
   exact h5 ((HO.1 e).2 k hlt).1
  clear h5 hpe
  go_wp2_with fail
  go_ret
  exact ⟨rfl,under hB2⟩
 obtain rfl:k=S.nE:=by omega
 have hge:¬ ((S.nE:Nat):Int)<((S.nE:Nat):Int):=by omega
 obtain rfl:ok=true:=HO.2 ⟨HT2.out,HA.out⟩
 exact bo
def Pkt.frame (x:Pkt):Array Value:=#[.int .i64 x.k,.int .i64 x.d,.int .i64 x.s,.int .i64 x.p,.string x.b]
theorem sT (x:Pkt) (w:World) (hb:x.b.size≤maxLen) (ok:Bool) (hok:ok=true↔x.nR) :
  Calls Tryz.prog 102 #[.agg x.frame] w fun e w'=>e=.returned (.bool ok)∧Below w.heap.size w w':=by
 have HO:=aa hok
 have hA:Below (w.heap.size+1) (w.alloc (.cells #[.int .i64 x.k,.int .i64 x.d,.int .i64 x.s,.int .i64 x.p,.string x.b] 36)) (w.alloc (.cells #[.int .i64 x.k,.int .i64 x.d,.int .i64 x.s,.int .i64 x.p,.string x.b] 36)):=Below.refl _ _
 unfold Pkt.frame
 clear hok
 by_cases h1:x.k=1
 ·
  have hk:(x.k == 1)=true:=by simp [h1]
  have HE:Hid (mc x.k x.d x.s x.p x.b.size=ok):=by
   rw [Hid,Bool.eq_iff_iff,HO.out]
   exact ⟨fun h=>⟨h1,h⟩,fun h=>h.2⟩
  clear h1
  go_enter Tryz.func102,Tryz.ntmps102
  go_wp2_with fail
  refine (mH _ _ _ _ _ _ hb).mono ?_
  rintro e w1 ⟨rfl,hb1⟩
  have B1:=next hA hb1
  rw [HE.out]
  go_wp2_with fail
  go_ret
  exact ⟨rfl,under B1⟩
 have hk:(x.k == 1)=false:=by simp [h1]
 obtain rfl:ok=false:=by
  rw [Bool.eq_false_iff]
  intro e
  exact h1 (HO.1 e).1
 have H1:=aa h1
 clear h1
 go_enter Tryz.func102,Tryz.ntmps102
 go_wp2_with fail
 go_ret
 exact ⟨iv (by first | rfl | exact decide_eq_false H1),under hA⟩
theorem la {A B:Array Value} {s:TypeId} (h:Below (w.heap.size+2) ((w.alloc (.cells A t)).alloc (.cells B s)) wi):wi.heap[w.heap.size]?=some (.cells A t (0,0))∧wi.heap[w.heap.size+1]?=some (.cells B s (0,0)):=by
 refine ⟨(h.block _ (by omega)).trans ((iH _ (by simp)).trans (im _ _)),(h.block _ (by omega)).trans ?_⟩
 have:=im (w.alloc (.cells A t)) (.cells B s)
 simpa using this
theorem iy (h:Below (w.heap.size+2) ((w.alloc o).alloc o') wi):Below w.heap.size w wi :=
 (((Below.refl _ _).alloc (Nat.le_refl _) o).alloc (by simp) o').trans (h.mono (by omega))
theorem Et (h:Below (w.heap.size+2) ((w.alloc o).alloc o') wi):w.heap.size+2≤wi.heap.size:=by
 have:=h.size
 simpa using this
theorem pj {wj:World} (h:Below (w.heap.size+2) ((w.alloc o).alloc o') wi) (k:Below wi.heap.size wi wj):Below (w.heap.size+2) ((w.alloc o).alloc o') wj :=
 h.trans (k.mono (Et h))
def Pkt.ok (nx p:Int) (x:Pkt):Prop:=(1≤x.id∧x.id≤nx-1)∧(0≤x.inn∧x.inn≤p-1)∧x.nR
theorem mE (S:Swg) (x:Pkt) (w:World) (hb:x.b.size≤maxLen) (h1:0≤S.C.p) (h2:S.C.p≤1000000) (h3:1≤S.nx) (h4:S.nx≤1000000000) (ok:Bool) (hok:ok=true↔x.ok S.nx S.C.p) :
  Calls Tryz.prog 70 #[.agg S.cells,.agg x.cells] w fun e w'=>e=.returned (.bool ok)∧Below w.heap.size w w':=by
 have HO:=aa hok
 have hB:Below (w.heap.size+2) ((w.alloc (.cells S.cells 34)).alloc (.cells x.cells 51)) ((w.alloc (.cells S.cells 34)).alloc (.cells x.cells 51)):=Below.refl _ _
 clear hok
 obtain ⟨W,eW⟩:∃ W,(w.alloc (.cells S.cells 34)).alloc (.cells x.cells 51)=W:=⟨_,rfl⟩
 rw [eW] at hB
 have HB:Hid (∀ W',Below W.heap.size W W'→Below w.heap.size w W'):=fun W' h=>by
  subst eW
  exact iy (pj hB h)
 have kS:W.heap[w.heap.size]?=some (.cells S.cells 34 (0,0)):=by subst eW;exact (la hB).1
 have kX:W.heap[w.heap.size+1]?=some (.cells x.cells 51 (0,0)):=by subst eW;exact (la hB).2
 have HkS:=aa kS
 have c8:W.cell? ⟨w.heap.size,8,none⟩=some (.int .i64 S.nx):=ie kS 8
 have x0:W.cell? ⟨w.heap.size+1,0,none⟩=some (.int .i64 x.id):=ie kX 0
 have x1:W.cell? ⟨w.heap.size+1,1,none⟩=some (.int .i64 x.inn):=ie kX 1
 clear hB
 go_enter Tryz.func70,Tryz.ntmps70
 go_wp2_with fail
 refine (iS _ _ _ _).mono ?_
 rintro e w1 ⟨rfl,rfl⟩
 by_cases h5:1≤x.id∧x.id≤S.nx-1
 ·
  rw [decide_eq_true h5]
  have H5:=aa h5
  clear h5
  go_wp2_with (refine kD (.tmp 2) rfl (by kernel_rfl) w.heap.size rfl S HkS.out ?_)
  refine (pF S _ _ (by omega) (by omega)).mono ?_
  rintro e w2 ⟨rfl,hb2⟩
  have B2:=HB _ hb2
  have kX2:=(hb2.block _ (ig kX)).trans kX
  have y3:w2.cell? ⟨w.heap.size+1,3,none⟩=some (.int .i64 x.k):=ie kX2 3
  have y4:w2.cell? ⟨w.heap.size+1,4,none⟩=some (.int .i64 x.d):=ie kX2 4
  have y5:w2.cell? ⟨w.heap.size+1,5,none⟩=some (.int .i64 x.s):=ie kX2 5
  have y6:w2.cell? ⟨w.heap.size+1,6,none⟩=some (.int .i64 x.p):=ie kX2 6
  have y7:w2.cell? ⟨w.heap.size+1,7,none⟩=some (.string x.b):=ie kX2 7
  clear c8 x0 x1 kS kX kX2 eW HkS HB
  by_cases h6:0≤x.inn∧x.inn≤S.C.p-1
  ·
   rw [decide_eq_true h6]
   have H6:=aa h6
   obtain ⟨fk,hfk⟩:=ju x.nR
   have HE:Hid (fk=ok):=by
    rw [Hid,Bool.eq_iff_iff,HO.out,hfk]
    exact ⟨fun h=>⟨H5,H6,h⟩,fun h=>h.2.2⟩
   have HF:=aa hfk
   clear h6 hfk
   go_wp2_with fail
   refine (sT x _ hb fk HF).mono ?_
   rintro e w3 ⟨rfl,hb3⟩
   have B3:=B2.trans (hb3.mono B2.size)
   rw [HE.out]
   clear hb2 hb3 B2
   go_wp2_with fail
   go_ret
   exact ⟨rfl,B3⟩
  rw [decide_eq_false h6]
  obtain rfl:ok=false:=by
   rw [Bool.eq_false_iff]
   intro e
   exact h6 (HO.1 e).2.1
  clear h6 hb2
  go_wp2_with fail
  go_ret
  exact ⟨rfl,B2⟩
 rw [decide_eq_false h5]
 obtain rfl:ok=false:=by
  rw [Bool.eq_false_iff]
  intro e
  exact h5 (HO.1 e).1
 have B2:=HB _ (Below.refl _ _)
 clear h5 HB
 go_wp2_with fail
 go_ret
 exact ⟨rfl,B2⟩
