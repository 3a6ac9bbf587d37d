import Derived.Test.YthicmlolanifhaaGreatV28
import Derived.Test.YthicmlolanifhaaGreatV29
namespace Go.Proofs.YthicmlolanifhaaGreat
set_option maxRecDepth 100000
set_option maxHeartbeats 9000000
open Go.RowKit
set_option linter.unusedVariables false
set_option linter.unusedSimpArgs false
variable {C:Cfg} {B b0 base k n:Nat} {o:Obj} {p:Prop} {t:TypeId} {cv v:Value} {V V' W a b w w' w1:World}
theorem Ia (h:p:=by
 refine rq1 6 (fun K hK=>?_)
 refine jV (by kernel_rfl) (some 38) (.tmp 33) (.tmp 37) 32 _ _ _ rfl rfl rfl rfl rfl hr ?_
 clear hr hHeld kS kR
 have kS:=kS'
 have kR:=kR'
 clear kS' kR'
 refine ah (hK _ _ (iv kR)) ?_
 intro hHeld
 clear hK K
 refine tC 7 39 (v:=?_) ?_ ?_
 rotate_left
 · exact ba
 try simp only [Act.put,PZ]
 refine rq1 8 (fun K hK=>?_)
 have cS:=iv kS
 have fS:=iF kS
 have hT:Touch [gs] W' (W'.setCell (Hh gs 14) (.slice (some (Hh ga 0)) (k+1) ca)):=(Touch.refl _ _).set (by simp) _ _
 have kR2:=(hT.block gr (iw kR) (fun hx=>by simp at hx;subst hx;rw [kR] at kS;simp at kS)).trans kR
 go_simp
 clear cS fS hHeld
 refine hK _ _ (iv kR2) (fun hHeld=>?_)
 clear hK K kR2
 try simp only [Act.put,PZ]
 refine dnq ?_
 have HM2:Hid (mr (W'.setCell (Hh gs 14) (.slice (some (Hh ga 0)) (k+1) ca)) (gs+1) (.slice (some (Hh ga 0)) (k+1) ca) (k+1) (upB b k W'.heap.size) (upd L k ⟨false,some (Hh gU 0),2,R⟩)):=hM'.vh hT (fun x hx=>by simp at hx;omega)
 have HS2:Hid ((W'.setCell (Hh gs 14) (.slice (some (Hh ga 0)) (k+1) ca)).heap[gs]?=some (.cells #[.int .i64 (n:Int),.int .i64 c,.int .i64 xo,.int .i64 xn,.int .i64 hd,.int .i64 lo,.int .i64 dl,.int .i64 0,.int .i64 1,.slice none 0 0,.slice RW.aU RW.nU RW.cU,.int .i64 RW.lo,.slice RW.aP RW.nP RW.cP,.slice none 0 0,.slice (some (Hh ga 0)) (k+1) ca,.int .i64 0,.int .i64 0] 34 (0,0))):=iO kS _
 have HW2:Hid (jb (W'.setCell (Hh gs 14) (.slice (some (Hh ga 0)) (k+1) ca)) (w.heap.size+2) RW):=hW'.off hT (fun x hx hm=>by
  simp at hm
  subst hm
  exact hW'.nW (by decide) (by decide) kS hx)
 have HB2:Hid (Below (w.heap.size+2) ((w.alloc (.cells #[.int .i64 (n:Int),.int .i64 c,.int .i64 xo,.int .i64 xn,.int .i64 hd,.int .i64 lo,.int .i64 dl] 25)).alloc (.cells ab 34)) (W'.setCell (Hh gs 14) (.slice (some (Hh ga 0)) (k+1) ca))):=hB'.setCell (by show _≤gs;omega) _
 have HF2:Hid (∀ i,i<k+1→sf (upd L k ⟨false,some (Hh gU 0),2,R⟩ i)):=ri (p:=fun _ l=>sf l) (fun i hi hne=>HF i (by omega)) ⟨rfl,HAl.out⟩
 clear hM' kS hW' hB' hT kR hR HF HAl kU
 go_wp2_with fail
 go_roundw
 case rel=>exact ⟨k+1,_,_,_,by omega,by go_num,HM2.out,HF2.out,HS2.out,HW2.out,HB2.out⟩
 case measure=>simp [intOf];omega):p:=h
theorem Ib (h:p:=by
 refine rq1 5 (fun K hK=>?_)
 obtain ⟨ga,ca,W',hr,hrow,hgb,hwh⟩:=zO ⟨false,some (Hh gU 0),2,R⟩ hM.row (by omega) (by have:=hM.mono (i:=0) (j:=k) (by omega) (by omega);have:=hM.b0;have:=hM.bn;omega) 32
 have hr:(Builtin.append_ #[32,32] 32 #[v,.slice (some (Hh V.heap.size 0)) 1 1]).run Tryz.prog (V.alloc (.cells #[.bool false,.slice none 0 0,.slice (some (Hh gU 0)) 2 2,.slice R.aQ R.nQ R.cQ,.slice R.aD R.nD R.cD,.int .i64 R.turn,.bool R.fresh,.slice R.aS R.nS R.cS] 48))=.ok (.slice (some (Hh ga 0)) (k+1) ca) W':=hr
 have hM':=hM.next ⟨false,some (Hh gU 0),2,R⟩ hrow hgb hR (sf.sh ⟨rfl,HAl.out⟩) (Ee gUl kU)
 have kR':=hM.far hgb kR (by decide)
 have kS':=hM.far hgb kS (by decide)
 have hW':=hM.counts hgb hW
 have hB':=hM.below hgb hB (by omega)
 have hA:=(Below.refl V.heap.size V).alloc (Nat.le_refl _) (.cells #[.bool false,.slice none 0 0,.slice (some (Hh gU 0)) 2 2,.slice R.aQ R.nQ R.cQ,.slice R.aD R.nD R.cD,.int .i64 R.turn,.bool R.fresh,.slice R.aS R.nS R.cS] 48)
 replace kS:=(hA.block _ (iw kS)).trans kS
 replace kR:=(hA.block _ (iw kR)).trans kR
 go_simp
 clear hHeld hA hgb hrow hwh hM hW hB
 refine ah (hK _ _ (iv kR)) ?_
 intro hHeld
 clear hK K
 generalize V.heap.size=gl at *
 generalize V.alloc (.cells #[.bool false,.slice none 0 0,.slice (some (Hh gU 0)) 2 2,.slice R.aQ R.nQ R.cQ,.slice R.aD R.nD R.cD,.int .i64 R.turn,.bool R.fresh,.slice R.aS R.nS R.cS] 48)=V at *
 exact Ia):p:=h
theorem fj (h:p:=by
 go_enter Tryz.func51,Tryz.ntmps51
 go_wp2
 go_quiet (fail)
 go_wp2
 go_ret
 exact ⟨0,by omega,rfl,hR.jR (fun _ _=>rfl),(Kept.refl _ _).drewN _⟩):p:=h
theorem fm (h:p:=by
 go_wp2_with fail
 go_ret
 exact ⟨_,rfl,hR1,hK1⟩):p:=h
theorem fq (h:p:=by
 rcases hP3 with h | h | h <;> rw [h] <;> exact lR _ (by omega) (by omega)):p:=h
theorem mr.far {b:Nat→Nat} {L:Nat→Ln} (hM:mr V b0 v k b L) (hg:V.grownBy V' v.ownBlock) {x:Nat} {arr:Array Value} (hx:V.heap[x]?=some (.cells arr t (0,0))) (ht:t≠48):V'.heap[x]?=some (.cells arr t (0,0)) :=
 (hg.block x (iw hx) (fun e=>by
  obtain ⟨_,arr2,h2⟩:=hM.row.typed x (by rw [←e];simp)
  rw [hx] at h2
  simp at h2
  exact ht h2.2)).trans hx
theorem mr.counts {b:Nat→Nat} {L:Nat→Ln} {N:Cnt} (hM:mr V b0 v k b L) (hg:V.grownBy V' v.ownBlock) (hN:jb V base N):jb V' base N :=
 hN.off (tp hg) (fun x hx hm=>by
  obtain ⟨_,arr2,h2⟩:=hM.row.typed x hm
  exact hN.nW (by decide) (by decide) h2 hx)
theorem mr.below {b:Nat→Nat} {L:Nat→Ln} (hM:mr V b0 v k b L) (hg:V.grownBy V' v.ownBlock) (hb:Below B a V) (h0:B≤b0):Below B a V' :=
 hb.grown hg (Nat.le_trans (by have:=hM.mono (i:=0) (j:=k) (by omega) (by omega);have:=hM.b0;have:=hM.bn;omega) (Nat.le_refl _)) (fun x e=>Nat.le_trans h0 (hM.row.typed x (by rw [e];simp)).1)
theorem ud (C:Cfg) (n:Nat) (w:World) (hp:2≤C.p∧C.p≤4→C.p=(n:Int)) (hok:false=true↔C.Ok) :
  Calls Tryz.prog 46 #[.agg C.cells] w fun e w'=>∃ S:Sw,e=.returned (.tuple #[.agg S.cells,.bool false])∧uw w' w.heap.size C n false S∧Below w.heap.size w w':=by
 ·
  have HO:=aa hok
  have HP:=aa hp
  have HB0:Hid (Below (w.heap.size+2) ((w.alloc (.cells C.cells 25)).alloc (.cells ab 34)) ((w.alloc (.cells C.cells 25)).alloc (.cells ab 34))):=Below.refl _ _
  clear hok hp
  unfold Cfg.cells at *
  go_enter Tryz.func46,Tryz.ntmps46
  go_wp2_with fail
  refine (pS C n _ HP false HO).mono ?_
  rintro e w1 ⟨RW,rfl,hW,hb,hAW⟩
  have hB:=lh HB0 hb
  have hA:=(Below.refl w1.heap.size w1).alloc (Nat.le_refl _) (.cells #[.slice RW.aU RW.nU RW.cU,.int .i64 RW.lo,.slice RW.aP RW.nP RW.cP] 30)
  replace hB:=lh hB hA
  have kz:=(uj hB).2
  have ht:=ph (w1.alloc (.cells #[.slice RW.aU RW.nU RW.cU,.int .i64 RW.lo,.slice RW.aP RW.nP RW.cP] 30)) (w.heap.size+1) ab
  have kz3:=ru (cs:=ab) kz
  have B:=(jB hB).trans (ht.below (jB hB).size (fun x hx=>by simp at hx;omega))
  have HKz:=aa kz
  have HK3:=aa kz3
  clear hb kz ht kz3 hB hW hAW hA
  dsimp only [Cnt.cells]
  go_wp2_with (refine rf rfl (.tmp 2) (.tmp 17) rfl (w.heap.size+1) rfl ab rfl ab HKz.out rfl rfl (by simp [Value.oneCell']) ?_)
  generalize (w1.alloc (.cells #[.slice RW.aU RW.nU RW.cU,.int .i64 RW.lo,.slice RW.aP RW.nP RW.cP] 30)).setRow (w.heap.size+1) ab=WF at *
  exact bodyPost_ret (xg Tryz.results46 _ _ (w.heap.size+1) _ rfl HK3.out rfl (.bool false) rfl) rfl ⟨yh,rfl,rfl,B⟩
theorem vu (n:Nat) (c xo xn hd lo dl:Int) (w:World) (hC:Cfg.Ok ⟨(n:Int),c,xo,xn,hd,lo,dl⟩) :
  Calls Tryz.prog 46 #[.agg (Cfg.cells ⟨(n:Int),c,xo,xn,hd,lo,dl⟩)] w fun e w'=>∃ S:Sw,e=.returned (.tuple #[.agg S.cells,.bool true])∧uw w' w.heap.size ⟨(n:Int),c,xo,xn,hd,lo,dl⟩ n true S∧Below w.heap.size w w':=by
 ·
  have h1:2≤(n:Int)∧(n:Int)≤4:=hC.num.p
  have hn:n≤4:=by omega
  have hn2:2≤n:=by omega
  have HO:Hid (Cfg.Ok ⟨(n:Int),c,xo,xn,hd,lo,dl⟩):=hC
  have HB0:Hid (Below (w.heap.size+2) ((w.alloc (.cells #[.int .i64 (n:Int),.int .i64 c,.int .i64 xo,.int .i64 xn,.int .i64 hd,.int .i64 lo,.int .i64 dl] 25)).alloc (.cells ab 34)) ((w.alloc (.cells #[.int .i64 (n:Int),.int .i64 c,.int .i64 xo,.int .i64 xn,.int .i64 hd,.int .i64 lo,.int .i64 dl] 25)).alloc (.cells ab 34))):=Below.refl _ _
  clear hC h1
  unfold Cfg.cells
  dsimp only
  go_enter Tryz.func46,Tryz.ntmps46
  go_wp2_with fail
  refine (pS ⟨(n:Int),c,xo,xn,hd,lo,dl⟩ n _ (fun _=>rfl) true ⟨fun _=>HO.out,fun _=>rfl⟩).mono ?_
  rintro e w1 ⟨RW,rfl,hW,hb,hAW⟩
  have hB:=lh HB0 hb
  have HAW:Hid (iQ (FL n true) RW):=hAW
  have HR0:Hid (∀ x∈yB RW,x<w1.heap.size):=fun x hx=>(hW.tbl x hx).2
  replace hW:jb w1 (w.heap.size+2) RW:=by simpa using hW
  have hA:=(Below.refl w1.heap.size w1).alloc (Nat.le_refl _) (.cells #[.slice RW.aU RW.nU RW.cU,.int .i64 RW.lo,.slice RW.aP RW.nP RW.cP] 30)
  have hA2:=hA.trans ((Below.refl (w1.alloc (.cells #[.slice RW.aU RW.nU RW.cU,.int .i64 RW.lo,.slice RW.aP RW.nP RW.cP] 30)).heap.size (w1.alloc (.cells #[.slice RW.aU RW.nU RW.cU,.int .i64 RW.lo,.slice RW.aP RW.nP RW.cP] 30))).alloc (Nat.le_refl _) (.cells ab 34) |>.mono (by simp))
  have kS0:((w1.alloc (.cells #[.slice RW.aU RW.nU RW.cU,.int .i64 RW.lo,.slice RW.aP RW.nP RW.cP] 30)).alloc (.cells ab 34)).heap[w1.heap.size+1]?=some (.cells ab 34 (0,0)):=by
   have:=iy (w1.alloc (.cells #[.slice RW.aU RW.nU RW.cU,.int .i64 RW.lo,.slice RW.aP RW.nP RW.cP] 30)) (.cells ab 34)
   simpa using this
  have hz:(((w1.alloc (.cells #[.slice RW.aU RW.nU RW.cU,.int .i64 RW.lo,.slice RW.aP RW.nP RW.cP] 30)).alloc (.cells ab 34)).setRow (w1.heap.size+1) #[.int .i64 (n:Int),.int .i64 c,.int .i64 xo,.int .i64 xn,.int .i64 hd,.int .i64 lo,.int .i64 dl,.int .i64 0,.int .i64 1,.slice none 0 0,.slice RW.aU RW.nU RW.cU,.int .i64 RW.lo,.slice RW.aP RW.nP RW.cP,.slice none 0 0,.slice none 0 0,.int .i64 0,.int .i64 0]).heap.size=w1.heap.size+2:=by simp [World.setRow]
  have ht:=ph ((w1.alloc (.cells #[.slice RW.aU RW.nU RW.cU,.int .i64 RW.lo,.slice RW.aP RW.nP RW.cP] 30)).alloc (.cells ab 34)) (w1.heap.size+1) #[.int .i64 (n:Int),.int .i64 c,.int .i64 xo,.int .i64 xn,.int .i64 hd,.int .i64 lo,.int .i64 dl,.int .i64 0,.int .i64 1,.slice none 0 0,.slice RW.aU RW.nU RW.cU,.int .i64 RW.lo,.slice RW.aP RW.nP RW.cP,.slice none 0 0,.slice none 0 0,.int .i64 0,.int .i64 0]
  have kS:(((w1.alloc (.cells #[.slice RW.aU RW.nU RW.cU,.int .i64 RW.lo,.slice RW.aP RW.nP RW.cP] 30)).alloc (.cells ab 34)).setRow (w1.heap.size+1) #[.int .i64 (n:Int),.int .i64 c,.int .i64 xo,.int .i64 xn,.int .i64 hd,.int .i64 lo,.int .i64 dl,.int .i64 0,.int .i64 1,.slice none 0 0,.slice RW.aU RW.nU RW.cU,.int .i64 RW.lo,.slice RW.aP RW.nP RW.cP,.slice none 0 0,.slice none 0 0,.int .i64 0,.int .i64 0]).heap[w1.heap.size+1]?=some (.cells #[.int .i64 (n:Int),.int .i64 c,.int .i64 xo,.int .i64 xn,.int .i64 hd,.int .i64 lo,.int .i64 dl,.int .i64 0,.int .i64 1,.slice none 0 0,.slice RW.aU RW.nU RW.cU,.int .i64 RW.lo,.slice RW.aP RW.nP RW.cP,.slice none 0 0,.slice none 0 0,.int .i64 0,.int .i64 0] 34 (0,0)):=ru kS0
  have HK0:Hid (((w1.alloc (.cells #[.slice RW.aU RW.nU RW.cU,.int .i64 RW.lo,.slice RW.aP RW.nP RW.cP] 30)).alloc (.cells ab 34)).heap[w1.heap.size+1]?=some (.cells ab 34 (0,0))):=kS0
  have cb:=(jq (lh hB hA)).1
  have hlo:w.heap.size+2≤w1.heap.size:=lI hB
  replace hW:=(hW.up hA2).off ht (fun x hx hm=>by
   simp at hm
   subst hm
   exact (hW.up hA2).nW (by decide) (by decide) kS0 hx)
  replace hB:=(lh hB hA2).trans (ht.below (by simp;omega) (fun x hx=>by simp at hx;omega))
  have cb2:=(jq hB).1
  clear hb hA hA2 hAW kS0 ht
  dsimp only [Cnt.cells]
  go_wp2_with (refine rf rfl (.tmp 6) (.tmp 20) rfl (w1.heap.size+1) rfl #[.int .i64 (n:Int),.int .i64 c,.int .i64 xo,.int .i64 xn,.int .i64 hd,.int .i64 lo,.int .i64 dl,.int .i64 0,.int .i64 1,.slice none 0 0,.slice RW.aU RW.nU RW.cU,.int .i64 RW.lo,.slice RW.aP RW.nP RW.cP,.slice none 0 0,.slice none 0 0,.int .i64 0,.int .i64 0] rfl ab HK0.out rfl rfl (by simp [Value.oneCell']) ?_)
  clear HK0
  generalize hgs:w1.heap.size+1=gs at *
  have hz':_=gs+1:=hz.trans (by omega)
  clear hz
  have HRT:Hid (∀ x∈yB RW,x<gs+1):=fun x hx=>by have:=HR0 x hx;omega
  replace hlo:w.heap.size+2≤gs:=by omega
  generalize (((w1.alloc (.cells #[.slice RW.aU RW.nU RW.cU,.int .i64 RW.lo,.slice RW.aP RW.nP RW.cP] 30)).alloc (.cells ab 34)).setRow gs #[.int .i64 (n:Int),.int .i64 c,.int .i64 xo,.int .i64 xn,.int .i64 hd,.int .i64 lo,.int .i64 dl,.int .i64 0,.int .i64 1,.slice none 0 0,.slice RW.aU RW.nU RW.cU,.int .i64 RW.lo,.slice RW.aP RW.nP RW.cP,.slice none 0 0,.slice none 0 0,.int .i64 0,.int .i64 0])=wA at *
  have hM:mr wA (gs+1) (.slice none 0 0) 0 (fun _=>gs+1) GX:=mr.start _ _ (by omega) _
  clear hgs hz' cb cb2 HR0
  generalize (Value.tuple #[.agg #[.slice RW.aU RW.nU RW.cU,.int .i64 RW.lo,.slice RW.aP RW.nP RW.cP],.bool true])=uT
  generalize (Value.agg #[.int .i64 (n:Int),.int .i64 c,.int .i64 xo,.int .i64 xn,.int .i64 hd,.int .i64 lo,.int .i64 dl,.int .i64 0,.int .i64 1,.slice none 0 0,.slice RW.aU RW.nU RW.cU,.int .i64 RW.lo,.slice RW.aP RW.nP RW.cP,.slice none 0 0,.slice none 0 0,.int .i64 0,.int .i64 0])=uX
  generalize (Value.agg #[.slice RW.aU RW.nU RW.cU,.int .i64 RW.lo,.slice RW.aP RW.nP RW.cP])=uR
  generalize (Value.agg #[.int .i64 (n:Int),.int .i64 c,.int .i64 xo,.int .i64 xn,.int .i64 hd,.int .i64 lo,.int .i64 dl])=uC
  go_loopw [7] (fun i wr=>∃ (k:Nat) (v:Value) (b:Nat→Nat) (L:Nat→Ln),k≤n∧i=.int .i64 k∧mr wr (gs+1) v k b L∧(∀ i,i<k→sf (L i))∧wr.heap[gs]?=some (.cells #[.int .i64 (n:Int),.int .i64 c,.int .i64 xo,.int .i64 xn,.int .i64 hd,.int .i64 lo,.int .i64 dl,.int .i64 0,.int .i64 1,.slice none 0 0,.slice RW.aU RW.nU RW.cU,.int .i64 RW.lo,.slice RW.aP RW.nP RW.cP,.slice none 0 0,v,.int .i64 0,.int .i64 0] 34 (0,0))∧jb wr (w.heap.size+2) RW∧Below (w.heap.size+2) ((w.alloc (.cells #[.int .i64 (n:Int),.int .i64 c,.int .i64 xo,.int .i64 xn,.int .i64 hd,.int .i64 lo,.int .i64 dl] 25)).alloc (.cells ab 34)) wr) (fun i _=>n-(intOf i).toNat)
  case atStart=>exact ⟨0,_,_,_,Nat.zero_le _,rfl,hM,fun i hi=>absurd hi (Nat.not_lt_zero i),kS,hW,hB⟩
  clear hM kS hW hB
  obtain ⟨k,v,b,L,hk,rfl,hM,hF,kS,hW,hB⟩:=hrel
  have HF:Hid (∀ i,i<k→sf (L i)):=hF
  clear hF
  have cb:=(jq hB).1
  by_cases hlt:k<n
  ·
   have hlt':(k:Int)<n:=by omega
   go_wp2_with fail
   refine (vv wr.heap.size 0 2 2 qfN _ (by omega) (EE wr) true ⟨fun _=>FZ,fun _=>rfl⟩).mono ?_
   rintro e w2 ⟨R,rfl,hR,hb,hAl⟩
   have hb1:Below wr.heap.size wr w2:=((Below.refl wr.heap.size wr).alloc (Nat.le_refl _) _).trans (hb.mono (by simp))
   replace hR:jx w2 (b k) R:=hR.mono (by have:=hM.bn;simp;omega)
   have HAl:Hid (Alike (Gv 2 qfN true) R):=hAl
   have hA:=hb1.trans (((Below.refl w2.heap.size w2).alloc (Nat.le_refl _) (.cells #[.slice R.aQ R.nQ R.cQ,.slice R.aD R.nD R.cD,.int .i64 R.turn,.bool R.fresh,.slice R.aS R.nS R.cS] 46)).mono hb1.size)
   have hA1:=(Below.refl w2.heap.size w2).alloc (Nat.le_refl _) (.cells #[.slice R.aQ R.nQ R.cQ,.slice R.aD R.nD R.cD,.int .i64 R.turn,.bool R.fresh,.slice R.aS R.nS R.cS] 46)
   have kR:=iy w2 (.cells #[.slice R.aQ R.nQ R.cQ,.slice R.aD R.nD R.cD,.int .i64 R.turn,.bool R.fresh,.slice R.aS R.nS R.cS] 46)
   replace hR:=hR.up hA1
   replace hM:=hM.up hA
   replace kS:=(hA.block _ (iw kS)).trans kS
   replace hW:=hW.up hA
   replace hB:=lh hB hA
   clear hb hb1 hA hA1 hAl cb
   dsimp only [Rnd.cells]
   go_wp2_with fail
   generalize hgr:w2.heap.size=gr at *
   generalize (w2.alloc (.cells #[.slice R.aQ R.nQ R.cQ,.slice R.aD R.nD R.cD,.int .i64 R.turn,.bool R.fresh,.slice R.aS R.nS R.cS] 46))=W at *
   clear hgr
   refine wp_region_held_drew (S:=fun w'=>∀ o,w'.cell? (Hh gr o)=(#[.slice R.aQ R.nQ R.cQ,.slice R.aD R.nD R.cD,.int .i64 R.turn,.bool R.fresh,.slice R.aS R.nS R.cS]:Array Value)[o]?) (by kernel_rfl) (fun o=>iv kR o) (fun hHeld=>?_)
   have hd:=(Below.refl W.heap.size W).drew
   replace hR:=hR.up hd
   replace hM:=hM.up hd
   replace kR:=(hd.block _ (iw kR)).trans kR
   replace kS:=(hd.block _ (iw kS)).trans kS
   replace hW:=hW.up hd
   replace hB:=lh hB hd
   clear hd hHeld
   generalize W.drew=V at *
   have hHeld:=iv kR
   refine tC 0 32 (v:=?_) ?_ ?_
   rotate_left
   · exact ba
   try simp only [Act.put,PZ]
   refine tC 3 35 (v:=?_) ?_ ?_
   rotate_left
   · exact ba
   try simp only [Act.put,PZ]
   refine rq2 1 2 (fun K hK=>?_) (fun K hK=>?_)
   ·
    have cS:=iv kS
    go_simp
    clear cS
    refine ah (hK _ _ (iv kR)) ?_
    intro hHeld
    clear hK K
    refine rq1 2 (fun K hK=>?_)
    have m:=zr V
    go_simp
    clear m
    have hA:=(Below.refl V.heap.size V).alloc (Nat.le_refl _) (.cells (tR 2) 27)
    have kU:=iy V (.cells (tR 2) 27)
    have gUl:b k≤V.heap.size:=hM.bn
    replace hR:=hR.up hA
    replace hM:=hM.up hA
    replace kR:=(hA.block _ (iw kR)).trans kR
    replace kS:=(hA.block _ (iw kS)).trans kS
    replace hW:=hW.up hA
    replace hB:=lh hB hA
    clear hA hHeld
    refine ah (hK _ _ (iv kR)) ?_
    intro hHeld
    clear hK K
    generalize V.heap.size=gU at *
    generalize V.alloc (.cells (tR 2) 27)=V at *
    refine tC 4 36 (v:=?_) ?_ ?_
    rotate_left
    · exact ba
    try simp only [Act.put,PZ]
    exact Ib
   have m:=zr V
   go_simp
   clear m
   have hA:=(Below.refl V.heap.size V).alloc (Nat.le_refl _) (.cells (tR 2) 27)
   have kU:=iy V (.cells (tR 2) 27)
   have gUl:b k≤V.heap.size:=hM.bn
   replace hR:=hR.up hA
   replace hM:=hM.up hA
   replace kR:=(hA.block _ (iw kR)).trans kR
   replace kS:=(hA.block _ (iw kS)).trans kS
   replace hW:=hW.up hA
   replace hB:=lh hB hA
   clear hA hHeld
   refine ah (hK _ _ (iv kR)) ?_
   intro hHeld
   clear hK K
   generalize V.heap.size=gU at *
   generalize V.alloc (.cells (tR 2) 27)=V at *
   refine tC 4 36 (v:=?_) ?_ ?_
   rotate_left
   · exact ba
   try simp only [Act.put,PZ]
   refine rq2 1 5 (fun K hK=>?_) (fun K hK=>?_)
   ·
    have cS:=iv kS
    go_simp
    clear cS
    refine ah (hK _ _ (iv kR)) ?_
    intro hHeld
    clear hK K
    exact Ib
   obtain ⟨ga,ca,W',hr,hrow,hgb,hwh⟩:=zO ⟨false,some (Hh gU 0),2,R⟩ hM.row (by omega) (by have:=hM.mono (i:=0) (j:=k) (by omega) (by omega);have:=hM.b0;have:=hM.bn;omega) 32
   have hr:(Builtin.append_ #[32,32] 32 #[v,.slice (some (Hh V.heap.size 0)) 1 1]).run Tryz.prog (V.alloc (.cells #[.bool false,.slice none 0 0,.slice (some (Hh gU 0)) 2 2,.slice R.aQ R.nQ R.cQ,.slice R.aD R.nD R.cD,.int .i64 R.turn,.bool R.fresh,.slice R.aS R.nS R.cS] 48))=.ok (.slice (some (Hh ga 0)) (k+1) ca) W':=hr
   have hM':=hM.next ⟨false,some (Hh gU 0),2,R⟩ hrow hgb hR (sf.sh ⟨rfl,HAl.out⟩) (Ee gUl kU)
   have kR':=hM.far hgb kR (by decide)
   have kS':=hM.far hgb kS (by decide)
   have hW':=hM.counts hgb hW
   have hB':=hM.below hgb hB (by omega)
   have hA:=(Below.refl V.heap.size V).alloc (Nat.le_refl _) (.cells #[.bool false,.slice none 0 0,.slice (some (Hh gU 0)) 2 2,.slice R.aQ R.nQ R.cQ,.slice R.aD R.nD R.cD,.int .i64 R.turn,.bool R.fresh,.slice R.aS R.nS R.cS] 48)
   replace kS:=(hA.block _ (iw kS)).trans kS
   replace kR:=(hA.block _ (iw kR)).trans kR
   go_simp
   clear hHeld hA hgb hrow hwh hM hW hB
   refine ah (hK _ _ (iv kR)) ?_
   intro hHeld
   clear hK K
   generalize V.heap.size=gl at *
   generalize V.alloc (.cells #[.bool false,.slice none 0 0,.slice (some (Hh gU 0)) 2 2,.slice R.aQ R.nQ R.cQ,.slice R.aD R.nD R.cD,.int .i64 R.turn,.bool R.fresh,.slice R.aS R.nS R.cS] 48)=V at *
   refine rq1 1 (fun K hK=>?_)
   have cS:=iv kS
   go_simp
   clear cS
   refine ah (hK _ _ (iv kR)) ?_
   intro hHeld
   clear hK K
   exact Ia
  obtain rfl:k=n:=by omega
  rcases hM.yP with ⟨_,h0⟩ | ⟨g,cap,rfl,hg,hL⟩
  ·
   omega
  have kz:=(uj hB).2
  have ht:=ph wr (w.heap.size+1) #[.int .i64 (k:Int),.int .i64 c,.int .i64 xo,.int .i64 xn,.int .i64 hd,.int .i64 lo,.int .i64 dl,.int .i64 0,.int .i64 1,.slice none 0 0,.slice RW.aU RW.nU RW.cU,.int .i64 RW.lo,.slice RW.aP RW.nP RW.cP,.slice none 0 0,.slice (some (Hh g 0)) k cap,.int .i64 0,.int .i64 0]
  have HK3:Hid ((wr.setRow (w.heap.size+1) #[.int .i64 (k:Int),.int .i64 c,.int .i64 xo,.int .i64 xn,.int .i64 hd,.int .i64 lo,.int .i64 dl,.int .i64 0,.int .i64 1,.slice none 0 0,.slice RW.aU RW.nU RW.cU,.int .i64 RW.lo,.slice RW.aP RW.nP RW.cP,.slice none 0 0,.slice (some (Hh g 0)) k cap,.int .i64 0,.int .i64 0]).heap[w.heap.size+1]?=some (.cells #[.int .i64 (k:Int),.int .i64 c,.int .i64 xo,.int .i64 xn,.int .i64 hd,.int .i64 lo,.int .i64 dl,.int .i64 0,.int .i64 1,.slice none 0 0,.slice RW.aU RW.nU RW.cU,.int .i64 RW.lo,.slice RW.aP RW.nP RW.cP,.slice none 0 0,.slice (some (Hh g 0)) k cap,.int .i64 0,.int .i64 0] 34 (0,0))):=ru kz
  have hb0:=hM.b0
  have HFin:Hid (uw (wr.setRow (w.heap.size+1) #[.int .i64 (k:Int),.int .i64 c,.int .i64 xo,.int .i64 xn,.int .i64 hd,.int .i64 lo,.int .i64 dl,.int .i64 0,.int .i64 1,.slice none 0 0,.slice RW.aU RW.nU RW.cU,.int .i64 RW.lo,.slice RW.aP RW.nP RW.cP,.slice none 0 0,.slice (some (Hh g 0)) k cap,.int .i64 0,.int .i64 0]) w.heap.size ⟨(k:Int),c,xo,xn,hd,lo,dl⟩ k true ⟨⟨(k:Int),c,xo,xn,hd,lo,dl⟩,1,RW,some (Hh g 0),k,cap,L⟩) :=
   ⟨rfl,rfl,rfl,by omega,hn,HAW.out,HF.out,g,b,⟨(hW.jE ht (fun x hx=>by simp at hx;omega)).mono (by omega),by omega,hL.vh ht (fun x hx=>by simp at hx;omega),rfl,fun x hx=>by have:=HRT x hx;omega⟩⟩
  have HB2:Hid (Below w.heap.size w (wr.setRow (w.heap.size+1) #[.int .i64 (k:Int),.int .i64 c,.int .i64 xo,.int .i64 xn,.int .i64 hd,.int .i64 lo,.int .i64 dl,.int .i64 0,.int .i64 1,.slice none 0 0,.slice RW.aU RW.nU RW.cU,.int .i64 RW.lo,.slice RW.aP RW.nP RW.cP,.slice none 0 0,.slice (some (Hh g 0)) k cap,.int .i64 0,.int .i64 0])):=(jB hB).trans (ht.below (jB hB).size (fun x hx=>by simp at hx;omega))
  have HKz:Hid (wr.heap[w.heap.size+1]?=some (.cells ab 34 (0,0))):=kz
  have HKs:Hid (wr.heap[gs]?=some (.cells #[.int .i64 (k:Int),.int .i64 c,.int .i64 xo,.int .i64 xn,.int .i64 hd,.int .i64 lo,.int .i64 dl,.int .i64 0,.int .i64 1,.slice none 0 0,.slice RW.aU RW.nU RW.cU,.int .i64 RW.lo,.slice RW.aP RW.nP RW.cP,.slice none 0 0,.slice (some (Hh g 0)) k cap,.int .i64 0,.int .i64 0] 34 (0,0))):=kS
  clear kz ht hB hM hL hW kS HB0 HO HAW HRT HF hg hb0
  go_wp2_with (first | refine zX rfl (.tmp 6) rfl gs rfl #[.int .i64 (k:Int),.int .i64 c,.int .i64 xo,.int .i64 xn,.int .i64 hd,.int .i64 lo,.int .i64 dl,.int .i64 0,.int .i64 1,.slice none 0 0,.slice RW.aU RW.nU RW.cU,.int .i64 RW.lo,.slice RW.aP RW.nP RW.cP,.slice none 0 0,.slice (some (Hh g 0)) k cap,.int .i64 0,.int .i64 0] HKs.out rfl ?_ | refine rf rfl (.tmp 2) (.tmp 40) rfl (w.heap.size+1) rfl #[.int .i64 (k:Int),.int .i64 c,.int .i64 xo,.int .i64 xn,.int .i64 hd,.int .i64 lo,.int .i64 dl,.int .i64 0,.int .i64 1,.slice none 0 0,.slice RW.aU RW.nU RW.cU,.int .i64 RW.lo,.slice RW.aP RW.nP RW.cP,.slice none 0 0,.slice (some (Hh g 0)) k cap,.int .i64 0,.int .i64 0] rfl ab HKz.out rfl rfl (by simp [Value.oneCell']) ?_)
  generalize wr.setRow (w.heap.size+1) #[.int .i64 (k:Int),.int .i64 c,.int .i64 xo,.int .i64 xn,.int .i64 hd,.int .i64 lo,.int .i64 dl,.int .i64 0,.int .i64 1,.slice none 0 0,.slice RW.aU RW.nU RW.cU,.int .i64 RW.lo,.slice RW.aP RW.nP RW.cP,.slice none 0 0,.slice (some (Hh g 0)) k cap,.int .i64 0,.int .i64 0]=WF at *
  exact bodyPost_ret (xg Tryz.results46 _ _ (w.heap.size+1) _ rfl HK3.out rfl (.bool true) rfl) rfl ⟨⟨⟨(k:Int),c,xo,xn,hd,lo,dl⟩,1,RW,some (Hh g 0),k,cap,L⟩,rfl,HFin,HB2⟩
theorem pR (C:Cfg) (n:Nat) (w:World) (hp:2≤C.p∧C.p≤4→C.p=(n:Int)) (ok:Bool) (hok:ok=true↔C.Ok) :
  Calls Tryz.prog 46 #[.agg C.cells] w fun e w'=>∃ S:Sw,e=.returned (.tuple #[.agg S.cells,.bool ok])∧uw w' w.heap.size C n ok S∧Below w.heap.size w w':=by
 cases ok
 ·
  exact ud C n w hp hok
 obtain ⟨p,c,xo,xn,hd,lo,dl⟩:=C
 have hC:=hok.1 rfl
 have h1:2≤p∧p≤4:=hC.num.p
 obtain rfl:p=(n:Int):=hp h1
 exact vu n c xo xn hd lo dl w hC
def pk0:Pkt:=⟨0,0,0,0,0,0,0,⟨#[]⟩⟩
def Ln.toG (l:Ln):Lng:=⟨l.st,none,0,0,fun _=>0,l.aU,2,l.cU,fun _=>none,fun _=>0,fun _=>0,fun _ _=>0,l.R⟩
def Sw.toG (S:Sw):Swg:=⟨S.C,0,S.nx,none,0,0,fun _=>⟨0,0,0⟩,S.N,none,0,0,fun _=>pk0,S.aL,S.nL,S.cL,fun i=>(S.L i).toG,0,0⟩
theorem Sw.wQ (S:Sw):S.cells=S.toG.cells:=rfl
theorem CX.g {S:Sw} (h:CX w S):lN w S.toG :=
 ⟨fun i hi=>absurd hi (Nat.not_lt_zero _),h.n,pP.nil _ _ _,h.l,fun i hi=>⟨iX.nil _ _ _,h.u i hi,fun j hj=>iX.nil _ _ _,h.r i hi⟩⟩
def GZ (C:Cfg) (n:Nat):Swg:=⟨C,0,1,none,0,0,fun _=>⟨0,0,0⟩,FL n true,none,0,0,fun _=>pk0,none,n,0,fun _=>⟨false,none,0,0,fun _=>0,none,2,0,fun _=>none,fun _=>0,fun _=>0,fun _ _=>0,Gv 2 qfN true⟩,0,0⟩
theorem uw.g {S:Sw} (h:uw w base C n true S):iE (GZ C n) S.toG:=by
 obtain ⟨h1,h2,h3,h4,h5,h6,h7,g,b,h8⟩:=h
 exact ⟨h1,rfl,h2,rfl,rfl,h6,rfl,rfl,h3,fun i hi=>⟨(h7 i hi).1,rfl,rfl,rfl,rfl,rfl,(h7 i hi).2⟩,rfl,rfl⟩
theorem tH.G8 {g:Nat} {b:Nat→Nat} {S:Sw} {T:List Nat} (h:tH w base g b S) (ht:Touch T w w') (hT:∀ x∈T,x<base):tH w' base g b S :=
 ⟨h.n.jE ht hT,h.bb,h.l.vh ht (fun x hx=>Nat.lt_of_lt_of_le (hT x hx) h.bb),h.a,h.z⟩
theorem BB (h:C.Ok) (hn:(n:Int)=C.p):(GZ C n).Ok:=by
 have hp:=h.num.p
 refine ⟨⟨h,hn,hn,by show 0≤(0:Int)∧0≤C.lo;have:=h.num.lo;omega,fun i hi=>by show 0≤(0:Int)∧0≤C.xo+C.hd;have:=h.num.xo;have:=h.num.hd;omega⟩,⟨by show 0≤(0:Int)∧(0:Int)≤1000000000;omega,by show 1≤(1:Int)∧(1:Int)≤1000000000;omega,by show 0≤(0:Int)∧(0:Int)≤1000000000;omega,by show 0≤(0:Int)∧(0:Int)≤1000000000;omega⟩,⟨⟨Nat.zero_le _,fun i hi=>absurd hi (Nat.not_lt_zero _)⟩,fun i hi=>absurd hi (Nat.not_lt_zero _)⟩,⟨Nat.zero_le _,fun i hi=>absurd hi (Nat.not_lt_zero _),fun i hi=>absurd hi (Nat.not_lt_zero _)⟩,hn,fun i hi=>?_,fun j hj=>absurd hj (Nat.not_lt_zero _),rfl,fun i hi=>rfl⟩
 exact ⟨FZ,rfl,rfl,rfl,rfl,fun c hc=>⟨fun i hi=>absurd hi (Nat.not_lt_zero _),rfl,fun i hi=>absurd hi (Nat.not_lt_zero _)⟩,fun i hi=>absurd hi (Nat.not_lt_zero _)⟩
def Code (g:Nat) (cv:Value) (len:Nat) (w:World):Prop :=
 ((∃ a cap,cv=.slice a 0 cap)∧len=0)∨∃ b off cap,cv=.slice (some (Hh b off)) len cap∧b<g∧len≤1048576∧∀ i,i<len→∃ z:Nat,z≤255∧w.cell? (Hh b (off+i))=some (.int .u8 z)
def Rd (g:Nat) (cv:Value) (w:World):Prop :=
 ∃ len p:Nat,p≤len∧w.heap[g]?=some (.cells #[cv,.int .i64 p] 85 (0,0))∧Code g cv len w
structure Kept (g:Nat) (w w':World):Prop where
 os:w'.os=w.os
 tape:w'.tape=w.tape
 output:w'.output=w.output
 size:w.heap.size≤w'.heap.size
 block:∀ k,k<w.heap.size→k≠g→w'.heap[k]?=w.heap[k]?
theorem Kept.refl (g:Nat) (w:World):Kept g w w:=⟨rfl,rfl,rfl,Nat.le_refl _,fun _ _ _=>rfl⟩
theorem Kept.trans {g:Nat} {c:World} (h:Kept g a b) (k:Kept g b c):Kept g a c :=
 ⟨k.os.trans h.os,k.tape.trans h.tape,k.output.trans h.output,Nat.le_trans h.size k.size,fun i hi hn=>(k.block i (Nat.lt_of_lt_of_le hi h.size) hn).trans (h.block i hi hn)⟩
theorem Kept.ji {g:Nat} (h:Below a.heap.size a b):Kept g a b:=⟨h.os,h.tape,h.output,h.size,fun i hi _=>h.block i hi⟩
theorem Kept.alloc {g:Nat} (h:Kept g a b) (o:Obj):Kept g a (b.alloc o):=h.trans (Kept.ji ((Below.refl _ _).alloc (Nat.le_refl _) o))
theorem Kept.drewN {g:Nat} (h:Kept g a b) (n:Nat):Kept g a (b.drewN n):=⟨h.os,h.tape,h.output,h.size,h.block⟩
theorem Kept.set {g:Nat} (h:Kept g a b) (i:Nat) (v:Value):Kept g a (b.setCell (Hh g i) v) :=
 h.trans ⟨rfl,rfl,rfl,by simp [World.setCell],fun k _ hn=>iJ hn v⟩
theorem Kept.iL {g:Nat} (h:Kept g a b) (hk:a.heap.size≤k) (i:Nat) (v:Value):Kept g a (b.setCell (Hh k i) v) :=
 ⟨h.os,h.tape,h.output,by simpa [World.setCell] using h.size,fun j hj hn=>(iJ (by omega) v).trans (h.block j hj hn)⟩
theorem Kept.below {g:Nat} (h:Kept g a b) (hB:B≤a.heap.size) (hg:B≤g):Below B a b:=⟨h.os,h.tape,h.output,h.size,fun k hk=>h.block k (by omega) (by omega)⟩
theorem Code.jR {g:Nat} {len:Nat} (h:Code g cv len w) (hg:g≤w.heap.size) (hk:∀ k,k<g→w'.heap[k]?=w.heap[k]?):Code g cv len w':=by
 rcases h with h | ⟨b,off,cap,hv,hb,hl,hc⟩
 ·
  exact .inl h
 refine .inr ⟨b,off,cap,hv,hb,hl,fun i hi=>?_⟩
 obtain ⟨z,hz,he⟩:=hc i hi
 exact ⟨z,hz,(World.cell?_of_block (w:=w) (a:=(Hh b (off+i))) (hk b hb)).trans he⟩
theorem Rd.lt {g:Nat} (h:Rd g cv w):g<w.heap.size:=by
 obtain ⟨_,_,_,hb,_⟩:=h;exact iw hb
theorem Rd.jR {g:Nat} (h:Rd g cv w) (hk:∀ k,k≤g→w'.heap[k]?=w.heap[k]?):Rd g cv w':=by
 have hl:=h.lt
 obtain ⟨len,p,hp,hb,hc⟩:=h
 exact ⟨len,p,hp,by rw [hk g (Nat.le_refl _)];exact hb,hc.jR (by omega) (fun k hk'=>hk k (by omega))⟩
theorem Rd.below {g:Nat} (h:Rd g cv w) (hb:Below w.heap.size w w'):Rd g cv w' :=
 h.jR (fun k hk=>hb.block k (by have:=h.lt;omega))
theorem Rd.alloc {g:Nat} (h:Rd g cv w) (o:Obj):Rd g cv (w.alloc o):=h.below ((Below.refl _ _).alloc (Nat.le_refl _) o)
theorem Rd.iL {g:Nat} (h:Rd g cv w) (hk:g<k) (i:Nat) (v:Value):Rd g cv (w.setCell (Hh k i) v) :=
 h.jR (fun j hj=>iJ (by omega) v)
theorem DF (cv:Value) (len:Nat) (w:World) (h:Code w.heap.size cv len w) (hs:∃ a n c,cv=.slice a n c) :
  Calls Tryz.prog 18 #[cv] w fun e w'=>e=.returned (.pointer (some (Hh w.heap.size 0)))∧Rd w.heap.size cv w'∧Below w.heap.size w w':=by
 obtain ⟨a,n,c,rfl⟩:=hs
 go_enter Tryz.func18,Tryz.ntmps18
 go_wp2
 go_ret
 refine ⟨rfl,⟨len,0,Nat.zero_le _,iy w _,h.jR (Nat.le_refl _) (fun k hk=>iN _ hk)⟩,(Below.refl _ _).alloc (Nat.le_refl _) _⟩
theorem ss (g:Nat) (cv:Value) (w:World) (h:Rd g cv w) :
  Calls Tryz.prog 51 #[.pointer (some (Hh g 0))] w fun e w'=>∃ x:Nat,x≤255∧e=.returned (.int .i64 x)∧Rd g cv w'∧Kept g w w':=by
 have hR:=h
 obtain ⟨len,p,hp,hb,hc⟩:=h
 have c0:w.cell? (Hh g 0)=some cv:=by rw [iv hb];rfl
 have c1:w.cell? (Hh g 1)=some (.int .i64 p):=by rw [iv hb];rfl
 rcases hc with ⟨⟨ca,ccap,rfl⟩,rfl⟩ | ⟨b,off,cap,rfl,hbg,hl,hcell⟩
 ·
  obtain rfl:p=0:=by omega
  exact fj
 by_cases hlt:p<len
 ·
  obtain ⟨z,hz,hzc⟩:=hcell p hlt
  have f1:=iF hb 1
  have hlt':(p:Int)<(len:Int):=by omega
  have hx:∀ v,(w.setCell (Hh g 1) v).cell? (Hh b (off+p))=some (.int .u8 z):=by
   intro v
   rw [World.cell?_of_block (w:=w) (a:=(Hh b (off+p))) (iJ (by show b≠g;omega) v)]
   exact hzc
  have hbn:b≠g:=by omega
  go_enter Tryz.func51,Tryz.ntmps51
  go_wp2
  go_quiet (fail)
  go_wp2
  go_quiet (fail)
  go_wp2
  go_ret
  refine ⟨z,hz,rfl,⟨len,p+1,hlt,?_,?_⟩,(((Kept.refl _ _).drewN _).set 1 _).drewN _⟩
  ·
   exact iO (w:=w) (i:=1) hb (.int .i64 ((p+1:Nat):Int))
  refine .inr ⟨b,off,cap,rfl,hbg,hl,fun i hi=>?_⟩
  obtain ⟨z',hz',hc'⟩:=hcell i hi
  exact ⟨z',hz',(World.cell?_of_block (w:=w) (a:=(Hh b (off+i))) (iJ (w:=w) (g:=g) (i:=1) (by show b≠g;omega) (.int .i64 ((p+1:Nat):Int)))).trans hc'⟩
 have hge:(len:Int)≤p:=by omega
 exact fj
theorem jm (g:Nat) (cv:Value) (n:Int) (w:World) (h:Rd g cv w) (h1:1≤n) (h2:n≤65536) :
  Calls Tryz.prog 22 #[.pointer (some (Hh g 0)),.int .i64 n] w fun e w'=>∃ x:Nat,(x:Int)<n∧e=.returned (.int .i64 x)∧Rd g cv w'∧Kept g w w':=by
 by_cases hn1:n≤1
 ·
  go_enter Tryz.func22,Tryz.ntmps22
  go_wp2_with fail
  go_ret
  exact ⟨0,by omega,rfl,h,Kept.refl _ _⟩
 by_cases hn2:n≤256
 ·
  go_enter Tryz.func22,Tryz.ntmps22
  go_wp2_with fail
  refine (ss _ _ _ h).mono ?_
  rintro e w1 ⟨x,hx,rfl,hR1,hK1⟩
  go_wp2_with fail
  go_ret
  have e1:=Int.emod_nonneg (x:Int) (show n≠0 by omega)
  have e2:=Int.emod_lt_of_pos (x:Int) (show 0<n by omega)
  exact ⟨((x:Int) % n).toNat,by omega,qj (by omega),hR1,hK1⟩
 go_enter Tryz.func22,Tryz.ntmps22
 go_wp2_with fail
 refine (ss _ _ _ h).mono ?_
 rintro e w1 ⟨x,hx,rfl,hR1,hK1⟩
 go_wp2_with fail
 refine (ss _ _ _ hR1).mono ?_
 rintro e w2 ⟨y,hy,rfl,hR2,hK2⟩
 go_wp2_with fail
 go_ret
 have e1:=Int.emod_nonneg ((x:Int)*256+y) (show n≠0 by omega)
 have e2:=Int.emod_lt_of_pos ((x:Int)*256+y) (show 0<n by omega)
 exact ⟨(((x:Int)*256+y) % n).toNat,by omega,qj (by omega),hR2,hK1.trans hK2⟩
theorem vB (g:Nat) (cv:Value) (n:Int) (w:World) (h:Rd g cv w) (h1:1≤n) (h2:n≤65536) :
  Calls Tryz.prog 20 #[.pointer (some (Hh g 0)),.int .i64 n] w fun e w'=>∃ x:Bool,e=.returned (.bool x)∧Rd g cv w'∧Kept g w w':=by
 go_enter Tryz.func20,Tryz.ntmps20
 go_wp2_with fail
 refine (jm _ _ _ _ h h1 h2).mono ?_
 rintro e w1 ⟨x,hx,rfl,hR1,hK1⟩
 exact fm
def U64 (v:Int):Prop:=0≤v∧v<18446744073709551616
theorem D8 (op:BinOp) (x y:Int):U64 (bits op .u64 x y):=by
 unfold bits U64
 simp only [IntKind.wrap,IntKind.bits,IntKind.signed]
 constructor
 ·
  simp;omega
 simp;omega
theorem CZ (g:Nat) (cv:Value) (w:World) (h:Rd g cv w) :
  Calls Tryz.prog 87 #[.pointer (some (Hh g 0))] w fun e w'=>∃ x:Int,U64 x∧e=.returned (.int .u64 x)∧Rd g cv w'∧Kept g w w':=by
 go_enter Tryz.func87,Tryz.ntmps87
 go_wp2_with fail
 go_loopw [3,4] (fun x i wr=>∃ (k:Nat) (v:Int),k≤8∧i=.int .i64 k∧x=.int .u64 v∧U64 v∧Rd g cv wr∧Kept g w wr) (fun _ i _=>8-(intOf i).toNat)
 case atStart=>exact ⟨0,0,by omega,rfl,rfl,⟨by omega,by omega⟩,h,Kept.refl _ _⟩
 obtain ⟨k,v,hk,rfl,rfl,hv,hR,hK⟩:=hrel
 by_cases hlt:k<8
 ·
  have hlt':(k:Int)<8:=by omega
  go_wp2_with fail
  refine (ss _ _ _ hR).mono ?_
  rintro e w1 ⟨x,hx,rfl,hR1,hK1⟩
  go_wp2_with fail
  go_roundw
  case rel=>exact ⟨k+1,_,by omega,by go_num,rfl,D8 _ _ _,hR1,hK.trans hK1⟩
  case measure=>simp [intOf];omega
 go_wp2_with fail
 go_ret
 exact ⟨v,hv,rfl,hR,hK⟩
theorem DK (g:Nat) (cv:Value) (low high:Int) (w:World) (h:Rd g cv w) (h0:-1000≤low) (h1:low≤high) (h2:high≤1000) :
  Calls Tryz.prog 50 #[.pointer (some (Hh g 0)),.int .i64 low,.int .i64 high] w fun e w'=>∃ x:Int,e=.returned (.int .i64 x)∧Rd g cv w'∧Kept g w w':=by
 go_enter Tryz.func50,Tryz.ntmps50
 go_wp2_with fail
 refine (jm _ _ _ _ h (by omega) (by omega)).mono ?_
 rintro e w1 ⟨x,hx,rfl,hR1,hK1⟩
 by_cases hx0:x=0
 ·
  have hq:((x:Int) == 0)=true:=by simp;omega
  exact fm
 have hq:((x:Int) == 0)=false:=by simp;omega
 by_cases hx1:x=1
 ·
  have hq1:((x:Int) == 1)=true:=by simp;omega
  exact fm
 have hq1:((x:Int) == 1)=false:=by simp;omega
 have hd:(high-low+1 == 0)=false:=by simp;omega
 go_wp2_with fail
 refine (CZ _ _ _ hR1).mono ?_
 rintro e w2 ⟨y,hy,rfl,hR2,hK2⟩
 go_wp2_with fail
 go_ret
 exact ⟨_,rfl,hR2,hK1.trans hK2⟩
theorem Eh {g:Nat} {C:Array Value} (hg:g<w.heap.size) (hK:Kept g (w.alloc (.cells C t)) w1) (i:Nat):w1.cell? (Hh w.heap.size i)=C[i]?:=by
 have hz:(w.alloc (.cells C t)).heap.size=w.heap.size+1:=by simp
 rw [World.cell?_of_block (w:=w.alloc (.cells C t)) (a:=(Hh w.heap.size i)) (hK.block w.heap.size (by omega) (by omega))]
 exact World.cell?_alloc_mark w C t (0,0) i
theorem mF {g:Nat} (hK:Kept g (w.alloc o) w1):Kept g w w1:=((Kept.refl g w).alloc o).trans hK
theorem rB (g:Nat) (cv:Value) (low high:Int) (w:World) (h:Rd g cv w) (h0:-1000≤low) (h1:low≤high) (h2:high≤1000) :
  Calls Tryz.prog 21 #[.pointer (some (Hh g 0)),.int .i64 low,.int .i64 high] w fun e w'=>∃ x:Int,e=.returned (.int .i64 x)∧Rd g cv w'∧Kept g w w':=by
 go_enter Tryz.func21,Tryz.ntmps21
 go_wp2_with fail
 refine (vB _ _ _ _ h (by omega) (by omega)).mono ?_
 rintro e w1 ⟨x,rfl,hR1,hK1⟩
 cases x
 ·
  go_wp2_with fail
  refine (DK _ _ _ _ _ hR1 h0 h1 h2).mono ?_
  rintro e w2 ⟨y,rfl,hR2,hK2⟩
  go_wp2_with fail
  go_ret
  exact ⟨_,rfl,hR2,hK1.trans hK2⟩
 go_wp2_with fail
 refine (jm _ _ _ _ (hR1.alloc _) (by omega) (by omega)).mono ?_
 rintro e w2 ⟨y,hy,rfl,hR2,hK2⟩
 have hcl:=Eh hR1.lt hK2 y
 have hK:=hK1.trans (mF hK2)
 obtain ⟨z,hz⟩:∃ z,w2.cell? (Hh w1.heap.size y)=some (.int .i64 z):=by
  rw [hcl]
  rcases (by omega:y=0∨y=1∨y=2∨y=3) with rfl | rfl | rfl | rfl <;> exact ⟨_,rfl⟩
 clear hcl hK2
 go_wp2_with fail
 go_ret
 exact ⟨_,rfl,hR2,hK⟩
theorem D0 (g:Nat) (cv:Value) (w:World) (h:Rd g cv w) :
  Calls Tryz.prog 86 #[.pointer (some (Hh g 0))] w fun e w'=>∃ b:ByteArray,b.size≤40∧e=.returned (.string b)∧Rd g cv w'∧Kept g w w':=by
 go_enter Tryz.func86,Tryz.ntmps86
 go_wp2_with fail
 refine (jm _ _ _ _ (h.alloc _) (by omega) (by omega)).mono ?_
 rintro e w2 ⟨y,hy,rfl,hR2,hK2⟩
 have hcl:=Eh h.lt hK2 y
 have hK:=mF hK2
 obtain ⟨z,hz40,hz⟩:∃ z:Nat,z≤40∧w2.cell? (Hh w.heap.size y)=some (.int .i64 z):=by
  rw [hcl]
  rcases (by omega:y=0∨y=1∨y=2∨y=3∨y=4∨y=5∨y=6∨y=7∨y=8∨y=9) with rfl | rfl | rfl | rfl | rfl | rfl | rfl | rfl | rfl | rfl
  ·
   exact ⟨0,by omega,rfl⟩
  ·
   exact ⟨1,by omega,rfl⟩
  ·
   exact ⟨2,by omega,rfl⟩
  ·
   exact ⟨5,by omega,rfl⟩
  ·
   exact ⟨10,by omega,rfl⟩
  ·
   exact ⟨11,by omega,rfl⟩
  ·
   exact ⟨12,by omega,rfl⟩
  ·
   exact ⟨21,by omega,rfl⟩
  ·
   exact ⟨22,by omega,rfl⟩
  exact ⟨40,by omega,rfl⟩
 clear hcl hK2
 have hz':(z:Int)≤40:=by omega
 go_wp2_with fail
 go_ret
 exact ⟨_,by rw [ByteArray.size_extract];omega,rfl,hR2,hK⟩
theorem sw {g:Nat} (hK:Kept g w w1) (h:w.heap[k]?=some o) (hk:k≠g):w1.heap[k]?=some o:=by
 rw [hK.block k (iw h) hk];exact h
theorem C8 {g:Nat} {A B:Obj} (hg:g<w.heap.size) (hK:Kept g ((w.alloc A).alloc B) w1) :
  w1.heap[w.heap.size]?=some A∧w1.heap[w.heap.size+1]?=some B∧Kept g w w1:=by
 have e1:(w.alloc A).heap.size=w.heap.size+1:=by simp
 refine ⟨sw hK ((iN B (by omega)).trans (iy w A)) (by omega),?_,mF (mF hK)⟩
 have:=iy (w.alloc A) B
 rw [e1] at this
 exact sw hK this (by omega)
theorem Rd.CC {g:Nat} (h:Rd g cv w):Rd g cv w.drew:=h.jR (fun _ _=>rfl)
theorem Kept.CC {g:Nat} (h:Kept g a b):Kept g a b.drew:=⟨h.os,h.tape,h.output,h.size,h.block⟩
def AY (W:World) (k:Nat) (C:Cfg):World:=((((((W.setCell (Hh k 0) (.int .i64 C.p)).setCell (Hh k 1) (.int .i64 C.c)).setCell (Hh k 2) (.int .i64 C.xo)).setCell (Hh k 3) (.int .i64 C.xn)).setCell (Hh k 4) (.int .i64 C.hd)).setCell (Hh k 5) (.int .i64 C.lo)).setCell (Hh k 6) (.int .i64 C.dl)
theorem vw {a b c d e f g:Value} (h:W.heap[k]?=some (.cells #[a,b,c,d,e,f,g] t (0,0))) (C:Cfg):(AY W k C).heap[k]?=some (.cells C.cells t (0,0)):=by
 have h6:=iO (i:=6) (iO (i:=5) (iO (i:=4) (iO (i:=3) (iO (i:=2) (iO (i:=1) (iO (i:=0) h (.int .i64 C.p)) (.int .i64 C.c)) (.int .i64 C.xo)) (.int .i64 C.xn)) (.int .i64 C.hd)) (.int .i64 C.lo)) (.int .i64 C.dl)
 simp only [List.setIfInBounds_toArray,List.set_cons_zero,List.set_cons_succ] at h6
 exact h6
theorem sR {g:Nat} (h:Kept g a W) (hk:a.heap.size≤k) (C:Cfg):Kept g a (AY W k C):=((((((h.iL hk 0 _).iL hk 1 _).iL hk 2 _).iL hk 3 _).iL hk 4 _).iL hk 5 _).iL hk 6 _
theorem yC {g:Nat} (h:Rd g cv W) (hk:g<k) (C:Cfg):Rd g cv (AY W k C):=((((((h.iL hk 0 _).iL hk 1 _).iL hk 2 _).iL hk 3 _).iL hk 4 _).iL hk 5 _).iL hk 6 _
theorem AN (g:Nat) (cv:Value) (w:World) (h:Rd g cv w) :
  Calls Tryz.prog 47 #[.pointer (some (Hh g 0))] w fun e w'=>∃ C:Cfg,e=.returned (.agg C.cells)∧2≤C.p∧C.p≤4∧Rd g cv w'∧Kept g w w':=by
 have hR:=h.alloc (.cells #[.int .i64 0,.int .i64 0,.int .i64 0,.int .i64 0,.int .i64 0,.int .i64 0,.int .i64 0] 25)
 have HK0:Hid (∀ W,Kept g (w.alloc (.cells #[.int .i64 0,.int .i64 0,.int .i64 0,.int .i64 0,.int .i64 0,.int .i64 0,.int .i64 0] 25)) W→W.heap[w.heap.size]?=some (.cells #[.int .i64 0,.int .i64 0,.int .i64 0,.int .i64 0,.int .i64 0,.int .i64 0,.int .i64 0] 25 (0,0))∧Kept g w W):=fun W hW=>⟨sw hW (iy _ _) (by have:=h.lt;omega),mF hW⟩
 have Hg:=aa h.lt
 have hJ:Kept g (w.alloc (.cells #[.int .i64 0,.int .i64 0,.int .i64 0,.int .i64 0,.int .i64 0,.int .i64 0,.int .i64 0] 25)) (w.alloc (.cells #[.int .i64 0,.int .i64 0,.int .i64 0,.int .i64 0,.int .i64 0,.int .i64 0,.int .i64 0] 25)):=Kept.refl _ _
 clear h
 go_enter Tryz.func47,Tryz.ntmps47
 go_wp2_with fail
 refine (jm g cv 3 _ hR (by omega) (by omega)).mono ?_
 rintro e w1 ⟨x,hx,rfl,hR1,hJ1⟩
 replace hJ:=hJ.trans hJ1
 clear hR
 have hR:=hR1
 clear hR1 hJ1
 go_wp2_with fail
 refine (jm g cv 12 _ hR (by omega) (by omega)).mono ?_
 rintro e w2 ⟨y,hy,rfl,hR1,hJ1⟩
 replace hJ:=hJ.trans hJ1
 clear hR
 have hR:=hR1
 clear hR1 hJ1
 go_wp2_with fail
 refine (jm g cv 3 _ hR (by omega) (by omega)).mono ?_
 rintro e w3 ⟨v,hv,rfl,hR1,hJ1⟩
 replace hJ:=hJ.trans hJ1
 clear hR
 have hR:=hR1
 clear hR1 hJ1
 go_wp2_with fail
 refine (jm g cv 20 _ hR (by omega) (by omega)).mono ?_
 rintro e w4 ⟨z,hz,rfl,hR1,hJ1⟩
 replace hJ:=hJ.trans hJ1
 clear hR
 have hR:=hR1
 clear hR1 hJ1
 have hP1:2≤2+(x:Int):=by omega
 have hP2:2+(x:Int)≤4:=by omega
 have hY1:2≤2+(y:Int):=by omega
 have hY2:2+(y:Int)≤13:=by omega
 have hV1:1≤1+(v:Int):=by omega
 have hV2:1+(v:Int)≤3:=by omega
 have hZ1:5≤5+(z:Int):=by omega
 have hZ2:5+(z:Int)≤24:=by omega
 go_wp2_with fail
 generalize 2+(x:Int)=P at *
 generalize 2+(y:Int)=Y at *
 generalize 1+(v:Int)=V at *
 generalize 5+(z:Int)=Z at *
 clear hx hy hv hz
 have kC:=iy w4 (.cells #[.int .i64 P,.int .i64 0,.int .i64 Y,.int .i64 0,.int .i64 0,.int .i64 Z,.int .i64 V] 25)
 have HgC:Hid ((w.alloc (.cells #[.int .i64 0,.int .i64 0,.int .i64 0,.int .i64 0,.int .i64 0,.int .i64 0,.int .i64 0] 25)).heap.size≤w4.heap.size∧w4.heap.size≠g):=⟨hJ.size,by have:=hR.lt;omega⟩
 replace hJ:=hJ.alloc (.cells #[.int .i64 P,.int .i64 0,.int .i64 Y,.int .i64 0,.int .i64 0,.int .i64 Z,.int .i64 V] 25)
 replace hR:=hR.alloc (.cells #[.int .i64 P,.int .i64 0,.int .i64 Y,.int .i64 0,.int .i64 0,.int .i64 Z,.int .i64 V] 25)
 generalize w4.alloc (.cells #[.int .i64 P,.int .i64 0,.int .i64 Y,.int .i64 0,.int .i64 0,.int .i64 Z,.int .i64 V] 25)=w5 at *
 refine (jm g cv Y _ hR (by omega) (by omega)).mono ?_
 rintro e w6 ⟨x5,hx5,rfl,hR1,hJ1⟩
 replace hJ:=hJ.trans hJ1
 replace kC:=sw hJ1 kC HgC.2
 clear hR
 have hR:=hR1
 clear hR1 hJ1
 have cC:=iv kC
 have fC:=iF kC
 go_wp2_with fail
 clear cC fC
 replace hJ:=hJ.iL HgC.1 3 (.int .i64 x5)
 replace hR:=hR.iL (k:=w4.heap.size) (by have:=HgC.out;have:=Hg.out;simp at *;omega) 3 (.int .i64 x5)
 replace kC:=iO (i:=3) kC (.int .i64 x5)
 generalize w6.setCell (Hh w4.heap.size 3) (.int .i64 x5)=W7 at *
 generalize (x5:Int)=X at *
 have e1:IntKind.i64.wrap (2*V)=2*V:=lR _ (by omega) (by omega)
 have e2:IntKind.i64.wrap (2*V+1)=2*V+1:=lR _ (by omega) (by omega)
 have e3:IntKind.i64.wrap ((2*V+1)*5)=(2*V+1)*5:=lR _ (by omega) (by omega)
 refine wp_region_held_drew (S:=fun w'=>w'.cell? (Hh w4.heap.size 6)=some (.int .i64 V)) (by kernel_rfl) (iv kC 6) (fun hHeld=>?_)
 refine tC 0 22 (v:=?_) ?_ ?_
 rotate_left
 · exact ba
 try simp only [Act.put,PZ]
 refine tC 1 23 (v:=?_) ?_ ?_
 rotate_left
 · exact ba
 try simp only [Act.put,PZ]
 refine tC 2 24 (v:=?_) ?_ ?_
 rotate_left
 · exact ba
 try simp only [Act.put,PZ]
 refine tC 3 25 (v:=?_) ?_ ?_
 rotate_left
 · exact ba
 try simp only [Act.put,PZ]
 refine tC 4 26 (v:=?_) ?_ ?_
 rotate_left
 · exact ba
 try simp only [Act.put,PZ]
 refine tC 5 27 (v:=?_) ?_ ?_
 rotate_left
 · exact ba
 try simp only [Act.put,PZ]
 refine rq1 6 (fun K hK=>?_)
 go_simp
 replace hR:=hR.CC
 replace hJ:=hJ.CC
 have kC:W7.drew.heap[w4.heap.size]?=_:=kC
 refine (jm g cv 4 _ hR (by omega) (by omega)).mono ?_
 rintro e w8 ⟨x6,hx6,rfl,hR1,hJ1⟩
 replace hJ:=hJ.trans hJ1
 replace kC:=sw hJ1 kC HgC.2
 clear hR
 have hR:=hR1
 clear hR1 hJ1
 have s:w8.cell? (Hh w4.heap.size 6)=some (.int .i64 V):=iv kC 6
 have e1:IntKind.i64.wrap (2*V)=2*V:=lR _ (by omega) (by omega)
 have e2:IntKind.i64.wrap (2*V+1)=2*V+1:=lR _ (by omega) (by omega)
 have e3:IntKind.i64.wrap ((2*V+1)*5)=(2*V+1)*5:=lR _ (by omega) (by omega)
 have e4:IntKind.i64.wrap ((2*V+1)*5+x6)=(2*V+1)*5+x6:=lR _ (by omega) (by omega)
 have cC:=iv kC
 have fC:=iF kC
 have s2:(w8.setCell (Hh w4.heap.size 4) (.int .i64 ((2*V+1)*5+x6))).cell? (Hh w4.heap.size 6)=some (.int .i64 V):=iv (iO (i:=4) kC _) 6
 go_wp2_with fail
 refine ah (hK _ _ s) ?_
 intro hHeld
 clear hK K
 refine tC 7 29 (v:=?_) ?_ ?_
 rotate_left
 · exact ba
 try simp only [Act.put,PZ]
 refine tC 8 30 (v:=?_) ?_ ?_
 rotate_left
 · exact ba
 try simp only [Act.put,PZ]
 refine rq1 9 (fun K hK=>?_)
 go_simp
 refine ah (hK _ _ s2) ?_
 intro hHeld
 clear hK K
 refine dnq ?_
 clear hHeld s s2 cC fC
 replace hJ:=hJ.iL HgC.1 4 (.int .i64 ((2*V+1)*5+x6))
 replace hR:=hR.iL (k:=w4.heap.size) (by have:=HgC.out;have:=Hg.out;simp at *;omega) 4 (.int .i64 ((2*V+1)*5+x6))
 replace kC:=iO (i:=4) kC (.int .i64 ((2*V+1)*5+x6))
 have hH1:15≤(2*V+1)*5+x6:=by omega
 have hH2:(2*V+1)*5+x6≤38:=by omega
 clear e1 e2 e3 e4
 go_wp2_with fail
 generalize w8.setCell (Hh w4.heap.size 4) (.int .i64 ((2*V+1)*5+x6))=W9 at *
 generalize (2*V+1)*5+(x6:Int)=Hd at *
 have hP3:P=2∨P=3∨P=4:=by omega
 have e5:IntKind.i64.wrap (Y+Hd)=Y+Hd:=lR _ (by omega) (by omega)
 have e6:IntKind.i64.wrap (P*(Y+Hd))=P*(Y+Hd):=fq
 have e7:IntKind.i64.wrap (P*(Y+Hd)+Z)=P*(Y+Hd)+Z:=fq
 have HP3:=aa hP3
 clear hP3
 refine wp_region_held_drew (S:=fun w'=>w'.cell? (Hh w4.heap.size 0)=some (.int .i64 P)∧w'.cell? (Hh w4.heap.size 2)=some (.int .i64 Y)∧w'.cell? (Hh w4.heap.size 4)=some (.int .i64 Hd)∧w'.cell? (Hh w4.heap.size 5)=some (.int .i64 Z)) (by kernel_rfl) ⟨iv kC 0,iv kC 2,iv kC 4,iv kC 5⟩ (fun hHeld=>?_)
 refine tC 0 31 (v:=?_) ?_ ?_
 rotate_left
 · exact de
 try simp only [Act.put,PZ]
 refine tC 1 32 (v:=?_) ?_ ?_
 rotate_left
 · exact de
 try simp only [Act.put,PZ]
 refine tC 2 33 (v:=?_) ?_ ?_
 rotate_left
 · exact de
 try simp only [Act.put,PZ]
 refine tC 3 34 (v:=?_) ?_ ?_
 rotate_left
 · exact de
 try simp only [Act.put,PZ]
 refine tC 4 35 (v:=?_) ?_ ?_
 rotate_left
 · exact de
 try simp only [Act.put,PZ]
 refine tC 5 36 (v:=?_) ?_ ?_
 rotate_left
 · exact de
 try simp only [Act.put,PZ]
 refine tC 6 37 (v:=?_) ?_ ?_
 rotate_left
 · exact de
 try simp only [Act.put,PZ]
 refine tC 7 38 (v:=?_) ?_ ?_
 rotate_left
 · exact de
 try simp only [Act.put,PZ]
 refine tC 8 39 (v:=?_) ?_ ?_
 rotate_left
 · exact de
 try simp only [Act.put,PZ]
 refine tC 9 40 (v:=?_) ?_ ?_
 rotate_left
 · exact de
 try simp only [Act.put,PZ]
 refine tC 10 41 (v:=?_) ?_ ?_
 rotate_left
 · exact de
 try simp only [Act.put,PZ]
 refine tC 11 42 (v:=?_) ?_ ?_
 rotate_left
 · exact de
 try simp only [Act.put,PZ]
 refine rq1 12 (fun K hK=>?_)
 go_simp
 replace hR:=hR.CC
 replace hJ:=hJ.CC
 have kC:W9.drew.heap[w4.heap.size]?=_:=kC
 refine (jm g cv 9 _ hR (by omega) (by omega)).mono ?_
 rintro e w10 ⟨x7,hx7,rfl,hR1,hJ1⟩
 replace hJ:=hJ.trans hJ1
 replace kC:=sw hJ1 kC HgC.2
 clear hR
 have hR:=hR1
 clear hR1 hJ1
 have s:w10.cell? (Hh w4.heap.size 0)=some (.int .i64 P)∧w10.cell? (Hh w4.heap.size 2)=some (.int .i64 Y)∧w10.cell? (Hh w4.heap.size 4)=some (.int .i64 Hd)∧w10.cell? (Hh w4.heap.size 5)=some (.int .i64 Z):=⟨iv kC 0,iv kC 2,iv kC 4,iv kC 5⟩
 have e8:IntKind.i64.wrap (P*(Y+Hd)+Z+x7)=P*(Y+Hd)+Z+x7:=by
  rcases HP3.out with h | h | h <;> rw [h] <;> exact lR _ (by omega) (by omega)
 have cC:=iv kC
 have fC:=iF kC
 have s2:(w10.setCell (Hh w4.heap.size 1) (.int .i64 (P*(Y+Hd)+Z+x7))).cell? (Hh w4.heap.size 0)=some (.int .i64 P)∧(w10.setCell (Hh w4.heap.size 1) (.int .i64 (P*(Y+Hd)+Z+x7))).cell? (Hh w4.heap.size 2)=some (.int .i64 Y)∧(w10.setCell (Hh w4.heap.size 1) (.int .i64 (P*(Y+Hd)+Z+x7))).cell? (Hh w4.heap.size 4)=some (.int .i64 Hd)∧(w10.setCell (Hh w4.heap.size 1) (.int .i64 (P*(Y+Hd)+Z+x7))).cell? (Hh w4.heap.size 5)=some (.int .i64 Z):=⟨iv (iO (i:=1) kC _) 0,iv (iO (i:=1) kC _) 2,iv (iO (i:=1) kC _) 4,iv (iO (i:=1) kC _) 5⟩
 go_wp2_with fail
 refine ah (hK _ _ s) ?_
 intro hHeld
 clear hK K
 refine tC 13 44 (v:=?_) ?_ ?_
 rotate_left
 · exact de
 try simp only [Act.put,PZ]
 refine tC 14 45 (v:=?_) ?_ ?_
 rotate_left
 · exact de
 try simp only [Act.put,PZ]
 refine rq1 15 (fun K hK=>?_)
 go_simp
 refine ah (hK _ _ s2) ?_
 intro hHeld
 clear hK K
 refine dnq ?_
 clear hHeld s s2 cC fC
 replace hJ:=hJ.iL HgC.1 1 (.int .i64 (P*(Y+Hd)+Z+x7))
 replace hR:=hR.iL (k:=w4.heap.size) (by have:=HgC.out;have:=Hg.out;simp at *;omega) 1 (.int .i64 (P*(Y+Hd)+Z+x7))
 replace kC:=iO (i:=1) kC (.int .i64 (P*(Y+Hd)+Z+x7))
 clear e5 e6 e7 e8
 go_wp2_with fail
 generalize w10.setCell (Hh w4.heap.size 1) (.int .i64 (P*(Y+Hd)+Z+x7))=W11 at *
 generalize P*(Y+Hd)+Z+(x7:Int)=Ce at *
 refine (jm g cv 30 _ hR (by omega) (by omega)).mono ?_
 rintro e w12 ⟨x8,hx8,rfl,hR1,hJ1⟩
 replace hJ:=hJ.trans hJ1
 replace kC:=sw hJ1 kC HgC.2
 clear hR
 have hR:=hR1
 clear hR1 hJ1
 by_cases h28:x8=28
 ·
  subst h28
  have cC:=iv kC
  have fC:=iF kC
  have e9:IntKind.i64.wrap (Hd-5)=Hd-5:=lR _ (by omega) (by omega)
  replace hJ:=hJ.iL HgC.1 4 (.int .i64 (Hd-5))
  replace hR:=hR.iL (k:=w4.heap.size) (by have:=HgC.out;have:=Hg.out;simp at *;omega) 4 (.int .i64 (Hd-5))
  replace kC:=iO (i:=4) kC (.int .i64 (Hd-5))
  have kR:=(HK0 _ hJ).1
  have cC2:=iv kC
  have cR:=iv kR
  have fR:=iF kR
  have cB:=iv (vw kR (⟨P,Ce,Y,X,Hd-5,Z,V⟩:Cfg))
  have HRf:Hid (Rd g cv (AY (w12.setCell (Hh w4.heap.size 4) (.int .i64 (Hd-5))) w.heap.size (⟨P,Ce,Y,X,Hd-5,Z,V⟩:Cfg))):=yC hR Hg _
  have HKf:Hid (Kept g w (AY (w12.setCell (Hh w4.heap.size 4) (.int .i64 (Hd-5))) w.heap.size (⟨P,Ce,Y,X,Hd-5,Z,V⟩:Cfg))):=sR (HK0 _ hJ).2 (Nat.le_refl _) _
  clear hR hJ kC kR
  unfold AY Cfg.cells at cB
  dsimp only at cB
  go_wp2_with fail
  exact bodyPost_ret (v:=.agg (⟨P,Ce,Y,X,Hd-5,Z,V⟩:Cfg).cells) (by simp [results,Tryz.results47,go_sem,cB,Cfg.cells]) rfl ⟨⟨P,Ce,Y,X,Hd-5,Z,V⟩,rfl,hP1,hP2,HRf,HKf⟩
 have h28':((x8:Int) == 28)=false:=by simp;omega
 by_cases h29:x8=29
 ·
  subst h29
  go_wp2_with fail
  refine (rB g cv 1 1000 _ hR (by omega) (by omega) (by omega)).mono ?_
  rintro e w13 ⟨x9,rfl,hR1,hJ1⟩
  replace hJ:=hJ.trans hJ1
  replace kC:=sw hJ1 kC HgC.2
  clear hR
  have hR:=hR1
  clear hR1 hJ1
  have cC:=iv kC
  have fC:=iF kC
  replace hJ:=hJ.iL HgC.1 1 (.int .i64 x9)
  replace hR:=hR.iL (k:=w4.heap.size) (by have:=HgC.out;have:=Hg.out;simp at *;omega) 1 (.int .i64 x9)
  replace kC:=iO (i:=1) kC (.int .i64 x9)
  have kR:=(HK0 _ hJ).1
  have cC2:=iv kC
  have cR:=iv kR
  have fR:=iF kR
  have cB:=iv (vw kR (⟨P,x9,Y,X,Hd,Z,V⟩:Cfg))
  have HRf:Hid (Rd g cv (AY (w13.setCell (Hh w4.heap.size 1) (.int .i64 x9)) w.heap.size (⟨P,x9,Y,X,Hd,Z,V⟩:Cfg))):=yC hR Hg _
  have HKf:Hid (Kept g w (AY (w13.setCell (Hh w4.heap.size 1) (.int .i64 x9)) w.heap.size (⟨P,x9,Y,X,Hd,Z,V⟩:Cfg))):=sR (HK0 _ hJ).2 (Nat.le_refl _) _
  clear hR hJ kC kR
  unfold AY Cfg.cells at cB
  dsimp only at cB
  go_wp2_with fail
  exact bodyPost_ret (v:=.agg (⟨P,x9,Y,X,Hd,Z,V⟩:Cfg).cells) (by simp [results,Tryz.results47,go_sem,cB,Cfg.cells]) rfl ⟨⟨P,x9,Y,X,Hd,Z,V⟩,rfl,hP1,hP2,HRf,HKf⟩
 have h29':((x8:Int) == 29)=false:=by simp;omega
 have kR:=(HK0 _ hJ).1
 have cC:=iv kC
 have cR:=iv kR
 have fR:=iF kR
 have cB:=iv (vw kR (⟨P,Ce,Y,X,Hd,Z,V⟩:Cfg))
 have HRf:Hid (Rd g cv (AY w12 w.heap.size (⟨P,Ce,Y,X,Hd,Z,V⟩:Cfg))):=yC hR Hg _
 have HKf:Hid (Kept g w (AY w12 w.heap.size (⟨P,Ce,Y,X,Hd,Z,V⟩:Cfg))):=sR (HK0 _ hJ).2 (Nat.le_refl _) _
 clear hR hJ kC kR
 unfold AY Cfg.cells at cB
 dsimp only at cB
 go_wp2_with fail
 exact bodyPost_ret (v:=.agg (⟨P,Ce,Y,X,Hd,Z,V⟩:Cfg).cells) (by simp [results,Tryz.results47,go_sem,cB,Cfg.cells]) rfl ⟨⟨P,Ce,Y,X,Hd,Z,V⟩,rfl,hP1,hP2,HRf,HKf⟩
theorem Cw (g:Nat) (cv:Value) (w:World) (h:Rd g cv w) :
  Calls Tryz.prog 49 #[.pointer (some (Hh g 0))] w fun e w'=>∃ (k d s p:Int) (b:ByteArray),b.size≤40∧e=.returned (.agg #[.int .i64 k,.int .i64 d,.int .i64 s,.int .i64 p,.string b])∧Rd g cv w'∧Kept g w w':=by
 have hg:=h.lt
 go_enter Tryz.func49,Tryz.ntmps49
 go_wp2_with fail
 refine (jm _ _ _ _ (h.alloc _) (by omega) (by omega)).mono ?_
 rintro e w1 ⟨x1,hx1,rfl,hR1,hK1⟩
 have r1:=sw hK1 (iy w _) (by omega)
 have K1:=mF hK1
 clear hK1
 go_wp2_with fail
 refine (jm _ _ _ _ hR1 (by omega) (by omega)).mono ?_
 rintro e w2 ⟨x2,hx2,rfl,hR2,hK2⟩
 have r2:=sw hK2 r1 (by omega)
 have K2:=K1.trans hK2
 clear hK2 r1 K1 hR1
 go_wp2_with fail
 refine (D0 _ _ _ hR2).mono ?_
 rintro e w3 ⟨b,hb,rfl,hR3,hK3⟩
 have r3:=sw hK3 r2 (by omega)
 have K3:=K2.trans hK3
 have z3:=K3.size
 clear hK3 r2 K2 hR2
 go_wp2_with fail
 refine (jm _ _ _ _ ((hR3.alloc _).alloc _) (by omega) (by omega)).mono ?_
 rintro e w4 ⟨x4,hx4,rfl,hR4,hK4⟩
 obtain ⟨f4,a4,K4'⟩:=C8 hR3.lt hK4
 have r4:=sw K4' r3 (by omega)
 have K4:=K3.trans K4'
 have z4:=K4'.size
 have ca:=iv a4 x4
 have cf:=iv f4
 have ff:=iF f4
 obtain ⟨d,hd⟩:∃ d,w4.cell? (Hh (w3.heap.size+1) x4)=some (.int .i64 d):=by
  rw [ca]
  rcases (by omega:x4=0∨x4=1∨x4=2∨x4=3∨x4=4∨x4=5) with rfl | rfl | rfl | rfl | rfl | rfl <;> exact ⟨_,rfl⟩
 have hgF:=hR3.lt
 have hlR:=iw r3
 clear hK4 K4' a4 ca r3 K3
 go_wp2_with fail
 refine (jm _ _ _ _ (hR4.iL hgF _ _) (by omega) (by omega)).mono ?_
 rintro e w5 ⟨x5,hx5,rfl,hR5,hK5⟩
 have f5:=sw hK5 (iO f4 (.int .i64 d)) (by omega)
 have r5:=sw hK5 ((iJ (by omega) _).trans r4) (by omega)
 have K5:Kept g w w5:=(K4.iL z3 1 _).trans hK5
 clear hK5 cf ff f4 r4 K4 hd
 by_cases h12:x5=12
 ·
  have q12:((x5:Int) == 12)=true:=by simp;omega
  have cr:=iv r5
  have fr:=iF r5
  go_wp2_with fail
  exact bodyPost_ret (v:=.agg #[.int .i64 2,.int .i64 0,.int .i64 0,.int .i64 2,.string ⟨#[]⟩]) (by simp [results,Tryz.results49,go_sem,cr]) rfl ⟨_,_,_,_,_,by decide,rfl,((((hR5.iL hg 0 _).iL hg 1 _).iL hg 2 _).iL hg 3 _).iL hg 4 _,((((K5.iL (Nat.le_refl _) 0 _).iL (Nat.le_refl _) 1 _).iL (Nat.le_refl _) 2 _).iL (Nat.le_refl _) 3 _).iL (Nat.le_refl _) 4 _⟩
 have q12:((x5:Int) == 12)=false:=by simp;omega
 by_cases h13:x5=13
 ·
  have q13:((x5:Int) == 13)=true:=by simp;omega
  have cr:=iv r5
  have fr:=iF r5
  go_wp2_with fail
  exact bodyPost_ret (v:=.agg #[.int .i64 3,.int .i64 0,.int .i64 0,.int .i64 2,.string ⟨#[]⟩]) (by simp [results,Tryz.results49,go_sem,cr]) rfl ⟨_,_,_,_,_,by decide,rfl,((((hR5.iL hg 0 _).iL hg 1 _).iL hg 2 _).iL hg 3 _).iL hg 4 _,((((K5.iL (Nat.le_refl _) 0 _).iL (Nat.le_refl _) 1 _).iL (Nat.le_refl _) 2 _).iL (Nat.le_refl _) 3 _).iL (Nat.le_refl _) 4 _⟩
 have q13:((x5:Int) == 13)=false:=by simp;omega
 by_cases h14:x5=14
 ·
  have q14:((x5:Int) == 14)=true:=by simp;omega
  go_wp2_with fail
  refine (rB _ _ _ _ _ hR5 (by omega) (by omega) (by omega)).mono ?_
  rintro e w6 ⟨y,rfl,hR6,hK6⟩
  have f6:=sw hK6 f5 (by omega)
  have r6:=sw hK6 r5 (by omega)
  have K6:=K5.trans hK6
  have cf:=iv f6
  have ff:=iF f6
  have hne:w3.heap.size≠w.heap.size:=by omega
  clear hK6 f5 r5 K5 hR5
  have cr:=iv r6
  have fr:=iF r6
  go_wp2_with fail
  exact bodyPost_ret (v:=.agg #[.int .i64 1,.int .i64 y,.int .i64 (1+x1),.int .i64 x2,.string b]) (by simp [results,Tryz.results49,go_sem,cr]) rfl ⟨_,_,_,_,_,hb,rfl,(((((hR6.iL hgF _ _).iL hg 0 _).iL hg 1 _).iL hg 2 _).iL hg 3 _).iL hg 4 _,(((((K6.iL z3 1 _).iL (Nat.le_refl _) 0 _).iL (Nat.le_refl _) 1 _).iL (Nat.le_refl _) 2 _).iL (Nat.le_refl _) 3 _).iL (Nat.le_refl _) 4 _⟩
 have q14:((x5:Int) == 14)=false:=by simp;omega
 by_cases h15:x5=15
 ·
  have q15:((x5:Int) == 15)=true:=by simp;omega
  go_wp2_with fail
  refine (rB _ _ _ _ _ hR5 (by omega) (by omega) (by omega)).mono ?_
  rintro e w6 ⟨y,rfl,hR6,hK6⟩
  have f6:=sw hK6 f5 (by omega)
  have r6:=sw hK6 r5 (by omega)
  have K6:=K5.trans hK6
  have cf:=iv f6
  have ff:=iF f6
  have hne:w3.heap.size≠w.heap.size:=by omega
  clear hK6 f5 r5 K5 hR5
  have cr:=iv r6
  have fr:=iF r6
  go_wp2_with fail
  exact bodyPost_ret (v:=.agg #[.int .i64 1,.int .i64 d,.int .i64 (1+x1),.int .i64 y,.string b]) (by simp [results,Tryz.results49,go_sem,cr]) rfl ⟨_,_,_,_,_,hb,rfl,(((((hR6.iL hgF _ _).iL hg 0 _).iL hg 1 _).iL hg 2 _).iL hg 3 _).iL hg 4 _,(((((K6.iL z3 3 _).iL (Nat.le_refl _) 0 _).iL (Nat.le_refl _) 1 _).iL (Nat.le_refl _) 2 _).iL (Nat.le_refl _) 3 _).iL (Nat.le_refl _) 4 _⟩
 have q15:((x5:Int) == 15)=false:=by simp;omega
 have cf:=iv f5
 have cr:=iv r5
 have fr:=iF r5
 go_wp2_with fail
 exact bodyPost_ret (v:=.agg #[.int .i64 1,.int .i64 d,.int .i64 (1+x1),.int .i64 x2,.string b]) (by simp [results,Tryz.results49,go_sem,cr]) rfl ⟨_,_,_,_,_,hb,rfl,((((hR5.iL hg 0 _).iL hg 1 _).iL hg 2 _).iL hg 3 _).iL hg 4 _,((((K5.iL (Nat.le_refl _) 0 _).iL (Nat.le_refl _) 1 _).iL (Nat.le_refl _) 2 _).iL (Nat.le_refl _) 3 _).iL (Nat.le_refl _) 4 _⟩
