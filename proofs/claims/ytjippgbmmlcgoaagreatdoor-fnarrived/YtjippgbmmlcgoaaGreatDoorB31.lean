import Derived.Test.YtjippgbmmlcgoaaGreatDoorB29
import Derived.Test.YtjippgbmmlcgoaaGreatDoorB30
namespace Go.Proofs.YtjippgbmmlcgoaaGreatDoor
set_option maxRecDepth 100000
set_option maxHeartbeats 9000000
open Go.RowKit
set_option linter.unusedVariables false
set_option linter.unusedSimpArgs false
variable {C:Cfg} {B b0 base k n:Nat} {o:Obj} {p:Prop} {t:TypeId} {cv v:Value} {V V' W a b w w' w1:World}
theorem Hu (h:p:=by
 refine rq1 6 (fun K hK=>?_)
 refine jz (by kernel_rfl) (some 38) (.tmp 33) (.tmp 37) 32 _ _ _ rfl rfl rfl rfl rfl hr ?_
 clear hr hHeld kS kR
 have kS:=kS'
 have kR:=kR'
 clear kS' kR'
 refine ah (hK _ _ (ie kR)) ?_
 intro hHeld
 clear hK K
 refine tC 7 39 (v:=?_) ?_ ?_
 rotate_left
 · exact aY
 try simp only [Act.put,PZ]
 refine rq1 8 (fun K hK=>?_)
 have cS:=ie kS
 have fS:=ix kS
 have hT:Touch [gs] W' (W'.setCell ⟨gs,14,none⟩ (.slice (some ⟨ga,0,none⟩) (k+1) ca)):=(Touch.refl _ _).set (by simp) _ _
 have kR2:=(hT.block gr (ig kR) (fun hx=>by simp at hx;subst hx;rw [kR] at kS;simp at kS)).trans kR
 go_simp
 clear cS fS hHeld
 refine hK _ _ (ie kR2) (fun hHeld=>?_)
 clear hK K kR2
 try simp only [Act.put,PZ]
 refine dnq ?_
 have HM2:Hid (lW (W'.setCell ⟨gs,14,none⟩ (.slice (some ⟨ga,0,none⟩) (k+1) ca)) (gs+1) (.slice (some ⟨ga,0,none⟩) (k+1) ca) (k+1) (upB b k W'.heap.size) (upd L k ⟨false,some ⟨gU,0,none⟩,2,R⟩)):=hM'.uD hT (fun x hx=>by simp at hx;omega)
 have HS2:Hid ((W'.setCell ⟨gs,14,none⟩ (.slice (some ⟨ga,0,none⟩) (k+1) ca)).heap[gs]?=some (.cells #[.int .i64 (n:Int),.int .i64 c,.int .i64 xo,.int .i64 xn,.int .i64 hd,.int .i64 lo,.int .i64 dl,.int .i64 0,.int .i64 1,.slice none 0 0,.slice RW.aU RW.nU RW.cU,.int .i64 RW.lo,.slice RW.aP RW.nP RW.cP,.slice none 0 0,.slice (some ⟨ga,0,none⟩) (k+1) ca,.int .i64 0,.int .i64 0] 34 (0,0))):=iL kS _
 have HW2:Hid (iN (W'.setCell ⟨gs,14,none⟩ (.slice (some ⟨ga,0,none⟩) (k+1) ca)) (w.heap.size+2) RW):=hW'.off hT (fun x hx hm=>by
  simp at hm
  subst hm
  exact hW'.nf (by decide) (by decide) kS hx)
 have HB2:Hid (Below (w.heap.size+2) ((w.alloc (.cells #[.int .i64 (n:Int),.int .i64 c,.int .i64 xo,.int .i64 xn,.int .i64 hd,.int .i64 lo,.int .i64 dl] 25)).alloc (.cells ab 34)) (W'.setCell ⟨gs,14,none⟩ (.slice (some ⟨ga,0,none⟩) (k+1) ca))):=hB'.setCell (by show _≤gs;omega) _
 have HF2:Hid (∀ i,i<k+1→rr (upd L k ⟨false,some ⟨gU,0,none⟩,2,R⟩ i)):=Eu (p:=fun _ l=>rr l) (fun i hi hne=>HF i (by omega)) ⟨rfl,HAl.out⟩
 clear hM' kS hW' hB' hT kR hR HF HAl kU
 go_wp2_with fail
 go_roundw
 case rel=>exact ⟨k+1,_,_,_,by omega,by go_num,HM2.out,HF2.out,HS2.out,HW2.out,HB2.out⟩
 case measure=>simp [intOf];omega):p:=h
theorem Hw (h:p:=by
 refine rq1 5 (fun K hK=>?_)
 obtain ⟨ga,ca,W',hr,hrow,hgb,hwh⟩:=zn ⟨false,some ⟨gU,0,none⟩,2,R⟩ hM.row (by omega) (by have:=hM.mono (i:=0) (j:=k) (by omega) (by omega);have:=hM.b0;have:=hM.bn;omega) 32
 have hr:(Builtin.append_ #[32,32] 32 #[v,.slice (some ⟨V.heap.size,0,none⟩) 1 1]).run Tryz.prog (V.alloc (.cells #[.bool false,.slice none 0 0,.slice (some ⟨gU,0,none⟩) 2 2,.slice R.aQ R.nQ R.cQ,.slice R.aD R.nD R.cD,.int .i64 R.turn,.bool R.fresh,.slice R.aS R.nS R.cS] 47))=.ok (.slice (some ⟨ga,0,none⟩) (k+1) ca) W':=hr
 have hM':=hM.next ⟨false,some ⟨gU,0,none⟩,2,R⟩ hrow hgb hR (rr.sh ⟨rfl,HAl.out⟩) (D5 gUl kU)
 have kR':=hM.far hgb kR (by decide)
 have kS':=hM.far hgb kS (by decide)
 have hW':=hM.counts hgb hW
 have hB':=hM.below hgb hB (by omega)
 have hA:=(Below.refl V.heap.size V).alloc (Nat.le_refl _) (.cells #[.bool false,.slice none 0 0,.slice (some ⟨gU,0,none⟩) 2 2,.slice R.aQ R.nQ R.cQ,.slice R.aD R.nD R.cD,.int .i64 R.turn,.bool R.fresh,.slice R.aS R.nS R.cS] 47)
 replace kS:=(hA.block _ (ig kS)).trans kS
 replace kR:=(hA.block _ (ig kR)).trans kR
 go_simp
 clear hHeld hA hgb hrow hwh hM hW hB
 refine ah (hK _ _ (ie kR)) ?_
 intro hHeld
 clear hK K
 generalize V.heap.size=gl at *
 generalize V.alloc (.cells #[.bool false,.slice none 0 0,.slice (some ⟨gU,0,none⟩) 2 2,.slice R.aQ R.nQ R.cQ,.slice R.aD R.nD R.cD,.int .i64 R.turn,.bool R.fresh,.slice R.aS R.nS R.cS] 47)=V at *
 exact Hu):p:=h
theorem fe (h:p:=by
 go_enter Tryz.func44,Tryz.ntmps44
 go_wp2
 go_quiet (fail)
 go_wp2
 go_ret
 exact ⟨0,by omega,rfl,hR.jQ (fun _ _=>rfl),(Kept.refl _ _).drewN _⟩):p:=h
theorem fg (h:p:=by
 go_wp2_with fail
 go_ret
 exact ⟨_,rfl,hR1,hK1⟩):p:=h
theorem fh (h:p:=by
 rcases hP3 with h | h | h <;> rw [h] <;> exact lI _ (by omega) (by omega)):p:=h
theorem lW.far {b:Nat→Nat} {L:Nat→Ln} (hM:lW V b0 v k b L) (hg:V.grownBy V' v.ownBlock) {x:Nat} {arr:Array Value} (hx:V.heap[x]?=some (.cells arr t (0,0))) (ht:t≠47):V'.heap[x]?=some (.cells arr t (0,0)) :=
 (hg.block x (ig hx) (fun e=>by
  obtain ⟨_,arr2,h2⟩:=hM.row.typed x (by rw [←e];simp)
  rw [hx] at h2
  simp at h2
  exact ht h2.2)).trans hx
theorem lW.counts {b:Nat→Nat} {L:Nat→Ln} {N:Cnt} (hM:lW V b0 v k b L) (hg:V.grownBy V' v.ownBlock) (hN:iN V base N):iN V' base N :=
 hN.off (sP hg) (fun x hx hm=>by
  obtain ⟨_,arr2,h2⟩:=hM.row.typed x hm
  exact hN.nf (by decide) (by decide) h2 hx)
theorem lW.below {b:Nat→Nat} {L:Nat→Ln} (hM:lW V b0 v k b L) (hg:V.grownBy V' v.ownBlock) (hb:Below B a V) (h0:B≤b0):Below B a V' :=
 hb.grown hg (Nat.le_trans (by have:=hM.mono (i:=0) (j:=k) (by omega) (by omega);have:=hM.b0;have:=hM.bn;omega) (Nat.le_refl _)) (fun x e=>Nat.le_trans h0 (hM.row.typed x (by rw [e];simp)).1)
theorem tg (C:Cfg) (n:Nat) (w:World) (hp:2≤C.p∧C.p≤4→C.p=(n:Int)) (hok:false=true↔C.Ok) :
  Calls Tryz.prog 38 #[.agg C.cells] w fun e w'=>∃ S:Sw,e=.returned (.tuple #[.agg S.cells,.bool false])∧DZ w' w.heap.size C n false S∧Below w.heap.size w w':=by
 ·
  have HO:=aa hok
  have HP:=aa hp
  have HB0:Hid (Below (w.heap.size+2) ((w.alloc (.cells C.cells 25)).alloc (.cells ab 34)) ((w.alloc (.cells C.cells 25)).alloc (.cells ab 34))):=Below.refl _ _
  clear hok hp
  unfold Cfg.cells at *
  go_enter Tryz.func38,Tryz.ntmps38
  go_wp2_with fail
  refine (pe C n _ HP false HO).mono ?_
  rintro e w1 ⟨RW,rfl,hW,hb,hAW⟩
  have hB:=ki HB0 hb
  have hA:=(Below.refl w1.heap.size w1).alloc (Nat.le_refl _) (.cells #[.slice RW.aU RW.nU RW.cU,.int .i64 RW.lo,.slice RW.aP RW.nP RW.cP] 30)
  replace hB:=ki hB hA
  have kz:=(tl hB).2
  have ht:=nX (w1.alloc (.cells #[.slice RW.aU RW.nU RW.cU,.int .i64 RW.lo,.slice RW.aP RW.nP RW.cP] 30)) (w.heap.size+1) ab
  have kz3:=qC (cs:=ab) kz
  have B:=(jt hB).trans (ht.below (jt hB).size (fun x hx=>by simp at hx;omega))
  have HKz:=aa kz
  have HK3:=aa kz3
  clear hb kz ht kz3 hB hW hAW hA
  dsimp only [Cnt.cells]
  go_wp2_with (refine qv rfl (.tmp 2) (.tmp 17) rfl (w.heap.size+1) rfl ab rfl ab HKz.out rfl rfl (by simp [Value.oneCell']) ?_)
  generalize (w1.alloc (.cells #[.slice RW.aU RW.nU RW.cU,.int .i64 RW.lo,.slice RW.aP RW.nP RW.cP] 30)).setRow (w.heap.size+1) ab=WF at *
  exact bodyPost_ret (wD Tryz.results38 _ _ (w.heap.size+1) _ rfl HK3.out rfl (.bool false) rfl) rfl ⟨Fs,rfl,rfl,B⟩
theorem uK (n:Nat) (c xo xn hd lo dl:Int) (w:World) (hC:Cfg.Ok ⟨(n:Int),c,xo,xn,hd,lo,dl⟩) :
  Calls Tryz.prog 38 #[.agg (Cfg.cells ⟨(n:Int),c,xo,xn,hd,lo,dl⟩)] w fun e w'=>∃ S:Sw,e=.returned (.tuple #[.agg S.cells,.bool true])∧DZ w' w.heap.size ⟨(n:Int),c,xo,xn,hd,lo,dl⟩ n true S∧Below w.heap.size w w':=by
 ·
  have h1:2≤(n:Int)∧(n:Int)≤4:=hC.num.p
  have hn:n≤4:=by omega
  have hn2:2≤n:=by omega
  have HO:Hid (Cfg.Ok ⟨(n:Int),c,xo,xn,hd,lo,dl⟩):=hC
  have HB0:Hid (Below (w.heap.size+2) ((w.alloc (.cells #[.int .i64 (n:Int),.int .i64 c,.int .i64 xo,.int .i64 xn,.int .i64 hd,.int .i64 lo,.int .i64 dl] 25)).alloc (.cells ab 34)) ((w.alloc (.cells #[.int .i64 (n:Int),.int .i64 c,.int .i64 xo,.int .i64 xn,.int .i64 hd,.int .i64 lo,.int .i64 dl] 25)).alloc (.cells ab 34))):=Below.refl _ _
  clear hC h1
  unfold Cfg.cells
  dsimp only
  go_enter Tryz.func38,Tryz.ntmps38
  go_wp2_with fail
  refine (pe ⟨(n:Int),c,xo,xn,hd,lo,dl⟩ n _ (fun _=>rfl) true ⟨fun _=>HO.out,fun _=>rfl⟩).mono ?_
  rintro e w1 ⟨RW,rfl,hW,hb,hAW⟩
  have hB:=ki HB0 hb
  have HAW:Hid (iR (Gr n true) RW):=hAW
  have HR0:Hid (∀ x∈zC RW,x<w1.heap.size):=fun x hx=>(hW.tbl x hx).2
  replace hW:iN w1 (w.heap.size+2) RW:=by simpa using hW
  have hA:=(Below.refl w1.heap.size w1).alloc (Nat.le_refl _) (.cells #[.slice RW.aU RW.nU RW.cU,.int .i64 RW.lo,.slice RW.aP RW.nP RW.cP] 30)
  have hA2:=hA.trans ((Below.refl (w1.alloc (.cells #[.slice RW.aU RW.nU RW.cU,.int .i64 RW.lo,.slice RW.aP RW.nP RW.cP] 30)).heap.size (w1.alloc (.cells #[.slice RW.aU RW.nU RW.cU,.int .i64 RW.lo,.slice RW.aP RW.nP RW.cP] 30))).alloc (Nat.le_refl _) (.cells ab 34) |>.mono (by simp))
  have kS0:((w1.alloc (.cells #[.slice RW.aU RW.nU RW.cU,.int .i64 RW.lo,.slice RW.aP RW.nP RW.cP] 30)).alloc (.cells ab 34)).heap[w1.heap.size+1]?=some (.cells ab 34 (0,0)):=by
   have:=im (w1.alloc (.cells #[.slice RW.aU RW.nU RW.cU,.int .i64 RW.lo,.slice RW.aP RW.nP RW.cP] 30)) (.cells ab 34)
   simpa using this
  have hz:(((w1.alloc (.cells #[.slice RW.aU RW.nU RW.cU,.int .i64 RW.lo,.slice RW.aP RW.nP RW.cP] 30)).alloc (.cells ab 34)).setRow (w1.heap.size+1) #[.int .i64 (n:Int),.int .i64 c,.int .i64 xo,.int .i64 xn,.int .i64 hd,.int .i64 lo,.int .i64 dl,.int .i64 0,.int .i64 1,.slice none 0 0,.slice RW.aU RW.nU RW.cU,.int .i64 RW.lo,.slice RW.aP RW.nP RW.cP,.slice none 0 0,.slice none 0 0,.int .i64 0,.int .i64 0]).heap.size=w1.heap.size+2:=by simp [World.setRow]
  have ht:=nX ((w1.alloc (.cells #[.slice RW.aU RW.nU RW.cU,.int .i64 RW.lo,.slice RW.aP RW.nP RW.cP] 30)).alloc (.cells ab 34)) (w1.heap.size+1) #[.int .i64 (n:Int),.int .i64 c,.int .i64 xo,.int .i64 xn,.int .i64 hd,.int .i64 lo,.int .i64 dl,.int .i64 0,.int .i64 1,.slice none 0 0,.slice RW.aU RW.nU RW.cU,.int .i64 RW.lo,.slice RW.aP RW.nP RW.cP,.slice none 0 0,.slice none 0 0,.int .i64 0,.int .i64 0]
  have kS:(((w1.alloc (.cells #[.slice RW.aU RW.nU RW.cU,.int .i64 RW.lo,.slice RW.aP RW.nP RW.cP] 30)).alloc (.cells ab 34)).setRow (w1.heap.size+1) #[.int .i64 (n:Int),.int .i64 c,.int .i64 xo,.int .i64 xn,.int .i64 hd,.int .i64 lo,.int .i64 dl,.int .i64 0,.int .i64 1,.slice none 0 0,.slice RW.aU RW.nU RW.cU,.int .i64 RW.lo,.slice RW.aP RW.nP RW.cP,.slice none 0 0,.slice none 0 0,.int .i64 0,.int .i64 0]).heap[w1.heap.size+1]?=some (.cells #[.int .i64 (n:Int),.int .i64 c,.int .i64 xo,.int .i64 xn,.int .i64 hd,.int .i64 lo,.int .i64 dl,.int .i64 0,.int .i64 1,.slice none 0 0,.slice RW.aU RW.nU RW.cU,.int .i64 RW.lo,.slice RW.aP RW.nP RW.cP,.slice none 0 0,.slice none 0 0,.int .i64 0,.int .i64 0] 34 (0,0)):=qC kS0
  have HK0:Hid (((w1.alloc (.cells #[.slice RW.aU RW.nU RW.cU,.int .i64 RW.lo,.slice RW.aP RW.nP RW.cP] 30)).alloc (.cells ab 34)).heap[w1.heap.size+1]?=some (.cells ab 34 (0,0))):=kS0
  have cb:=(je (ki hB hA)).1
  have hlo:w.heap.size+2≤w1.heap.size:=lj hB
  replace hW:=(hW.up hA2).off ht (fun x hx hm=>by
   simp at hm
   subst hm
   exact (hW.up hA2).nf (by decide) (by decide) kS0 hx)
  replace hB:=(ki hB hA2).trans (ht.below (by simp;omega) (fun x hx=>by simp at hx;omega))
  have cb2:=(je hB).1
  clear hb hA hA2 hAW kS0 ht
  dsimp only [Cnt.cells]
  go_wp2_with (refine qv rfl (.tmp 6) (.tmp 20) rfl (w1.heap.size+1) rfl #[.int .i64 (n:Int),.int .i64 c,.int .i64 xo,.int .i64 xn,.int .i64 hd,.int .i64 lo,.int .i64 dl,.int .i64 0,.int .i64 1,.slice none 0 0,.slice RW.aU RW.nU RW.cU,.int .i64 RW.lo,.slice RW.aP RW.nP RW.cP,.slice none 0 0,.slice none 0 0,.int .i64 0,.int .i64 0] rfl ab HK0.out rfl rfl (by simp [Value.oneCell']) ?_)
  clear HK0
  generalize hgs:w1.heap.size+1=gs at *
  have hz':_=gs+1:=hz.trans (by omega)
  clear hz
  have HRT:Hid (∀ x∈zC RW,x<gs+1):=fun x hx=>by have:=HR0 x hx;omega
  replace hlo:w.heap.size+2≤gs:=by omega
  generalize (((w1.alloc (.cells #[.slice RW.aU RW.nU RW.cU,.int .i64 RW.lo,.slice RW.aP RW.nP RW.cP] 30)).alloc (.cells ab 34)).setRow gs #[.int .i64 (n:Int),.int .i64 c,.int .i64 xo,.int .i64 xn,.int .i64 hd,.int .i64 lo,.int .i64 dl,.int .i64 0,.int .i64 1,.slice none 0 0,.slice RW.aU RW.nU RW.cU,.int .i64 RW.lo,.slice RW.aP RW.nP RW.cP,.slice none 0 0,.slice none 0 0,.int .i64 0,.int .i64 0])=wA at *
  have hM:lW wA (gs+1) (.slice none 0 0) 0 (fun _=>gs+1) GO:=lW.start _ _ (by omega) _
  clear hgs hz' cb cb2 HR0
  generalize (Value.tuple #[.agg #[.slice RW.aU RW.nU RW.cU,.int .i64 RW.lo,.slice RW.aP RW.nP RW.cP],.bool true])=uT
  generalize (Value.agg #[.int .i64 (n:Int),.int .i64 c,.int .i64 xo,.int .i64 xn,.int .i64 hd,.int .i64 lo,.int .i64 dl,.int .i64 0,.int .i64 1,.slice none 0 0,.slice RW.aU RW.nU RW.cU,.int .i64 RW.lo,.slice RW.aP RW.nP RW.cP,.slice none 0 0,.slice none 0 0,.int .i64 0,.int .i64 0])=uX
  generalize (Value.agg #[.slice RW.aU RW.nU RW.cU,.int .i64 RW.lo,.slice RW.aP RW.nP RW.cP])=uR
  generalize (Value.agg #[.int .i64 (n:Int),.int .i64 c,.int .i64 xo,.int .i64 xn,.int .i64 hd,.int .i64 lo,.int .i64 dl])=uC
  go_loopw [7] (fun i wr=>∃ (k:Nat) (v:Value) (b:Nat→Nat) (L:Nat→Ln),k≤n∧i=.int .i64 k∧lW wr (gs+1) v k b L∧(∀ i,i<k→rr (L i))∧wr.heap[gs]?=some (.cells #[.int .i64 (n:Int),.int .i64 c,.int .i64 xo,.int .i64 xn,.int .i64 hd,.int .i64 lo,.int .i64 dl,.int .i64 0,.int .i64 1,.slice none 0 0,.slice RW.aU RW.nU RW.cU,.int .i64 RW.lo,.slice RW.aP RW.nP RW.cP,.slice none 0 0,v,.int .i64 0,.int .i64 0] 34 (0,0))∧iN wr (w.heap.size+2) RW∧Below (w.heap.size+2) ((w.alloc (.cells #[.int .i64 (n:Int),.int .i64 c,.int .i64 xo,.int .i64 xn,.int .i64 hd,.int .i64 lo,.int .i64 dl] 25)).alloc (.cells ab 34)) wr) (fun i _=>n-(intOf i).toNat)
  case atStart=>exact ⟨0,_,_,_,Nat.zero_le _,rfl,hM,fun i hi=>absurd hi (Nat.not_lt_zero i),kS,hW,hB⟩
  clear hM kS hW hB
  obtain ⟨k,v,b,L,hk,rfl,hM,hF,kS,hW,hB⟩:=hrel
  have HF:Hid (∀ i,i<k→rr (L i)):=hF
  clear hF
  have cb:=(je hB).1
  by_cases hlt:k<n
  ·
   have hlt':(k:Int)<n:=by omega
   go_wp2_with fail
   refine (uM wr.heap.size 0 2 2 qfN _ (by omega) (Ev wr) true ⟨fun _=>FD,fun _=>rfl⟩).mono ?_
   rintro e w2 ⟨R,rfl,hR,hb,hAl⟩
   have hb1:Below wr.heap.size wr w2:=((Below.refl wr.heap.size wr).alloc (Nat.le_refl _) _).trans (hb.mono (by simp))
   replace hR:jy w2 (b k) R:=hR.mono (by have:=hM.bn;simp;omega)
   have HAl:Hid (Alike (Gq 2 qfN true) R):=hAl
   have hA:=hb1.trans (((Below.refl w2.heap.size w2).alloc (Nat.le_refl _) (.cells #[.slice R.aQ R.nQ R.cQ,.slice R.aD R.nD R.cD,.int .i64 R.turn,.bool R.fresh,.slice R.aS R.nS R.cS] 45)).mono hb1.size)
   have hA1:=(Below.refl w2.heap.size w2).alloc (Nat.le_refl _) (.cells #[.slice R.aQ R.nQ R.cQ,.slice R.aD R.nD R.cD,.int .i64 R.turn,.bool R.fresh,.slice R.aS R.nS R.cS] 45)
   have kR:=im w2 (.cells #[.slice R.aQ R.nQ R.cQ,.slice R.aD R.nD R.cD,.int .i64 R.turn,.bool R.fresh,.slice R.aS R.nS R.cS] 45)
   replace hR:=hR.up hA1
   replace hM:=hM.up hA
   replace kS:=(hA.block _ (ig kS)).trans kS
   replace hW:=hW.up hA
   replace hB:=ki hB hA
   clear hb hb1 hA hA1 hAl cb
   dsimp only [Rnd.cells]
   go_wp2_with fail
   generalize hgr:w2.heap.size=gr at *
   generalize (w2.alloc (.cells #[.slice R.aQ R.nQ R.cQ,.slice R.aD R.nD R.cD,.int .i64 R.turn,.bool R.fresh,.slice R.aS R.nS R.cS] 45))=W at *
   clear hgr
   refine wp_region_held_drew (S:=fun w'=>∀ o,w'.cell? ⟨gr,o,none⟩=(#[.slice R.aQ R.nQ R.cQ,.slice R.aD R.nD R.cD,.int .i64 R.turn,.bool R.fresh,.slice R.aS R.nS R.cS]:Array Value)[o]?) (by kernel_rfl) (fun o=>ie kR o) (fun hHeld=>?_)
   have hd:=(Below.refl W.heap.size W).drew
   replace hR:=hR.up hd
   replace hM:=hM.up hd
   replace kR:=(hd.block _ (ig kR)).trans kR
   replace kS:=(hd.block _ (ig kS)).trans kS
   replace hW:=hW.up hd
   replace hB:=ki hB hd
   clear hd hHeld
   generalize W.drew=V at *
   have hHeld:=ie kR
   refine tC 0 32 (v:=?_) ?_ ?_
   rotate_left
   · exact aY
   try simp only [Act.put,PZ]
   refine tC 3 35 (v:=?_) ?_ ?_
   rotate_left
   · exact aY
   try simp only [Act.put,PZ]
   refine rq2 1 2 (fun K hK=>?_) (fun K hK=>?_)
   ·
    have cS:=ie kS
    go_simp
    clear cS
    refine ah (hK _ _ (ie kR)) ?_
    intro hHeld
    clear hK K
    refine rq1 2 (fun K hK=>?_)
    have m:=yS V
    go_simp
    clear m
    have hA:=(Below.refl V.heap.size V).alloc (Nat.le_refl _) (.cells (sZ 2) 27)
    have kU:=im V (.cells (sZ 2) 27)
    have gUl:b k≤V.heap.size:=hM.bn
    replace hR:=hR.up hA
    replace hM:=hM.up hA
    replace kR:=(hA.block _ (ig kR)).trans kR
    replace kS:=(hA.block _ (ig kS)).trans kS
    replace hW:=hW.up hA
    replace hB:=ki hB hA
    clear hA hHeld
    refine ah (hK _ _ (ie kR)) ?_
    intro hHeld
    clear hK K
    generalize V.heap.size=gU at *
    generalize V.alloc (.cells (sZ 2) 27)=V at *
    refine tC 4 36 (v:=?_) ?_ ?_
    rotate_left
    · exact aY
    try simp only [Act.put,PZ]
    exact Hw
   have m:=yS V
   go_simp
   clear m
   have hA:=(Below.refl V.heap.size V).alloc (Nat.le_refl _) (.cells (sZ 2) 27)
   have kU:=im V (.cells (sZ 2) 27)
   have gUl:b k≤V.heap.size:=hM.bn
   replace hR:=hR.up hA
   replace hM:=hM.up hA
   replace kR:=(hA.block _ (ig kR)).trans kR
   replace kS:=(hA.block _ (ig kS)).trans kS
   replace hW:=hW.up hA
   replace hB:=ki hB hA
   clear hA hHeld
   refine ah (hK _ _ (ie kR)) ?_
   intro hHeld
   clear hK K
   generalize V.heap.size=gU at *
   generalize V.alloc (.cells (sZ 2) 27)=V at *
   refine tC 4 36 (v:=?_) ?_ ?_
   rotate_left
   · exact aY
   try simp only [Act.put,PZ]
   refine rq2 1 5 (fun K hK=>?_) (fun K hK=>?_)
   ·
    have cS:=ie kS
    go_simp
    clear cS
    refine ah (hK _ _ (ie kR)) ?_
    intro hHeld
    clear hK K
    exact Hw
   obtain ⟨ga,ca,W',hr,hrow,hgb,hwh⟩:=zn ⟨false,some ⟨gU,0,none⟩,2,R⟩ hM.row (by omega) (by have:=hM.mono (i:=0) (j:=k) (by omega) (by omega);have:=hM.b0;have:=hM.bn;omega) 32
   have hr:(Builtin.append_ #[32,32] 32 #[v,.slice (some ⟨V.heap.size,0,none⟩) 1 1]).run Tryz.prog (V.alloc (.cells #[.bool false,.slice none 0 0,.slice (some ⟨gU,0,none⟩) 2 2,.slice R.aQ R.nQ R.cQ,.slice R.aD R.nD R.cD,.int .i64 R.turn,.bool R.fresh,.slice R.aS R.nS R.cS] 47))=.ok (.slice (some ⟨ga,0,none⟩) (k+1) ca) W':=hr
   have hM':=hM.next ⟨false,some ⟨gU,0,none⟩,2,R⟩ hrow hgb hR (rr.sh ⟨rfl,HAl.out⟩) (D5 gUl kU)
   have kR':=hM.far hgb kR (by decide)
   have kS':=hM.far hgb kS (by decide)
   have hW':=hM.counts hgb hW
   have hB':=hM.below hgb hB (by omega)
   have hA:=(Below.refl V.heap.size V).alloc (Nat.le_refl _) (.cells #[.bool false,.slice none 0 0,.slice (some ⟨gU,0,none⟩) 2 2,.slice R.aQ R.nQ R.cQ,.slice R.aD R.nD R.cD,.int .i64 R.turn,.bool R.fresh,.slice R.aS R.nS R.cS] 47)
   replace kS:=(hA.block _ (ig kS)).trans kS
   replace kR:=(hA.block _ (ig kR)).trans kR
   go_simp
   clear hHeld hA hgb hrow hwh hM hW hB
   refine ah (hK _ _ (ie kR)) ?_
   intro hHeld
   clear hK K
   generalize V.heap.size=gl at *
   generalize V.alloc (.cells #[.bool false,.slice none 0 0,.slice (some ⟨gU,0,none⟩) 2 2,.slice R.aQ R.nQ R.cQ,.slice R.aD R.nD R.cD,.int .i64 R.turn,.bool R.fresh,.slice R.aS R.nS R.cS] 47)=V at *
   refine rq1 1 (fun K hK=>?_)
   have cS:=ie kS
   go_simp
   clear cS
   refine ah (hK _ _ (ie kR)) ?_
   intro hHeld
   clear hK K
   exact Hu
  obtain rfl:k=n:=by omega
  rcases hM.Bt with ⟨_,h0⟩ | ⟨g,cap,rfl,hg,hL⟩
  ·
   omega
  have kz:=(tl hB).2
  have ht:=nX wr (w.heap.size+1) #[.int .i64 (k:Int),.int .i64 c,.int .i64 xo,.int .i64 xn,.int .i64 hd,.int .i64 lo,.int .i64 dl,.int .i64 0,.int .i64 1,.slice none 0 0,.slice RW.aU RW.nU RW.cU,.int .i64 RW.lo,.slice RW.aP RW.nP RW.cP,.slice none 0 0,.slice (some ⟨g,0,none⟩) k cap,.int .i64 0,.int .i64 0]
  have HK3:Hid ((wr.setRow (w.heap.size+1) #[.int .i64 (k:Int),.int .i64 c,.int .i64 xo,.int .i64 xn,.int .i64 hd,.int .i64 lo,.int .i64 dl,.int .i64 0,.int .i64 1,.slice none 0 0,.slice RW.aU RW.nU RW.cU,.int .i64 RW.lo,.slice RW.aP RW.nP RW.cP,.slice none 0 0,.slice (some ⟨g,0,none⟩) k cap,.int .i64 0,.int .i64 0]).heap[w.heap.size+1]?=some (.cells #[.int .i64 (k:Int),.int .i64 c,.int .i64 xo,.int .i64 xn,.int .i64 hd,.int .i64 lo,.int .i64 dl,.int .i64 0,.int .i64 1,.slice none 0 0,.slice RW.aU RW.nU RW.cU,.int .i64 RW.lo,.slice RW.aP RW.nP RW.cP,.slice none 0 0,.slice (some ⟨g,0,none⟩) k cap,.int .i64 0,.int .i64 0] 34 (0,0))):=qC kz
  have hb0:=hM.b0
  have HFin:Hid (DZ (wr.setRow (w.heap.size+1) #[.int .i64 (k:Int),.int .i64 c,.int .i64 xo,.int .i64 xn,.int .i64 hd,.int .i64 lo,.int .i64 dl,.int .i64 0,.int .i64 1,.slice none 0 0,.slice RW.aU RW.nU RW.cU,.int .i64 RW.lo,.slice RW.aP RW.nP RW.cP,.slice none 0 0,.slice (some ⟨g,0,none⟩) k cap,.int .i64 0,.int .i64 0]) w.heap.size ⟨(k:Int),c,xo,xn,hd,lo,dl⟩ k true ⟨⟨(k:Int),c,xo,xn,hd,lo,dl⟩,1,RW,some ⟨g,0,none⟩,k,cap,L⟩) :=
   ⟨rfl,rfl,rfl,by omega,hn,HAW.out,HF.out,g,b,⟨(hW.kk ht (fun x hx=>by simp at hx;omega)).mono (by omega),by omega,hL.uD ht (fun x hx=>by simp at hx;omega),rfl,fun x hx=>by have:=HRT x hx;omega⟩⟩
  have HB2:Hid (Below w.heap.size w (wr.setRow (w.heap.size+1) #[.int .i64 (k:Int),.int .i64 c,.int .i64 xo,.int .i64 xn,.int .i64 hd,.int .i64 lo,.int .i64 dl,.int .i64 0,.int .i64 1,.slice none 0 0,.slice RW.aU RW.nU RW.cU,.int .i64 RW.lo,.slice RW.aP RW.nP RW.cP,.slice none 0 0,.slice (some ⟨g,0,none⟩) k cap,.int .i64 0,.int .i64 0])):=(jt hB).trans (ht.below (jt hB).size (fun x hx=>by simp at hx;omega))
  have HKz:Hid (wr.heap[w.heap.size+1]?=some (.cells ab 34 (0,0))):=kz
  have HKs:Hid (wr.heap[gs]?=some (.cells #[.int .i64 (k:Int),.int .i64 c,.int .i64 xo,.int .i64 xn,.int .i64 hd,.int .i64 lo,.int .i64 dl,.int .i64 0,.int .i64 1,.slice none 0 0,.slice RW.aU RW.nU RW.cU,.int .i64 RW.lo,.slice RW.aP RW.nP RW.cP,.slice none 0 0,.slice (some ⟨g,0,none⟩) k cap,.int .i64 0,.int .i64 0] 34 (0,0))):=kS
  clear kz ht hB hM hL hW kS HB0 HO HAW HRT HF hg hb0
  go_wp2_with (first | refine zt rfl (.tmp 6) rfl gs rfl #[.int .i64 (k:Int),.int .i64 c,.int .i64 xo,.int .i64 xn,.int .i64 hd,.int .i64 lo,.int .i64 dl,.int .i64 0,.int .i64 1,.slice none 0 0,.slice RW.aU RW.nU RW.cU,.int .i64 RW.lo,.slice RW.aP RW.nP RW.cP,.slice none 0 0,.slice (some ⟨g,0,none⟩) k cap,.int .i64 0,.int .i64 0] HKs.out rfl ?_ | refine qv rfl (.tmp 2) (.tmp 40) rfl (w.heap.size+1) rfl #[.int .i64 (k:Int),.int .i64 c,.int .i64 xo,.int .i64 xn,.int .i64 hd,.int .i64 lo,.int .i64 dl,.int .i64 0,.int .i64 1,.slice none 0 0,.slice RW.aU RW.nU RW.cU,.int .i64 RW.lo,.slice RW.aP RW.nP RW.cP,.slice none 0 0,.slice (some ⟨g,0,none⟩) k cap,.int .i64 0,.int .i64 0] rfl ab HKz.out rfl rfl (by simp [Value.oneCell']) ?_)
  generalize wr.setRow (w.heap.size+1) #[.int .i64 (k:Int),.int .i64 c,.int .i64 xo,.int .i64 xn,.int .i64 hd,.int .i64 lo,.int .i64 dl,.int .i64 0,.int .i64 1,.slice none 0 0,.slice RW.aU RW.nU RW.cU,.int .i64 RW.lo,.slice RW.aP RW.nP RW.cP,.slice none 0 0,.slice (some ⟨g,0,none⟩) k cap,.int .i64 0,.int .i64 0]=WF at *
  exact bodyPost_ret (wD Tryz.results38 _ _ (w.heap.size+1) _ rfl HK3.out rfl (.bool true) rfl) rfl ⟨⟨⟨(k:Int),c,xo,xn,hd,lo,dl⟩,1,RW,some ⟨g,0,none⟩,k,cap,L⟩,rfl,HFin,HB2⟩
theorem pd (C:Cfg) (n:Nat) (w:World) (hp:2≤C.p∧C.p≤4→C.p=(n:Int)) (ok:Bool) (hok:ok=true↔C.Ok) :
  Calls Tryz.prog 38 #[.agg C.cells] w fun e w'=>∃ S:Sw,e=.returned (.tuple #[.agg S.cells,.bool ok])∧DZ w' w.heap.size C n ok S∧Below w.heap.size w w':=by
 cases ok
 ·
  exact tg C n w hp hok
 obtain ⟨p,c,xo,xn,hd,lo,dl⟩:=C
 have hC:=hok.1 rfl
 have h1:2≤p∧p≤4:=hC.num.p
 obtain rfl:p=(n:Int):=hp h1
 exact uK n c xo xn hd lo dl w hC
def pk0:Pkt:=⟨0,0,0,0,0,0,0,⟨#[]⟩⟩
def Ln.toG (l:Ln):Lng:=⟨l.st,none,0,0,fun _=>0,l.aU,2,l.cU,fun _=>none,fun _=>0,fun _=>0,fun _ _=>0,l.R⟩
def Sw.toG (S:Sw):Swg:=⟨S.C,0,S.nx,none,0,0,fun _=>⟨0,0,0⟩,S.N,none,0,0,fun _=>pk0,S.aL,S.nL,S.cL,fun i=>(S.L i).toG,0,0⟩
theorem Sw.wm (S:Sw):S.cells=S.toG.cells:=rfl
theorem GD.g {S:Sw} (h:GD w S):lr w S.toG :=
 ⟨fun i hi=>absurd hi (Nat.not_lt_zero _),h.n,pI.nil _ _ _,h.l,fun i hi=>⟨iP.nil _ _ _,h.u i hi,fun j hj=>iP.nil _ _ _,h.r i hi⟩⟩
def GP (C:Cfg) (n:Nat):Swg:=⟨C,0,1,none,0,0,fun _=>⟨0,0,0⟩,Gr n true,none,0,0,fun _=>pk0,none,n,0,fun _=>⟨false,none,0,0,fun _=>0,none,2,0,fun _=>none,fun _=>0,fun _=>0,fun _ _=>0,Gq 2 qfN true⟩,0,0⟩
theorem DZ.g {S:Sw} (h:DZ w base C n true S):iw (GP C n) S.toG:=by
 obtain ⟨h1,h2,h3,h4,h5,h6,h7,g,b,h8⟩:=h
 exact ⟨h1,rfl,h2,rfl,rfl,h6,rfl,rfl,h3,fun i hi=>⟨(h7 i hi).1,rfl,rfl,rfl,rfl,rfl,(h7 i hi).2⟩,rfl,rfl⟩
theorem AB.GR {g:Nat} {b:Nat→Nat} {S:Sw} {T:List Nat} (h:AB w base g b S) (ht:Touch T w w') (hT:∀ x∈T,x<base):AB w' base g b S :=
 ⟨h.n.kk ht hT,h.bb,h.l.uD ht (fun x hx=>Nat.lt_of_lt_of_le (hT x hx) h.bb),h.a,h.z⟩
theorem Bi (h:C.Ok) (hn:(n:Int)=C.p):(GP C n).Ok:=by
 have hp:=h.num.p
 refine ⟨⟨h,hn,hn,by show 0≤(0:Int)∧0≤C.lo;have:=h.num.lo;omega,fun i hi=>by show 0≤(0:Int)∧0≤C.xo+C.hd;have:=h.num.xo;have:=h.num.hd;omega⟩,⟨by show 0≤(0:Int)∧(0:Int)≤1000000000;omega,by show 1≤(1:Int)∧(1:Int)≤1000000000;omega,by show 0≤(0:Int)∧(0:Int)≤1000000000;omega,by show 0≤(0:Int)∧(0:Int)≤1000000000;omega⟩,⟨⟨Nat.zero_le _,fun i hi=>absurd hi (Nat.not_lt_zero _)⟩,fun i hi=>absurd hi (Nat.not_lt_zero _)⟩,⟨Nat.zero_le _,fun i hi=>absurd hi (Nat.not_lt_zero _),fun i hi=>absurd hi (Nat.not_lt_zero _)⟩,hn,fun i hi=>?_,fun j hj=>absurd hj (Nat.not_lt_zero _),rfl,fun i hi=>rfl⟩
 exact ⟨FD,rfl,rfl,rfl,rfl,fun c hc=>⟨fun i hi=>absurd hi (Nat.not_lt_zero _),rfl,fun i hi=>absurd hi (Nat.not_lt_zero _)⟩,fun i hi=>absurd hi (Nat.not_lt_zero _)⟩
def Code (g:Nat) (cv:Value) (len:Nat) (w:World):Prop :=
 ((∃ a cap,cv=.slice a 0 cap)∧len=0)∨∃ b off cap,cv=.slice (some ⟨b,off,none⟩) len cap∧b<g∧len≤1048576∧∀ i,i<len→∃ z:Nat,z≤255∧w.cell? ⟨b,off+i,none⟩=some (.int .u8 z)
def Rd (g:Nat) (cv:Value) (w:World):Prop :=
 ∃ len p:Nat,p≤len∧w.heap[g]?=some (.cells #[cv,.int .i64 p] 79 (0,0))∧Code g cv len w
structure Kept (g:Nat) (w w':World):Prop where
 os:w'.os=w.os
 tape:w'.tape=w.tape
 output:w'.output=w.output
 size:w.heap.size≤w'.heap.size
 block:∀ k,k<w.heap.size→k≠g→w'.heap[k]?=w.heap[k]?
theorem Kept.refl (g:Nat) (w:World):Kept g w w:=⟨rfl,rfl,rfl,Nat.le_refl _,fun _ _ _=>rfl⟩
theorem Kept.trans {g:Nat} {c:World} (h:Kept g a b) (k:Kept g b c):Kept g a c :=
 ⟨k.os.trans h.os,k.tape.trans h.tape,k.output.trans h.output,Nat.le_trans h.size k.size,fun i hi hn=>(k.block i (Nat.lt_of_lt_of_le hi h.size) hn).trans (h.block i hi hn)⟩
theorem Kept.jq {g:Nat} (h:Below a.heap.size a b):Kept g a b:=⟨h.os,h.tape,h.output,h.size,fun i hi _=>h.block i hi⟩
theorem Kept.alloc {g:Nat} (h:Kept g a b) (o:Obj):Kept g a (b.alloc o):=h.trans (Kept.jq ((Below.refl _ _).alloc (Nat.le_refl _) o))
theorem Kept.drewN {g:Nat} (h:Kept g a b) (n:Nat):Kept g a (b.drewN n):=⟨h.os,h.tape,h.output,h.size,h.block⟩
theorem Kept.set {g:Nat} (h:Kept g a b) (i:Nat) (v:Value):Kept g a (b.setCell ⟨g,i,none⟩ v) :=
 h.trans ⟨rfl,rfl,rfl,by simp [World.setCell],fun k _ hn=>iE hn v⟩
theorem Kept.iC {g:Nat} (h:Kept g a b) (hk:a.heap.size≤k) (i:Nat) (v:Value):Kept g a (b.setCell ⟨k,i,none⟩ v) :=
 ⟨h.os,h.tape,h.output,by simpa [World.setCell] using h.size,fun j hj hn=>(iE (by omega) v).trans (h.block j hj hn)⟩
theorem Kept.below {g:Nat} (h:Kept g a b) (hB:B≤a.heap.size) (hg:B≤g):Below B a b:=⟨h.os,h.tape,h.output,h.size,fun k hk=>h.block k (by omega) (by omega)⟩
theorem Code.jQ {g:Nat} {len:Nat} (h:Code g cv len w) (hg:g≤w.heap.size) (hk:∀ k,k<g→w'.heap[k]?=w.heap[k]?):Code g cv len w':=by
 rcases h with h | ⟨b,off,cap,hv,hb,hl,hc⟩
 ·
  exact .inl h
 refine .inr ⟨b,off,cap,hv,hb,hl,fun i hi=>?_⟩
 obtain ⟨z,hz,he⟩:=hc i hi
 exact ⟨z,hz,(World.cell?_of_block (w:=w) (a:=⟨b,off+i,none⟩) (hk b hb)).trans he⟩
theorem Rd.lt {g:Nat} (h:Rd g cv w):g<w.heap.size:=by
 obtain ⟨_,_,_,hb,_⟩:=h;exact ig hb
theorem Rd.jQ {g:Nat} (h:Rd g cv w) (hk:∀ k,k≤g→w'.heap[k]?=w.heap[k]?):Rd g cv w':=by
 have hl:=h.lt
 obtain ⟨len,p,hp,hb,hc⟩:=h
 exact ⟨len,p,hp,by rw [hk g (Nat.le_refl _)];exact hb,hc.jQ (by omega) (fun k hk'=>hk k (by omega))⟩
theorem Rd.below {g:Nat} (h:Rd g cv w) (hb:Below w.heap.size w w'):Rd g cv w' :=
 h.jQ (fun k hk=>hb.block k (by have:=h.lt;omega))
theorem Rd.alloc {g:Nat} (h:Rd g cv w) (o:Obj):Rd g cv (w.alloc o):=h.below ((Below.refl _ _).alloc (Nat.le_refl _) o)
theorem Rd.iC {g:Nat} (h:Rd g cv w) (hk:g<k) (i:Nat) (v:Value):Rd g cv (w.setCell ⟨k,i,none⟩ v) :=
 h.jQ (fun j hj=>iE (by omega) v)
theorem Dg (cv:Value) (len:Nat) (w:World) (h:Code w.heap.size cv len w) (hs:∃ a n c,cv=.slice a n c) :
  Calls Tryz.prog 12 #[cv] w fun e w'=>e=.returned (.pointer (some ⟨w.heap.size,0,none⟩))∧Rd w.heap.size cv w'∧Below w.heap.size w w':=by
 obtain ⟨a,n,c,rfl⟩:=hs
 go_enter Tryz.func12,Tryz.ntmps12
 go_wp2
 go_ret
 refine ⟨rfl,⟨len,0,Nat.zero_le _,im w _,h.jQ (Nat.le_refl _) (fun k hk=>iH _ hk)⟩,(Below.refl _ _).alloc (Nat.le_refl _) _⟩
theorem rI (g:Nat) (cv:Value) (w:World) (h:Rd g cv w) :
  Calls Tryz.prog 44 #[.pointer (some ⟨g,0,none⟩)] w fun e w'=>∃ x:Nat,x≤255∧e=.returned (.int .i64 x)∧Rd g cv w'∧Kept g w w':=by
 have hR:=h
 obtain ⟨len,p,hp,hb,hc⟩:=h
 have c0:w.cell? ⟨g,0,none⟩=some cv:=by rw [ie hb];rfl
 have c1:w.cell? ⟨g,1,none⟩=some (.int .i64 p):=by rw [ie hb];rfl
 rcases hc with ⟨⟨ca,ccap,rfl⟩,rfl⟩ | ⟨b,off,cap,rfl,hbg,hl,hcell⟩
 ·
  obtain rfl:p=0:=by omega
  exact fe
 by_cases hlt:p<len
 ·
  obtain ⟨z,hz,hzc⟩:=hcell p hlt
  have f1:=ix hb 1
  have hlt':(p:Int)<(len:Int):=by omega
  have hx:∀ v,(w.setCell ⟨g,1,none⟩ v).cell? ⟨b,off+p,none⟩=some (.int .u8 z):=by
   intro v
   rw [World.cell?_of_block (w:=w) (a:=⟨b,off+p,none⟩) (iE (by show b≠g;omega) v)]
   exact hzc
  have hbn:b≠g:=by omega
  go_enter Tryz.func44,Tryz.ntmps44
  go_wp2
  go_quiet (fail)
  go_wp2
  go_quiet (fail)
  go_wp2
  go_ret
  refine ⟨z,hz,rfl,⟨len,p+1,hlt,?_,?_⟩,(((Kept.refl _ _).drewN _).set 1 _).drewN _⟩
  ·
   exact iL (w:=w) (i:=1) hb (.int .i64 ((p+1:Nat):Int))
  refine .inr ⟨b,off,cap,rfl,hbg,hl,fun i hi=>?_⟩
  obtain ⟨z',hz',hc'⟩:=hcell i hi
  exact ⟨z',hz',(World.cell?_of_block (w:=w) (a:=⟨b,off+i,none⟩) (iE (w:=w) (g:=g) (i:=1) (by show b≠g;omega) (.int .i64 ((p+1:Nat):Int)))).trans hc'⟩
 have hge:(len:Int)≤p:=by omega
 exact fe
theorem jb (g:Nat) (cv:Value) (n:Int) (w:World) (h:Rd g cv w) (h1:1≤n) (h2:n≤65536) :
  Calls Tryz.prog 17 #[.pointer (some ⟨g,0,none⟩),.int .i64 n] w fun e w'=>∃ x:Nat,(x:Int)<n∧e=.returned (.int .i64 x)∧Rd g cv w'∧Kept g w w':=by
 by_cases hn1:n≤1
 ·
  go_enter Tryz.func17,Tryz.ntmps17
  go_wp2_with fail
  go_ret
  exact ⟨0,by omega,rfl,h,Kept.refl _ _⟩
 by_cases hn2:n≤256
 ·
  go_enter Tryz.func17,Tryz.ntmps17
  go_wp2_with fail
  refine (rI _ _ _ h).mono ?_
  rintro e w1 ⟨x,hx,rfl,hR1,hK1⟩
  go_wp2_with fail
  go_ret
  have e1:=Int.emod_nonneg (x:Int) (show n≠0 by omega)
  have e2:=Int.emod_lt_of_pos (x:Int) (show 0<n by omega)
  exact ⟨((x:Int) % n).toNat,by omega,lR (by omega),hR1,hK1⟩
 go_enter Tryz.func17,Tryz.ntmps17
 go_wp2_with fail
 refine (rI _ _ _ h).mono ?_
 rintro e w1 ⟨x,hx,rfl,hR1,hK1⟩
 go_wp2_with fail
 refine (rI _ _ _ hR1).mono ?_
 rintro e w2 ⟨y,hy,rfl,hR2,hK2⟩
 go_wp2_with fail
 go_ret
 have e1:=Int.emod_nonneg ((x:Int)*256+y) (show n≠0 by omega)
 have e2:=Int.emod_lt_of_pos ((x:Int)*256+y) (show 0<n by omega)
 exact ⟨(((x:Int)*256+y) % n).toNat,by omega,lR (by omega),hR2,hK1.trans hK2⟩
theorem uQ (g:Nat) (cv:Value) (n:Int) (w:World) (h:Rd g cv w) (h1:1≤n) (h2:n≤65536) :
  Calls Tryz.prog 14 #[.pointer (some ⟨g,0,none⟩),.int .i64 n] w fun e w'=>∃ x:Bool,e=.returned (.bool x)∧Rd g cv w'∧Kept g w w':=by
 go_enter Tryz.func14,Tryz.ntmps14
 go_wp2_with fail
 refine (jb _ _ _ _ h h1 h2).mono ?_
 rintro e w1 ⟨x,hx,rfl,hR1,hK1⟩
 exact fg
def U64 (v:Int):Prop:=0≤v∧v<18446744073709551616
theorem DQ (op:BinOp) (x y:Int):U64 (bits op .u64 x y):=by
 unfold bits U64
 simp only [IntKind.wrap,IntKind.bits,IntKind.signed]
 constructor
 ·
  simp;omega
 simp;omega
theorem CG (g:Nat) (cv:Value) (w:World) (h:Rd g cv w) :
  Calls Tryz.prog 80 #[.pointer (some ⟨g,0,none⟩)] w fun e w'=>∃ x:Int,U64 x∧e=.returned (.int .u64 x)∧Rd g cv w'∧Kept g w w':=by
 go_enter Tryz.func80,Tryz.ntmps80
 go_wp2_with fail
 go_loopw [3,4] (fun x i wr=>∃ (k:Nat) (v:Int),k≤8∧i=.int .i64 k∧x=.int .u64 v∧U64 v∧Rd g cv wr∧Kept g w wr) (fun _ i _=>8-(intOf i).toNat)
 case atStart=>exact ⟨0,0,by omega,rfl,rfl,⟨by omega,by omega⟩,h,Kept.refl _ _⟩
 obtain ⟨k,v,hk,rfl,rfl,hv,hR,hK⟩:=hrel
 by_cases hlt:k<8
 ·
  have hlt':(k:Int)<8:=by omega
  go_wp2_with fail
  refine (rI _ _ _ hR).mono ?_
  rintro e w1 ⟨x,hx,rfl,hR1,hK1⟩
  go_wp2_with fail
  go_roundw
  case rel=>exact ⟨k+1,_,by omega,by go_num,rfl,DQ _ _ _,hR1,hK.trans hK1⟩
  case measure=>simp [intOf];omega
 go_wp2_with fail
 go_ret
 exact ⟨v,hv,rfl,hR,hK⟩
theorem Dk (g:Nat) (cv:Value) (low high:Int) (w:World) (h:Rd g cv w) (h0:-1000≤low) (h1:low≤high) (h2:high≤1000) :
  Calls Tryz.prog 42 #[.pointer (some ⟨g,0,none⟩),.int .i64 low,.int .i64 high] w fun e w'=>∃ x:Int,e=.returned (.int .i64 x)∧Rd g cv w'∧Kept g w w':=by
 go_enter Tryz.func42,Tryz.ntmps42
 go_wp2_with fail
 refine (jb _ _ _ _ h (by omega) (by omega)).mono ?_
 rintro e w1 ⟨x,hx,rfl,hR1,hK1⟩
 by_cases hx0:x=0
 ·
  have hq:((x:Int) == 0)=true:=by simp;omega
  exact fg
 have hq:((x:Int) == 0)=false:=by simp;omega
 by_cases hx1:x=1
 ·
  have hq1:((x:Int) == 1)=true:=by simp;omega
  exact fg
 have hq1:((x:Int) == 1)=false:=by simp;omega
 have hd:(high-low+1 == 0)=false:=by simp;omega
 go_wp2_with fail
 refine (CG _ _ _ hR1).mono ?_
 rintro e w2 ⟨y,hy,rfl,hR2,hK2⟩
 go_wp2_with fail
 go_ret
 exact ⟨_,rfl,hR2,hK1.trans hK2⟩
theorem D7 {g:Nat} {C:Array Value} (hg:g<w.heap.size) (hK:Kept g (w.alloc (.cells C t)) w1) (i:Nat):w1.cell? ⟨w.heap.size,i,none⟩=C[i]?:=by
 have hz:(w.alloc (.cells C t)).heap.size=w.heap.size+1:=by simp
 rw [World.cell?_of_block (w:=w.alloc (.cells C t)) (a:=⟨w.heap.size,i,none⟩) (hK.block w.heap.size (by omega) (by omega))]
 exact World.cell?_alloc_mark w C t (0,0) i
theorem mj {g:Nat} (hK:Kept g (w.alloc o) w1):Kept g w w1:=((Kept.refl g w).alloc o).trans hK
theorem qG (g:Nat) (cv:Value) (low high:Int) (w:World) (h:Rd g cv w) (h0:-1000≤low) (h1:low≤high) (h2:high≤1000) :
  Calls Tryz.prog 15 #[.pointer (some ⟨g,0,none⟩),.int .i64 low,.int .i64 high] w fun e w'=>∃ x:Int,e=.returned (.int .i64 x)∧Rd g cv w'∧Kept g w w':=by
 go_enter Tryz.func15,Tryz.ntmps15
 go_wp2_with fail
 refine (uQ _ _ _ _ h (by omega) (by omega)).mono ?_
 rintro e w1 ⟨x,rfl,hR1,hK1⟩
 cases x
 ·
  go_wp2_with fail
  refine (Dk _ _ _ _ _ hR1 h0 h1 h2).mono ?_
  rintro e w2 ⟨y,rfl,hR2,hK2⟩
  go_wp2_with fail
  go_ret
  exact ⟨_,rfl,hR2,hK1.trans hK2⟩
 go_wp2_with fail
 refine (jb _ _ _ _ (hR1.alloc _) (by omega) (by omega)).mono ?_
 rintro e w2 ⟨y,hy,rfl,hR2,hK2⟩
 have hcl:=D7 hR1.lt hK2 y
 have hK:=hK1.trans (mj hK2)
 obtain ⟨z,hz⟩:∃ z,w2.cell? ⟨w1.heap.size,y,none⟩=some (.int .i64 z):=by
  rw [hcl]
  rcases (by omega:y=0∨y=1∨y=2∨y=3) with rfl | rfl | rfl | rfl <;> exact ⟨_,rfl⟩
 clear hcl hK2
 go_wp2_with fail
 go_ret
 exact ⟨_,rfl,hR2,hK⟩
theorem DL (g:Nat) (cv:Value) (w:World) (h:Rd g cv w) :
  Calls Tryz.prog 43 #[.pointer (some ⟨g,0,none⟩)] w fun e w'=>∃ b:ByteArray,b.size≤40∧e=.returned (.string b)∧Rd g cv w'∧Kept g w w':=by
 go_enter Tryz.func43,Tryz.ntmps43
 go_wp2_with fail
 refine (jb _ _ _ _ (h.alloc _) (by omega) (by omega)).mono ?_
 rintro e w2 ⟨y,hy,rfl,hR2,hK2⟩
 have hcl:=D7 h.lt hK2 y
 have hK:=mj hK2
 obtain ⟨z,hz40,hz⟩:∃ z:Nat,z≤40∧w2.cell? ⟨w.heap.size,y,none⟩=some (.int .i64 z):=by
  rw [hcl]
  rcases (by omega:y=0∨y=1∨y=2∨y=3∨y=4∨y=5∨y=6∨y=7∨y=8∨y=9) with rfl | rfl | rfl | rfl | rfl | rfl | rfl | rfl | rfl | rfl
  ·
   exact ⟨0,by omega,rfl⟩
  ·
   exact ⟨1,by omega,rfl⟩
  ·
   exact ⟨2,by omega,rfl⟩
  ·
   exact ⟨5,by omega,rfl⟩
  ·
   exact ⟨10,by omega,rfl⟩
  ·
   exact ⟨11,by omega,rfl⟩
  ·
   exact ⟨12,by omega,rfl⟩
  ·
   exact ⟨21,by omega,rfl⟩
  ·
   exact ⟨22,by omega,rfl⟩
  exact ⟨40,by omega,rfl⟩
 clear hcl hK2
 have hz':(z:Int)≤40:=by omega
 go_wp2_with fail
 go_ret
 exact ⟨_,by rw [ByteArray.size_extract];omega,rfl,hR2,hK⟩
theorem rp {g:Nat} (hK:Kept g w w1) (h:w.heap[k]?=some o) (hk:k≠g):w1.heap[k]?=some o:=by
 rw [hK.block k (ig h) hk];exact h
theorem CK {g:Nat} {A B:Obj} (hg:g<w.heap.size) (hK:Kept g ((w.alloc A).alloc B) w1) :
  w1.heap[w.heap.size]?=some A∧w1.heap[w.heap.size+1]?=some B∧Kept g w w1:=by
 have e1:(w.alloc A).heap.size=w.heap.size+1:=by simp
 refine ⟨rp hK ((iH B (by omega)).trans (im w A)) (by omega),?_,mj (mj hK)⟩
 have:=im (w.alloc A) B
 rw [e1] at this
 exact rp hK this (by omega)
theorem Rd.Co {g:Nat} (h:Rd g cv w):Rd g cv w.drew:=h.jQ (fun _ _=>rfl)
theorem Kept.Co {g:Nat} (h:Kept g a b):Kept g a b.drew:=⟨h.os,h.tape,h.output,h.size,h.block⟩
def AJ (W:World) (k:Nat) (C:Cfg):World:=((((((W.setCell ⟨k,0,none⟩ (.int .i64 C.p)).setCell ⟨k,1,none⟩ (.int .i64 C.c)).setCell ⟨k,2,none⟩ (.int .i64 C.xo)).setCell ⟨k,3,none⟩ (.int .i64 C.xn)).setCell ⟨k,4,none⟩ (.int .i64 C.hd)).setCell ⟨k,5,none⟩ (.int .i64 C.lo)).setCell ⟨k,6,none⟩ (.int .i64 C.dl)
theorem uN {a b c d e f g:Value} (h:W.heap[k]?=some (.cells #[a,b,c,d,e,f,g] t (0,0))) (C:Cfg):(AJ W k C).heap[k]?=some (.cells C.cells t (0,0)):=by
 have h6:=iL (i:=6) (iL (i:=5) (iL (i:=4) (iL (i:=3) (iL (i:=2) (iL (i:=1) (iL (i:=0) h (.int .i64 C.p)) (.int .i64 C.c)) (.int .i64 C.xo)) (.int .i64 C.xn)) (.int .i64 C.hd)) (.int .i64 C.lo)) (.int .i64 C.dl)
 simp only [List.setIfInBounds_toArray,List.set_cons_zero,List.set_cons_succ] at h6
 exact h6
theorem sf {g:Nat} (h:Kept g a W) (hk:a.heap.size≤k) (C:Cfg):Kept g a (AJ W k C):=((((((h.iC hk 0 _).iC hk 1 _).iC hk 2 _).iC hk 3 _).iC hk 4 _).iC hk 5 _).iC hk 6 _
theorem xV {g:Nat} (h:Rd g cv W) (hk:g<k) (C:Cfg):Rd g cv (AJ W k C):=((((((h.iC hk 0 _).iC hk 1 _).iC hk 2 _).iC hk 3 _).iC hk 4 _).iC hk 5 _).iC hk 6 _
theorem Ar (g:Nat) (cv:Value) (w:World) (h:Rd g cv w) :
  Calls Tryz.prog 39 #[.pointer (some ⟨g,0,none⟩)] w fun e w'=>∃ C:Cfg,e=.returned (.agg C.cells)∧2≤C.p∧C.p≤4∧Rd g cv w'∧Kept g w w':=by
 have hR:=h.alloc (.cells #[.int .i64 0,.int .i64 0,.int .i64 0,.int .i64 0,.int .i64 0,.int .i64 0,.int .i64 0] 25)
 have HK0:Hid (∀ W,Kept g (w.alloc (.cells #[.int .i64 0,.int .i64 0,.int .i64 0,.int .i64 0,.int .i64 0,.int .i64 0,.int .i64 0] 25)) W→W.heap[w.heap.size]?=some (.cells #[.int .i64 0,.int .i64 0,.int .i64 0,.int .i64 0,.int .i64 0,.int .i64 0,.int .i64 0] 25 (0,0))∧Kept g w W):=fun W hW=>⟨rp hW (im _ _) (by have:=h.lt;omega),mj hW⟩
 have Hg:=aa h.lt
 have hJ:Kept g (w.alloc (.cells #[.int .i64 0,.int .i64 0,.int .i64 0,.int .i64 0,.int .i64 0,.int .i64 0,.int .i64 0] 25)) (w.alloc (.cells #[.int .i64 0,.int .i64 0,.int .i64 0,.int .i64 0,.int .i64 0,.int .i64 0,.int .i64 0] 25)):=Kept.refl _ _
 clear h
 go_enter Tryz.func39,Tryz.ntmps39
 go_wp2_with fail
 refine (jb g cv 3 _ hR (by omega) (by omega)).mono ?_
 rintro e w1 ⟨x,hx,rfl,hR1,hJ1⟩
 replace hJ:=hJ.trans hJ1
 clear hR
 have hR:=hR1
 clear hR1 hJ1
 go_wp2_with fail
 refine (jb g cv 12 _ hR (by omega) (by omega)).mono ?_
 rintro e w2 ⟨y,hy,rfl,hR1,hJ1⟩
 replace hJ:=hJ.trans hJ1
 clear hR
 have hR:=hR1
 clear hR1 hJ1
 go_wp2_with fail
 refine (jb g cv 3 _ hR (by omega) (by omega)).mono ?_
 rintro e w3 ⟨v,hv,rfl,hR1,hJ1⟩
 replace hJ:=hJ.trans hJ1
 clear hR
 have hR:=hR1
 clear hR1 hJ1
 go_wp2_with fail
 refine (jb g cv 20 _ hR (by omega) (by omega)).mono ?_
 rintro e w4 ⟨z,hz,rfl,hR1,hJ1⟩
 replace hJ:=hJ.trans hJ1
 clear hR
 have hR:=hR1
 clear hR1 hJ1
 have hP1:2≤2+(x:Int):=by omega
 have hP2:2+(x:Int)≤4:=by omega
 have hY1:2≤2+(y:Int):=by omega
 have hY2:2+(y:Int)≤13:=by omega
 have hV1:1≤1+(v:Int):=by omega
 have hV2:1+(v:Int)≤3:=by omega
 have hZ1:5≤5+(z:Int):=by omega
 have hZ2:5+(z:Int)≤24:=by omega
 go_wp2_with fail
 generalize 2+(x:Int)=P at *
 generalize 2+(y:Int)=Y at *
 generalize 1+(v:Int)=V at *
 generalize 5+(z:Int)=Z at *
 clear hx hy hv hz
 have kC:=im w4 (.cells #[.int .i64 P,.int .i64 0,.int .i64 Y,.int .i64 0,.int .i64 0,.int .i64 Z,.int .i64 V] 25)
 have HgC:Hid ((w.alloc (.cells #[.int .i64 0,.int .i64 0,.int .i64 0,.int .i64 0,.int .i64 0,.int .i64 0,.int .i64 0] 25)).heap.size≤w4.heap.size∧w4.heap.size≠g):=⟨hJ.size,by have:=hR.lt;omega⟩
 replace hJ:=hJ.alloc (.cells #[.int .i64 P,.int .i64 0,.int .i64 Y,.int .i64 0,.int .i64 0,.int .i64 Z,.int .i64 V] 25)
 replace hR:=hR.alloc (.cells #[.int .i64 P,.int .i64 0,.int .i64 Y,.int .i64 0,.int .i64 0,.int .i64 Z,.int .i64 V] 25)
 generalize w4.alloc (.cells #[.int .i64 P,.int .i64 0,.int .i64 Y,.int .i64 0,.int .i64 0,.int .i64 Z,.int .i64 V] 25)=w5 at *
 refine (jb g cv Y _ hR (by omega) (by omega)).mono ?_
 rintro e w6 ⟨x5,hx5,rfl,hR1,hJ1⟩
 replace hJ:=hJ.trans hJ1
 replace kC:=rp hJ1 kC HgC.2
 clear hR
 have hR:=hR1
 clear hR1 hJ1
 have cC:=ie kC
 have fC:=ix kC
 go_wp2_with fail
 clear cC fC
 replace hJ:=hJ.iC HgC.1 3 (.int .i64 x5)
 replace hR:=hR.iC (k:=w4.heap.size) (by have:=HgC.out;have:=Hg.out;simp at *;omega) 3 (.int .i64 x5)
 replace kC:=iL (i:=3) kC (.int .i64 x5)
 generalize w6.setCell ⟨w4.heap.size,3,none⟩ (.int .i64 x5)=W7 at *
 generalize (x5:Int)=X at *
 have e1:IntKind.i64.wrap (2*V)=2*V:=lI _ (by omega) (by omega)
 have e2:IntKind.i64.wrap (2*V+1)=2*V+1:=lI _ (by omega) (by omega)
 have e3:IntKind.i64.wrap ((2*V+1)*5)=(2*V+1)*5:=lI _ (by omega) (by omega)
 refine wp_region_held_drew (S:=fun w'=>w'.cell? ⟨w4.heap.size,6,none⟩=some (.int .i64 V)) (by kernel_rfl) (ie kC 6) (fun hHeld=>?_)
 refine tC 0 22 (v:=?_) ?_ ?_
 rotate_left
 · exact aY
 try simp only [Act.put,PZ]
 refine tC 1 23 (v:=?_) ?_ ?_
 rotate_left
 · exact aY
 try simp only [Act.put,PZ]
 refine tC 2 24 (v:=?_) ?_ ?_
 rotate_left
 · exact aY
 try simp only [Act.put,PZ]
 refine tC 3 25 (v:=?_) ?_ ?_
 rotate_left
 · exact aY
 try simp only [Act.put,PZ]
 refine tC 4 26 (v:=?_) ?_ ?_
 rotate_left
 · exact aY
 try simp only [Act.put,PZ]
 refine tC 5 27 (v:=?_) ?_ ?_
 rotate_left
 · exact aY
 try simp only [Act.put,PZ]
 refine rq1 6 (fun K hK=>?_)
 go_simp
 replace hR:=hR.Co
 replace hJ:=hJ.Co
 have kC:W7.drew.heap[w4.heap.size]?=_:=kC
 refine (jb g cv 4 _ hR (by omega) (by omega)).mono ?_
 rintro e w8 ⟨x6,hx6,rfl,hR1,hJ1⟩
 replace hJ:=hJ.trans hJ1
 replace kC:=rp hJ1 kC HgC.2
 clear hR
 have hR:=hR1
 clear hR1 hJ1
 have s:w8.cell? ⟨w4.heap.size,6,none⟩=some (.int .i64 V):=ie kC 6
 have e1:IntKind.i64.wrap (2*V)=2*V:=lI _ (by omega) (by omega)
 have e2:IntKind.i64.wrap (2*V+1)=2*V+1:=lI _ (by omega) (by omega)
 have e3:IntKind.i64.wrap ((2*V+1)*5)=(2*V+1)*5:=lI _ (by omega) (by omega)
 have e4:IntKind.i64.wrap ((2*V+1)*5+x6)=(2*V+1)*5+x6:=lI _ (by omega) (by omega)
 have cC:=ie kC
 have fC:=ix kC
 have s2:(w8.setCell ⟨w4.heap.size,4,none⟩ (.int .i64 ((2*V+1)*5+x6))).cell? ⟨w4.heap.size,6,none⟩=some (.int .i64 V):=ie (iL (i:=4) kC _) 6
 go_wp2_with fail
 refine ah (hK _ _ s) ?_
 intro hHeld
 clear hK K
 refine tC 7 29 (v:=?_) ?_ ?_
 rotate_left
 · exact aY
 try simp only [Act.put,PZ]
 refine tC 8 30 (v:=?_) ?_ ?_
 rotate_left
 · exact aY
 try simp only [Act.put,PZ]
 refine rq1 9 (fun K hK=>?_)
 go_simp
 refine ah (hK _ _ s2) ?_
 intro hHeld
 clear hK K
 refine dnq ?_
 clear hHeld s s2 cC fC
 replace hJ:=hJ.iC HgC.1 4 (.int .i64 ((2*V+1)*5+x6))
 replace hR:=hR.iC (k:=w4.heap.size) (by have:=HgC.out;have:=Hg.out;simp at *;omega) 4 (.int .i64 ((2*V+1)*5+x6))
 replace kC:=iL (i:=4) kC (.int .i64 ((2*V+1)*5+x6))
 have hH1:15≤(2*V+1)*5+x6:=by omega
 have hH2:(2*V+1)*5+x6≤38:=by omega
 clear e1 e2 e3 e4
 go_wp2_with fail
 generalize w8.setCell ⟨w4.heap.size,4,none⟩ (.int .i64 ((2*V+1)*5+x6))=W9 at *
 generalize (2*V+1)*5+(x6:Int)=Hd at *
 have hP3:P=2∨P=3∨P=4:=by omega
 have e5:IntKind.i64.wrap (Y+Hd)=Y+Hd:=lI _ (by omega) (by omega)
 have e6:IntKind.i64.wrap (P*(Y+Hd))=P*(Y+Hd):=fh
 have e7:IntKind.i64.wrap (P*(Y+Hd)+Z)=P*(Y+Hd)+Z:=fh
 have HP3:=aa hP3
 clear hP3
 refine wp_region_held_drew (S:=fun w'=>w'.cell? ⟨w4.heap.size,0,none⟩=some (.int .i64 P)∧w'.cell? ⟨w4.heap.size,2,none⟩=some (.int .i64 Y)∧w'.cell? ⟨w4.heap.size,4,none⟩=some (.int .i64 Hd)∧w'.cell? ⟨w4.heap.size,5,none⟩=some (.int .i64 Z)) (by kernel_rfl) ⟨ie kC 0,ie kC 2,ie kC 4,ie kC 5⟩ (fun hHeld=>?_)
 refine tC 0 31 (v:=?_) ?_ ?_
 rotate_left
 · exact cY
 try simp only [Act.put,PZ]
 refine tC 1 32 (v:=?_) ?_ ?_
 rotate_left
 · exact cY
 try simp only [Act.put,PZ]
 refine tC 2 33 (v:=?_) ?_ ?_
 rotate_left
 · exact cY
 try simp only [Act.put,PZ]
 refine tC 3 34 (v:=?_) ?_ ?_
 rotate_left
 · exact cY
 try simp only [Act.put,PZ]
 refine tC 4 35 (v:=?_) ?_ ?_
 rotate_left
 · exact cY
 try simp only [Act.put,PZ]
 refine tC 5 36 (v:=?_) ?_ ?_
 rotate_left
 · exact cY
 try simp only [Act.put,PZ]
 refine tC 6 37 (v:=?_) ?_ ?_
 rotate_left
 · exact cY
 try simp only [Act.put,PZ]
 refine tC 7 38 (v:=?_) ?_ ?_
 rotate_left
 · exact cY
 try simp only [Act.put,PZ]
 refine tC 8 39 (v:=?_) ?_ ?_
 rotate_left
 · exact cY
 try simp only [Act.put,PZ]
 refine tC 9 40 (v:=?_) ?_ ?_
 rotate_left
 · exact cY
 try simp only [Act.put,PZ]
 refine tC 10 41 (v:=?_) ?_ ?_
 rotate_left
 · exact cY
 try simp only [Act.put,PZ]
 refine tC 11 42 (v:=?_) ?_ ?_
 rotate_left
 · exact cY
 try simp only [Act.put,PZ]
 refine rq1 12 (fun K hK=>?_)
 go_simp
 replace hR:=hR.Co
 replace hJ:=hJ.Co
 have kC:W9.drew.heap[w4.heap.size]?=_:=kC
 refine (jb g cv 9 _ hR (by omega) (by omega)).mono ?_
 rintro e w10 ⟨x7,hx7,rfl,hR1,hJ1⟩
 replace hJ:=hJ.trans hJ1
 replace kC:=rp hJ1 kC HgC.2
 clear hR
 have hR:=hR1
 clear hR1 hJ1
 have s:w10.cell? ⟨w4.heap.size,0,none⟩=some (.int .i64 P)∧w10.cell? ⟨w4.heap.size,2,none⟩=some (.int .i64 Y)∧w10.cell? ⟨w4.heap.size,4,none⟩=some (.int .i64 Hd)∧w10.cell? ⟨w4.heap.size,5,none⟩=some (.int .i64 Z):=⟨ie kC 0,ie kC 2,ie kC 4,ie kC 5⟩
 have e8:IntKind.i64.wrap (P*(Y+Hd)+Z+x7)=P*(Y+Hd)+Z+x7:=by
  rcases HP3.out with h | h | h <;> rw [h] <;> exact lI _ (by omega) (by omega)
 have cC:=ie kC
 have fC:=ix kC
 have s2:(w10.setCell ⟨w4.heap.size,1,none⟩ (.int .i64 (P*(Y+Hd)+Z+x7))).cell? ⟨w4.heap.size,0,none⟩=some (.int .i64 P)∧(w10.setCell ⟨w4.heap.size,1,none⟩ (.int .i64 (P*(Y+Hd)+Z+x7))).cell? ⟨w4.heap.size,2,none⟩=some (.int .i64 Y)∧(w10.setCell ⟨w4.heap.size,1,none⟩ (.int .i64 (P*(Y+Hd)+Z+x7))).cell? ⟨w4.heap.size,4,none⟩=some (.int .i64 Hd)∧(w10.setCell ⟨w4.heap.size,1,none⟩ (.int .i64 (P*(Y+Hd)+Z+x7))).cell? ⟨w4.heap.size,5,none⟩=some (.int .i64 Z):=⟨ie (iL (i:=1) kC _) 0,ie (iL (i:=1) kC _) 2,ie (iL (i:=1) kC _) 4,ie (iL (i:=1) kC _) 5⟩
 go_wp2_with fail
 refine ah (hK _ _ s) ?_
 intro hHeld
 clear hK K
 refine tC 13 44 (v:=?_) ?_ ?_
 rotate_left
 · exact cY
 try simp only [Act.put,PZ]
 refine tC 14 45 (v:=?_) ?_ ?_
 rotate_left
 · exact cY
 try simp only [Act.put,PZ]
 refine rq1 15 (fun K hK=>?_)
 go_simp
 refine ah (hK _ _ s2) ?_
 intro hHeld
 clear hK K
 refine dnq ?_
 clear hHeld s s2 cC fC
 replace hJ:=hJ.iC HgC.1 1 (.int .i64 (P*(Y+Hd)+Z+x7))
 replace hR:=hR.iC (k:=w4.heap.size) (by have:=HgC.out;have:=Hg.out;simp at *;omega) 1 (.int .i64 (P*(Y+Hd)+Z+x7))
 replace kC:=iL (i:=1) kC (.int .i64 (P*(Y+Hd)+Z+x7))
 clear e5 e6 e7 e8
 go_wp2_with fail
 generalize w10.setCell ⟨w4.heap.size,1,none⟩ (.int .i64 (P*(Y+Hd)+Z+x7))=W11 at *
 generalize P*(Y+Hd)+Z+(x7:Int)=Ce at *
 refine (jb g cv 30 _ hR (by omega) (by omega)).mono ?_
 rintro e w12 ⟨x8,hx8,rfl,hR1,hJ1⟩
 replace hJ:=hJ.trans hJ1
 replace kC:=rp hJ1 kC HgC.2
 clear hR
 have hR:=hR1
 clear hR1 hJ1
 by_cases h28:x8=28
 ·
  subst h28
  have cC:=ie kC
  have fC:=ix kC
  have e9:IntKind.i64.wrap (Hd-5)=Hd-5:=lI _ (by omega) (by omega)
  replace hJ:=hJ.iC HgC.1 4 (.int .i64 (Hd-5))
  replace hR:=hR.iC (k:=w4.heap.size) (by have:=HgC.out;have:=Hg.out;simp at *;omega) 4 (.int .i64 (Hd-5))
  replace kC:=iL (i:=4) kC (.int .i64 (Hd-5))
  have kR:=(HK0 _ hJ).1
  have cC2:=ie kC
  have cR:=ie kR
  have fR:=ix kR
  have cB:=ie (uN kR (⟨P,Ce,Y,X,Hd-5,Z,V⟩:Cfg))
  have HRf:Hid (Rd g cv (AJ (w12.setCell ⟨w4.heap.size,4,none⟩ (.int .i64 (Hd-5))) w.heap.size (⟨P,Ce,Y,X,Hd-5,Z,V⟩:Cfg))):=xV hR Hg _
  have HKf:Hid (Kept g w (AJ (w12.setCell ⟨w4.heap.size,4,none⟩ (.int .i64 (Hd-5))) w.heap.size (⟨P,Ce,Y,X,Hd-5,Z,V⟩:Cfg))):=sf (HK0 _ hJ).2 (Nat.le_refl _) _
  clear hR hJ kC kR
  unfold AJ Cfg.cells at cB
  dsimp only at cB
  go_wp2_with fail
  exact bodyPost_ret (v:=.agg (⟨P,Ce,Y,X,Hd-5,Z,V⟩:Cfg).cells) (by simp [results,Tryz.results39,go_sem,cB,Cfg.cells]) rfl ⟨⟨P,Ce,Y,X,Hd-5,Z,V⟩,rfl,hP1,hP2,HRf,HKf⟩
 have h28':((x8:Int) == 28)=false:=by simp;omega
 by_cases h29:x8=29
 ·
  subst h29
  go_wp2_with fail
  refine (qG g cv 1 1000 _ hR (by omega) (by omega) (by omega)).mono ?_
  rintro e w13 ⟨x9,rfl,hR1,hJ1⟩
  replace hJ:=hJ.trans hJ1
  replace kC:=rp hJ1 kC HgC.2
  clear hR
  have hR:=hR1
  clear hR1 hJ1
  have cC:=ie kC
  have fC:=ix kC
  replace hJ:=hJ.iC HgC.1 1 (.int .i64 x9)
  replace hR:=hR.iC (k:=w4.heap.size) (by have:=HgC.out;have:=Hg.out;simp at *;omega) 1 (.int .i64 x9)
  replace kC:=iL (i:=1) kC (.int .i64 x9)
  have kR:=(HK0 _ hJ).1
  have cC2:=ie kC
  have cR:=ie kR
  have fR:=ix kR
  have cB:=ie (uN kR (⟨P,x9,Y,X,Hd,Z,V⟩:Cfg))
  have HRf:Hid (Rd g cv (AJ (w13.setCell ⟨w4.heap.size,1,none⟩ (.int .i64 x9)) w.heap.size (⟨P,x9,Y,X,Hd,Z,V⟩:Cfg))):=xV hR Hg _
  have HKf:Hid (Kept g w (AJ (w13.setCell ⟨w4.heap.size,1,none⟩ (.int .i64 x9)) w.heap.size (⟨P,x9,Y,X,Hd,Z,V⟩:Cfg))):=sf (HK0 _ hJ).2 (Nat.le_refl _) _
  clear hR hJ kC kR
  unfold AJ Cfg.cells at cB
  dsimp only at cB
  go_wp2_with fail
  exact bodyPost_ret (v:=.agg (⟨P,x9,Y,X,Hd,Z,V⟩:Cfg).cells) (by simp [results,Tryz.results39,go_sem,cB,Cfg.cells]) rfl ⟨⟨P,x9,Y,X,Hd,Z,V⟩,rfl,hP1,hP2,HRf,HKf⟩
 have h29':((x8:Int) == 29)=false:=by simp;omega
 have kR:=(HK0 _ hJ).1
 have cC:=ie kC
 have cR:=ie kR
 have fR:=ix kR
 have cB:=ie (uN kR (⟨P,Ce,Y,X,Hd,Z,V⟩:Cfg))
 have HRf:Hid (Rd g cv (AJ w12 w.heap.size (⟨P,Ce,Y,X,Hd,Z,V⟩:Cfg))):=xV hR Hg _
 have HKf:Hid (Kept g w (AJ w12 w.heap.size (⟨P,Ce,Y,X,Hd,Z,V⟩:Cfg))):=sf (HK0 _ hJ).2 (Nat.le_refl _) _
 clear hR hJ kC kR
 unfold AJ Cfg.cells at cB
 dsimp only at cB
 go_wp2_with fail
 exact bodyPost_ret (v:=.agg (⟨P,Ce,Y,X,Hd,Z,V⟩:Cfg).cells) (by simp [results,Tryz.results39,go_sem,cB,Cfg.cells]) rfl ⟨⟨P,Ce,Y,X,Hd,Z,V⟩,rfl,hP1,hP2,HRf,HKf⟩
theorem sQ (g:Nat) (cv:Value) (w:World) (h:Rd g cv w) :
  Calls Tryz.prog 16 #[.pointer (some ⟨g,0,none⟩)] w fun e w'=>∃ (k d s p:Int) (b:ByteArray),b.size≤40∧e=.returned (.agg #[.int .i64 k,.int .i64 d,.int .i64 s,.int .i64 p,.string b])∧Rd g cv w'∧Kept g w w':=by
 have hg:=h.lt
 go_enter Tryz.func16,Tryz.ntmps16
 go_wp2_with fail
 refine (jb _ _ _ _ (h.alloc _) (by omega) (by omega)).mono ?_
 rintro e w1 ⟨x1,hx1,rfl,hR1,hK1⟩
 have r1:=rp hK1 (im w _) (by omega)
 have K1:=mj hK1
 clear hK1
 go_wp2_with fail
 refine (jb _ _ _ _ hR1 (by omega) (by omega)).mono ?_
 rintro e w2 ⟨x2,hx2,rfl,hR2,hK2⟩
 have r2:=rp hK2 r1 (by omega)
 have K2:=K1.trans hK2
 clear hK2 r1 K1 hR1
 go_wp2_with fail
 refine (DL _ _ _ hR2).mono ?_
 rintro e w3 ⟨b,hb,rfl,hR3,hK3⟩
 have r3:=rp hK3 r2 (by omega)
 have K3:=K2.trans hK3
 have z3:=K3.size
 clear hK3 r2 K2 hR2
 go_wp2_with fail
 refine (jb _ _ _ _ ((hR3.alloc _).alloc _) (by omega) (by omega)).mono ?_
 rintro e w4 ⟨x4,hx4,rfl,hR4,hK4⟩
 obtain ⟨f4,a4,K4'⟩:=CK hR3.lt hK4
 have r4:=rp K4' r3 (by omega)
 have K4:=K3.trans K4'
 have z4:=K4'.size
 have ca:=ie a4 x4
 have cf:=ie f4
 have ff:=ix f4
 obtain ⟨d,hd⟩:∃ d,w4.cell? ⟨w3.heap.size+1,x4,none⟩=some (.int .i64 d):=by
  rw [ca]
  rcases (by omega:x4=0∨x4=1∨x4=2∨x4=3∨x4=4∨x4=5) with rfl | rfl | rfl | rfl | rfl | rfl <;> exact ⟨_,rfl⟩
 have hgF:=hR3.lt
 have hlR:=ig r3
 clear hK4 K4' a4 ca r3 K3
 go_wp2_with fail
 refine (jb _ _ _ _ (hR4.iC hgF _ _) (by omega) (by omega)).mono ?_
 rintro e w5 ⟨x5,hx5,rfl,hR5,hK5⟩
 have f5:=rp hK5 (iL f4 (.int .i64 d)) (by omega)
 have r5:=rp hK5 ((iE (by omega) _).trans r4) (by omega)
 have K5:Kept g w w5:=(K4.iC z3 1 _).trans hK5
 clear hK5 cf ff f4 r4 K4 hd
 by_cases h12:x5=12
 ·
  have q12:((x5:Int) == 12)=true:=by simp;omega
  have cr:=ie r5
  have fr:=ix r5
  go_wp2_with fail
  exact bodyPost_ret (v:=.agg #[.int .i64 2,.int .i64 0,.int .i64 0,.int .i64 2,.string ⟨#[]⟩]) (by simp [results,Tryz.results16,go_sem,cr]) rfl ⟨_,_,_,_,_,by decide,rfl,((((hR5.iC hg 0 _).iC hg 1 _).iC hg 2 _).iC hg 3 _).iC hg 4 _,((((K5.iC (Nat.le_refl _) 0 _).iC (Nat.le_refl _) 1 _).iC (Nat.le_refl _) 2 _).iC (Nat.le_refl _) 3 _).iC (Nat.le_refl _) 4 _⟩
 have q12:((x5:Int) == 12)=false:=by simp;omega
 by_cases h13:x5=13
 ·
  have q13:((x5:Int) == 13)=true:=by simp;omega
  have cr:=ie r5
  have fr:=ix r5
  go_wp2_with fail
  exact bodyPost_ret (v:=.agg #[.int .i64 3,.int .i64 0,.int .i64 0,.int .i64 2,.string ⟨#[]⟩]) (by simp [results,Tryz.results16,go_sem,cr]) rfl ⟨_,_,_,_,_,by decide,rfl,((((hR5.iC hg 0 _).iC hg 1 _).iC hg 2 _).iC hg 3 _).iC hg 4 _,((((K5.iC (Nat.le_refl _) 0 _).iC (Nat.le_refl _) 1 _).iC (Nat.le_refl _) 2 _).iC (Nat.le_refl _) 3 _).iC (Nat.le_refl _) 4 _⟩
 have q13:((x5:Int) == 13)=false:=by simp;omega
 by_cases h14:x5=14
 ·
  have q14:((x5:Int) == 14)=true:=by simp;omega
  go_wp2_with fail
  refine (qG _ _ _ _ _ hR5 (by omega) (by omega) (by omega)).mono ?_
  rintro e w6 ⟨y,rfl,hR6,hK6⟩
  have f6:=rp hK6 f5 (by omega)
  have r6:=rp hK6 r5 (by omega)
  have K6:=K5.trans hK6
  have cf:=ie f6
  have ff:=ix f6
  have hne:w3.heap.size≠w.heap.size:=by omega
  clear hK6 f5 r5 K5 hR5
  have cr:=ie r6
  have fr:=ix r6
  go_wp2_with fail
  exact bodyPost_ret (v:=.agg #[.int .i64 1,.int .i64 y,.int .i64 (1+x1),.int .i64 x2,.string b]) (by simp [results,Tryz.results16,go_sem,cr]) rfl ⟨_,_,_,_,_,hb,rfl,(((((hR6.iC hgF _ _).iC hg 0 _).iC hg 1 _).iC hg 2 _).iC hg 3 _).iC hg 4 _,(((((K6.iC z3 1 _).iC (Nat.le_refl _) 0 _).iC (Nat.le_refl _) 1 _).iC (Nat.le_refl _) 2 _).iC (Nat.le_refl _) 3 _).iC (Nat.le_refl _) 4 _⟩
 have q14:((x5:Int) == 14)=false:=by simp;omega
 by_cases h15:x5=15
 ·
  have q15:((x5:Int) == 15)=true:=by simp;omega
  go_wp2_with fail
  refine (qG _ _ _ _ _ hR5 (by omega) (by omega) (by omega)).mono ?_
  rintro e w6 ⟨y,rfl,hR6,hK6⟩
  have f6:=rp hK6 f5 (by omega)
  have r6:=rp hK6 r5 (by omega)
  have K6:=K5.trans hK6
  have cf:=ie f6
  have ff:=ix f6
  have hne:w3.heap.size≠w.heap.size:=by omega
  clear hK6 f5 r5 K5 hR5
  have cr:=ie r6
  have fr:=ix r6
  go_wp2_with fail
  exact bodyPost_ret (v:=.agg #[.int .i64 1,.int .i64 d,.int .i64 (1+x1),.int .i64 y,.string b]) (by simp [results,Tryz.results16,go_sem,cr]) rfl ⟨_,_,_,_,_,hb,rfl,(((((hR6.iC hgF _ _).iC hg 0 _).iC hg 1 _).iC hg 2 _).iC hg 3 _).iC hg 4 _,(((((K6.iC z3 3 _).iC (Nat.le_refl _) 0 _).iC (Nat.le_refl _) 1 _).iC (Nat.le_refl _) 2 _).iC (Nat.le_refl _) 3 _).iC (Nat.le_refl _) 4 _⟩
 have q15:((x5:Int) == 15)=false:=by simp;omega
 have cf:=ie f5
 have cr:=ie r5
 have fr:=ix r5
 go_wp2_with fail
 exact bodyPost_ret (v:=.agg #[.int .i64 1,.int .i64 d,.int .i64 (1+x1),.int .i64 x2,.string b]) (by simp [results,Tryz.results16,go_sem,cr]) rfl ⟨_,_,_,_,_,hb,rfl,((((hR5.iC hg 0 _).iC hg 1 _).iC hg 2 _).iC hg 3 _).iC hg 4 _,((((K5.iC (Nat.le_refl _) 0 _).iC (Nat.le_refl _) 1 _).iC (Nat.le_refl _) 2 _).iC (Nat.le_refl _) 3 _).iC (Nat.le_refl _) 4 _⟩
