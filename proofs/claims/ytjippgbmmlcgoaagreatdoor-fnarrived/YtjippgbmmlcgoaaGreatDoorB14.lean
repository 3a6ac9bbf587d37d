import Derived.Test.YtjippgbmmlcgoaaGreatDoorB13
namespace Go.Proofs.YtjippgbmmlcgoaaGreatDoor
set_option maxRecDepth 100000
open Go.RowKit
set_option linter.unusedVariables false
set_option linter.unusedSimpArgs false
variable {c i:Nat} {a:Option Addr} {S:Swg} {w wr:World}
theorem bE {p:Prop} (h:p:=by
 go_wp2_with (first | refine lx rfl (.tmp 52) rfl g (o+k*8) rfl (S.K k) hc ?_ | refine jo 51 8 rq rfl (.tmp 11) (.tmp 53) rfl (S.K k).cells _ rfl rfl rfl rfl rfl (Pkt.one _) (eV▸?_))
 go_ret
 exact ⟨iv HF.symm,B9⟩):p:=h
theorem RfB.start (h:RfA S w i wr) {W:World} (hb:Below wr.heap.size wr W) (hr:iP W a ((S.L i).nU+1) fun c=>.slice (Bn (S.L i) c) (lV (S.L i) c) (EV (S.L i) c)) (hn:∀ ad,a=some ad→wr.heap.size≤ad.block):RfB S w i a 0 W :=
 ⟨((h.m.up hb).mono (by omega)).ext (fun x=>by show (lS S.L x i:Int)=(lS S.L x i:Int)+((0:Nat):Int);omega),next h.b hb,hr,fun ad e=>by have:=hn ad e;have:=h.m.lt;omega⟩
theorem RfB.toC (h:RfB S w i a c wr):RfC S w i a c 0 wr :=
 ⟨h.m.ext (fun x=>by show _=_+_+((0:Nat):Int);omega),h.b,h.r,h.n⟩
theorem RfC.toB (h:RfC S w i a c (lV (S.L i) c) wr) (hn:lV (S.L i) c≤1000):RfB S w i a (c+1) wr :=
 ⟨(h.m.mono (by omega)).ext (fun x=>by show _=(lS S.L x i:Int)+((AK (S.L i) x c+occ (mX (S.L i) c) x (lV (S.L i) c):Nat):Int);omega),h.b,h.r,h.n⟩
theorem RfB.toA (h:RfB S w i a ((S.L i).nU+1) wr) (hn:(S.L i).nU=2):RfA S w (i+1) wr :=
 ⟨(h.m.mono (by omega)).ext (fun x=>by
  show (lS S.L x i:Int)+(AK (S.L i) x ((S.L i).nU+1):Int)=((lS S.L x i+(occ (S.L i).t x (S.L i).nT+rC (S.L i) x (S.L i).nU):Nat):Int)
  rw [Bg]
  omega),h.b⟩
set_option maxHeartbeats 9000000 in
theorem BW (S:Swg) (w:World) (hs:S.Small) (hr:lr w S) (hP:lQ S.nx S.C.p S.nK S.K) (hL:∀ i,i<S.nL→nN S.nK S.K (S.L i)) (h4:S.nL≤4) (hx:S.nx≤1000000000) (ok:Bool) (hok:ok=true↔S.C9) :
  Calls Tryz.prog 30 #[.agg S.cells] w fun e w'=>e=.returned (.bool ok)∧Below w.heap.size w w':=by
 have HO:=aa hok
 have HR:=aa hr
 have HP:=aa hP
 have HL:=aa hL
 have hnK:S.nK≤1000:=hP.le
 have hB:Below (w.heap.size+1) (w.alloc (.cells S.cells 34)) (w.alloc (.cells S.cells 34)):=Below.refl _ _
 have c13:(w.alloc (.cells S.cells 34)).cell? ⟨w.heap.size,13,none⟩=some (.slice S.aK S.nK S.cK):=boxed hB 13
 obtain ⟨W0,eW0⟩:∃ W0,(w.alloc (.cells S.cells 34)).alloc (.map #[] 0)=W0:=⟨_,rfl⟩
 have mk:(Instr.makeMap 116 (some (.int .i64 (S.nK:Int)))).run Tryz.prog (w.alloc (.cells S.cells 34))=.ok (.map (some (w.heap.size+1))) W0:=by
  rw [Bl,eW0]
  simp
 have HA0:Hid (RfA S w 0 W0):=by
  subst eW0
  refine ⟨?_,hB.alloc (by simp) _⟩
  have:=CM.made (w.alloc (.cells S.cells 34))
  rw [show (w.alloc (.cells S.cells 34)).heap.size=w.heap.size+1 by simp] at this
  exact this.ext (fun x=>rfl)
 have c14:W0.cell? ⟨w.heap.size,14,none⟩=some (.slice S.aL S.nL S.cL):=boxed HA0.b 14
 clear hok hr hP hs hL eW0 hB
 go_enter Tryz.func30,Tryz.ntmps30
 go_wp2_with fail
 clear mk c13 c14
 go_loopw [19] (fun i wr=>∃ k:Nat,k≤S.nL∧i=.int .i64 k∧RfA S w k wr) (fun i _=>S.nL-(intOf i).toNat)
 case atStart=>exact ⟨0,Nat.zero_le _,rfl,HA0.out⟩
 clear HA0
 obtain ⟨i,hk,rfl,hA⟩:=hrel
 have HA:=aa hA
 clear hA
 by_cases hlt:i<S.nL
 ·
  have hlt':(i:Int)<S.nL:=by omega
  have hB:=HA.b
  obtain ⟨g,o,ea,hc⟩:=(HR.up (under hB)).l i hlt
  have hU:(S.L i).nU=2:=(HL i hlt).u
  obtain ⟨V,eV⟩:∃ V,wr.alloc (.cells (S.L i).cells 47)=V:=⟨_,rfl⟩
  have hbV:Below wr.heap.size wr V:=by rw [←eV];exact (Below.refl _ _).alloc (Nat.le_refl _) _
  have kV:V.heap[wr.heap.size]?=some (.cells (S.L i).cells 47 (0,0)):=by rw [←eV];exact im _ _
  have v1:V.cell? ⟨wr.heap.size,1,none⟩=some (.slice (S.L i).aT (S.L i).nT (S.L i).cT):=ie kV 1
  have v2:V.cell? ⟨wr.heap.size,2,none⟩=some (.slice (S.L i).aU (S.L i).nU (S.L i).cU):=ie kV 2
  have hLg:=(HR.ls i hlt).up (under (next hB hbV))
  obtain ⟨gu,ou,eu,_⟩:=hLg.u 0 (by omega)
  have hu:=hLg.u
  rw [eu] at hu v2
  obtain ⟨a',c',W2,hrun,hrow,hnew,hB2⟩:=appS (base:=V.heap.size) (c:=(S.L i).cU) (a0:=(S.L i).aT) (n0:=(S.L i).nT) (c0:=(S.L i).cT) hu (by omega) (by omega) (Nat.le_refl _)
  have HB1:Hid (RfB S w i a' 0 W2):=RfB.start HA (hbV.trans (hB2.mono hbV.size)) hrow (fun ad e=>by have:=hnew ad e;have:=hbV.size;omega)
  have v2':(V.alloc (.cells #[.slice (S.L i).aT (S.L i).nT (S.L i).cT] 27)).cell? ⟨wr.heap.size,2,none⟩=some (.slice (some ⟨gu,ou,none⟩) (S.L i).nU (S.L i).cU):=ie ((((Below.refl V.heap.size V).alloc (Nat.le_refl _) (.cells #[.slice (S.L i).aT (S.L i).nT (S.L i).cT] 27)).block _ (ig kV)).trans kV) 2 |>.trans (by rw [←eu];rfl)
  have HU:=aa hU
  have hU3:(S.L i).nU≤2:=by omega
  rw [ea]
  clear hbV kV hLg eu hu hrow hnew hB2 hU ea hB
  go_wp2_with (first | refine rV rfl (.tmp 21) rfl g (o+i*8) rfl (S.L i) hc ?_ | refine jo 47 8 wV rfl (.tmp 5) (.tmp 22) rfl (S.L i).cells _ rfl rfl rfl rfl rfl (Lng.one _) (eV▸?_) | (at_builtin;refine Lib.wpList_append_run _ rfl _ _ _ _ rfl _ _ rfl rfl _ _ hrun ?_))
  clear hc v1 v2 v2' hrun
  go_loopw [30] (fun x wr2=>∃ c:Nat,c≤(S.L i).nU+1∧x=.int .i64 c∧RfB S w i a' c wr2) (fun x _=>(S.L i).nU+1-(intOf x).toNat)
  case atStart=>exact ⟨0,Nat.zero_le _,rfl,HB1.out⟩
  clear HB1
  obtain ⟨c,hc,rfl,hRB⟩:=hrel
  have HRB:=aa hRB
  clear hRB
  by_cases hct:c<(S.L i).nU+1
  ·
   have hct':(c:Int)<((S.L i).nU:Int)+1:=by omega
   obtain ⟨gh,oh,rfl,ch⟩:=HRB.r c hct
   dsimp only at ch
   obtain ⟨pp,hids⟩:=Bm (HL i hlt) hct
   have hle:lV (S.L i) c≤1000:=Nat.le_trans (hids.le HP.out) hnK
   have HI:=aa hids
   clear hids
   go_wp2_with fail
   clear ch
   go_loopw [36] (fun x wr3=>∃ j:Nat,j≤lV (S.L i) c∧x=.int .i64 j∧RfC S w i (some ⟨gh,oh,none⟩) c j wr3) (fun x _=>lV (S.L i) c-(intOf x).toNat)
   case atStart=>exact ⟨0,Nat.zero_le _,rfl,HRB.toC⟩
   clear HRB
   obtain ⟨j,hj,rfl,hRC⟩:=hrel
   have HRC:=aa hRC
   clear hRC
   by_cases hjt:j<lV (S.L i) c
   ·
    have hjt':(j:Int)<(lV (S.L i) c:Int):=by omega
    obtain ⟨gz,oz,ez,cz⟩:=(FL ((HR.ls i hlt).up (under HRC.b)) hct) j hjt
    dsimp only at cz
    obtain ⟨⟨jk,hjk,ejk,_⟩,_⟩:=HI j hjt
    have hrg:=(HP.one jk hjk).1
    rw [ejk] at hrg
    obtain ⟨q,hq⟩:∃ q,mX (S.L i) c j=q:=⟨_,rfl⟩
    obtain ⟨v,hv⟩:∃ v,v=(lS S.L q i:Int)+(AK (S.L i) q c:Int)+(occ (mX (S.L i) c) q j:Int):=⟨_,rfl⟩
    have b1:=ES HP HL q i (by omega)
    have b2:=ER HP (HL i hlt) q c hc
    have b3:=rh (mX (S.L i) c) q j
    rw [hq] at hrg cz
    obtain ⟨hlk,W3,hup,hN⟩:=HRC.next (by omega) hq (by omega) (by omega) hv (by omega)
    have HN:=aa hN
    have hv1:0≤v:=by omega
    have hv2:v≤100000:=by omega
    rw [ez]
    clear hN hv hq b1 b2 b3 ejk hrg ez HRC
    go_wp2_with fail
    clear cz hlk hup
    go_roundw
    case rel=>exact ⟨j+1,by omega,by go_num,HN.out⟩
    case measure=>simp [intOf];omega
   obtain rfl:j=lV (S.L i) c:=by omega
   have hge:¬ ((lV (S.L i) c:Nat):Int)<((lV (S.L i) c:Nat):Int):=by omega
   have HN:=aa (HRC.toB hle)
   clear HRC
   go_wp2_with fail
   go_roundw
   case rel=>exact ⟨c+1,by omega,by go_num,HN.out⟩
   case measure=>simp [intOf];omega
  obtain rfl:c=(S.L i).nU+1:=by omega
  have hge:¬ (((S.L i).nU+1:Nat):Int)<((S.L i).nU:Int)+1:=by omega
  have HN:=aa (HRB.toA HU.out)
  clear HRB
  go_wp2_with fail
  go_roundw
  case rel=>exact ⟨i+1,by omega,by go_num,HN.out⟩
  case measure=>simp [intOf];omega
 obtain rfl:i=S.nL:=by omega
 have hge:¬ ((S.nL:Nat):Int)<((S.nL:Nat):Int):=by omega
 have c13:wr.cell? ⟨w.heap.size,13,none⟩=some (.slice S.aK S.nK S.cK):=boxed HA.b 13
 go_wp2_with fail
 clear c13
 go_loopw [50] (fun x wr2=>∃ k:Nat,k≤S.nK∧x=.int .i64 k∧(∀ j,j<k→1≤(S.K j).refs∧(S.K j).refs=lS S.L (S.K j).id S.nL)∧RfA S w S.nL wr2) (fun x _=>S.nK-(intOf x).toNat)
 case atStart=>exact ⟨0,Nat.zero_le _,rfl,fun j hj=>by omega,HA.out⟩
 clear HA
 obtain ⟨k,hk2,rfl,hall,hA⟩:=hrel
 have HA:=aa hA
 have HAll:=aa hall
 clear hA hall
 by_cases hlt2:k<S.nK
 ·
  have hlt2':(k:Int)<S.nK:=by omega
  have hB:=HA.b
  obtain ⟨g,o,ea,hc⟩:=(HR.up (under hB)).k k hlt2
  obtain ⟨V,eV⟩:∃ V,wr.alloc (.cells (S.K k).cells 51)=V:=⟨_,rfl⟩
  have hbV:Below wr.heap.size wr V:=by rw [←eV];exact (Below.refl _ _).alloc (Nat.le_refl _) _
  have kV:V.heap[wr.heap.size]?=some (.cells (S.K k).cells 51 (0,0)):=by rw [←eV];exact im _ _
  have v0:V.cell? ⟨wr.heap.size,0,none⟩=some (.int .i64 (S.K k).id):=ie kV 0
  have v2:V.cell? ⟨wr.heap.size,2,none⟩=some (.int .i64 (S.K k).refs):=ie kV 2
  have hrg:=(HP.one k hlt2).1
  have HAV:Hid (RfA S w S.nL V):=⟨HA.m.up hbV,next hB hbV⟩
  obtain ⟨v,hv⟩:∃ v:Int,v=(lS S.L (S.K k).id S.nL:Int):=⟨_,rfl⟩
  have HV:=aa hv
  have hlk:(Instr.lookup 116 (.map (some (w.heap.size+1))) (.int .i64 (S.K k).id) false).run Tryz.prog V=.ok (.int .i64 v) V:=by rw [hv];exact HAV.m.look (by omega) (by omega)
  rw [ea]
  clear hbV kV hB hv ea HA
  by_cases h1:1≤(S.K k).refs
  ·
   have h1':¬ (S.K k).refs<1:=by omega
   have H1:=aa h1
   clear h1
   by_cases h2:(S.K k).refs=v
   ·
    have h2':((S.K k).refs != v)=false:=by simp [h2]
    have H2:=aa h2
    clear h2
    go_wp2_with (first | refine lx rfl (.tmp 52) rfl g (o+k*8) rfl (S.K k) hc ?_ | refine jo 51 8 rq rfl (.tmp 11) (.tmp 53) rfl (S.K k).cells _ rfl rfl rfl rfl rfl (Pkt.one _) (eV▸?_))
    refine ⟨⟨k+1,by omega,by go_num,fun j hj=>?_,HAV⟩,by simp [intOf];omega⟩
    by_cases e:j=k
    ·
     subst e;exact ⟨H1.out,H2.trans HV.out⟩
    exact HAll j (by omega)
   have h2':((S.K k).refs != v)=true:=by simp [h2]
   have HF:Hid (ok=false):=by
    rw [Hid,Bool.eq_false_iff]
    intro e
    exact h2 (((HO.1 e) k hlt2).2.trans HV.symm)
   have B9:=under HAV.b
   clear h2
   exact bE
  have h1':(S.K k).refs≤0:=by omega
  have h1d:decide ((S.K k).refs<1)=true:=by simp;omega
  have HF:Hid (ok=false):=by
   rw [Hid,Bool.eq_false_iff]
   intro e
   exact h1 ((HO.1 e) k hlt2).1
  have B9:=under HAV.b
  clear h1
  exact bE
 obtain rfl:k=S.nK:=by omega
 have hge2:¬ ((S.nK:Nat):Int)<((S.nK:Nat):Int):=by omega
 have HT:=aa (HO.2 HAll.out)
 have B9:=under HA.b
 go_wp2_with fail
 go_ret
 exact ⟨iv HT.symm,B9⟩
