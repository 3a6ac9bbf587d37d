import Derived.Test.YtjippgbmmlcgoaaGreatDoorB05
import Derived.Test.YtjippgbmmlcgoaaGreatDoorB15
namespace Go.Proofs.YtjippgbmmlcgoaaGreatDoor
set_option maxRecDepth 100000
open Go.RowKit
set_option linter.unusedVariables false
set_option linter.unusedSimpArgs false
variable {g j n o:Nat} {K:Nat→Pkt} {a:Option Addr} {p:Prop} {w:World}
theorem Hi (h:p:=by
 have c7:wx.cell? ⟨w.heap.size+1,7,none⟩=some (.slice l.R.aS l.R.nS l.R.cS):=ie hS2 7
 rw [HaS.out] at c7
 have s13:wx.cell? ⟨w.heap.size,13,none⟩=some (.slice (some ⟨gp,op,none⟩) S.nK S.cK):=HaK.out▸ie hS1 13
 have p3:wx.cell? ⟨gp,op+j*8+3,none⟩=some (.int .i64 (S.K j).k):=hS4 3 (by omega)
 have p4:wx.cell? ⟨gp,op+j*8+3+1,none⟩=some (.int .i64 (S.K j).d):=hS4 4 (by omega)
 have p5:wx.cell? ⟨gp,op+j*8+3+2,none⟩=some (.int .i64 (S.K j).s):=hS4 5 (by omega)
 have p6:wx.cell? ⟨gp,op+j*8+3+3,none⟩=some (.int .i64 (S.K j).p):=hS4 6 (by omega)
 have p7:wx.cell? ⟨gp,op+j*8+3+4,none⟩=some (.string (S.K j).b):=hS4 7 (by omega)
 clear hS4
 go_simp
 try with_reducible rfl):p:=h
theorem bJ (h:p:=by
 intro wx hSw
 obtain ⟨hS1,hS2,hS3,hS4,hS5,hS6,hS7,hS8⟩:=hSw
 go_simp
 try (first | (with_reducible rfl) | omega | (simp;omega))):p:=h
theorem Hk (h:p:=by
 intro wx hSw
 obtain ⟨hS1,hS2,hS3,hS4,hS5,hS6,hS7,hS8⟩:=hSw
 exact Hi):p:=h
theorem Hl (h:p:=by
 intro wx hSw
 obtain ⟨hS1,hS2,hS3,hS4,hS5,hS6⟩:=hSw
 exact Hi):p:=h
theorem bN (h:p:=by
 intro wx hSw
 obtain ⟨hS1,hS2,hS3⟩:=hSw
 exact se 34 (.tmp 2) rfl w.heap.size rfl _ (yM hS1)):p:=h
theorem bO (h:p:=by
 intro wx hSw
 obtain ⟨hS1,hS2,hS3,hS4,hS5,hS6⟩:=hSw
 go_simp
 try (first | (with_reducible rfl) | omega | (simp;omega))):p:=h
theorem bR (h:p:=by
 have B9:=iy hB
 exact bx):p:=h
theorem bS (h:p:=by
 refine dnq ?_
 have B9:=iy hB.drew
 clear hHeld hB
 exact bx):p:=h
theorem bT (h:p:=by
 obtain rfl:=nr HP.up hj hj2 (Hj.trans e2.symm)
 exact hp e3):p:=h
theorem pk8 (h:pI w a n K) (ha:a=some ⟨g,o,none⟩) (hj:j<n):∀ i,i<8→w.cell? ⟨g,o+j*8+i,none⟩=(K j).cells[i]?:=by
 subst ha
 exact h.cell hj
theorem pk6 (h:pI w a n K) (ha:a=some ⟨g,o,none⟩) (hj:j<n):w.cell? ⟨g,o+j*8+6,none⟩=some (.int .i64 (K j).p):=pk8 h ha hj 6 (by omega)
def qpre (m:Nat) (K:Nat→Pkt) (l:Lng) (c n:Nat):Prop:=pD n (l.uz c) (c:Int) m K∧∀ i,i<n→∀ j,j<m→(K j).id=l.uz c i→l.R.z c i=(K j).cl
set_option maxHeartbeats 20000000 in
theorem ud (S:Swg) (l:Lng) (w:World) (hs:S.Small) (hr:lr w S) (hl:l.Small) (hrl:zo w l) (hP:lQ S.nx S.C.p S.nK S.K) (ok:Bool) (hok:ok=true↔nN S.nK S.K l) :
  Calls Tryz.prog 59 #[.agg S.cells,.agg l.cells] w fun e w'=>e=.returned (.bool ok)∧Below w.heap.size w w':=by
 have HO:=aa hok
 have HR:=aa hr
 have HL:=aa hrl
 have HP:=aa hP
 have HSm:=aa hl
 have hnK:S.nK≤1000:=hP.le
 have hnT:l.nT≤1048576:=hl.t
 have hnU:l.nU≤1048576:=hl.u
 have hnQ:l.R.nQ≤1048576:=hl.r.q
 have hB:Below (w.heap.size+2) ((w.alloc (.cells S.cells 34)).alloc (.cells l.cells 47)) ((w.alloc (.cells S.cells 34)).alloc (.cells l.cells 47)):=Below.refl _ _
 obtain ⟨rk,hrk⟩:=ju l.R.Ok
 have HRk:=aa hrk
 have HFit:=aa (tO hl.r)
 clear hok hr hrl hP hs hl hrk
 obtain ⟨W,eW⟩:∃ W,((w.alloc (.cells S.cells 34)).alloc (.cells l.cells 47))=W:=⟨_,rfl⟩
 rw [eW] at hB
 have hB0:Below (w.heap.size+2) ((w.alloc (.cells S.cells 34)).alloc (.cells l.cells 47)) W:=by rw [eW];exact hB
 clear hB
 have hB:=hB0
 clear hB0
 have c3:W.cell? ⟨w.heap.size+1,3,none⟩=some (.slice l.R.aQ l.R.nQ l.R.cQ):=ie (la hB).2 3
 have c4:W.cell? ⟨w.heap.size+1,4,none⟩=some (.slice l.R.aD l.R.nD l.R.cD):=ie (la hB).2 4
 have c5:W.cell? ⟨w.heap.size+1,5,none⟩=some (.int .i64 l.R.turn):=ie (la hB).2 5
 have c6:W.cell? ⟨w.heap.size+1,6,none⟩=some (.bool l.R.fresh):=ie (la hB).2 6
 have c7:W.cell? ⟨w.heap.size+1,7,none⟩=some (.slice l.R.aS l.R.nS l.R.cS):=ie (la hB).2 7
 go_enter Tryz.func59,Tryz.ntmps59
 go_wp2_with fail
 clear eW c3 c4 c5 c6 c7
 refine (qY l.R _ HFit (HL.r.up (iy hB)) rk HRk).mono ?_
 rintro e w0 ⟨rfl,hb⟩
 replace hB:=pj hB hb
 clear hb
 cases rk
 ·
  have HF:Hid (ok=false):=by
   rw [Hid,Bool.eq_false_iff]
   intro e
   exact absurd (HRk.2 (HO.1 e).r) (by simp)
  exact bR
 have HRo:Hid l.R.Ok:=HRk.1 rfl
 clear HRk
 have c1:w0.cell? ⟨w.heap.size+1,1,none⟩=some (.slice l.aT l.nT l.cT):=ie (la hB).2 1
 have c2:w0.cell? ⟨w.heap.size+1,2,none⟩=some (.slice l.aU l.nU l.cU):=ie (la hB).2 2
 have c3:w0.cell? ⟨w.heap.size+1,3,none⟩=some (.slice l.R.aQ l.R.nQ l.R.cQ):=ie (la hB).2 3
 by_cases hq:l.R.nQ=2
 rotate_left
 ·
  have hq':((l.R.nQ:Int) != 2)=true:=by simp;omega
  have hq2:¬ ((l.R.nQ:Int)=2):=by omega
  have HF:Hid (ok=false):=by
   rw [Hid,Bool.eq_false_iff]
   intro e
   exact hq (HO.1 e).n
  clear hq
  exact bR
 have hq':((l.R.nQ:Int) != 2)=false:=by simp;omega
 have hqa:(0:Int)<(l.R.nQ:Int):=by omega
 have hqb:(1:Int)<(l.R.nQ:Int):=by omega
 have hqc:0<l.R.nQ:=by omega
 have hqd:1<l.R.nQ:=by omega
 obtain ⟨gq,oq,eq,d0⟩:=(HL.r.q.up (iy hB)) 0 (by omega)
 have d1:=ly (HL.r.q.up (iy hB)) eq hqd
 rw [eq] at c3
 dsimp only at d0 d1
 rw [Nat.add_zero] at d0
 have HQ2:=aa hq
 clear hq eq
 by_cases h0:l.R.q 0=2
 rotate_left
 ·
  have h0':(l.R.q 0 != 2)=true:=by simp [h0]
  have HF:Hid (ok=false):=by
   rw [Hid,Bool.eq_false_iff]
   intro e
   exact h0 (HO.1 e).q0
  have H0:=aa h0
  clear h0
  exact bR
 have h0':(l.R.q 0 != 2)=false:=by simp [h0]
 have H0:=aa h0
 clear h0
 by_cases h1:l.R.q 1=4
 rotate_left
 ·
  have h1':(l.R.q 1 != 4)=true:=by simp [h1]
  have HF:Hid (ok=false):=by
   rw [Hid,Bool.eq_false_iff]
   intro e
   exact h1 (HO.1 e).q1
  have H1:=aa h1
  clear h1
  exact bR
 have h1':(l.R.q 1 != 4)=false:=by simp [h1]
 have H1:=aa h1
 clear h1
 by_cases hU:l.nU=2
 rotate_left
 ·
  have hU':((l.nU:Int) != 2)=true:=by simp;omega
  have hU2:¬ ((l.nU:Int)=2):=by omega
  have HF:Hid (ok=false):=by
   rw [Hid,Bool.eq_false_iff]
   intro e
   exact hU (HO.1 e).u
  clear hU
  exact bR
 have hU':((l.nU:Int) != 2)=false:=by simp;omega
 have HU:=aa hU
 clear hU
 by_cases hT:l.nT≤1000
 rotate_left
 ·
  have hT':(1000:Int)<(l.nT:Int):=by omega
  have HF:Hid (ok=false):=by
   rw [Hid,Bool.eq_false_iff]
   intro e
   have:=(HO.1 e).t.le HP.out
   omega
  clear hT
  exact bR
 have hT':¬ (1000:Int)<(l.nT:Int):=by omega
 have HnS:=aa (HRo.s.trans HQ2.out)
 go_wp2_with fail
 clear c1 c2 c3 d0 d1 hq' hqa hqb hqc hqd h0' h1' hU' hT'
 go_loopw [5] (fun x wr=>∃ k:Nat,k≤l.nT∧x=.int .i64 k∧pD k l.t 2 S.nK S.K∧Below (w.heap.size+2) ((w.alloc (.cells S.cells 34)).alloc (.cells l.cells 47)) wr) (fun x _=>l.nT-(intOf x).toNat)
 case atStart=>exact ⟨0,Nat.zero_le _,rfl,fun i hi=>by omega,hB⟩
 clear hB
 obtain ⟨k,hk,rfl,hall,hB⟩:=hrel
 have HA:=aa hall
 clear hall
 have c1:wr.cell? ⟨w.heap.size+1,1,none⟩=some (.slice l.aT l.nT l.cT):=ie (la hB).2 1
 by_cases hlt:k<l.nT
 ·
  as_aux_lemma =>
   have hlt':(k:Int)<l.nT:=by omega
   obtain ⟨gt,ot,et,_⟩:=HL.t k hlt
   have HaT:=aa et
   clear et
   go_wp2_with fail
   clear c1
   by_cases hex:∃ j,j<S.nK∧(S.K j).id=l.t k
   ·
    obtain ⟨j,hj,ej⟩:=hex
    have Hj:=aa ej
    obtain ⟨gp,op,ep,_⟩:=HR.k j hj
    have HaK:=aa ep
    have hj':(j:Int)<S.nK:=by omega
    have hj0:¬ (j:Int)<0:=by omega
    clear ej ep
    refine wp_region_held_drew (S:=fun w'=>w'.heap[w.heap.size]?=some (.cells S.cells 34 (0,0))∧w'.heap[w.heap.size+1]?=some (.cells l.cells 47 (0,0))∧w'.cell? ⟨gt,ot+k,none⟩=some (.int .i64 (l.t k))) (by kernel_rfl) ⟨(la hB.drew).1,(la hB.drew).2,ly (HL.t.up (iy hB.drew)) HaT hlt⟩ (fun hHeld=>?_)
    refine tC 0 57 (v:=.agg S.cells) ?_ ?_
    · exact bN
    try simp only [Act.put,PZ]
    refine tN ?_
    have Hcs:Hid (∀ wx:World,(fun w':World=>w'.heap[w.heap.size]?=some (.cells S.cells 34 (0,0))∧w'.heap[w.heap.size+1]?=some (.cells l.cells 47 (0,0))∧w'.cell? ⟨gt,ot+k,none⟩=some (.int .i64 (l.t k))) wx→wx.cell? ⟨w.heap.size+1,1,none⟩=some (.slice (some ⟨gt,ot,none⟩) l.nT l.cT)):=fun wx hSw=>by
     obtain ⟨hS1,hS2,hS3⟩:=hSw
     have c1:wx.cell? ⟨w.heap.size+1,1,none⟩=some (.slice l.aT l.nT l.cT):=ie hS2 1
     rw [HaT.out] at c1
     exact c1
    refine tX ?_
    iterate 2 refine tN ?_
    refine tX ?_
    refine rq1 6 (fun K hK=>?_)
    go_simp
    refine (oy S (l.t k) _ (by omega) (HR.k.up (iy hB.drew)) j hj Hj (fun i hi e=>by have:=nr HP.up (by omega) hj (e.trans Hj.symm);omega)).mono ?_
    rintro e w1 ⟨rfl,hb⟩
    have hB1:=pj hB.drew hb
    clear hb
    have q1:_∧_∧_:=⟨(la hB1).1,(la hB1).2,ly (HL.t.up (iy hB1)) HaT hlt⟩
    go_wp2_with fail
    refine ah (hK _ _ q1) ?_
    intro hHeld
    clear hK K
    refine tN ?_
    refine dnq ?_
    clear q1 hHeld hB
    have hB:=hB1
    clear hB1
    go_wp2_with fail
    by_cases hp:(S.K j).p=2
    ·
     have hp':((S.K j).p != 2)=false:=by simp [hp]
     have Hp:=aa hp
     clear hp
     by_cases h0:k=0
     ·
      subst h0
      refine wp_region_held_drew (S:=fun w'=>w'.heap[w.heap.size]?=some (.cells S.cells 34 (0,0))∧w'.heap[w.heap.size+1]?=some (.cells l.cells 47 (0,0))∧w'.cell? ⟨gp,op+j*8+6,none⟩=some (.int .i64 (S.K j).p)) (by kernel_rfl) ⟨(la hB.drew).1,(la hB.drew).2,pk6 (HR.k.up (iy hB.drew)) HaK hj⟩ (fun hHeld=>?_)
      refine t0 ?_
      refine tF ?_
      iterate 2 refine tN ?_
      have Hcs:Hid (∀ wx:World,(fun w':World=>w'.heap[w.heap.size]?=some (.cells S.cells 34 (0,0))∧w'.heap[w.heap.size+1]?=some (.cells l.cells 47 (0,0))∧w'.cell? ⟨gp,op+j*8+6,none⟩=some (.int .i64 (S.K j).p)) wx→wx.cell? ⟨w.heap.size+1,1,none⟩=some (.slice l.aT l.nT l.cT)∧wx.cell? ⟨w.heap.size,13,none⟩=some (.slice (some ⟨gp,op,none⟩) S.nK S.cK)):=fun wx hSw=>by
       obtain ⟨hS1,hS2,hS3⟩:=hSw
       have c1:wx.cell? ⟨w.heap.size+1,1,none⟩=some (.slice l.aT l.nT l.cT):=ie hS2 1
       have s13:wx.cell? ⟨w.heap.size,13,none⟩=some (.slice (some ⟨gp,op,none⟩) S.nK S.cK):=HaK.out▸ie hS1 13
       exact ⟨c1,s13⟩
      refine tX ?_
      iterate 4 refine tN ?_
      refine tX ?_
      refine tF ?_
      iterate 3 refine tN ?_
      refine tF ?_
      refine tN ?_
      iterate 12 refine sN ?_
      iterate 2 refine tN ?_
      refine dnq ?_
      have hB9:=hB.drew
      clear hHeld hB
      go_wp2_with fail
      go_roundw
      case rel=>exact ⟨0+1,by omega,by go_num,fun i hi=>by
       obtain rfl:i=0:=by omega
       exact ⟨⟨j,hj,Hj,Hp⟩,fun h=>by omega⟩,hB9⟩
      case measure=>simp [intOf];omega
     have h0':(0:Int)<(k:Int):=by omega
     have hk1:(1:Int)≤(k:Int):=by omega
     have hk2:(k:Int)-1<(l.nT:Int):=by omega
     have hk3:((k:Int)-1).toNat=k-1:=by omega
     have hw1:IntKind.i64.wrap ((k:Int)-1)=(k:Int)-1:=jS _ (by omega) (by omega)
     by_cases hr:l.t (k-1)<l.t k
     ·
      have hr':¬ l.t k≤l.t (k-1):=by omega
      have Hr:=aa hr
      clear hr
      refine wp_region_held_drew (S:=fun w'=>w'.heap[w.heap.size]?=some (.cells S.cells 34 (0,0))∧w'.heap[w.heap.size+1]?=some (.cells l.cells 47 (0,0))∧w'.cell? ⟨gp,op+j*8+6,none⟩=some (.int .i64 (S.K j).p)∧w'.cell? ⟨gt,ot+k,none⟩=some (.int .i64 (l.t k))∧w'.cell? ⟨gt,ot+(k-1),none⟩=some (.int .i64 (l.t (k-1)))) (by kernel_rfl) ⟨(la hB.drew).1,(la hB.drew).2,pk6 (HR.k.up (iy hB.drew)) HaK hj,ly (HL.t.up (iy hB.drew)) HaT hlt,ly (HL.t.up (iy hB.drew)) HaT (by omega)⟩ (fun hHeld=>?_)
      refine t0 ?_
      refine tF ?_
      iterate 2 refine tN ?_
      have Hcs:Hid (∀ wx:World,(fun w':World=>w'.heap[w.heap.size]?=some (.cells S.cells 34 (0,0))∧w'.heap[w.heap.size+1]?=some (.cells l.cells 47 (0,0))∧w'.cell? ⟨gp,op+j*8+6,none⟩=some (.int .i64 (S.K j).p)∧w'.cell? ⟨gt,ot+k,none⟩=some (.int .i64 (l.t k))∧w'.cell? ⟨gt,ot+(k-1),none⟩=some (.int .i64 (l.t (k-1)))) wx→wx.cell? ⟨w.heap.size+1,1,none⟩=some (.slice (some ⟨gt,ot,none⟩) l.nT l.cT)∧wx.cell? ⟨w.heap.size,13,none⟩=some (.slice (some ⟨gp,op,none⟩) S.nK S.cK)):=fun wx hSw=>by
       obtain ⟨hS1,hS2,hS3,hS4,hS5⟩:=hSw
       have c1:wx.cell? ⟨w.heap.size+1,1,none⟩=some (.slice l.aT l.nT l.cT):=ie hS2 1
       rw [HaT.out] at c1
       have s13:wx.cell? ⟨w.heap.size,13,none⟩=some (.slice (some ⟨gp,op,none⟩) S.nK S.cK):=HaK.out▸ie hS1 13
       exact ⟨c1,s13⟩
      refine tX ?_
      iterate 4 refine tN ?_
      refine tX ?_
      refine tF ?_
      iterate 3 refine tN ?_
      refine tT ?_
      iterate 2 refine tN ?_
      refine tX ?_
      iterate 3 refine tN ?_
      refine tX ?_
      refine tN ?_
      refine tX ?_
      iterate 2 refine tN ?_
      refine tX ?_
      refine tF ?_
      iterate 2 refine tN ?_
      refine dnq ?_
      have hB9:=hB.drew
      clear hHeld hB
      go_wp2_with fail
      go_roundw
      case rel=>exact ⟨k+1,by omega,by go_num,fun i hi=>by
       by_cases e:i=k
       ·
        subst e;exact ⟨⟨j,hj,Hj.out,Hp.out⟩,fun _=>Hr.out⟩
       ·
        exact HA i (by omega),hB9⟩
      case measure=>simp [intOf];omega
     have hr':l.t k≤l.t (k-1):=by omega
     have HF:Hid (ok=false):=by
      rw [Hid,Bool.eq_false_iff]
      intro e
      exact hr (((HO.1 e).t k hlt).2 (by omega))
     clear hr
     refine wp_region_held_drew (S:=fun w'=>w'.heap[w.heap.size]?=some (.cells S.cells 34 (0,0))∧w'.heap[w.heap.size+1]?=some (.cells l.cells 47 (0,0))∧w'.cell? ⟨gp,op+j*8+6,none⟩=some (.int .i64 (S.K j).p)∧w'.cell? ⟨gt,ot+k,none⟩=some (.int .i64 (l.t k))∧w'.cell? ⟨gt,ot+(k-1),none⟩=some (.int .i64 (l.t (k-1)))) (by kernel_rfl) ⟨(la hB.drew).1,(la hB.drew).2,pk6 (HR.k.up (iy hB.drew)) HaK hj,ly (HL.t.up (iy hB.drew)) HaT hlt,ly (HL.t.up (iy hB.drew)) HaT (by omega)⟩ (fun hHeld=>?_)
     refine t0 ?_
     refine tF ?_
     iterate 2 refine tN ?_
     have Hcs:Hid (∀ wx:World,(fun w':World=>w'.heap[w.heap.size]?=some (.cells S.cells 34 (0,0))∧w'.heap[w.heap.size+1]?=some (.cells l.cells 47 (0,0))∧w'.cell? ⟨gp,op+j*8+6,none⟩=some (.int .i64 (S.K j).p)∧w'.cell? ⟨gt,ot+k,none⟩=some (.int .i64 (l.t k))∧w'.cell? ⟨gt,ot+(k-1),none⟩=some (.int .i64 (l.t (k-1)))) wx→wx.cell? ⟨w.heap.size+1,1,none⟩=some (.slice (some ⟨gt,ot,none⟩) l.nT l.cT)∧wx.cell? ⟨w.heap.size,13,none⟩=some (.slice (some ⟨gp,op,none⟩) S.nK S.cK)):=fun wx hSw=>by
      obtain ⟨hS1,hS2,hS3,hS4,hS5⟩:=hSw
      have c1:wx.cell? ⟨w.heap.size+1,1,none⟩=some (.slice l.aT l.nT l.cT):=ie hS2 1
      rw [HaT.out] at c1
      have s13:wx.cell? ⟨w.heap.size,13,none⟩=some (.slice (some ⟨gp,op,none⟩) S.nK S.cK):=HaK.out▸ie hS1 13
      exact ⟨c1,s13⟩
     refine tX ?_
     iterate 4 refine tN ?_
     refine tX ?_
     refine tF ?_
     iterate 3 refine tN ?_
     refine tT ?_
     iterate 2 refine tN ?_
     refine tX ?_
     iterate 3 refine tN ?_
     refine tX ?_
     refine tN ?_
     refine tX ?_
     iterate 2 refine tN ?_
     refine tX ?_
     refine tT ?_
     iterate 2 refine tN ?_
     exact bS
    have hp':((S.K j).p != 2)=true:=by simp [hp]
    have HF:Hid (ok=false):=by
     rw [Hid,Bool.eq_false_iff]
     intro e
     obtain ⟨⟨j2,hj2,e2,e3⟩,_⟩:=(HO.1 e).t k hlt
     exact bT
    have Hp:=aa hp
    clear hp
    refine wp_region_held_drew (S:=fun w'=>w'.heap[w.heap.size]?=some (.cells S.cells 34 (0,0))∧w'.heap[w.heap.size+1]?=some (.cells l.cells 47 (0,0))∧w'.cell? ⟨gp,op+j*8+6,none⟩=some (.int .i64 (S.K j).p)) (by kernel_rfl) ⟨(la hB.drew).1,(la hB.drew).2,pk6 (HR.k.up (iy hB.drew)) HaK hj⟩ (fun hHeld=>?_)
    refine t0 ?_
    refine tF ?_
    iterate 2 refine tN ?_
    have Hcs:Hid (∀ wx:World,(fun w':World=>w'.heap[w.heap.size]?=some (.cells S.cells 34 (0,0))∧w'.heap[w.heap.size+1]?=some (.cells l.cells 47 (0,0))∧w'.cell? ⟨gp,op+j*8+6,none⟩=some (.int .i64 (S.K j).p)) wx→wx.cell? ⟨w.heap.size+1,1,none⟩=some (.slice l.aT l.nT l.cT)∧wx.cell? ⟨w.heap.size,13,none⟩=some (.slice (some ⟨gp,op,none⟩) S.nK S.cK)):=fun wx hSw=>by
     obtain ⟨hS1,hS2,hS3⟩:=hSw
     have c1:wx.cell? ⟨w.heap.size+1,1,none⟩=some (.slice l.aT l.nT l.cT):=ie hS2 1
     have s13:wx.cell? ⟨w.heap.size,13,none⟩=some (.slice (some ⟨gp,op,none⟩) S.nK S.cK):=HaK.out▸ie hS1 13
     exact ⟨c1,s13⟩
    refine tX ?_
    iterate 4 refine tN ?_
    refine tX ?_
    refine tT ?_
    iterate 2 refine tN ?_
    iterate 16 refine sN ?_
    refine tN ?_
    exact bS
   have HF:Hid (ok=false):=by
    rw [Hid,Bool.eq_false_iff]
    intro e
    obtain ⟨⟨j2,hj2,e2,e3⟩,_⟩:=(HO.1 e).t k hlt
    exact hex ⟨j2,hj2,e2⟩
   have HNo:Hid (∀ i,i<S.nK→(S.K i).id≠l.t k):=fun i hi e=>hex ⟨i,hi,e⟩
   clear hex
   refine wp_region_held_drew (S:=fun w'=>w'.heap[w.heap.size]?=some (.cells S.cells 34 (0,0))∧w'.heap[w.heap.size+1]?=some (.cells l.cells 47 (0,0))∧w'.cell? ⟨gt,ot+k,none⟩=some (.int .i64 (l.t k))) (by kernel_rfl) ⟨(la hB.drew).1,(la hB.drew).2,ly (HL.t.up (iy hB.drew)) HaT hlt⟩ (fun hHeld=>?_)
   refine tC 0 57 (v:=.agg S.cells) ?_ ?_
   · exact bN
   try simp only [Act.put,PZ]
   refine tN ?_
   have Hcs:Hid (∀ wx:World,(fun w':World=>w'.heap[w.heap.size]?=some (.cells S.cells 34 (0,0))∧w'.heap[w.heap.size+1]?=some (.cells l.cells 47 (0,0))∧w'.cell? ⟨gt,ot+k,none⟩=some (.int .i64 (l.t k))) wx→wx.cell? ⟨w.heap.size+1,1,none⟩=some (.slice (some ⟨gt,ot,none⟩) l.nT l.cT)):=fun wx hSw=>by
    obtain ⟨hS1,hS2,hS3⟩:=hSw
    have c1:wx.cell? ⟨w.heap.size+1,1,none⟩=some (.slice l.aT l.nT l.cT):=ie hS2 1
    rw [HaT.out] at c1
    exact c1
   refine tX ?_
   iterate 2 refine tN ?_
   refine tX ?_
   refine rq1 6 (fun K hK=>?_)
   go_simp
   refine (sD S (l.t k) _ (by omega) (HR.k.up (iy hB.drew)) HNo).mono ?_
   rintro e w1 ⟨rfl,hb⟩
   have hB1:=pj hB.drew hb
   clear hb
   have q1:_∧_∧_:=⟨(la hB1).1,(la hB1).2,ly (HL.t.up (iy hB1)) HaT hlt⟩
   go_wp2_with fail
   refine ah (hK _ _ q1) ?_
   intro hHeld
   clear hK K
   refine tN ?_
   refine dnq ?_
   clear q1 hHeld hB
   have hB:=hB1
   clear hB1
   go_wp2_with fail
   refine wp_region_held_drew (S:=fun w'=>w'.heap[w.heap.size]?=some (.cells S.cells 34 (0,0))∧w'.heap[w.heap.size+1]?=some (.cells l.cells 47 (0,0))) (by kernel_rfl) ⟨(la hB.drew).1,(la hB.drew).2⟩ (fun hHeld=>?_)
   refine t0 ?_
   refine tT ?_
   refine tN ?_
   iterate 8 refine sN ?_
   iterate 2 refine tN ?_
   iterate 16 refine sN ?_
   refine tN ?_
   refine dnq ?_
   have B9:=iy hB.drew
   clear hHeld hB
   go_wp2_with fail
   go_ret
   exact ⟨iv HF.symm,B9⟩
 obtain rfl:k=l.nT:=by omega
 have hge:¬ ((l.nT:Nat):Int)<((l.nT:Nat):Int):=by omega
 have HAt:=aa HA.out
 go_wp2_with fail
 clear c1 HA hge
 go_loopw [7] (fun x wr=>∃ c:Nat,c≤2∧x=.int .i64 c∧(∀ i,i<c→yO S.nK S.K l i)∧Below (w.heap.size+2) ((w.alloc (.cells S.cells 34)).alloc (.cells l.cells 47)) wr) (fun x _=>2-(intOf x).toNat)
 case atStart=>exact ⟨0,Nat.zero_le _,rfl,fun i hi=>by omega,hB⟩
 clear hB
 obtain ⟨c,hc,rfl,hall,hB⟩:=hrel
 have HA:=aa hall
 clear hall
 by_cases hc2:c<2
 ·
  have hc2':(c:Int)<2:=by omega
  have hcU:c<l.nU:=by have:=HU.out;omega
  have hcU':(c:Int)<(l.nU:Int):=by omega
  have hcS:c<l.R.nS:=by have:=HnS.out;omega
  have hcS':(c:Int)<(l.R.nS:Int):=by omega
  obtain ⟨gu,ou,eu,u1⟩:=(HL.u.up (iy hB)) c hcU
  obtain ⟨gs,os,es,s1⟩:=(HL.r.s.up (iy hB)) c hcS
  have c2:wr.cell? ⟨w.heap.size+1,2,none⟩=some (.slice l.aU l.nU l.cU):=ie (la hB).2 2
  have c7:wr.cell? ⟨w.heap.size+1,7,none⟩=some (.slice l.R.aS l.R.nS l.R.cS):=ie (la hB).2 7
  rw [eu] at c2
  rw [es] at c7
  dsimp only at u1 s1
  have HaS:=aa es
  have hzl:l.uL c≤1048576:=HSm.z c hcU
  clear eu es
  by_cases hln:l.uL c=l.R.L c
  ·
   have hln':((l.uL c:Int) != (l.R.L c:Int))=false:=by simp;omega
   have Hln:=aa hln
   clear hln
   go_wp2_with fail
   clear u1 s1 c2 c7 hln'
   go_loopw [9] (fun x wr=>∃ k:Nat,k≤l.uL c∧x=.int .i64 k∧qpre S.nK S.K l c k∧Below (w.heap.size+2) ((w.alloc (.cells S.cells 34)).alloc (.cells l.cells 47)) wr) (fun x _=>l.uL c-(intOf x).toNat)
   case atStart=>exact ⟨0,Nat.zero_le _,rfl,⟨fun i hi=>by omega,fun i hi=>by omega⟩,hB⟩
   clear hB
   obtain ⟨k,hk,rfl,hall,hB⟩:=hrel
   have HQ:=aa hall
   clear hall
   by_cases hlt:k<l.uL c
   ·
    have hlt':(k:Int)<l.uL c:=by omega
    have hkR:k<l.R.L c:=by have:=Hln.out;omega
    have hkR':(k:Int)<(l.R.L c:Int):=by omega
    obtain ⟨gz,oz,ez,_⟩:=HL.z c hcU k hlt
    obtain ⟨gr,or,er,_⟩:=HL.r.z c hcS k hkR
    have HaZ:=aa ez
    have HaR:=aa er
    rw [ez]
    clear ez er
    go_wp2_with fail
    by_cases hex:∃ j,j<S.nK∧(S.K j).id=l.uz c k
    ·
     obtain ⟨j,hj,ej⟩:=hex
     have Hj:=aa ej
     obtain ⟨gp,op,ep,_⟩:=HR.k j hj
     have HaK:=aa ep
     have hj':(j:Int)<S.nK:=by omega
     have hj0:¬ (j:Int)<0:=by omega
     clear ej ep
     refine wp_region_held_drew (S:=fun w'=>w'.heap[w.heap.size]?=some (.cells S.cells 34 (0,0))∧w'.heap[w.heap.size+1]?=some (.cells l.cells 47 (0,0))∧w'.cell? ⟨gz,oz+k,none⟩=some (.int .i64 (l.uz c k))) (by kernel_rfl) ⟨(la hB.drew).1,(la hB.drew).2,ly ((HL.z c hcU).up (iy hB.drew)) HaZ hlt⟩ (fun hHeld=>?_)
     refine tC 0 119 (v:=.agg S.cells) ?_ ?_
     · exact bN
     try simp only [Act.put,PZ]
     iterate 4 refine tN ?_
     refine rq1 5 (fun K hK=>?_)
     go_simp
     refine (oy S (l.uz c k) _ (by omega) (HR.k.up (iy hB.drew)) j hj Hj (fun i hi e=>by have:=nr HP.up (by omega) hj (e.trans Hj.symm);omega)).mono ?_
     rintro e w1 ⟨rfl,hb⟩
     have hB1:=pj hB.drew hb
     clear hb
     have q1:_∧_∧_:=⟨(la hB1).1,(la hB1).2,ly ((HL.z c hcU).up (iy hB1)) HaZ hlt⟩
     go_wp2_with fail
     refine ah (hK _ _ q1) ?_
     intro hHeld
     clear hK K
     refine tN ?_
     refine dnq ?_
     clear q1 hHeld hB
     have hB:=hB1
     clear hB1
     go_wp2_with fail
     by_cases hp:(S.K j).p=(c:Int)
     ·
      have hp':((S.K j).p != (c:Int))=false:=by simp [hp]
      have Hp:=aa hp
      clear hp
      by_cases hcl:(S.K j).cl=l.R.z c k
      ·
       have hcl':((S.K j).cl != l.R.z c k)=false:=by simp [hcl]
       have Hcl:Hid (∀ j',j'<S.nK→(S.K j').id=l.uz c k→l.R.z c k=(S.K j').cl):=fun j' hj' e=>by
        obtain rfl:=nr HP.up hj hj' (Hj.trans e.symm)
        exact hcl.symm
       have Hcl2:=aa hcl
       clear hcl
       by_cases h0:k=0
       ·
        as_aux_lemma =>
         have h0':¬ (0:Int)<(k:Int):=by omega
         have Hk0:=aa h0
         clear h0
         refine wp_region_held_drew (S:=fun w'=>w'.heap[w.heap.size]?=some (.cells S.cells 34 (0,0))∧w'.heap[w.heap.size+1]?=some (.cells l.cells 47 (0,0))∧w'.cell? ⟨gp,op+j*8+6,none⟩=some (.int .i64 (S.K j).p)∧(∀ i,i<8→w'.cell? ⟨gp,op+j*8+i,none⟩=(S.K j).cells[i]?)∧w'.cell? ⟨gs,os+c,none⟩=some (.slice (some ⟨gr,or,none⟩) (l.R.L c) (l.R.C c))∧w'.cell? ⟨gr,or+k,none⟩=some (.int .i64 (l.R.z c k))) (by kernel_rfl) ⟨(la hB.drew).1,(la hB.drew).2,pk6 (HR.k.up (iy hB.drew)) HaK hj,pk8 (HR.k.up (iy hB.drew)) HaK hj,HaR.out▸ly (HL.r.s.up (iy hB.drew)) HaS hcS,ly ((HL.r.z c hcS).up (iy hB.drew)) HaR hkR⟩ (fun hHeld=>?_)
         refine t0 ?_
         refine tF ?_
         iterate 2 refine tN ?_
         have Hcs:Hid (∀ wx:World,(fun w':World=>w'.heap[w.heap.size]?=some (.cells S.cells 34 (0,0))∧w'.heap[w.heap.size+1]?=some (.cells l.cells 47 (0,0))∧w'.cell? ⟨gp,op+j*8+6,none⟩=some (.int .i64 (S.K j).p)∧(∀ i,i<8→w'.cell? ⟨gp,op+j*8+i,none⟩=(S.K j).cells[i]?)∧w'.cell? ⟨gs,os+c,none⟩=some (.slice (some ⟨gr,or,none⟩) (l.R.L c) (l.R.C c))∧w'.cell? ⟨gr,or+k,none⟩=some (.int .i64 (l.R.z c k))) wx→wx.cell? ⟨w.heap.size+1,7,none⟩=some (.slice (some ⟨gs,os,none⟩) l.R.nS l.R.cS)∧wx.cell? ⟨w.heap.size,13,none⟩=some (.slice (some ⟨gp,op,none⟩) S.nK S.cK)∧wx.cell? ⟨gp,op+j*8+3,none⟩=some (.int .i64 (S.K j).k)∧wx.cell? ⟨gp,op+j*8+3+1,none⟩=some (.int .i64 (S.K j).d)∧wx.cell? ⟨gp,op+j*8+3+2,none⟩=some (.int .i64 (S.K j).s)∧wx.cell? ⟨gp,op+j*8+3+3,none⟩=some (.int .i64 (S.K j).p)∧wx.cell? ⟨gp,op+j*8+3+4,none⟩=some (.string (S.K j).b)):=fun wx hSw=>by
          obtain ⟨hS1,hS2,hS3,hS4,hS5,hS6⟩:=hSw
          have c7:wx.cell? ⟨w.heap.size+1,7,none⟩=some (.slice l.R.aS l.R.nS l.R.cS):=ie hS2 7
          rw [HaS.out] at c7
          have s13:wx.cell? ⟨w.heap.size,13,none⟩=some (.slice (some ⟨gp,op,none⟩) S.nK S.cK):=HaK.out▸ie hS1 13
          have p3:wx.cell? ⟨gp,op+j*8+3,none⟩=some (.int .i64 (S.K j).k):=hS4 3 (by omega)
          have p4:wx.cell? ⟨gp,op+j*8+3+1,none⟩=some (.int .i64 (S.K j).d):=hS4 4 (by omega)
          have p5:wx.cell? ⟨gp,op+j*8+3+2,none⟩=some (.int .i64 (S.K j).s):=hS4 5 (by omega)
          have p6:wx.cell? ⟨gp,op+j*8+3+3,none⟩=some (.int .i64 (S.K j).p):=hS4 6 (by omega)
          have p7:wx.cell? ⟨gp,op+j*8+3+4,none⟩=some (.string (S.K j).b):=hS4 7 (by omega)
          exact ⟨c7,s13,p3,p4,p5,p6,p7⟩
         refine tY ?_
         iterate 4 refine tN ?_
         refine tY ?_
         refine tN ?_
         refine tF ?_
         iterate 3 refine tN ?_
         refine tY ?_
         iterate 3 refine tN ?_
         refine tY ?_
         refine tP 21 146 ?_
         refine tP 22 147 ?_
         refine tC 23 148 (v:=?_) ?_ ?_
         rotate_left
         · exact Hl
         try simp only [Act.put,PZ]
         refine tP 24 149 ?_
         refine tP 25 150 ?_
         refine tC 26 151 (v:=?_) ?_ ?_
         rotate_left
         · exact Hl
         try simp only [Act.put,PZ]
         refine tP 27 152 ?_
         refine tP 28 153 ?_
         refine tC 29 154 (v:=?_) ?_ ?_
         rotate_left
         · exact Hl
         try simp only [Act.put,PZ]
         refine rq1 20 (fun K hK=>?_)
         go_simp
         refine (jr _ _ _ _ _ _ (HP.one j hj).2.2.le).mono ?_
         rintro e w1 ⟨rfl,hb⟩
         have hB1:=pj hB.drew hb
         clear hb
         have q1:_:=(show (fun w'=>w'.heap[w.heap.size]?=some (.cells S.cells 34 (0,0))∧w'.heap[w.heap.size+1]?=some (.cells l.cells 47 (0,0))∧w'.cell? ⟨gp,op+j*8+6,none⟩=some (.int .i64 (S.K j).p)∧(∀ i,i<8→w'.cell? ⟨gp,op+j*8+i,none⟩=(S.K j).cells[i]?)∧w'.cell? ⟨gs,os+c,none⟩=some (.slice (some ⟨gr,or,none⟩) (l.R.L c) (l.R.C c))∧w'.cell? ⟨gr,or+k,none⟩=some (.int .i64 (l.R.z c k))) w1 from ⟨(la hB1).1,(la hB1).2,pk6 (HR.k.up (iy hB1)) HaK hj,pk8 (HR.k.up (iy hB1)) HaK hj,HaR.out▸ly (HL.r.s.up (iy hB1)) HaS hcS,ly ((HL.r.z c hcS).up (iy hB1)) HaR hkR⟩)
         rw [show (((S.K j).b.size:Int)+9+9) / 10=(S.K j).cl from rfl]
         go_wp2_with fail
         refine ah (hK _ _ q1) ?_
         intro hHeld
         clear hK K
         refine tC 30 155 (v:=.bool false) ?_ ?_
         · exact bO
         try simp only [Act.put,PZ]
         refine tP 31 156 ?_
         refine tP 32 157 ?_
         refine tP 33 158 ?_
         refine tC 34 159 (v:=.bool false) ?_ ?_
         · exact bO
         try simp only [Act.put,PZ]
         refine tP 35 160 ?_
         refine sA 36 161 ?_
         refine sA 37 162 ?_
         refine sA 38 163 ?_
         refine sA 39 164 ?_
         refine sA 40 165 ?_
         refine sA 41 166 ?_
         refine sA 42 167 ?_
         refine sA 43 168 ?_
         refine sA 44 169 ?_
         refine sA 45 170 ?_
         refine tP 46 171 ?_
         refine tP 47 172 ?_
         refine dnq ?_
         clear hHeld hB q1
         go_wp2_with fail
         go_roundw
         case rel=>exact ⟨k+1,by omega,by go_num,⟨fun i hi=>by
          obtain rfl:i=k:=by have:=Hk0.out;omega
          exact ⟨⟨j,hj,Hj,Hp⟩,fun h=>by have:=Hk0.out;omega⟩,fun i hi=>by
          obtain rfl:i=k:=by have:=Hk0.out;omega
          exact Hcl⟩,hB1⟩
         case measure=>simp [intOf];omega
       have h0':(0:Int)<(k:Int):=by omega
       have hk1:(1:Int)≤(k:Int):=by omega
       have hk2:(k:Int)-1<(l.uL c:Int):=by omega
       have hk3:((k:Int)-1).toNat=k-1:=by omega
       have hw1:IntKind.i64.wrap ((k:Int)-1)=(k:Int)-1:=jS _ (by omega) (by omega)
       by_cases hr:l.uz c (k-1)<l.uz c k
       ·
        as_aux_lemma =>
         have hr':¬ l.uz c k≤l.uz c (k-1):=by omega
         have Hr:=aa hr
         clear hr
         refine wp_region_held_drew (S:=fun w'=>w'.heap[w.heap.size]?=some (.cells S.cells 34 (0,0))∧w'.heap[w.heap.size+1]?=some (.cells l.cells 47 (0,0))∧w'.cell? ⟨gp,op+j*8+6,none⟩=some (.int .i64 (S.K j).p)∧(∀ i,i<8→w'.cell? ⟨gp,op+j*8+i,none⟩=(S.K j).cells[i]?)∧w'.cell? ⟨gs,os+c,none⟩=some (.slice (some ⟨gr,or,none⟩) (l.R.L c) (l.R.C c))∧w'.cell? ⟨gr,or+k,none⟩=some (.int .i64 (l.R.z c k))∧w'.cell? ⟨gz,oz+k,none⟩=some (.int .i64 (l.uz c k))∧w'.cell? ⟨gz,oz+(k-1),none⟩=some (.int .i64 (l.uz c (k-1)))) (by kernel_rfl) ⟨(la hB.drew).1,(la hB.drew).2,pk6 (HR.k.up (iy hB.drew)) HaK hj,pk8 (HR.k.up (iy hB.drew)) HaK hj,HaR.out▸ly (HL.r.s.up (iy hB.drew)) HaS hcS,ly ((HL.r.z c hcS).up (iy hB.drew)) HaR hkR,ly ((HL.z c hcU).up (iy hB.drew)) HaZ hlt,ly ((HL.z c hcU).up (iy hB.drew)) HaZ (by omega)⟩ (fun hHeld=>?_)
         refine t0 ?_
         refine tF ?_
         iterate 2 refine tN ?_
         have Hcs:Hid (∀ wx:World,(fun w':World=>w'.heap[w.heap.size]?=some (.cells S.cells 34 (0,0))∧w'.heap[w.heap.size+1]?=some (.cells l.cells 47 (0,0))∧w'.cell? ⟨gp,op+j*8+6,none⟩=some (.int .i64 (S.K j).p)∧(∀ i,i<8→w'.cell? ⟨gp,op+j*8+i,none⟩=(S.K j).cells[i]?)∧w'.cell? ⟨gs,os+c,none⟩=some (.slice (some ⟨gr,or,none⟩) (l.R.L c) (l.R.C c))∧w'.cell? ⟨gr,or+k,none⟩=some (.int .i64 (l.R.z c k))∧w'.cell? ⟨gz,oz+k,none⟩=some (.int .i64 (l.uz c k))∧w'.cell? ⟨gz,oz+(k-1),none⟩=some (.int .i64 (l.uz c (k-1)))) wx→wx.cell? ⟨w.heap.size+1,7,none⟩=some (.slice (some ⟨gs,os,none⟩) l.R.nS l.R.cS)∧wx.cell? ⟨w.heap.size,13,none⟩=some (.slice (some ⟨gp,op,none⟩) S.nK S.cK)∧wx.cell? ⟨gp,op+j*8+3,none⟩=some (.int .i64 (S.K j).k)∧wx.cell? ⟨gp,op+j*8+3+1,none⟩=some (.int .i64 (S.K j).d)∧wx.cell? ⟨gp,op+j*8+3+2,none⟩=some (.int .i64 (S.K j).s)∧wx.cell? ⟨gp,op+j*8+3+3,none⟩=some (.int .i64 (S.K j).p)∧wx.cell? ⟨gp,op+j*8+3+4,none⟩=some (.string (S.K j).b)):=fun wx hSw=>by
          obtain ⟨hS1,hS2,hS3,hS4,hS5,hS6,hS7,hS8⟩:=hSw
          have c7:wx.cell? ⟨w.heap.size+1,7,none⟩=some (.slice l.R.aS l.R.nS l.R.cS):=ie hS2 7
          rw [HaS.out] at c7
          have s13:wx.cell? ⟨w.heap.size,13,none⟩=some (.slice (some ⟨gp,op,none⟩) S.nK S.cK):=HaK.out▸ie hS1 13
          have p3:wx.cell? ⟨gp,op+j*8+3,none⟩=some (.int .i64 (S.K j).k):=hS4 3 (by omega)
          have p4:wx.cell? ⟨gp,op+j*8+3+1,none⟩=some (.int .i64 (S.K j).d):=hS4 4 (by omega)
          have p5:wx.cell? ⟨gp,op+j*8+3+2,none⟩=some (.int .i64 (S.K j).s):=hS4 5 (by omega)
          have p6:wx.cell? ⟨gp,op+j*8+3+3,none⟩=some (.int .i64 (S.K j).p):=hS4 6 (by omega)
          have p7:wx.cell? ⟨gp,op+j*8+3+4,none⟩=some (.string (S.K j).b):=hS4 7 (by omega)
          exact ⟨c7,s13,p3,p4,p5,p6,p7⟩
         refine tY ?_
         iterate 4 refine tN ?_
         refine tY ?_
         refine tN ?_
         refine tF ?_
         iterate 3 refine tN ?_
         refine tY ?_
         iterate 3 refine tN ?_
         refine tY ?_
         refine tP 21 146 ?_
         refine tP 22 147 ?_
         refine tC 23 148 (v:=?_) ?_ ?_
         rotate_left
         · exact Hk
         try simp only [Act.put,PZ]
         refine tP 24 149 ?_
         refine tP 25 150 ?_
         refine tC 26 151 (v:=?_) ?_ ?_
         rotate_left
         · exact Hk
         try simp only [Act.put,PZ]
         refine tP 27 152 ?_
         refine tP 28 153 ?_
         refine tC 29 154 (v:=?_) ?_ ?_
         rotate_left
         · exact Hk
         try simp only [Act.put,PZ]
         refine rq1 20 (fun K hK=>?_)
         go_simp
         refine (jr _ _ _ _ _ _ (HP.one j hj).2.2.le).mono ?_
         rintro e w1 ⟨rfl,hb⟩
         have hB1:=pj hB.drew hb
         clear hb
         have q1:_:=(show (fun w'=>w'.heap[w.heap.size]?=some (.cells S.cells 34 (0,0))∧w'.heap[w.heap.size+1]?=some (.cells l.cells 47 (0,0))∧w'.cell? ⟨gp,op+j*8+6,none⟩=some (.int .i64 (S.K j).p)∧(∀ i,i<8→w'.cell? ⟨gp,op+j*8+i,none⟩=(S.K j).cells[i]?)∧w'.cell? ⟨gs,os+c,none⟩=some (.slice (some ⟨gr,or,none⟩) (l.R.L c) (l.R.C c))∧w'.cell? ⟨gr,or+k,none⟩=some (.int .i64 (l.R.z c k))∧w'.cell? ⟨gz,oz+k,none⟩=some (.int .i64 (l.uz c k))∧w'.cell? ⟨gz,oz+(k-1),none⟩=some (.int .i64 (l.uz c (k-1)))) w1 from ⟨(la hB1).1,(la hB1).2,pk6 (HR.k.up (iy hB1)) HaK hj,pk8 (HR.k.up (iy hB1)) HaK hj,HaR.out▸ly (HL.r.s.up (iy hB1)) HaS hcS,ly ((HL.r.z c hcS).up (iy hB1)) HaR hkR,ly ((HL.z c hcU).up (iy hB1)) HaZ hlt,ly ((HL.z c hcU).up (iy hB1)) HaZ (by omega)⟩)
         rw [show (((S.K j).b.size:Int)+9+9) / 10=(S.K j).cl from rfl]
         go_wp2_with fail
         refine ah (hK _ _ q1) ?_
         intro hHeld
         clear hK K
         refine tC 30 155 (v:=.bool false) ?_ ?_
         · exact bJ
         try simp only [Act.put,PZ]
         refine tP 31 156 ?_
         refine tP 32 157 ?_
         refine tP 33 158 ?_
         refine tC 34 159 (v:=.bool true) ?_ ?_
         · exact bJ
         try simp only [Act.put,PZ]
         refine tP 35 160 ?_
         refine tP 36 161 ?_
         refine tP 37 162 ?_
         refine tP 38 163 ?_
         refine tP 39 164 ?_
         refine tC 40 165 (v:=?_) ?_ ?_
         rotate_left
         · exact Hk
         try simp only [Act.put,PZ]
         refine tP 41 166 ?_
         refine tP 42 167 ?_
         refine tP 43 168 ?_
         refine tC 44 169 (v:=?_) ?_ ?_
         rotate_left
         · exact Hk
         try simp only [Act.put,PZ]
         refine tC 45 170 (v:=.bool false) ?_ ?_
         · exact bJ
         try simp only [Act.put,PZ]
         refine tP 46 171 ?_
         refine tP 47 172 ?_
         refine dnq ?_
         clear hHeld hB q1
         go_wp2_with fail
         go_roundw
         case rel=>exact ⟨k+1,by omega,by go_num,⟨fun i hi=>by
          by_cases e:i=k
          ·
           subst e;exact ⟨⟨j,hj,Hj.out,Hp.out⟩,fun _=>Hr.out⟩
          ·
           exact HQ.1 i (by omega),fun i hi=>by
          by_cases e:i=k
          ·
           subst e;exact Hcl.out
          ·
           exact HQ.2 i (by omega)⟩,hB1⟩
         case measure=>simp [intOf];omega
       as_aux_lemma =>
        have hr':l.uz c k≤l.uz c (k-1):=by omega
        have HF:Hid (ok=false):=by
         rw [Hid,Bool.eq_false_iff]
         intro e
         exact hr ((((HO.1 e).z c hc2).1 k hlt).2 (by omega))
        clear hr
        refine wp_region_held_drew (S:=fun w'=>w'.heap[w.heap.size]?=some (.cells S.cells 34 (0,0))∧w'.heap[w.heap.size+1]?=some (.cells l.cells 47 (0,0))∧w'.cell? ⟨gp,op+j*8+6,none⟩=some (.int .i64 (S.K j).p)∧(∀ i,i<8→w'.cell? ⟨gp,op+j*8+i,none⟩=(S.K j).cells[i]?)∧w'.cell? ⟨gs,os+c,none⟩=some (.slice (some ⟨gr,or,none⟩) (l.R.L c) (l.R.C c))∧w'.cell? ⟨gr,or+k,none⟩=some (.int .i64 (l.R.z c k))∧w'.cell? ⟨gz,oz+k,none⟩=some (.int .i64 (l.uz c k))∧w'.cell? ⟨gz,oz+(k-1),none⟩=some (.int .i64 (l.uz c (k-1)))) (by kernel_rfl) ⟨(la hB.drew).1,(la hB.drew).2,pk6 (HR.k.up (iy hB.drew)) HaK hj,pk8 (HR.k.up (iy hB.drew)) HaK hj,HaR.out▸ly (HL.r.s.up (iy hB.drew)) HaS hcS,ly ((HL.r.z c hcS).up (iy hB.drew)) HaR hkR,ly ((HL.z c hcU).up (iy hB.drew)) HaZ hlt,ly ((HL.z c hcU).up (iy hB.drew)) HaZ (by omega)⟩ (fun hHeld=>?_)
        refine t0 ?_
        refine tF ?_
        iterate 2 refine tN ?_
        have Hcs:Hid (∀ wx:World,(fun w':World=>w'.heap[w.heap.size]?=some (.cells S.cells 34 (0,0))∧w'.heap[w.heap.size+1]?=some (.cells l.cells 47 (0,0))∧w'.cell? ⟨gp,op+j*8+6,none⟩=some (.int .i64 (S.K j).p)∧(∀ i,i<8→w'.cell? ⟨gp,op+j*8+i,none⟩=(S.K j).cells[i]?)∧w'.cell? ⟨gs,os+c,none⟩=some (.slice (some ⟨gr,or,none⟩) (l.R.L c) (l.R.C c))∧w'.cell? ⟨gr,or+k,none⟩=some (.int .i64 (l.R.z c k))∧w'.cell? ⟨gz,oz+k,none⟩=some (.int .i64 (l.uz c k))∧w'.cell? ⟨gz,oz+(k-1),none⟩=some (.int .i64 (l.uz c (k-1)))) wx→wx.cell? ⟨w.heap.size+1,7,none⟩=some (.slice (some ⟨gs,os,none⟩) l.R.nS l.R.cS)∧wx.cell? ⟨w.heap.size,13,none⟩=some (.slice (some ⟨gp,op,none⟩) S.nK S.cK)∧wx.cell? ⟨gp,op+j*8+3,none⟩=some (.int .i64 (S.K j).k)∧wx.cell? ⟨gp,op+j*8+3+1,none⟩=some (.int .i64 (S.K j).d)∧wx.cell? ⟨gp,op+j*8+3+2,none⟩=some (.int .i64 (S.K j).s)∧wx.cell? ⟨gp,op+j*8+3+3,none⟩=some (.int .i64 (S.K j).p)∧wx.cell? ⟨gp,op+j*8+3+4,none⟩=some (.string (S.K j).b)):=fun wx hSw=>by
         obtain ⟨hS1,hS2,hS3,hS4,hS5,hS6,hS7,hS8⟩:=hSw
         have c7:wx.cell? ⟨w.heap.size+1,7,none⟩=some (.slice l.R.aS l.R.nS l.R.cS):=ie hS2 7
         rw [HaS.out] at c7
         have s13:wx.cell? ⟨w.heap.size,13,none⟩=some (.slice (some ⟨gp,op,none⟩) S.nK S.cK):=HaK.out▸ie hS1 13
         have p3:wx.cell? ⟨gp,op+j*8+3,none⟩=some (.int .i64 (S.K j).k):=hS4 3 (by omega)
         have p4:wx.cell? ⟨gp,op+j*8+3+1,none⟩=some (.int .i64 (S.K j).d):=hS4 4 (by omega)
         have p5:wx.cell? ⟨gp,op+j*8+3+2,none⟩=some (.int .i64 (S.K j).s):=hS4 5 (by omega)
         have p6:wx.cell? ⟨gp,op+j*8+3+3,none⟩=some (.int .i64 (S.K j).p):=hS4 6 (by omega)
         have p7:wx.cell? ⟨gp,op+j*8+3+4,none⟩=some (.string (S.K j).b):=hS4 7 (by omega)
         exact ⟨c7,s13,p3,p4,p5,p6,p7⟩
        refine tY ?_
        iterate 4 refine tN ?_
        refine tY ?_
        refine tN ?_
        refine tF ?_
        iterate 3 refine tN ?_
        refine tY ?_
        iterate 3 refine tN ?_
        refine tY ?_
        refine tP 21 146 ?_
        refine tP 22 147 ?_
        refine tC 23 148 (v:=?_) ?_ ?_
        rotate_left
        · exact Hk
        try simp only [Act.put,PZ]
        refine tP 24 149 ?_
        refine tP 25 150 ?_
        refine tC 26 151 (v:=?_) ?_ ?_
        rotate_left
        · exact Hk
        try simp only [Act.put,PZ]
        refine tP 27 152 ?_
        refine tP 28 153 ?_
        refine tC 29 154 (v:=?_) ?_ ?_
        rotate_left
        · exact Hk
        try simp only [Act.put,PZ]
        refine rq1 20 (fun K hK=>?_)
        go_simp
        refine (jr _ _ _ _ _ _ (HP.one j hj).2.2.le).mono ?_
        rintro e w1 ⟨rfl,hb⟩
        have hB1:=pj hB.drew hb
        clear hb
        have q1:_:=(show (fun w'=>w'.heap[w.heap.size]?=some (.cells S.cells 34 (0,0))∧w'.heap[w.heap.size+1]?=some (.cells l.cells 47 (0,0))∧w'.cell? ⟨gp,op+j*8+6,none⟩=some (.int .i64 (S.K j).p)∧(∀ i,i<8→w'.cell? ⟨gp,op+j*8+i,none⟩=(S.K j).cells[i]?)∧w'.cell? ⟨gs,os+c,none⟩=some (.slice (some ⟨gr,or,none⟩) (l.R.L c) (l.R.C c))∧w'.cell? ⟨gr,or+k,none⟩=some (.int .i64 (l.R.z c k))∧w'.cell? ⟨gz,oz+k,none⟩=some (.int .i64 (l.uz c k))∧w'.cell? ⟨gz,oz+(k-1),none⟩=some (.int .i64 (l.uz c (k-1)))) w1 from ⟨(la hB1).1,(la hB1).2,pk6 (HR.k.up (iy hB1)) HaK hj,pk8 (HR.k.up (iy hB1)) HaK hj,HaR.out▸ly (HL.r.s.up (iy hB1)) HaS hcS,ly ((HL.r.z c hcS).up (iy hB1)) HaR hkR,ly ((HL.z c hcU).up (iy hB1)) HaZ hlt,ly ((HL.z c hcU).up (iy hB1)) HaZ (by omega)⟩)
        rw [show (((S.K j).b.size:Int)+9+9) / 10=(S.K j).cl from rfl]
        go_wp2_with fail
        refine ah (hK _ _ q1) ?_
        intro hHeld
        clear hK K
        refine tC 30 155 (v:=.bool false) ?_ ?_
        · exact bJ
        try simp only [Act.put,PZ]
        refine tP 31 156 ?_
        refine tP 32 157 ?_
        refine tP 33 158 ?_
        refine tC 34 159 (v:=.bool true) ?_ ?_
        · exact bJ
        try simp only [Act.put,PZ]
        refine tP 35 160 ?_
        refine tP 36 161 ?_
        refine tP 37 162 ?_
        refine tP 38 163 ?_
        refine tP 39 164 ?_
        refine tC 40 165 (v:=?_) ?_ ?_
        rotate_left
        · exact Hk
        try simp only [Act.put,PZ]
        refine tP 41 166 ?_
        refine tP 42 167 ?_
        refine tP 43 168 ?_
        refine tC 44 169 (v:=?_) ?_ ?_
        rotate_left
        · exact Hk
        try simp only [Act.put,PZ]
        refine tC 45 170 (v:=.bool true) ?_ ?_
        · exact bJ
        try simp only [Act.put,PZ]
        refine tP 46 171 ?_
        refine tP 47 172 ?_
        refine dnq ?_
        have B9:=iy hB1
        clear hHeld hB q1 hB1
        go_wp2_with fail
        go_ret
        exact ⟨iv HF.symm,B9⟩
      as_aux_lemma =>
       have hcl':((S.K j).cl != l.R.z c k)=true:=by simp [hcl]
       have HF:Hid (ok=false):=by
        rw [Hid,Bool.eq_false_iff]
        intro e
        exact hcl (((HO.1 e).z c hc2).2.2 k hlt j hj Hj).symm
       have Hcl2:=aa hcl
       clear hcl
       refine wp_region_held_drew (S:=fun w'=>w'.heap[w.heap.size]?=some (.cells S.cells 34 (0,0))∧w'.heap[w.heap.size+1]?=some (.cells l.cells 47 (0,0))∧w'.cell? ⟨gp,op+j*8+6,none⟩=some (.int .i64 (S.K j).p)∧(∀ i,i<8→w'.cell? ⟨gp,op+j*8+i,none⟩=(S.K j).cells[i]?)∧w'.cell? ⟨gs,os+c,none⟩=some (.slice (some ⟨gr,or,none⟩) (l.R.L c) (l.R.C c))∧w'.cell? ⟨gr,or+k,none⟩=some (.int .i64 (l.R.z c k))) (by kernel_rfl) ⟨(la hB.drew).1,(la hB.drew).2,pk6 (HR.k.up (iy hB.drew)) HaK hj,pk8 (HR.k.up (iy hB.drew)) HaK hj,HaR.out▸ly (HL.r.s.up (iy hB.drew)) HaS hcS,ly ((HL.r.z c hcS).up (iy hB.drew)) HaR hkR⟩ (fun hHeld=>?_)
       refine t0 ?_
       refine tF ?_
       iterate 2 refine tN ?_
       have Hcs:Hid (∀ wx:World,(fun w':World=>w'.heap[w.heap.size]?=some (.cells S.cells 34 (0,0))∧w'.heap[w.heap.size+1]?=some (.cells l.cells 47 (0,0))∧w'.cell? ⟨gp,op+j*8+6,none⟩=some (.int .i64 (S.K j).p)∧(∀ i,i<8→w'.cell? ⟨gp,op+j*8+i,none⟩=(S.K j).cells[i]?)∧w'.cell? ⟨gs,os+c,none⟩=some (.slice (some ⟨gr,or,none⟩) (l.R.L c) (l.R.C c))∧w'.cell? ⟨gr,or+k,none⟩=some (.int .i64 (l.R.z c k))) wx→wx.cell? ⟨w.heap.size+1,7,none⟩=some (.slice (some ⟨gs,os,none⟩) l.R.nS l.R.cS)∧wx.cell? ⟨w.heap.size,13,none⟩=some (.slice (some ⟨gp,op,none⟩) S.nK S.cK)∧wx.cell? ⟨gp,op+j*8+3,none⟩=some (.int .i64 (S.K j).k)∧wx.cell? ⟨gp,op+j*8+3+1,none⟩=some (.int .i64 (S.K j).d)∧wx.cell? ⟨gp,op+j*8+3+2,none⟩=some (.int .i64 (S.K j).s)∧wx.cell? ⟨gp,op+j*8+3+3,none⟩=some (.int .i64 (S.K j).p)∧wx.cell? ⟨gp,op+j*8+3+4,none⟩=some (.string (S.K j).b)):=fun wx hSw=>by
        obtain ⟨hS1,hS2,hS3,hS4,hS5,hS6⟩:=hSw
        have c7:wx.cell? ⟨w.heap.size+1,7,none⟩=some (.slice l.R.aS l.R.nS l.R.cS):=ie hS2 7
        rw [HaS.out] at c7
        have s13:wx.cell? ⟨w.heap.size,13,none⟩=some (.slice (some ⟨gp,op,none⟩) S.nK S.cK):=HaK.out▸ie hS1 13
        have p3:wx.cell? ⟨gp,op+j*8+3,none⟩=some (.int .i64 (S.K j).k):=hS4 3 (by omega)
        have p4:wx.cell? ⟨gp,op+j*8+3+1,none⟩=some (.int .i64 (S.K j).d):=hS4 4 (by omega)
        have p5:wx.cell? ⟨gp,op+j*8+3+2,none⟩=some (.int .i64 (S.K j).s):=hS4 5 (by omega)
        have p6:wx.cell? ⟨gp,op+j*8+3+3,none⟩=some (.int .i64 (S.K j).p):=hS4 6 (by omega)
        have p7:wx.cell? ⟨gp,op+j*8+3+4,none⟩=some (.string (S.K j).b):=hS4 7 (by omega)
        exact ⟨c7,s13,p3,p4,p5,p6,p7⟩
       refine tY ?_
       iterate 4 refine tN ?_
       refine tY ?_
       refine tN ?_
       refine tF ?_
       iterate 3 refine tN ?_
       refine tY ?_
       iterate 3 refine tN ?_
       refine tY ?_
       refine tP 21 146 ?_
       refine tP 22 147 ?_
       refine tC 23 148 (v:=?_) ?_ ?_
       rotate_left
       · exact Hl
       try simp only [Act.put,PZ]
       refine tP 24 149 ?_
       refine tP 25 150 ?_
       refine tC 26 151 (v:=?_) ?_ ?_
       rotate_left
       · exact Hl
       try simp only [Act.put,PZ]
       refine tP 27 152 ?_
       refine tP 28 153 ?_
       refine tC 29 154 (v:=?_) ?_ ?_
       rotate_left
       · exact Hl
       try simp only [Act.put,PZ]
       refine rq1 20 (fun K hK=>?_)
       go_simp
       refine (jr _ _ _ _ _ _ (HP.one j hj).2.2.le).mono ?_
       rintro e w1 ⟨rfl,hb⟩
       have hB1:=pj hB.drew hb
       clear hb
       have q1:_:=(show (fun w'=>w'.heap[w.heap.size]?=some (.cells S.cells 34 (0,0))∧w'.heap[w.heap.size+1]?=some (.cells l.cells 47 (0,0))∧w'.cell? ⟨gp,op+j*8+6,none⟩=some (.int .i64 (S.K j).p)∧(∀ i,i<8→w'.cell? ⟨gp,op+j*8+i,none⟩=(S.K j).cells[i]?)∧w'.cell? ⟨gs,os+c,none⟩=some (.slice (some ⟨gr,or,none⟩) (l.R.L c) (l.R.C c))∧w'.cell? ⟨gr,or+k,none⟩=some (.int .i64 (l.R.z c k))) w1 from ⟨(la hB1).1,(la hB1).2,pk6 (HR.k.up (iy hB1)) HaK hj,pk8 (HR.k.up (iy hB1)) HaK hj,HaR.out▸ly (HL.r.s.up (iy hB1)) HaS hcS,ly ((HL.r.z c hcS).up (iy hB1)) HaR hkR⟩)
       rw [show (((S.K j).b.size:Int)+9+9) / 10=(S.K j).cl from rfl]
       go_wp2_with fail
       refine ah (hK _ _ q1) ?_
       intro hHeld
       clear hK K
       refine tC 30 155 (v:=.bool true) ?_ ?_
       · exact bO
       try simp only [Act.put,PZ]
       refine tP 31 156 ?_
       refine tP 32 157 ?_
       refine sA 33 158 ?_
       refine sA 34 159 ?_
       refine sA 35 160 ?_
       refine sA 36 161 ?_
       refine sA 37 162 ?_
       refine sA 38 163 ?_
       refine sA 39 164 ?_
       refine sA 40 165 ?_
       refine sA 41 166 ?_
       refine sA 42 167 ?_
       refine sA 43 168 ?_
       refine sA 44 169 ?_
       refine sA 45 170 ?_
       refine sA 46 171 ?_
       refine tP 47 172 ?_
       refine dnq ?_
       have B9:=iy hB1
       clear hHeld hB q1 hB1
       go_wp2_with fail
       go_ret
       exact ⟨iv HF.symm,B9⟩
     as_aux_lemma =>
      have hp':((S.K j).p != (c:Int))=true:=by simp [hp]
      have HF:Hid (ok=false):=by
       rw [Hid,Bool.eq_false_iff]
       intro e
       obtain ⟨⟨j2,hj2,e2,e3⟩,_⟩:=((HO.1 e).z c hc2).1 k hlt
       exact bT
      have Hp:=aa hp
      clear hp
      refine wp_region_held_drew (S:=fun w'=>w'.heap[w.heap.size]?=some (.cells S.cells 34 (0,0))∧w'.heap[w.heap.size+1]?=some (.cells l.cells 47 (0,0))∧w'.cell? ⟨gp,op+j*8+6,none⟩=some (.int .i64 (S.K j).p)) (by kernel_rfl) ⟨(la hB.drew).1,(la hB.drew).2,pk6 (HR.k.up (iy hB.drew)) HaK hj⟩ (fun hHeld=>?_)
      refine t0 ?_
      refine tF ?_
      iterate 2 refine tN ?_
      have Hcs:Hid (∀ wx:World,(fun w':World=>w'.heap[w.heap.size]?=some (.cells S.cells 34 (0,0))∧w'.heap[w.heap.size+1]?=some (.cells l.cells 47 (0,0))∧w'.cell? ⟨gp,op+j*8+6,none⟩=some (.int .i64 (S.K j).p)) wx→wx.cell? ⟨w.heap.size,13,none⟩=some (.slice (some ⟨gp,op,none⟩) S.nK S.cK)):=fun wx hSw=>by
       obtain ⟨hS1,hS2,hS3⟩:=hSw
       have s13:wx.cell? ⟨w.heap.size,13,none⟩=some (.slice (some ⟨gp,op,none⟩) S.nK S.cK):=HaK.out▸ie hS1 13
       exact s13
      refine tX ?_
      iterate 4 refine tN ?_
      refine tX ?_
      refine tN ?_
      refine tT ?_
      iterate 2 refine tN ?_
      iterate 17 refine sN ?_
      iterate 2 refine tN ?_
      iterate 14 refine sN ?_
      refine tN ?_
      refine dnq ?_
      have B9:=iy hB.drew
      clear hHeld hB
      go_wp2_with fail
      go_ret
      exact ⟨iv HF.symm,B9⟩
    as_aux_lemma =>
     have HF:Hid (ok=false):=by
      rw [Hid,Bool.eq_false_iff]
      intro e
      obtain ⟨⟨j2,hj2,e2,e3⟩,_⟩:=((HO.1 e).z c hc2).1 k hlt
      exact hex ⟨j2,hj2,e2⟩
     have HNo:Hid (∀ i,i<S.nK→(S.K i).id≠l.uz c k):=fun i hi e=>hex ⟨i,hi,e⟩
     clear hex
     refine wp_region_held_drew (S:=fun w'=>w'.heap[w.heap.size]?=some (.cells S.cells 34 (0,0))∧w'.heap[w.heap.size+1]?=some (.cells l.cells 47 (0,0))∧w'.cell? ⟨gz,oz+k,none⟩=some (.int .i64 (l.uz c k))) (by kernel_rfl) ⟨(la hB.drew).1,(la hB.drew).2,ly ((HL.z c hcU).up (iy hB.drew)) HaZ hlt⟩ (fun hHeld=>?_)
     refine tC 0 119 (v:=.agg S.cells) ?_ ?_
     · exact bN
     try simp only [Act.put,PZ]
     iterate 4 refine tN ?_
     refine rq1 5 (fun K hK=>?_)
     go_simp
     refine (sD S (l.uz c k) _ (by omega) (HR.k.up (iy hB.drew)) HNo).mono ?_
     rintro e w1 ⟨rfl,hb⟩
     have hB1:=pj hB.drew hb
     clear hb
     have q1:_∧_∧_:=⟨(la hB1).1,(la hB1).2,ly ((HL.z c hcU).up (iy hB1)) HaZ hlt⟩
     go_wp2_with fail
     refine ah (hK _ _ q1) ?_
     intro hHeld
     clear hK K
     refine tN ?_
     refine dnq ?_
     clear q1 hHeld hB
     have hB:=hB1
     clear hB1
     go_wp2_with fail
     refine wp_region_held_drew (S:=fun w'=>w'.heap[w.heap.size]?=some (.cells S.cells 34 (0,0))∧w'.heap[w.heap.size+1]?=some (.cells l.cells 47 (0,0))) (by kernel_rfl) ⟨(la hB.drew).1,(la hB.drew).2⟩ (fun hHeld=>?_)
     refine t0 ?_
     refine tT ?_
     refine tN ?_
     iterate 9 refine sN ?_
     iterate 2 refine tN ?_
     iterate 17 refine sN ?_
     iterate 2 refine tN ?_
     iterate 14 refine sN ?_
     refine tN ?_
     refine dnq ?_
     have B9:=iy hB.drew
     clear hHeld hB
     go_wp2_with fail
     go_ret
     exact ⟨iv HF.symm,B9⟩
   obtain rfl:k=l.uL c:=by omega
   have hge:¬ ((l.uL c:Nat):Int)<((l.uL c:Nat):Int):=by omega
   have HQp:Hid (yO S.nK S.K l c):=⟨HQ.1,Hln.out,HQ.2⟩
   go_wp2_with fail
   go_roundw
   case rel=>exact ⟨c+1,by omega,by go_num,fun i hi=>by
    by_cases e:i=c
    ·
     subst e;exact HQp.out
    ·
     exact HA i (by omega),hB⟩
   case measure=>simp [intOf];omega
  have hln':((l.uL c:Int) != (l.R.L c:Int))=true:=by simp;omega
  have hln2:¬ ((l.uL c:Int)=(l.R.L c:Int)):=by omega
  have HF:Hid (ok=false):=by
   rw [Hid,Bool.eq_false_iff]
   intro e
   exact hln ((HO.1 e).z c hc2).2.1
  have B9:=iy hB
  clear hln
  exact bx
 obtain rfl:c=2:=by omega
 have HT:Hid (ok=true):=HO.2 ⟨HRo.out,HQ2.out,H0.out,H1.out,HU.out,fun c hc=>HA c hc,HAt.out⟩
 have B9:=iy hB
 go_wp2_with fail
 go_ret
 exact ⟨iv HT.symm,B9⟩
