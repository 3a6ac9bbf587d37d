import Derived.Test.YtjippgbmmlcgoaaGreatDoorB16
import Derived.Test.YtjippgbmmlcgoaaGreatDoorB17
import Derived.Deep.Cut
import Derived.Deep.DeepCutAuto
namespace Go.Proofs.YtjippgbmmlcgoaaGreatDoor
set_option maxRecDepth 100000
open Go.RowKit
set_option linter.unusedVariables false
set_option linter.unusedSimpArgs false
variable {p:Prop}
theorem Hm (h:p:=by
 intro wx hSw
 obtain ⟨hS1,hS2⟩:=hSw
 have p1:wx.cell? ⟨bP,1,none⟩=some (.int .i64 (S.K k).inn):=ie hS1 1
 rw [Hin.out] at p1
 go_simp
 try with_reducible rfl):p:=h
theorem bW (h:p:=by
 intro wx hSw
 obtain ⟨hS1,hS2,hS3,hS4,hS5⟩:=hSw
 exact zx 47 (.tmp 253) rfl gl (ol+i*8) rfl _ (A6 hS5)):p:=h
theorem bX (h:p:=by
 have B9:=under hB
 exact bx):p:=h
theorem bY (h:p:=by
 intro h hp
 have:=hp.1.2.2.2
 rw [this] at h
 simp at h):p:=h
theorem bZ (h:p:=by
 intro wx hSw
 obtain ⟨hS1,hS2,hS3,hS4,hS5⟩:=hSw
 exact bw):p:=h
theorem cj (h:p:=by
 subst e;exact ⟨Hpk.out,Hrf.out⟩):p:=h
theorem Gz {w:World} {a:Option Addr} {n g o k:Nat} {f:Nat→Ent} (h:lD w a n f) (ha:a=some ⟨g,o,none⟩) (hk:k<n):w.cell? ⟨g,o+k*3+1,none⟩=some (.int .i64 (f k).p)∧w.cell? ⟨g,o+k*3+2,none⟩=some (.int .i64 (f k).t):=by
 obtain ⟨g',o',e,_,h2,h3⟩:=h k hk
 rw [ha] at e
 cases e
 exact ⟨h2,h3⟩
def GF (S:Swg) (w:World) (gU gC k bP:Nat) (v:Value) (wc:World):Prop:=∃ bb:Bool,v=.bool bb∧(bb=true↔¬ pkP S k)∧nO S w gU gC k wc∧wc.heap[bP]?=some (.cells (S.K k).cells 51 (0,0))
set_option maxHeartbeats 40000000 in
theorem nj (S:Swg) (w:World) (hs:S.Small) (hr:lr w S) (ok:Bool) (hok:ok=true↔S.Ok) :
  Calls Tryz.prog 21 #[.agg S.cells] w fun e w'=>e=.returned (.bool ok)∧Below w.heap.size w w':=by
 have HO:=aa hok
 have HR:=aa hr
 have HSm:=aa hs
 have Hbs:=aa hs.b
 have hnK0:S.nK≤1048576:=hs.k
 have hnL0:S.nL≤1048576:=hs.l
 have hnE0:S.nE≤1048576:=hs.e
 obtain ⟨b0,h0⟩:=ju (Cnt.Ok S.C S.N)
 have G0:=aa h0
 obtain ⟨W,eW⟩:∃ W,(w.alloc (.cells S.cells 34))=W:=⟨_,rfl⟩
 have hB:Below (w.heap.size+1) (w.alloc (.cells S.cells 34)) W:=by rw [eW];exact Below.refl _ _
 have c0:W.cell? ⟨w.heap.size,0,none⟩=some (.int .i64 S.C.p):=ie (iZ hB) 0
 have c1:W.cell? ⟨w.heap.size,1,none⟩=some (.int .i64 S.C.c):=ie (iZ hB) 1
 have c2:W.cell? ⟨w.heap.size,2,none⟩=some (.int .i64 S.C.xo):=ie (iZ hB) 2
 have c3:W.cell? ⟨w.heap.size,3,none⟩=some (.int .i64 S.C.xn):=ie (iZ hB) 3
 have c4:W.cell? ⟨w.heap.size,4,none⟩=some (.int .i64 S.C.hd):=ie (iZ hB) 4
 have c5:W.cell? ⟨w.heap.size,5,none⟩=some (.int .i64 S.C.lo):=ie (iZ hB) 5
 have c6:W.cell? ⟨w.heap.size,6,none⟩=some (.int .i64 S.C.dl):=ie (iZ hB) 6
 have c10:W.cell? ⟨w.heap.size,10,none⟩=some (.slice S.N.aU S.N.nU S.N.cU):=ie (iZ hB) 10
 have c11:W.cell? ⟨w.heap.size,11,none⟩=some (.int .i64 S.N.lo):=ie (iZ hB) 11
 have c12:W.cell? ⟨w.heap.size,12,none⟩=some (.slice S.N.aP S.N.nP S.N.cP):=ie (iZ hB) 12
 clear hok hr hs h0
 go_enter Tryz.func21,Tryz.ntmps21
 go_wp2_with fail
 clear eW
 refine (nk S.C S.N _ HSm.n.fit (HR.n.up (under hB)) b0 G0.out).mono ?_
 rintro e w1 ⟨rfl,hb⟩
 replace hB:=next hB hb
 clear hb c0 c1 c2 c3 c4 c5 c6 c10 c11 c12
 cases b0
 ·
  have HF:Hid (ok=false):=by
   rw [Hid,Bool.eq_false_iff]
   intro e
   exact absurd (G0.out.2 (HO.1 e).n) (by simp)
  exact bX
 have P0:Hid (Cnt.Ok S.C S.N):=G0.out.1 rfl
 clear G0
 have hcf:=P0.out.cfg.1
 have c0:w1.cell? ⟨w.heap.size,0,none⟩=some (.int .i64 S.C.p):=ie (iZ hB) 0
 have c7:w1.cell? ⟨w.heap.size,7,none⟩=some (.int .i64 S.now):=ie (iZ hB) 7
 have c8:w1.cell? ⟨w.heap.size,8,none⟩=some (.int .i64 S.nx):=ie (iZ hB) 8
 have c9:w1.cell? ⟨w.heap.size,9,none⟩=some (.slice S.aE S.nE S.cE):=ie (iZ hB) 9
 have c13:w1.cell? ⟨w.heap.size,13,none⟩=some (.slice S.aK S.nK S.cK):=ie (iZ hB) 13
 have c14:w1.cell? ⟨w.heap.size,14,none⟩=some (.slice S.aL S.nL S.cL):=ie (iZ hB) 14
 have c15:w1.cell? ⟨w.heap.size,15,none⟩=some (.int .i64 S.dr):=ie (iZ hB) 15
 have c16:w1.cell? ⟨w.heap.size,16,none⟩=some (.int .i64 S.lst):=ie (iZ hB) 16
 go_wp2_with fail
 refine (iB _ _ _ _).mono ?_
 rintro e wq ⟨rfl,hwq⟩
 rw [hwq]
 clear hwq wq
 by_cases hvnow:0≤S.now∧S.now≤1000000000
 rotate_left
 ·
  rw [decide_eq_false hvnow]
  have HF:Hid (ok=false):=by
   rw [Hid,Bool.eq_false_iff]
   intro e
   exact hvnow (HO.1 e).nums.now
  have Hv:=aa hvnow
  clear hvnow
  exact bX
 rw [decide_eq_true hvnow]
 have Hvnow:=aa hvnow
 clear hvnow
 go_wp2_with fail
 refine (iB _ _ _ _).mono ?_
 rintro e wq ⟨rfl,hwq⟩
 rw [hwq]
 clear hwq wq
 by_cases hvnx:1≤S.nx∧S.nx≤1000000000
 rotate_left
 ·
  rw [decide_eq_false hvnx]
  have HF:Hid (ok=false):=by
   rw [Hid,Bool.eq_false_iff]
   intro e
   exact hvnx (HO.1 e).nums.nx
  have Hv:=aa hvnx
  clear hvnx
  exact bX
 rw [decide_eq_true hvnx]
 have Hvnx:=aa hvnx
 clear hvnx
 obtain ⟨tk,htk⟩:=sb S.nE S.e
 have HT:=aa htk
 clear htk
 go_wp2_with fail
 refine (qX S.aE S.nE S.cE S.e _ (by have:=HSm.e;unfold maxLen;omega) (HR.e.up (under hB)) tk HT).mono ?_
 rintro e w2 ⟨rfl,hb⟩
 replace hB:=next hB hb
 clear hb c0 c7 c8 c9 c13 c14 c15 c16
 cases tk
 ·
  have HF:Hid (ok=false):=by
   rw [Hid,Bool.eq_false_iff]
   intro e
   exact absurd (HT.2 (HO.1 e).seen.1) (by simp)
  exact bX
 have HT2:Hid (mA S.nE S.e):=HT.1 rfl
 clear HT
 have c0:w2.cell? ⟨w.heap.size,0,none⟩=some (.int .i64 S.C.p):=ie (iZ hB) 0
 have c13:w2.cell? ⟨w.heap.size,13,none⟩=some (.slice S.aK S.nK S.cK):=ie (iZ hB) 13
 have c14:w2.cell? ⟨w.heap.size,14,none⟩=some (.slice S.aL S.nL S.cL):=ie (iZ hB) 14
 have c15:w2.cell? ⟨w.heap.size,15,none⟩=some (.int .i64 S.dr):=ie (iZ hB) 15
 have c16:w2.cell? ⟨w.heap.size,16,none⟩=some (.int .i64 S.lst):=ie (iZ hB) 16
 by_cases hnl:(S.nL:Int)=S.C.p
 rotate_left
 ·
  have hnl':((S.nL:Int) != S.C.p)=true:=by simp [hnl]
  have HF:Hid (ok=false):=by
   rw [Hid,Bool.eq_false_iff]
   intro e
   exact hnl (HO.1 e).nl
  have Hnl:=aa hnl
  clear hnl
  exact bX
 have hnl':((S.nL:Int) != S.C.p)=false:=by simp [hnl]
 have Hnl:=aa hnl
 clear hnl
 by_cases hnk:S.nK≤1000
 rotate_left
 ·
  have hnk':(1000:Int)<(S.nK:Int):=by omega
  have HF:Hid (ok=false):=by
   rw [Hid,Bool.eq_false_iff]
   intro e
   exact hnk (HO.1 e).k.le
  clear hnk
  exact bX
 have hnk':¬ (1000:Int)<(S.nK:Int):=by omega
 go_wp2_with fail
 refine (iB _ _ _ _).mono ?_
 rintro e wq ⟨rfl,hwq⟩
 rw [hwq]
 clear hwq wq
 by_cases hvdr:0≤S.dr∧S.dr≤1000000000
 rotate_left
 ·
  rw [decide_eq_false hvdr]
  have HF:Hid (ok=false):=by
   rw [Hid,Bool.eq_false_iff]
   intro e
   exact hvdr (HO.1 e).nums.dr
  have Hv:=aa hvdr
  clear hvdr
  exact bX
 rw [decide_eq_true hvdr]
 have Hvdr:=aa hvdr
 clear hvdr
 go_wp2_with fail
 refine (iB _ _ _ _).mono ?_
 rintro e wq ⟨rfl,hwq⟩
 rw [hwq]
 clear hwq wq
 by_cases hvlst:0≤S.lst∧S.lst≤1000000000
 rotate_left
 ·
  rw [decide_eq_false hvlst]
  have HF:Hid (ok=false):=by
   rw [Hid,Bool.eq_false_iff]
   intro e
   exact hvlst (HO.1 e).nums.lst
  have Hv:=aa hvlst
  clear hvlst
  exact bX
 rw [decide_eq_true hvlst]
 have Hvlst:=aa hvlst
 clear hvlst
 have HNu:Hid S.Fl:=⟨Hvnow.out,Hvnx.out,Hvdr.out,Hvlst.out⟩
 have hnE:S.nE≤8:=HT2.1
 clear hnl' hnk' c0 c13 c15 c16 c14
 have c9:w2.cell? ⟨w.heap.size,9,none⟩=some (.slice S.aE S.nE S.cE):=ie (iZ hB) 9
 go_wp2_with fail
 clear c9
 go_loopw [3] (fun x wr=>∃ k:Nat,k≤S.nE∧x=.int .i64 k∧(∀ i,i<k→(S.e i).p<S.C.p∧(S.e i).t≤S.now)∧Below (w.heap.size+1) (w.alloc (.cells S.cells 34)) wr) (fun x _=>S.nE-(intOf x).toNat)
 case atStart=>exact ⟨0,Nat.zero_le _,rfl,fun i hi=>by omega,hB⟩
 as_aux_lemma =>
  clear hB
  obtain ⟨k,hk,rfl,hall,hB⟩:=hrel
  have HA:=aa hall
  clear hall
  have c9:wr.cell? ⟨w.heap.size,9,none⟩=some (.slice S.aE S.nE S.cE):=ie (iZ hB) 9
  by_cases hlt:k<S.nE
  ·
   have hlt':(k:Int)<S.nE:=by omega
   obtain ⟨g,o,ea,_⟩:=HR.e k hlt
   have HaE:=aa ea
   clear ea
   go_wp2_with fail
   clear c9
   by_cases h5:(S.e k).p<S.C.p
   ·
    have h5':¬ S.C.p≤(S.e k).p:=by omega
    by_cases h6:(S.e k).t≤S.now
    ·
     as_aux_lemma =>
      have h6':¬ S.now<(S.e k).t:=by omega
      refine wp_region_held_drew (S:=fun w'=>w'.heap[w.heap.size]?=some (.cells S.cells 34 (0,0))∧w'.cell? ⟨g,o+k*3+1,none⟩=some (.int .i64 (S.e k).p)∧w'.cell? ⟨g,o+k*3+2,none⟩=some (.int .i64 (S.e k).t)) (by kernel_rfl) ⟨iZ hB.drew,Gz (HR.e.up (under hB.drew)) HaE hlt⟩ (fun hHeld=>?_)
      refine t0 ?_
      have Hcs:Hid (∀ wx:World,(fun w':World=>w'.heap[w.heap.size]?=some (.cells S.cells 34 (0,0))∧w'.cell? ⟨g,o+k*3+1,none⟩=some (.int .i64 (S.e k).p)∧w'.cell? ⟨g,o+k*3+2,none⟩=some (.int .i64 (S.e k).t)) wx→wx.cell? ⟨w.heap.size,0,none⟩=some (.int .i64 S.C.p)∧wx.cell? ⟨w.heap.size,7,none⟩=some (.int .i64 S.now)∧wx.cell? ⟨w.heap.size,9,none⟩=some (.slice (some ⟨g,o,none⟩) S.nE S.cE)):=fun wx hSw=>by
       obtain ⟨hS1,hS2,hS3⟩:=hSw
       have c0:wx.cell? ⟨w.heap.size,0,none⟩=some (.int .i64 S.C.p):=ie hS1 0
       have c7:wx.cell? ⟨w.heap.size,7,none⟩=some (.int .i64 S.now):=ie hS1 7
       have c9:wx.cell? ⟨w.heap.size,9,none⟩=some (.slice S.aE S.nE S.cE):=ie hS1 9
       rw [HaE.out] at c9
       exact ⟨c0,c7,c9⟩
      iterate 8 refine tX ?_
      refine tF ?_
      iterate 9 refine tX ?_
      refine tF ?_
      refine tN ?_
      refine dnq ?_
      have hB9:=hB.drew
      clear hHeld hB
      go_wp2_with fail
      go_roundw
      case rel=>exact ⟨k+1,by omega,by go_num,fun i hi=>by
       by_cases e:i=k
       ·
        subst e;exact ⟨h5,h6⟩
       ·
        exact HA i (by omega),hB9⟩
      case measure=>simp [intOf];omega
    as_aux_lemma =>
     have h6':S.now<(S.e k).t:=by omega
     have HF:Hid (ok=false):=by
      rw [Hid,Bool.eq_false_iff]
      intro e
      exact h6 ((HO.1 e).seen.2 k hlt).2
     refine wp_region_held_drew (S:=fun w'=>w'.heap[w.heap.size]?=some (.cells S.cells 34 (0,0))∧w'.cell? ⟨g,o+k*3+1,none⟩=some (.int .i64 (S.e k).p)∧w'.cell? ⟨g,o+k*3+2,none⟩=some (.int .i64 (S.e k).t)) (by kernel_rfl) ⟨iZ hB.drew,Gz (HR.e.up (under hB.drew)) HaE hlt⟩ (fun hHeld=>?_)
     refine t0 ?_
     have Hcs:Hid (∀ wx:World,(fun w':World=>w'.heap[w.heap.size]?=some (.cells S.cells 34 (0,0))∧w'.cell? ⟨g,o+k*3+1,none⟩=some (.int .i64 (S.e k).p)∧w'.cell? ⟨g,o+k*3+2,none⟩=some (.int .i64 (S.e k).t)) wx→wx.cell? ⟨w.heap.size,0,none⟩=some (.int .i64 S.C.p)∧wx.cell? ⟨w.heap.size,7,none⟩=some (.int .i64 S.now)∧wx.cell? ⟨w.heap.size,9,none⟩=some (.slice (some ⟨g,o,none⟩) S.nE S.cE)):=fun wx hSw=>by
      obtain ⟨hS1,hS2,hS3⟩:=hSw
      have c0:wx.cell? ⟨w.heap.size,0,none⟩=some (.int .i64 S.C.p):=ie hS1 0
      have c7:wx.cell? ⟨w.heap.size,7,none⟩=some (.int .i64 S.now):=ie hS1 7
      have c9:wx.cell? ⟨w.heap.size,9,none⟩=some (.slice S.aE S.nE S.cE):=ie hS1 9
      rw [HaE.out] at c9
      exact ⟨c0,c7,c9⟩
     iterate 8 refine tX ?_
     refine tF ?_
     iterate 9 refine tX ?_
     refine tT ?_
     refine tN ?_
     refine dnq ?_
     have B9:=under hB.drew
     clear hHeld hB
     go_wp2_with fail
     go_ret
     exact ⟨iv HF.symm,B9⟩
   as_aux_lemma =>
    have h5':S.C.p≤(S.e k).p:=by omega
    have HF:Hid (ok=false):=by
     rw [Hid,Bool.eq_false_iff]
     intro e
     exact h5 ((HO.1 e).seen.2 k hlt).1
    refine wp_region_held_drew (S:=fun w'=>w'.heap[w.heap.size]?=some (.cells S.cells 34 (0,0))∧w'.cell? ⟨g,o+k*3+1,none⟩=some (.int .i64 (S.e k).p)∧w'.cell? ⟨g,o+k*3+2,none⟩=some (.int .i64 (S.e k).t)) (by kernel_rfl) ⟨iZ hB.drew,Gz (HR.e.up (under hB.drew)) HaE hlt⟩ (fun hHeld=>?_)
    refine t0 ?_
    have Hcs:Hid (∀ wx:World,(fun w':World=>w'.heap[w.heap.size]?=some (.cells S.cells 34 (0,0))∧w'.cell? ⟨g,o+k*3+1,none⟩=some (.int .i64 (S.e k).p)∧w'.cell? ⟨g,o+k*3+2,none⟩=some (.int .i64 (S.e k).t)) wx→wx.cell? ⟨w.heap.size,0,none⟩=some (.int .i64 S.C.p)∧wx.cell? ⟨w.heap.size,7,none⟩=some (.int .i64 S.now)∧wx.cell? ⟨w.heap.size,9,none⟩=some (.slice (some ⟨g,o,none⟩) S.nE S.cE)):=fun wx hSw=>by
     obtain ⟨hS1,hS2,hS3⟩:=hSw
     have c0:wx.cell? ⟨w.heap.size,0,none⟩=some (.int .i64 S.C.p):=ie hS1 0
     have c7:wx.cell? ⟨w.heap.size,7,none⟩=some (.int .i64 S.now):=ie hS1 7
     have c9:wx.cell? ⟨w.heap.size,9,none⟩=some (.slice S.aE S.nE S.cE):=ie hS1 9
     rw [HaE.out] at c9
     exact ⟨c0,c7,c9⟩
    iterate 8 refine tX ?_
    refine tT ?_
    refine tN ?_
    iterate 9 refine sN ?_
    refine tN ?_
    refine dnq ?_
    have B9:=under hB.drew
    clear hHeld hB
    go_wp2_with fail
    go_ret
    exact ⟨iv HF.symm,B9⟩
  obtain rfl:k=S.nE:=by omega
  have hge:¬ ((S.nE:Nat):Int)<((S.nE:Nat):Int):=by omega
  have HSe:Hid S.seen:=⟨HT2.out,HA.out⟩
  have HNn:=aa P0.out.nU
  have hnU4:S.N.nU≤4:=by have:=HNn.out;omega
  have HSw:=aa (Gi P0.out HNu HSe hnk Hnl.out)
  have HnL:Hid (S.nL=S.N.nU):=by have:=HNn.out;have:=Hnl.out;show S.nL=S.N.nU;omega
  have c0:wr.cell? ⟨w.heap.size,0,none⟩=some (.int .i64 (S.N.nU:Int)):=(boxed hB 0).trans (by rw [HNn.out];rfl)
  have mk:∀ W,_:=pT S.N.nU (by omega)
  have kZ:=im wr (.cells (jV S.N.nU) 2)
  have HH0:Hid (nO S w wr.heap.size (wr.heap.size+1) 0 ((wr.alloc (.cells (jV S.N.nU) 2)).alloc (.cells #[.slice (some ⟨wr.heap.size,0,none⟩) S.N.nU S.N.nU,.int .i64 0,.slice none 0 0] 30))):=by
   have hbZ:=(Below.refl wr.heap.size wr).alloc (Nat.le_refl _) (.cells (jV S.N.nU) 2)
   have hbW:=(Below.refl (wr.alloc (.cells (jV S.N.nU) 2)).heap.size (wr.alloc (.cells (jV S.N.nU) 2))).alloc (Nat.le_refl _) (.cells #[.slice (some ⟨wr.heap.size,0,none⟩) S.N.nU S.N.nU,.int .i64 0,.slice none 0 0] 30)
   refine ⟨?_,?_,next (next hB hbZ) hbW,by have:=upper hB;omega,by omega⟩
   ·
    have:=im (wr.alloc (.cells (jV S.N.nU) 2)) (.cells #[.slice (some ⟨wr.heap.size,0,none⟩) S.N.nU S.N.nU,.int .i64 0,.slice none 0 0] 30)
    rw [show (wr.alloc (.cells (jV S.N.nU) 2)).heap.size=wr.heap.size+1 by simp] at this
    exact this
   have hz:=pL kZ
   exact (hz.jQ (hbW.block _ hz.lt)).AM (fun i _=>rfl)
  clear kZ
  go_wp2_with fail
  generalize (wr.alloc (.cells (jV S.N.nU) 2)).alloc (.cells #[.slice (some ⟨wr.heap.size,0,none⟩) S.N.nU S.N.nU,.int .i64 0,.slice none 0 0] 30)=W0 at *
  clear mk c0 c9 hB hge HA
  generalize wr.heap.size=gU at *
  obtain ⟨gC,egC⟩:∃ gC,gU+1=gC:=⟨_,rfl⟩
  rw [egC] at HH0
  try rw [egC]
  clear egC
  go_loopw [5] (fun x wr=>∃ k:Nat,k≤S.nK∧x=.int .i64 k∧(∀ i,i<k→pkP S i∧rfP S i)∧nO S w gU gC k wr) (fun x _=>S.nK-(intOf x).toNat)
  case atStart=>exact ⟨0,Nat.zero_le _,rfl,fun i hi=>by omega,HH0.out⟩
  as_aux_lemma =>
   clear HH0
   obtain ⟨k,hk,rfl,hall,hH⟩:=hrel
   have HA:=aa hall
   have HH:=aa hH
   clear hall hH
   by_cases hlt:k<S.nK
   ·
    have hlt':(k:Int)<S.nK:=by omega
    have hB:=HH.b
    obtain ⟨g,o,ea,hc⟩:=(HR.up (under hB)).k k hlt
    have HaK:=aa ea
    have c13:wr.cell? ⟨w.heap.size,13,none⟩=some (.slice (some ⟨g,o,none⟩) S.nK S.cK):=(boxed hB 13).trans (by rw [←ea];rfl)
    obtain ⟨V,eV⟩:∃ V,wr.alloc (.cells (S.K k).cells 51)=V:=⟨_,rfl⟩
    have hbV:Below wr.heap.size wr V:=by rw [←eV];exact (Below.refl _ _).alloc (Nat.le_refl _) _
    have kV:V.heap[wr.heap.size]?=some (.cells (S.K k).cells 51 (0,0)):=by rw [←eV];exact im _ _
    have HV:=aa (HH.up hbV)
    have HbP:=aa (ig HH.c)
    clear hbV ea hB HH
    go_wp2_with (first | refine lx rfl (.tmp 105) rfl g (o+k*8) rfl (S.K k) hc ?_ | refine jo 51 8 rq rfl (.tmp 6) (.tmp 106) rfl (S.K k).cells _ rfl rfl rfl rfl rfl (Pkt.one _) (eV▸?_))
    clear hc c13 eV
    generalize wr.heap.size=bP at *
    dsimp only [Act.put]
    go_cut [151] (fun v wc=>GF S w gU gC k bP v wc)
    case first =>
     have kS0:=iZ HV.drew.b
     have kP0:V.drew.heap[bP]?=some (.cells (S.K k).cells 51 (0,0)):=kV
     have hnx:=HNu.nx
     have hw1:IntKind.i64.wrap (S.nx-1)=S.nx-1:=jS _ (by omega) (by omega)
     have hw2:IntKind.i64.wrap (S.C.p-1)=S.C.p-1:=jS _ (by omega) (by omega)
     have hw3:IntKind.i64.wrap ((k:Int)-1)=(k:Int)-1:=jS _ (by omega) (by omega)
     have HpP:Hid (0<k→V.drew.cell? ⟨g,o+(k-1)*8,none⟩=some (.int .i64 (S.K (k-1)).id)):=fun h0=>by
      have:=pk8 (HR.k.up (under HV.drew.b)) HaK (show k-1<S.nK by omega) 0 (by omega)
      rw [Nat.add_zero] at this
      exact this
     by_cases hid:1≤(S.K k).id∧(S.K k).id≤S.nx-1
     rotate_left
     ·
      as_aux_lemma =>
       have HN:Hid (¬ pkP S k):=fun h=>hid h.1.1
       refine wp_region_held_drew (S:=fun w'=>w'.heap[w.heap.size]?=some (.cells S.cells 34 (0,0))∧w'.heap[bP]?=some (.cells (S.K k).cells 51 (0,0))) (by kernel_rfl) ⟨kS0,kP0⟩ (fun hHeld=>?_)
       refine t0 ?_
       have Hcs:Hid (∀ wx:World,(fun w':World=>w'.heap[w.heap.size]?=some (.cells S.cells 34 (0,0))∧w'.heap[bP]?=some (.cells (S.K k).cells 51 (0,0))) wx→wx.cell? ⟨bP,0,none⟩=some (.int .i64 (S.K k).id)∧wx.cell? ⟨w.heap.size,8,none⟩=some (.int .i64 S.nx)):=fun wx hSw=>by
        obtain ⟨hS1,hS2⟩:=hSw
        have p0:wx.cell? ⟨bP,0,none⟩=some (.int .i64 (S.K k).id):=ie hS2 0
        have c8:wx.cell? ⟨w.heap.size,8,none⟩=some (.int .i64 S.nx):=ie hS1 8
        exact ⟨p0,c8⟩
       iterate 4 refine tX ?_
       refine rq1 5 (fun K hK=>?_)
       go_simp
       refine (iB _ _ _ _).mono ?_
       rintro e wq ⟨rfl,hwq⟩
       subst hwq
       rw [decide_eq_false hid]
       go_wp2_with fail
       refine ah (hK _ _ ⟨kS0,kP0⟩) ?_
       intro hHeld
       clear hK K
       iterate 2 refine tN ?_
       iterate 14 refine sN ?_
       iterate 2 refine tN ?_
       iterate 8 refine sN ?_
       iterate 2 refine tN ?_
       iterate 4 refine sN ?_
       iterate 2 refine tN ?_
       iterate 4 refine sN ?_
       refine tN ?_
       refine dnq ?_
       clear hHeld
       go_wp2_with fail
       go_meet
       case rel=>exact ⟨true,rfl,⟨fun _=>HN.out,fun _=>rfl⟩,HV.drew,kP0⟩
     by_cases hk0:k=0
     ·
      subst hk0
      have hk0':¬ (0:Int)<((0:Nat):Int):=by omega
      by_cases hin:0≤(S.K 0).inn∧(S.K 0).inn≤S.C.p-1
      rotate_left
      ·
       as_aux_lemma =>
        have HN:Hid (¬ pkP S 0):=fun h=>hin h.1.2.1
        refine wp_region_held_drew (S:=fun w'=>w'.heap[w.heap.size]?=some (.cells S.cells 34 (0,0))∧w'.heap[bP]?=some (.cells (S.K 0).cells 51 (0,0))) (by kernel_rfl) ⟨kS0,kP0⟩ (fun hHeld=>?_)
        refine t0 ?_
        have Hcs:Hid (∀ wx:World,(fun w':World=>w'.heap[w.heap.size]?=some (.cells S.cells 34 (0,0))∧w'.heap[bP]?=some (.cells (S.K 0).cells 51 (0,0))) wx→wx.cell? ⟨bP,0,none⟩=some (.int .i64 (S.K 0).id)∧wx.cell? ⟨w.heap.size,8,none⟩=some (.int .i64 S.nx)∧wx.cell? ⟨bP,1,none⟩=some (.int .i64 (S.K 0).inn)∧wx.cell? ⟨w.heap.size,0,none⟩=some (.int .i64 S.C.p)):=fun wx hSw=>by
         obtain ⟨hS1,hS2⟩:=hSw
         have p0:wx.cell? ⟨bP,0,none⟩=some (.int .i64 (S.K 0).id):=ie hS2 0
         have c8:wx.cell? ⟨w.heap.size,8,none⟩=some (.int .i64 S.nx):=ie hS1 8
         have p1:wx.cell? ⟨bP,1,none⟩=some (.int .i64 (S.K 0).inn):=ie hS2 1
         have c0:wx.cell? ⟨w.heap.size,0,none⟩=some (.int .i64 S.C.p):=ie hS1 0
         exact ⟨p0,c8,p1,c0⟩
        iterate 4 refine tX ?_
        refine rq1 5 (fun K hK=>?_)
        go_simp
        refine (iB _ _ _ _).mono ?_
        rintro e wq ⟨rfl,hwq⟩
        subst hwq
        rw [decide_eq_true hid]
        go_wp2_with fail
        refine ah (hK _ _ ⟨kS0,kP0⟩) ?_
        intro hHeld
        clear hK K
        iterate 3 refine tN ?_
        refine tF ?_
        refine tN ?_
        iterate 10 refine sN ?_
        iterate 9 refine tX ?_
        refine rq1 30 (fun K hK=>?_)
        go_simp
        refine (iB _ _ _ _).mono ?_
        rintro e wq ⟨rfl,hwq⟩
        subst hwq
        rw [decide_eq_false hin]
        go_wp2_with fail
        refine ah (hK _ _ ⟨kS0,kP0⟩) ?_
        intro hHeld
        clear hK K
        iterate 3 refine tN ?_
        iterate 4 refine sN ?_
        iterate 2 refine tN ?_
        iterate 4 refine sN ?_
        refine tN ?_
        refine dnq ?_
        clear hHeld
        go_wp2_with fail
        go_meet
        case rel=>exact ⟨true,rfl,⟨fun _=>HN.out,fun _=>rfl⟩,HV.drew,kP0⟩
      by_cases hkd:(S.K 0).k=1
      rotate_left
      ·
       as_aux_lemma =>
        have hkd':((S.K 0).k != 1)=true:=by simp [hkd]
        have HN:Hid (¬ pkP S 0):=fun h=>hkd h.1.2.2.1
        have Hkd:=aa hkd
        clear hkd
        refine wp_region_held_drew (S:=fun w'=>w'.heap[w.heap.size]?=some (.cells S.cells 34 (0,0))∧w'.heap[bP]?=some (.cells (S.K 0).cells 51 (0,0))) (by kernel_rfl) ⟨kS0,kP0⟩ (fun hHeld=>?_)
        refine t0 ?_
        have Hcs:Hid (∀ wx:World,(fun w':World=>w'.heap[w.heap.size]?=some (.cells S.cells 34 (0,0))∧w'.heap[bP]?=some (.cells (S.K 0).cells 51 (0,0))) wx→wx.cell? ⟨bP,0,none⟩=some (.int .i64 (S.K 0).id)∧wx.cell? ⟨w.heap.size,8,none⟩=some (.int .i64 S.nx)∧wx.cell? ⟨bP,1,none⟩=some (.int .i64 (S.K 0).inn)∧wx.cell? ⟨w.heap.size,0,none⟩=some (.int .i64 S.C.p)∧wx.cell? ⟨bP,3,none⟩=some (.int .i64 (S.K 0).k)):=fun wx hSw=>by
         obtain ⟨hS1,hS2⟩:=hSw
         have p0:wx.cell? ⟨bP,0,none⟩=some (.int .i64 (S.K 0).id):=ie hS2 0
         have c8:wx.cell? ⟨w.heap.size,8,none⟩=some (.int .i64 S.nx):=ie hS1 8
         have p1:wx.cell? ⟨bP,1,none⟩=some (.int .i64 (S.K 0).inn):=ie hS2 1
         have c0:wx.cell? ⟨w.heap.size,0,none⟩=some (.int .i64 S.C.p):=ie hS1 0
         have p3:wx.cell? ⟨bP,3,none⟩=some (.int .i64 (S.K 0).k):=ie hS2 3
         exact ⟨p0,c8,p1,c0,p3⟩
        iterate 4 refine tX ?_
        refine rq1 5 (fun K hK=>?_)
        go_simp
        refine (iB _ _ _ _).mono ?_
        rintro e wq ⟨rfl,hwq⟩
        subst hwq
        rw [decide_eq_true hid]
        go_wp2_with fail
        refine ah (hK _ _ ⟨kS0,kP0⟩) ?_
        intro hHeld
        clear hK K
        iterate 3 refine tN ?_
        refine tF ?_
        refine tN ?_
        iterate 10 refine sN ?_
        iterate 9 refine tX ?_
        refine rq1 30 (fun K hK=>?_)
        go_simp
        refine (iB _ _ _ _).mono ?_
        rintro e wq ⟨rfl,hwq⟩
        subst hwq
        rw [decide_eq_true hin]
        go_wp2_with fail
        refine ah (hK _ _ ⟨kS0,kP0⟩) ?_
        intro hHeld
        clear hK K
        iterate 6 refine tX ?_
        refine tT ?_
        iterate 2 refine tN ?_
        iterate 4 refine sN ?_
        refine tN ?_
        refine dnq ?_
        clear hHeld
        go_wp2_with fail
        go_meet
        case rel=>exact ⟨true,rfl,⟨fun _=>HN.out,fun _=>rfl⟩,HV.drew,kP0⟩
      have hkd':((S.K 0).k != 1)=false:=by simp [hkd]
      have Hkd:=aa hkd
      have HN:Hid ((!mc (S.K 0).k (S.K 0).d (S.K 0).s (S.K 0).p (S.K 0).b.size)=true↔¬ pkP S 0):=by
       have hu:0<0→(S.K (0-1)).id<(S.K 0).id:=fun h=>absurd h (by omega)
       rw [Hid]
       constructor
       · exact bY
       intro h
       cases hf:mc (S.K 0).k (S.K 0).d (S.K 0).s (S.K 0).p (S.K 0).b.size
       ·
        rfl
       exact absurd ⟨⟨hid,hin,hkd,hf⟩,hu⟩ h
      clear hkd
      as_aux_lemma =>
       refine wp_region_held_drew (S:=fun w'=>w'.heap[w.heap.size]?=some (.cells S.cells 34 (0,0))∧w'.heap[bP]?=some (.cells (S.K 0).cells 51 (0,0))) (by kernel_rfl) ⟨kS0,kP0⟩ (fun hHeld=>?_)
       refine t0 ?_
       have Hcs:Hid (∀ wx:World,(fun w':World=>w'.heap[w.heap.size]?=some (.cells S.cells 34 (0,0))∧w'.heap[bP]?=some (.cells (S.K 0).cells 51 (0,0))) wx→wx.cell? ⟨bP,0,none⟩=some (.int .i64 (S.K 0).id)∧wx.cell? ⟨w.heap.size,8,none⟩=some (.int .i64 S.nx)∧wx.cell? ⟨bP,1,none⟩=some (.int .i64 (S.K 0).inn)∧wx.cell? ⟨w.heap.size,0,none⟩=some (.int .i64 S.C.p)∧wx.cell? ⟨bP,3,none⟩=some (.int .i64 (S.K 0).k)∧wx.cell? ⟨bP,4,none⟩=some (.int .i64 (S.K 0).d)∧wx.cell? ⟨bP,5,none⟩=some (.int .i64 (S.K 0).s)∧wx.cell? ⟨bP,6,none⟩=some (.int .i64 (S.K 0).p)∧wx.cell? ⟨bP,7,none⟩=some (.string (S.K 0).b)):=fun wx hSw=>by
        obtain ⟨hS1,hS2⟩:=hSw
        have p0:wx.cell? ⟨bP,0,none⟩=some (.int .i64 (S.K 0).id):=ie hS2 0
        have c8:wx.cell? ⟨w.heap.size,8,none⟩=some (.int .i64 S.nx):=ie hS1 8
        have p1:wx.cell? ⟨bP,1,none⟩=some (.int .i64 (S.K 0).inn):=ie hS2 1
        have c0:wx.cell? ⟨w.heap.size,0,none⟩=some (.int .i64 S.C.p):=ie hS1 0
        have p3:wx.cell? ⟨bP,3,none⟩=some (.int .i64 (S.K 0).k):=ie hS2 3
        have p4:wx.cell? ⟨bP,4,none⟩=some (.int .i64 (S.K 0).d):=ie hS2 4
        have p5:wx.cell? ⟨bP,5,none⟩=some (.int .i64 (S.K 0).s):=ie hS2 5
        have p6:wx.cell? ⟨bP,6,none⟩=some (.int .i64 (S.K 0).p):=ie hS2 6
        have p7:wx.cell? ⟨bP,7,none⟩=some (.string (S.K 0).b):=ie hS2 7
        exact ⟨p0,c8,p1,c0,p3,p4,p5,p6,p7⟩
       iterate 4 refine tX ?_
       refine rq1 5 (fun K hK=>?_)
       go_simp
       refine (iB _ _ _ _).mono ?_
       rintro e wq ⟨rfl,hwq⟩
       subst hwq
       rw [decide_eq_true hid]
       go_wp2_with fail
       refine ah (hK _ _ ⟨kS0,kP0⟩) ?_
       intro hHeld
       clear hK K
       iterate 3 refine tN ?_
       refine tF ?_
       refine tN ?_
       iterate 10 refine sN ?_
       iterate 9 refine tX ?_
       refine rq1 30 (fun K hK=>?_)
       go_simp
       refine (iB _ _ _ _).mono ?_
       rintro e wq ⟨rfl,hwq⟩
       subst hwq
       rw [decide_eq_true hin]
       go_wp2_with fail
       refine ah (hK _ _ ⟨kS0,kP0⟩) ?_
       intro hHeld
       clear hK K
       iterate 6 refine tX ?_
       refine tF ?_
       iterate 4 refine tX ?_
       refine rq1 42 (fun K hK=>?_)
       go_simp
       refine (nY _ _ _ _ _ _ (by have:=Hbs 0 hlt;unfold maxLen;omega)).mono ?_
       rintro e w2 ⟨rfl,hb⟩
       have HH2:=aa (HV.drew.up hb)
       have r1:=iZ HH2.b
       have r2:w2.heap[bP]?=some (.cells (S.K 0).cells 51 (0,0)):=(hb.block _ (ig kP0)).trans kP0
       clear hb
       go_wp2_with fail
       refine ah (hK _ _ ⟨r1,r2⟩) ?_
       intro hHeld
       clear hK K
       iterate 2 refine tN ?_
       refine dnq ?_
       clear hHeld
       go_wp2_with fail
       go_meet
       case rel=>exact ⟨_,rfl,HN.out,HH2.out,r2⟩
     have hk0':(0:Int)<(k:Int):=by omega
     have hk1:(1:Int)≤(k:Int):=by omega
     have hk2:(k:Int)-1<(S.nK:Int):=by omega
     have hk3:((k:Int)-1).toNat=k-1:=by omega
     by_cases hup:(S.K (k-1)).id<(S.K k).id
     rotate_left
     ·
      as_aux_lemma =>
       have hup':(S.K k).id≤(S.K (k-1)).id:=by omega
       have HN:Hid (¬ pkP S k):=fun h=>hup (h.2 (by omega))
       refine wp_region_held_drew (S:=fun w'=>w'.heap[w.heap.size]?=some (.cells S.cells 34 (0,0))∧w'.heap[bP]?=some (.cells (S.K k).cells 51 (0,0))∧w'.cell? ⟨g,o+(k-1)*8,none⟩=some (.int .i64 (S.K (k-1)).id)) (by kernel_rfl) ⟨kS0,kP0,HpP (by omega)⟩ (fun hHeld=>?_)
       refine t0 ?_
       have Hcs:Hid (∀ wx:World,(fun w':World=>w'.heap[w.heap.size]?=some (.cells S.cells 34 (0,0))∧w'.heap[bP]?=some (.cells (S.K k).cells 51 (0,0))∧w'.cell? ⟨g,o+(k-1)*8,none⟩=some (.int .i64 (S.K (k-1)).id)) wx→wx.cell? ⟨bP,0,none⟩=some (.int .i64 (S.K k).id)∧wx.cell? ⟨w.heap.size,8,none⟩=some (.int .i64 S.nx)∧wx.cell? ⟨w.heap.size,13,none⟩=some (.slice (some ⟨g,o,none⟩) S.nK S.cK)):=fun wx hSw=>by
        obtain ⟨hS1,hS2,hS3⟩:=hSw
        have p0:wx.cell? ⟨bP,0,none⟩=some (.int .i64 (S.K k).id):=ie hS2 0
        have c8:wx.cell? ⟨w.heap.size,8,none⟩=some (.int .i64 S.nx):=ie hS1 8
        have c13:wx.cell? ⟨w.heap.size,13,none⟩=some (.slice S.aK S.nK S.cK):=ie hS1 13
        rw [HaK.out] at c13
        exact ⟨p0,c8,c13⟩
       iterate 4 refine tX ?_
       refine rq1 5 (fun K hK=>?_)
       go_simp
       refine (iB _ _ _ _).mono ?_
       rintro e wq ⟨rfl,hwq⟩
       subst hwq
       rw [decide_eq_true hid]
       go_wp2_with fail
       refine ah (hK _ _ ⟨kS0,kP0,HpP (by omega)⟩) ?_
       intro hHeld
       clear hK K
       iterate 3 refine tN ?_
       refine tT ?_
       iterate 10 refine tX ?_
       refine tT ?_
       iterate 3 refine tN ?_
       iterate 8 refine sN ?_
       iterate 2 refine tN ?_
       iterate 4 refine sN ?_
       iterate 2 refine tN ?_
       iterate 4 refine sN ?_
       refine tN ?_
       refine dnq ?_
       clear hHeld
       go_wp2_with fail
       go_meet
       case rel=>exact ⟨true,rfl,⟨fun _=>HN.out,fun _=>rfl⟩,HV.drew,kP0⟩
     have hup':¬ (S.K k).id≤(S.K (k-1)).id:=by omega
     by_cases hin:0≤(S.K k).inn∧(S.K k).inn≤S.C.p-1
     rotate_left
     ·
      as_aux_lemma =>
       have HN:Hid (¬ pkP S k):=fun h=>hin h.1.2.1
       refine wp_region_held_drew (S:=fun w'=>w'.heap[w.heap.size]?=some (.cells S.cells 34 (0,0))∧w'.heap[bP]?=some (.cells (S.K k).cells 51 (0,0))∧w'.cell? ⟨g,o+(k-1)*8,none⟩=some (.int .i64 (S.K (k-1)).id)) (by kernel_rfl) ⟨kS0,kP0,HpP (by omega)⟩ (fun hHeld=>?_)
       refine t0 ?_
       have Hcs:Hid (∀ wx:World,(fun w':World=>w'.heap[w.heap.size]?=some (.cells S.cells 34 (0,0))∧w'.heap[bP]?=some (.cells (S.K k).cells 51 (0,0))∧w'.cell? ⟨g,o+(k-1)*8,none⟩=some (.int .i64 (S.K (k-1)).id)) wx→wx.cell? ⟨bP,0,none⟩=some (.int .i64 (S.K k).id)∧wx.cell? ⟨w.heap.size,8,none⟩=some (.int .i64 S.nx)∧wx.cell? ⟨w.heap.size,13,none⟩=some (.slice (some ⟨g,o,none⟩) S.nK S.cK)∧wx.cell? ⟨bP,1,none⟩=some (.int .i64 (S.K k).inn)∧wx.cell? ⟨w.heap.size,0,none⟩=some (.int .i64 S.C.p)):=fun wx hSw=>by
        obtain ⟨hS1,hS2,hS3⟩:=hSw
        have p0:wx.cell? ⟨bP,0,none⟩=some (.int .i64 (S.K k).id):=ie hS2 0
        have c8:wx.cell? ⟨w.heap.size,8,none⟩=some (.int .i64 S.nx):=ie hS1 8
        have c13:wx.cell? ⟨w.heap.size,13,none⟩=some (.slice S.aK S.nK S.cK):=ie hS1 13
        rw [HaK.out] at c13
        have p1:wx.cell? ⟨bP,1,none⟩=some (.int .i64 (S.K k).inn):=ie hS2 1
        have c0:wx.cell? ⟨w.heap.size,0,none⟩=some (.int .i64 S.C.p):=ie hS1 0
        exact ⟨p0,c8,c13,p1,c0⟩
       iterate 4 refine tX ?_
       refine rq1 5 (fun K hK=>?_)
       go_simp
       refine (iB _ _ _ _).mono ?_
       rintro e wq ⟨rfl,hwq⟩
       subst hwq
       rw [decide_eq_true hid]
       go_wp2_with fail
       refine ah (hK _ _ ⟨kS0,kP0,HpP (by omega)⟩) ?_
       intro hHeld
       clear hK K
       iterate 3 refine tN ?_
       refine tT ?_
       iterate 10 refine tX ?_
       refine tF ?_
       iterate 9 refine tX ?_
       refine rq1 30 (fun K hK=>?_)
       go_simp
       refine (iB _ _ _ _).mono ?_
       rintro e wq ⟨rfl,hwq⟩
       subst hwq
       rw [decide_eq_false hin]
       go_wp2_with fail
       refine ah (hK _ _ ⟨kS0,kP0,HpP (by omega)⟩) ?_
       intro hHeld
       clear hK K
       iterate 3 refine tN ?_
       iterate 4 refine sN ?_
       iterate 2 refine tN ?_
       iterate 4 refine sN ?_
       refine tN ?_
       refine dnq ?_
       clear hHeld
       go_wp2_with fail
       go_meet
       case rel=>exact ⟨true,rfl,⟨fun _=>HN.out,fun _=>rfl⟩,HV.drew,kP0⟩
     by_cases hkd:(S.K k).k=1
     rotate_left
     ·
      as_aux_lemma =>
       have hkd':((S.K k).k != 1)=true:=by simp [hkd]
       have HN:Hid (¬ pkP S k):=fun h=>hkd h.1.2.2.1
       have Hkd:=aa hkd
       clear hkd
       refine wp_region_held_drew (S:=fun w'=>w'.heap[w.heap.size]?=some (.cells S.cells 34 (0,0))∧w'.heap[bP]?=some (.cells (S.K k).cells 51 (0,0))∧w'.cell? ⟨g,o+(k-1)*8,none⟩=some (.int .i64 (S.K (k-1)).id)) (by kernel_rfl) ⟨kS0,kP0,HpP (by omega)⟩ (fun hHeld=>?_)
       refine t0 ?_
       have Hcs:Hid (∀ wx:World,(fun w':World=>w'.heap[w.heap.size]?=some (.cells S.cells 34 (0,0))∧w'.heap[bP]?=some (.cells (S.K k).cells 51 (0,0))∧w'.cell? ⟨g,o+(k-1)*8,none⟩=some (.int .i64 (S.K (k-1)).id)) wx→wx.cell? ⟨bP,0,none⟩=some (.int .i64 (S.K k).id)∧wx.cell? ⟨w.heap.size,8,none⟩=some (.int .i64 S.nx)∧wx.cell? ⟨w.heap.size,13,none⟩=some (.slice (some ⟨g,o,none⟩) S.nK S.cK)∧wx.cell? ⟨bP,1,none⟩=some (.int .i64 (S.K k).inn)∧wx.cell? ⟨w.heap.size,0,none⟩=some (.int .i64 S.C.p)∧wx.cell? ⟨bP,3,none⟩=some (.int .i64 (S.K k).k)):=fun wx hSw=>by
        obtain ⟨hS1,hS2,hS3⟩:=hSw
        have p0:wx.cell? ⟨bP,0,none⟩=some (.int .i64 (S.K k).id):=ie hS2 0
        have c8:wx.cell? ⟨w.heap.size,8,none⟩=some (.int .i64 S.nx):=ie hS1 8
        have c13:wx.cell? ⟨w.heap.size,13,none⟩=some (.slice S.aK S.nK S.cK):=ie hS1 13
        rw [HaK.out] at c13
        have p1:wx.cell? ⟨bP,1,none⟩=some (.int .i64 (S.K k).inn):=ie hS2 1
        have c0:wx.cell? ⟨w.heap.size,0,none⟩=some (.int .i64 S.C.p):=ie hS1 0
        have p3:wx.cell? ⟨bP,3,none⟩=some (.int .i64 (S.K k).k):=ie hS2 3
        exact ⟨p0,c8,c13,p1,c0,p3⟩
       iterate 4 refine tX ?_
       refine rq1 5 (fun K hK=>?_)
       go_simp
       refine (iB _ _ _ _).mono ?_
       rintro e wq ⟨rfl,hwq⟩
       subst hwq
       rw [decide_eq_true hid]
       go_wp2_with fail
       refine ah (hK _ _ ⟨kS0,kP0,HpP (by omega)⟩) ?_
       intro hHeld
       clear hK K
       iterate 3 refine tN ?_
       refine tT ?_
       iterate 10 refine tX ?_
       refine tF ?_
       iterate 9 refine tX ?_
       refine rq1 30 (fun K hK=>?_)
       go_simp
       refine (iB _ _ _ _).mono ?_
       rintro e wq ⟨rfl,hwq⟩
       subst hwq
       rw [decide_eq_true hin]
       go_wp2_with fail
       refine ah (hK _ _ ⟨kS0,kP0,HpP (by omega)⟩) ?_
       intro hHeld
       clear hK K
       iterate 6 refine tX ?_
       refine tT ?_
       iterate 2 refine tN ?_
       iterate 4 refine sN ?_
       refine tN ?_
       refine dnq ?_
       clear hHeld
       go_wp2_with fail
       go_meet
       case rel=>exact ⟨true,rfl,⟨fun _=>HN.out,fun _=>rfl⟩,HV.drew,kP0⟩
     have hkd':((S.K k).k != 1)=false:=by simp [hkd]
     have Hkd:=aa hkd
     have HN:Hid ((!mc (S.K k).k (S.K k).d (S.K k).s (S.K k).p (S.K k).b.size)=true↔¬ pkP S k):=by
      have hu:0<k→(S.K (k-1)).id<(S.K k).id:=fun _=>hup
      rw [Hid]
      constructor
      · exact bY
      intro h
      cases hf:mc (S.K k).k (S.K k).d (S.K k).s (S.K k).p (S.K k).b.size
      ·
       rfl
      exact absurd ⟨⟨hid,hin,hkd,hf⟩,hu⟩ h
     clear hkd
     as_aux_lemma =>
      refine wp_region_held_drew (S:=fun w'=>w'.heap[w.heap.size]?=some (.cells S.cells 34 (0,0))∧w'.heap[bP]?=some (.cells (S.K k).cells 51 (0,0))∧w'.cell? ⟨g,o+(k-1)*8,none⟩=some (.int .i64 (S.K (k-1)).id)) (by kernel_rfl) ⟨kS0,kP0,HpP (by omega)⟩ (fun hHeld=>?_)
      refine t0 ?_
      have Hcs:Hid (∀ wx:World,(fun w':World=>w'.heap[w.heap.size]?=some (.cells S.cells 34 (0,0))∧w'.heap[bP]?=some (.cells (S.K k).cells 51 (0,0))∧w'.cell? ⟨g,o+(k-1)*8,none⟩=some (.int .i64 (S.K (k-1)).id)) wx→wx.cell? ⟨bP,0,none⟩=some (.int .i64 (S.K k).id)∧wx.cell? ⟨w.heap.size,8,none⟩=some (.int .i64 S.nx)∧wx.cell? ⟨w.heap.size,13,none⟩=some (.slice (some ⟨g,o,none⟩) S.nK S.cK)∧wx.cell? ⟨bP,1,none⟩=some (.int .i64 (S.K k).inn)∧wx.cell? ⟨w.heap.size,0,none⟩=some (.int .i64 S.C.p)∧wx.cell? ⟨bP,3,none⟩=some (.int .i64 (S.K k).k)∧wx.cell? ⟨bP,4,none⟩=some (.int .i64 (S.K k).d)∧wx.cell? ⟨bP,5,none⟩=some (.int .i64 (S.K k).s)∧wx.cell? ⟨bP,6,none⟩=some (.int .i64 (S.K k).p)∧wx.cell? ⟨bP,7,none⟩=some (.string (S.K k).b)):=fun wx hSw=>by
       obtain ⟨hS1,hS2,hS3⟩:=hSw
       have p0:wx.cell? ⟨bP,0,none⟩=some (.int .i64 (S.K k).id):=ie hS2 0
       have c8:wx.cell? ⟨w.heap.size,8,none⟩=some (.int .i64 S.nx):=ie hS1 8
       have c13:wx.cell? ⟨w.heap.size,13,none⟩=some (.slice S.aK S.nK S.cK):=ie hS1 13
       rw [HaK.out] at c13
       have p1:wx.cell? ⟨bP,1,none⟩=some (.int .i64 (S.K k).inn):=ie hS2 1
       have c0:wx.cell? ⟨w.heap.size,0,none⟩=some (.int .i64 S.C.p):=ie hS1 0
       have p3:wx.cell? ⟨bP,3,none⟩=some (.int .i64 (S.K k).k):=ie hS2 3
       have p4:wx.cell? ⟨bP,4,none⟩=some (.int .i64 (S.K k).d):=ie hS2 4
       have p5:wx.cell? ⟨bP,5,none⟩=some (.int .i64 (S.K k).s):=ie hS2 5
       have p6:wx.cell? ⟨bP,6,none⟩=some (.int .i64 (S.K k).p):=ie hS2 6
       have p7:wx.cell? ⟨bP,7,none⟩=some (.string (S.K k).b):=ie hS2 7
       exact ⟨p0,c8,c13,p1,c0,p3,p4,p5,p6,p7⟩
      iterate 4 refine tX ?_
      refine rq1 5 (fun K hK=>?_)
      go_simp
      refine (iB _ _ _ _).mono ?_
      rintro e wq ⟨rfl,hwq⟩
      subst hwq
      rw [decide_eq_true hid]
      go_wp2_with fail
      refine ah (hK _ _ ⟨kS0,kP0,HpP (by omega)⟩) ?_
      intro hHeld
      clear hK K
      iterate 3 refine tN ?_
      refine tT ?_
      iterate 10 refine tX ?_
      refine tF ?_
      iterate 9 refine tX ?_
      refine rq1 30 (fun K hK=>?_)
      go_simp
      refine (iB _ _ _ _).mono ?_
      rintro e wq ⟨rfl,hwq⟩
      subst hwq
      rw [decide_eq_true hin]
      go_wp2_with fail
      refine ah (hK _ _ ⟨kS0,kP0,HpP (by omega)⟩) ?_
      intro hHeld
      clear hK K
      iterate 6 refine tX ?_
      refine tF ?_
      iterate 4 refine tX ?_
      refine rq1 42 (fun K hK=>?_)
      go_simp
      refine (nY _ _ _ _ _ _ (by have:=Hbs k hlt;unfold maxLen;omega)).mono ?_
      rintro e w2 ⟨rfl,hb⟩
      have HH2:=aa (HV.drew.up hb)
      have r1:=iZ HH2.b
      have r2:w2.heap[bP]?=some (.cells (S.K k).cells 51 (0,0)):=(hb.block _ (ig kP0)).trans kP0
      have r3:w2.cell? ⟨g,o+(k-1)*8,none⟩=some (.int .i64 (S.K (k-1)).id):=(hb.cell (p:=⟨g,o+(k-1)*8,none⟩) (kQ (HpP (by omega)))).trans (HpP (by omega))
      clear hb
      go_wp2_with fail
      refine ah (hK _ _ ⟨r1,r2,r3⟩) ?_
      intro hHeld
      clear hK K
      iterate 2 refine tN ?_
      refine dnq ?_
      clear hHeld
      go_wp2_with fail
      go_meet
      case rel=>exact ⟨_,rfl,HN.out,HH2.out,r2⟩
    clear HV kV
    obtain ⟨bb,rfl,hbb,hHc,kPc⟩:=hcut
    have HBB:=aa hbb
    have HHc:=aa hHc
    have HkPc:=aa kPc
    clear hbb hHc kPc
    cases bb
    rotate_left
    ·
     have HF:Hid (ok=false):=by
      rw [Hid,Bool.eq_false_iff]
      intro e
      exact HBB.1 rfl (((HSw.1 (HO.1 e)).1 k hlt).1)
     have B9:=under HHc.b
     exact bx
    have Hpk:Hid (pkP S k):=by
     by_cases h:pkP S k
     ·
      exact h
     exact absurd (HBB.2 h) (by simp)
    have Hfo:=aa Hpk.1.2.2
    clear HBB
    go_wp2_with fail
    go_loopw [7,8] (fun r x wr=>∃ i:Nat,i≤S.nL∧x=.int .i64 i∧r=.int .i64 (AL S.L (S.K k).id i:Int)∧nO S w gU gC k wr∧wr.heap[bP]?=some (.cells (S.K k).cells 51 (0,0))) (fun _ x _=>S.nL-(intOf x).toNat)
    case atStart=>exact ⟨0,Nat.zero_le _,rfl,rfl,HHc.out,HkPc.out⟩
    as_aux_lemma =>
     clear HHc HkPc
     obtain ⟨i,hi0,rfl,rfl,hH,hkP⟩:=hrel
     have HH:=aa hH
     have HkP:=aa hkP
     clear hH hkP
     have c14:wr.cell? ⟨w.heap.size,14,none⟩=some (.slice S.aL S.nL S.cL):=boxed HH.b 14
     have hbd:AL S.L (S.K k).id i≤1048577*i:=E4 (fun i hi=>(HSm.ls i hi).u) _ i hi0
     have hn4:S.nL≤4:=by have:=HnL.out;omega
     by_cases hi:i<S.nL
     ·
      have hi':(i:Int)<S.nL:=by omega
      obtain ⟨gl,ol,el,_⟩:=HR.l i hi
      have HaL:=aa el
      obtain ⟨hb,hhb⟩:=ju (0<occ (S.L i).t (S.K k).id (S.L i).nT)
      have Hhb:=aa hhb
      have HhN:=aa (Ei hhb)
      clear el hhb
      go_wp2_with fail
      clear c14
      refine wp_region_held_drew (S:=fun w'=>w'.heap[w.heap.size]?=some (.cells S.cells 34 (0,0))∧w'.heap[bP]?=some (.cells (S.K k).cells 51 (0,0))∧w'.cell? ⟨gl,ol+i*8+1,none⟩=some (.slice (S.L i).aT (S.L i).nT (S.L i).cT)) (by kernel_rfl) ⟨iZ HH.drew.b,HkP,C7 (HR.l.up (under HH.drew.b)) HaL hi 1 (by omega)⟩ (fun hHeld=>?_)
      refine t0 ?_
      have Hcs:Hid (∀ wx:World,(fun w':World=>w'.heap[w.heap.size]?=some (.cells S.cells 34 (0,0))∧w'.heap[bP]?=some (.cells (S.K k).cells 51 (0,0))∧w'.cell? ⟨gl,ol+i*8+1,none⟩=some (.slice (S.L i).aT (S.L i).nT (S.L i).cT)) wx→wx.cell? ⟨w.heap.size,14,none⟩=some (.slice (some ⟨gl,ol,none⟩) S.nL S.cL)∧wx.cell? ⟨bP,0,none⟩=some (.int .i64 (S.K k).id)):=fun wx hSw=>by
       obtain ⟨hS1,hS2,hS3⟩:=hSw
       have c14:wx.cell? ⟨w.heap.size,14,none⟩=some (.slice S.aL S.nL S.cL):=ie hS1 14
       rw [HaL.out] at c14
       have p0:wx.cell? ⟨bP,0,none⟩=some (.int .i64 (S.K k).id):=ie hS2 0
       exact ⟨c14,p0⟩
      iterate 7 refine tX ?_
      refine rq1 8 (fun K hK=>?_)
      go_simp
      refine (wT (S.L i).aT (S.L i).nT (S.L i).cT (S.L i).t (S.K k).id _ (HSm.ls i hi).t ((HR.ls i hi).t.up (under HH.drew.b)) hb (Hhb.trans sl)).mono ?_
      rintro e wq ⟨rfl,hwq⟩
      subst hwq
      go_wp2_with fail
      refine ah (hK _ _ ⟨iZ HH.drew.b,HkP,C7 (HR.l.up (under HH.drew.b)) HaL hi 1 (by omega)⟩) ?_
      intro hHeld
      clear hK K
      refine dnq ?_
      have HHd:=aa HH.drew
      have HkPd:=aa HkP.out
      clear hHeld HH HkP Hhb
      cases hb
      all_goals
       have hN:=HhN.out
       simp only [if_true,if_false,Bool.false_eq_true,reduceIte] at hN
       have HNN:=aa hN
       clear hN
       go_wp2_with fail
       go_loopw [7,9] (fun r x wr=>∃ c:Nat,c≤(S.L i).nU∧x=.int .i64 c∧r=.int .i64 ((AL S.L (S.K k).id i:Int)+(za (S.L i).t (S.K k).id (S.L i).nT:Int)+(Cc (S.L i) (S.K k).id c:Int))∧nO S w gU gC k wr∧wr.heap[bP]?=some (.cells (S.K k).cells 51 (0,0))) (fun _ x _=>(S.L i).nU-(intOf x).toNat)
       case atStart=>exact ⟨0,Nat.zero_le _,rfl,by rw [HNN.out];show Value.int .i64 _=Value.int .i64 (_+_+((0:Nat):Int));congr 1 <;> omega,HHd.out,HkPd.out⟩
       as_aux_lemma =>
        clear HHd HkPd
        obtain ⟨c,hc0,rfl,rfl,hH,hkP⟩:=hrel
        have HH:=aa hH
        have HkP:=aa hkP
        clear hH hkP
        have hle1:=yk (S.L i).t (S.K k).id (S.L i).nT
        have hle2:=Cb (S.L i) (S.K k).id c
        have hnU0:=(HSm.ls i hi).u
        have c14:wr.cell? ⟨w.heap.size,14,none⟩=some (.slice (some ⟨gl,ol,none⟩) S.nL S.cL):=(boxed HH.b 14).trans (by rw [←HaL.out];rfl)
        have l2:wr.cell? ⟨gl,ol+i*8+2,none⟩=some (.slice (S.L i).aU (S.L i).nU (S.L i).cU):=C7 (HR.l.up (under HH.b)) HaL hi 2 (by omega)
        by_cases hcU:c<(S.L i).nU
        ·
         have hcU':(c:Int)<((S.L i).nU:Int):=by omega
         obtain ⟨gu,ou,eu,_⟩:=(HR.ls i hi).u c hcU
         have HaU:=aa eu
         obtain ⟨hc,hhc⟩:=ju (0<occ ((S.L i).uz c) (S.K k).id ((S.L i).uL c))
         have Hhc:=aa hhc
         have HhC:=aa (Ei hhc)
         clear eu hhc
         go_wp2_with fail
         clear c14 l2
         refine wp_region_held_drew (S:=fun w'=>w'.heap[w.heap.size]?=some (.cells S.cells 34 (0,0))∧w'.heap[bP]?=some (.cells (S.K k).cells 51 (0,0))∧w'.cell? ⟨gl,ol+i*8+2,none⟩=some (.slice (S.L i).aU (S.L i).nU (S.L i).cU)∧w'.cell? ⟨gu,ou+c,none⟩=some (.slice ((S.L i).uA c) ((S.L i).uL c) ((S.L i).uC c))) (by kernel_rfl) ⟨iZ HH.drew.b,HkP,C7 (HR.l.up (under HH.drew.b)) HaL hi 2 (by omega),ly ((HR.ls i hi).u.up (under HH.drew.b)) HaU hcU⟩ (fun hHeld=>?_)
         refine t0 ?_
         have Hcs:Hid (∀ wx:World,(fun w':World=>w'.heap[w.heap.size]?=some (.cells S.cells 34 (0,0))∧w'.heap[bP]?=some (.cells (S.K k).cells 51 (0,0))∧w'.cell? ⟨gl,ol+i*8+2,none⟩=some (.slice (S.L i).aU (S.L i).nU (S.L i).cU)∧w'.cell? ⟨gu,ou+c,none⟩=some (.slice ((S.L i).uA c) ((S.L i).uL c) ((S.L i).uC c))) wx→wx.cell? ⟨w.heap.size,14,none⟩=some (.slice (some ⟨gl,ol,none⟩) S.nL S.cL)∧wx.cell? ⟨bP,0,none⟩=some (.int .i64 (S.K k).id)):=fun wx hSw=>by
          obtain ⟨hS1,hS2,hS3,hS4⟩:=hSw
          have c14:wx.cell? ⟨w.heap.size,14,none⟩=some (.slice S.aL S.nL S.cL):=ie hS1 14
          rw [HaL.out] at c14
          have p0:wx.cell? ⟨bP,0,none⟩=some (.int .i64 (S.K k).id):=ie hS2 0
          exact ⟨c14,p0⟩
         iterate 4 refine tX ?_
         refine tC 5 186 (v:=?_) ?_ ?_
         rotate_left
         ·
          intro wx hSw
          obtain ⟨hS1,hS2,hS3,hS4⟩:=hSw
          rw [HaU.out] at hS3
          go_simp
          try with_reducible rfl
         try simp only [Act.put,PZ]
         iterate 5 refine tX ?_
         refine rq1 11 (fun K hK=>?_)
         go_simp
         refine (wT ((S.L i).uA c) ((S.L i).uL c) ((S.L i).uC c) ((S.L i).uz c) (S.K k).id _ ((HSm.ls i hi).z c hcU) (((HR.ls i hi).z c hcU).up (under HH.drew.b)) hc (Hhc.trans sl)).mono ?_
         rintro e wq ⟨rfl,hwq⟩
         subst hwq
         go_wp2_with fail
         refine ah (hK _ _ ⟨iZ HH.drew.b,HkP,C7 (HR.l.up (under HH.drew.b)) HaL hi 2 (by omega),ly ((HR.ls i hi).u.up (under HH.drew.b)) HaU hcU⟩) ?_
         intro hHeld
         clear hK K
         refine dnq ?_
         have HHd:=aa HH.drew
         have HkPd:=aa HkP.out
         clear hHeld HH HkP Hhc
         cases hc
         all_goals
          have hN:=HhC.out
          simp only [if_true,if_false,Bool.false_eq_true,reduceIte] at hN
          have HNC:=aa hN
          clear hN
          go_wp2_with fail
          go_roundw
          case rel=>exact ⟨c+1,by omega,by go_num,by
           show Value.int .i64 _=Value.int .i64 (_+_+((Cc (S.L i) (S.K k).id c+za ((S.L i).uz c) (S.K k).id ((S.L i).uL c):Nat):Int))
           rw [HNC.out]
           congr 1 <;> omega,HHd.out,HkPd.out⟩
          case measure=>simp [intOf];omega
        obtain rfl:c=(S.L i).nU:=by omega
        have hge:¬ (((S.L i).nU:Nat):Int)<(((S.L i).nU:Nat):Int):=by omega
        go_wp2_with fail
        go_roundw
        case rel=>exact ⟨i+1,by omega,by go_num,by
         show Value.int .i64 _=Value.int .i64 ((AL S.L (S.K k).id i+(za (S.L i).t (S.K k).id (S.L i).nT+Cc (S.L i) (S.K k).id (S.L i).nU):Nat):Int)
         congr 1 <;> omega,HH.out,HkP.out⟩
        case measure=>simp [intOf];omega
     obtain rfl:i=S.nL:=by omega
     have hge:¬ ((S.nL:Nat):Int)<((S.nL:Nat):Int):=by omega
     have p2:wr.cell? ⟨bP,2,none⟩=some (.int .i64 (S.K k).refs):=ie HkP 2
     have p6:wr.cell? ⟨bP,6,none⟩=some (.int .i64 (S.K k).p):=ie HkP 6
     obtain ⟨r,er⟩:∃ r:Nat,AL S.L (S.K k).id S.nL=r:=⟨_,rfl⟩
     rw [er]
     by_cases hrf:rfP S k
     rotate_left
     ·
      have HF:Hid (ok=false):=by
       rw [Hid,Bool.eq_false_iff]
       intro e
       exact hrf (((HSw.1 (HO.1 e)).1 k hlt).2)
      have B9:=under HH.b
      by_cases h1:(S.K k).refs=(r:Int)
      ·
       have h2:r=0:=by
        by_cases h2:r=0
        ·
         exact h2
        exact absurd ⟨by rw [er];exact h1,by rw [er];exact h2⟩ hrf
       subst h2
       have h1':((S.K k).refs != 0)=false:=by simp [h1]
       have h1z:(S.K k).refs=0:=by omega
       clear hrf h1
       exact bx
      have h1':((S.K k).refs != (r:Int))=true:=by simp [h1]
      clear hrf h1
      exact bx
     have Hrf:=aa hrf
     have h1':((S.K k).refs != (r:Int))=false:=by have:=hrf.1;rw [er] at this;simp [this]
     have hr0:¬ ((r:Int)=0):=by have:=hrf.2;rw [er] at this;omega
     have hr0':((r:Int) == 0)=false:=by simp;omega
     clear hrf er
     have HPk:Hid (lQ S.nx S.C.p (k+1) S.K):=⟨by omega,fun i hi=>by
      by_cases e:i=k
      ·
       subst e;exact Hpk.1
      ·
       exact (HA i (by omega)).1.1,fun i hi=>by
      by_cases e:i=k
      ·
       subst e;exact Hpk.2
      ·
       exact (HA i (by omega)).1.2⟩
     have hcl:=Hfo.cl
     have HsL:=pN HPk k (by omega)
     have HHd:=aa HH.drew
     by_cases hpr:(S.K k).p=2
     ·
      as_aux_lemma =>
       have hpr':((S.K k).p == 2)=true:=by simp [hpr]
       have Hpr:=aa hpr
       obtain ⟨ii,hin⟩:∃ ii:Nat,(S.K k).inn=(ii:Int):=⟨(S.K k).inn.toNat,by have:=Hpk.1.2.1;omega⟩
       have Hin:=aa hin
       have hii:ii<S.N.nU:=by have:=Hpk.1.2.1;have:=HNn.out;omega
       have hii':(ii:Int)<(S.N.nU:Int):=by omega
       have HsU:=xN (q:=(ii:Int)) HPk k (by omega)
       have hwU:IntKind.i64.wrap (jI S.K ii k+(S.K k).cl)=jI S.K ii k+(S.K k).cl:=jS _ (by omega) (by omega)
       clear hpr hin
       go_wp2_with fail
       clear p2 p6 hpr'
       have S0:wr.drew.heap[bP]?=some (.cells (S.K k).cells 51 (0,0))∧wr.drew.heap[gC]?=some (.cells #[.slice (some ⟨gU,0,none⟩) S.N.nU S.N.nU,.int .i64 (iM S.K k),.slice none 0 0] 30 (0,0)):=⟨HkP.out,HHd.c⟩
       refine wp_region_held_drew (S:=fun w'=>w'.heap[bP]?=some (.cells (S.K k).cells 51 (0,0))∧w'.heap[gC]?=some (.cells #[.slice (some ⟨gU,0,none⟩) S.N.nU S.N.nU,.int .i64 (iM S.K k),.slice none 0 0] 30 (0,0))) (by kernel_rfl) S0 (fun hHeld=>?_)
       refine t0 ?_
       have Hcs:Hid (∀ wx:World,(fun w':World=>w'.heap[bP]?=some (.cells (S.K k).cells 51 (0,0))∧w'.heap[gC]?=some (.cells #[.slice (some ⟨gU,0,none⟩) S.N.nU S.N.nU,.int .i64 (iM S.K k),.slice none 0 0] 30 (0,0))) wx→wx.cell? ⟨gC,0,none⟩=some (.slice (some ⟨gU,0,none⟩) S.N.nU S.N.nU)∧wx.cell? ⟨bP,3,none⟩=some (.int .i64 (S.K k).k)∧wx.cell? ⟨bP,4,none⟩=some (.int .i64 (S.K k).d)∧wx.cell? ⟨bP,5,none⟩=some (.int .i64 (S.K k).s)∧wx.cell? ⟨bP,6,none⟩=some (.int .i64 (S.K k).p)∧wx.cell? ⟨bP,7,none⟩=some (.string (S.K k).b)):=fun wx hSw=>by
        obtain ⟨hS1,hS2⟩:=hSw
        have e0:wx.cell? ⟨gC,0,none⟩=some (.slice (some ⟨gU,0,none⟩) S.N.nU S.N.nU):=ie hS2 0
        have p3:wx.cell? ⟨bP,3,none⟩=some (.int .i64 (S.K k).k):=ie hS1 3
        have p4:wx.cell? ⟨bP,4,none⟩=some (.int .i64 (S.K k).d):=ie hS1 4
        have p5:wx.cell? ⟨bP,5,none⟩=some (.int .i64 (S.K k).s):=ie hS1 5
        have p6:wx.cell? ⟨bP,6,none⟩=some (.int .i64 (S.K k).p):=ie hS1 6
        have p7:wx.cell? ⟨bP,7,none⟩=some (.string (S.K k).b):=ie hS1 7
        exact ⟨e0,p3,p4,p5,p6,p7⟩
       iterate 2 refine tX ?_
       refine tC 3 210 (v:=?_) ?_ ?_
       rotate_left
       · exact Hm
       try simp only [Act.put,PZ]
       iterate 3 refine tX ?_
       refine tC 7 214 (v:=?_) ?_ ?_
       rotate_left
       · exact Hm
       try simp only [Act.put,PZ]
       refine tN ?_
       refine tQ 10 217 ?_
       refine tXq 11 218 ?_
       clear hHeld
       refine rq2 9 12 (fun K hK=>?_) (fun K hK=>?_)
       ·
        as_aux_lemma =>
         have ld:=HHd.r.at ii hii
         try dsimp only at ld
         go_simp
         refine ah (hK _ _ S0) ?_
         intro hHeld
         clear hK K
         clear hHeld
         refine rq1 12 (fun K hK=>?_)
         go_simp
         refine (jr _ _ _ _ _ _ Hfo.le).mono ?_
         rintro e w1 ⟨rfl,hb⟩
         have HH1:=aa (HHd.up hb)
         have S1:_∧_:=⟨(hb.block _ (ig S0.1)).trans S0.1,HH1.c⟩
         clear hb
         rw [show (((S.K k).b.size:Int)+9+9) / 10=(S.K k).cl from rfl]
         go_wp2_with fail
         refine ah (hK _ _ S1) ?_
         intro hHeld
         clear hK K
         refine tQ 13 220 ?_
         refine tQ 14 221 ?_
         clear hHeld
         refine rq1 15 (fun K hK=>?_)
         have wp:=HH1.r.at ii hii
         have wf:=HH1.r.free ii
         try dsimp only at wp
         have HH2:=aa (HH1.port Hpr Hin hii)
         have S2:_∧_:=⟨(iE (i:=ii) (show bP≠gU by have:=HbP.out;have:=HHd.n;omega) (.int .i64 (jI S.K ii k+(S.K k).cl))).trans S1.1,(iE (i:=ii) (show gC≠gU by have:=HHd.n;omega) (.int .i64 (jI S.K ii k+(S.K k).cl))).trans S1.2⟩
         go_simp
         refine ah (hK _ _ S2) ?_
         intro hHeld
         clear hK K
         refine dnq ?_
         clear hHeld
         clear S2
         go_wp2_with fail
         go_roundw
         case rel=>exact ⟨k+1,by omega,by go_num,fun i hi=>by
          by_cases e:i=k
          · exact cj
          ·
           exact HA i (by omega),HH2⟩
         case measure=>simp [intOf];omega
       go_simp
       refine (jr _ _ _ _ _ _ Hfo.le).mono ?_
       rintro e w1 ⟨rfl,hb⟩
       have HH1:=aa (HHd.up hb)
       have S1:_∧_:=⟨(hb.block _ (ig S0.1)).trans S0.1,HH1.c⟩
       clear hb
       rw [show (((S.K k).b.size:Int)+9+9) / 10=(S.K k).cl from rfl]
       go_wp2_with fail
       refine ah (hK _ _ S1) ?_
       intro hHeld
       clear hK K
       clear hHeld
       refine rq1 9 (fun K hK=>?_)
       have ld:=HH1.r.at ii hii
       try dsimp only at ld
       go_simp
       refine ah (hK _ _ S1) ?_
       intro hHeld
       clear hK K
       refine tQ 13 220 ?_
       refine tQ 14 221 ?_
       clear hHeld
       refine rq1 15 (fun K hK=>?_)
       have wp:=HH1.r.at ii hii
       have wf:=HH1.r.free ii
       try dsimp only at wp
       have HH2:=aa (HH1.port Hpr Hin hii)
       have S2:_∧_:=⟨(iE (i:=ii) (show bP≠gU by have:=HbP.out;have:=HHd.n;omega) (.int .i64 (jI S.K ii k+(S.K k).cl))).trans S1.1,(iE (i:=ii) (show gC≠gU by have:=HHd.n;omega) (.int .i64 (jI S.K ii k+(S.K k).cl))).trans S1.2⟩
       go_simp
       refine ah (hK _ _ S2) ?_
       intro hHeld
       clear hK K
       refine dnq ?_
       clear hHeld
       clear S2
       go_wp2_with fail
       go_roundw
       case rel=>exact ⟨k+1,by omega,by go_num,fun i hi=>by
        by_cases e:i=k
        · exact cj
        ·
         exact HA i (by omega),HH2⟩
       case measure=>simp [intOf];omega
     as_aux_lemma =>
      have hpr':((S.K k).p == 2)=false:=by simp [hpr]
      have Hpr:=aa hpr
      have hwL:IntKind.i64.wrap (iM S.K k+(S.K k).cl)=iM S.K k+(S.K k).cl:=jS _ (by omega) (by omega)
      clear hpr
      go_wp2_with fail
      clear p2 p6 hpr'
      have S0:wr.drew.heap[bP]?=some (.cells (S.K k).cells 51 (0,0)):=HkP.out
      refine wp_region_held_drew (S:=fun w'=>w'.heap[bP]?=some (.cells (S.K k).cells 51 (0,0))) (by kernel_rfl) S0 (fun hHeld=>?_)
      refine t0 ?_
      refine tQ 2 224 ?_
      have Hcs:Hid (∀ wx:World,(fun w':World=>w'.heap[bP]?=some (.cells (S.K k).cells 51 (0,0))) wx→wx.cell? ⟨bP,3,none⟩=some (.int .i64 (S.K k).k)∧wx.cell? ⟨bP,4,none⟩=some (.int .i64 (S.K k).d)∧wx.cell? ⟨bP,5,none⟩=some (.int .i64 (S.K k).s)∧wx.cell? ⟨bP,6,none⟩=some (.int .i64 (S.K k).p)∧wx.cell? ⟨bP,7,none⟩=some (.string (S.K k).b)):=fun wx hSw=>by
       have p3:wx.cell? ⟨bP,3,none⟩=some (.int .i64 (S.K k).k):=ie hSw 3
       have p4:wx.cell? ⟨bP,4,none⟩=some (.int .i64 (S.K k).d):=ie hSw 4
       have p5:wx.cell? ⟨bP,5,none⟩=some (.int .i64 (S.K k).s):=ie hSw 5
       have p6:wx.cell? ⟨bP,6,none⟩=some (.int .i64 (S.K k).p):=ie hSw 6
       have p7:wx.cell? ⟨bP,7,none⟩=some (.string (S.K k).b):=ie hSw 7
       exact ⟨p3,p4,p5,p6,p7⟩
      refine tXq 3 225 ?_
      clear hHeld
      refine rq2 1 4 (fun K hK=>?_) (fun K hK=>?_)
      ·
       as_aux_lemma =>
        have ld:wr.drew.cell? ⟨gC,1,none⟩=some (.int .i64 (iM S.K k)):=ie HHd.c 1
        go_simp
        refine ah (hK _ _ S0) ?_
        intro hHeld
        clear hK K
        clear hHeld
        refine rq1 4 (fun K hK=>?_)
        go_simp
        refine (jr _ _ _ _ _ _ Hfo.le).mono ?_
        rintro e w1 ⟨rfl,hb⟩
        have HH1:=aa (HHd.up hb)
        have S1:=(hb.block _ (ig S0)).trans S0
        clear hb
        rw [show (((S.K k).b.size:Int)+9+9) / 10=(S.K k).cl from rfl]
        go_wp2_with fail
        refine ah (hK _ _ S1) ?_
        intro hHeld
        clear hK K
        refine tQ 5 227 ?_
        refine tQ 6 228 ?_
        clear hHeld
        refine rq1 7 (fun K hK=>?_)
        have wp:w1.cell? ⟨gC,1,none⟩=some (.int .i64 (iM S.K k)):=ie HH1.c 1
        have wf:=ix HH1.c 1
        have HH2:=aa (HH1.Dm Hpr.out)
        have S2:=(iE (show bP≠gC by have:=HbP.out;omega) (.int .i64 (iM S.K k+(S.K k).cl)) (i:=1)).trans S1
        go_simp
        refine ah (hK _ _ S2) ?_
        intro hHeld
        clear hK K
        refine dnq ?_
        clear hHeld
        clear S2
        go_wp2_with fail
        go_roundw
        case rel=>exact ⟨k+1,by omega,by go_num,fun i hi=>by
         by_cases e:i=k
         · exact cj
         ·
          exact HA i (by omega),HH2⟩
        case measure=>simp [intOf];omega
      go_simp
      refine (jr _ _ _ _ _ _ Hfo.le).mono ?_
      rintro e w1 ⟨rfl,hb⟩
      have HH1:=aa (HHd.up hb)
      have S1:=(hb.block _ (ig S0)).trans S0
      clear hb
      rw [show (((S.K k).b.size:Int)+9+9) / 10=(S.K k).cl from rfl]
      go_wp2_with fail
      refine ah (hK _ _ S1) ?_
      intro hHeld
      clear hK K
      clear hHeld
      refine rq1 1 (fun K hK=>?_)
      have ld:w1.cell? ⟨gC,1,none⟩=some (.int .i64 (iM S.K k)):=ie HH1.c 1
      go_simp
      refine ah (hK _ _ S1) ?_
      intro hHeld
      clear hK K
      refine tQ 5 227 ?_
      refine tQ 6 228 ?_
      clear hHeld
      refine rq1 7 (fun K hK=>?_)
      have wp:w1.cell? ⟨gC,1,none⟩=some (.int .i64 (iM S.K k)):=ie HH1.c 1
      have wf:=ix HH1.c 1
      have HH2:=aa (HH1.Dm Hpr.out)
      have S2:=(iE (show bP≠gC by have:=HbP.out;omega) (.int .i64 (iM S.K k+(S.K k).cl)) (i:=1)).trans S1
      go_simp
      refine ah (hK _ _ S2) ?_
      intro hHeld
      clear hK K
      refine dnq ?_
      clear hHeld
      clear S2
      go_wp2_with fail
      go_roundw
      case rel=>exact ⟨k+1,by omega,by go_num,fun i hi=>by
       by_cases e:i=k
       · exact cj
       ·
        exact HA i (by omega),HH2⟩
      case measure=>simp [intOf];omega
   obtain rfl:k=S.nK:=by omega
   have hge:¬ ((S.nK:Nat):Int)<((S.nK:Nat):Int):=by omega
   have HPk:Hid (lQ S.nx S.C.p S.nK S.K):=⟨hnk,fun i hi=>(HA i hi).1.1,fun i hi=>(HA i hi).1.2⟩
   have c13:wr.cell? ⟨w.heap.size,13,none⟩=some (.slice S.aK S.nK S.cK):=boxed HH.b 13
   go_wp2_with fail
   clear c13 hge
   go_loopw [10] (fun x wr=>∃ i:Nat,i≤S.N.nU∧x=.int .i64 i∧(∀ j,j<i→jI S.K j S.nK=S.N.u j∧nN S.nK S.K (S.L j))∧nO S w gU gC S.nK wr) (fun x _=>S.N.nU-(intOf x).toNat)
   case atStart=>exact ⟨0,Nat.zero_le _,rfl,fun j hj=>by omega,HH.out⟩
   as_aux_lemma =>
    clear HH
    obtain ⟨i,hi0,rfl,hall,hH⟩:=hrel
    have HAl:=aa hall
    have HH:=aa hH
    clear hall hH
    have e0:wr.cell? ⟨gC,0,none⟩=some (.slice (some ⟨gU,0,none⟩) S.N.nU S.N.nU):=ie HH.c 0
    by_cases hiU:i<S.N.nU
    ·
     have hiU':(i:Int)<(S.N.nU:Int):=by omega
     have hi:i<S.nL:=by have:=HnL.out;omega
     have hi':(i:Int)<(S.nL:Int):=by omega
     obtain ⟨gl,ol,el,_⟩:=HR.l i hi
     have HaL:=aa el
     obtain ⟨gn,on,en,_⟩:=HR.n.u i hiU
     have HaU:=aa en
     clear el en
     go_wp2_with fail
     clear e0
     by_cases heq:jI S.K i S.nK=S.N.u i
     ·
      have heq':(jI S.K i S.nK != S.N.u i)=false:=by simp [heq]
      have Heq:=aa heq
      clear heq
      by_cases hlk:nN S.nK S.K (S.L i)
      ·
       as_aux_lemma =>
        have Hlk:=aa hlk
        clear hlk
        refine wp_region_held_drew (S:=fun w'=>w'.heap[w.heap.size]?=some (.cells S.cells 34 (0,0))∧w'.heap[gC]?=some (.cells #[.slice (some ⟨gU,0,none⟩) S.N.nU S.N.nU,.int .i64 (iM S.K S.nK),.slice none 0 0] 30 (0,0))∧w'.cell? ⟨gU,i,none⟩=some (.int .i64 (jI S.K i S.nK))∧w'.cell? ⟨gn,on+i,none⟩=some (.int .i64 (S.N.u i))∧(∀ j,j<8→w'.cell? ⟨gl,ol+i*8+j,none⟩=(S.L i).cells[j]?)) (by kernel_rfl) ⟨iZ HH.drew.b,HH.drew.c,HH.drew.r.at i hiU,ly (HR.n.u.up (under HH.drew.b)) HaU hiU,C7 (HR.l.up (under HH.drew.b)) HaL hi⟩ (fun hHeld=>?_)
        refine t0 ?_
        have Hcs:Hid (∀ wx:World,(fun w':World=>w'.heap[w.heap.size]?=some (.cells S.cells 34 (0,0))∧w'.heap[gC]?=some (.cells #[.slice (some ⟨gU,0,none⟩) S.N.nU S.N.nU,.int .i64 (iM S.K S.nK),.slice none 0 0] 30 (0,0))∧w'.cell? ⟨gU,i,none⟩=some (.int .i64 (jI S.K i S.nK))∧w'.cell? ⟨gn,on+i,none⟩=some (.int .i64 (S.N.u i))∧(∀ j,j<8→w'.cell? ⟨gl,ol+i*8+j,none⟩=(S.L i).cells[j]?)) wx→wx.cell? ⟨gC,0,none⟩=some (.slice (some ⟨gU,0,none⟩) S.N.nU S.N.nU)∧wx.cell? ⟨w.heap.size,10,none⟩=some (.slice (some ⟨gn,on,none⟩) S.N.nU S.N.cU)∧wx.cell? ⟨w.heap.size,14,none⟩=some (.slice (some ⟨gl,ol,none⟩) S.nL S.cL)):=fun wx hSw=>by
         obtain ⟨hS1,hS2,hS3,hS4,hS5⟩:=hSw
         have e0:wx.cell? ⟨gC,0,none⟩=some (.slice (some ⟨gU,0,none⟩) S.N.nU S.N.nU):=ie hS2 0
         have c10:wx.cell? ⟨w.heap.size,10,none⟩=some (.slice S.N.aU S.N.nU S.N.cU):=ie hS1 10
         rw [HaU.out] at c10
         have c14:wx.cell? ⟨w.heap.size,14,none⟩=some (.slice S.aL S.nL S.cL):=ie hS1 14
         rw [HaL.out] at c14
         exact ⟨e0,c10,c14⟩
        iterate 10 refine tX ?_
        refine tF ?_
        refine tN ?_
        refine tC 13 249 (v:=.agg S.cells) ?_ ?_
        · exact bZ
        try simp only [Act.put,PZ]
        iterate 4 refine tX ?_
        refine tC 18 254 (v:=.agg (S.L i).cells) ?_ ?_
        · exact bW
        try simp only [Act.put,PZ]
        refine rq1 19 (fun K hK=>?_)
        go_simp
        refine (ud S (S.L i) _ HSm (HR.up (under HH.drew.b)) (HSm.ls i hi) ((HR.ls i hi).up (under HH.drew.b)) HPk true ⟨fun _=>Hlk.out,fun _=>rfl⟩).mono ?_
        rintro e w1 ⟨rfl,hb⟩
        have HH1:=aa (HH.drew.up hb)
        have q1:_:=(show (fun w'=>w'.heap[w.heap.size]?=some (.cells S.cells 34 (0,0))∧w'.heap[gC]?=some (.cells #[.slice (some ⟨gU,0,none⟩) S.N.nU S.N.nU,.int .i64 (iM S.K S.nK),.slice none 0 0] 30 (0,0))∧w'.cell? ⟨gU,i,none⟩=some (.int .i64 (jI S.K i S.nK))∧w'.cell? ⟨gn,on+i,none⟩=some (.int .i64 (S.N.u i))∧(∀ j,j<8→w'.cell? ⟨gl,ol+i*8+j,none⟩=(S.L i).cells[j]?)) w1 from ⟨iZ HH1.b,HH1.c,HH1.r.at i hiU,ly (HR.n.u.up (under HH1.b)) HaU hiU,C7 (HR.l.up (under HH1.b)) HaL hi⟩)
        clear hb
        go_wp2_with fail
        refine ah (hK _ _ q1) ?_
        intro hHeld
        clear hK K
        iterate 2 refine tN ?_
        refine dnq ?_
        clear hHeld q1 HH
        go_wp2_with fail
        go_roundw
        case rel=>exact ⟨i+1,by omega,by go_num,fun j hj=>by
         by_cases e:j=i
         ·
          subst e;exact ⟨Heq.out,Hlk.out⟩
         ·
          exact HAl j (by omega),HH1⟩
        case measure=>simp [intOf];omega
      as_aux_lemma =>
       have Hlk:=aa hlk
       have HF:Hid (ok=false):=by
        rw [Hid,Bool.eq_false_iff]
        intro e
        exact hlk ((HSw.1 (HO.1 e)).2.1 i hi).2
       clear hlk
       refine wp_region_held_drew (S:=fun w'=>w'.heap[w.heap.size]?=some (.cells S.cells 34 (0,0))∧w'.heap[gC]?=some (.cells #[.slice (some ⟨gU,0,none⟩) S.N.nU S.N.nU,.int .i64 (iM S.K S.nK),.slice none 0 0] 30 (0,0))∧w'.cell? ⟨gU,i,none⟩=some (.int .i64 (jI S.K i S.nK))∧w'.cell? ⟨gn,on+i,none⟩=some (.int .i64 (S.N.u i))∧(∀ j,j<8→w'.cell? ⟨gl,ol+i*8+j,none⟩=(S.L i).cells[j]?)) (by kernel_rfl) ⟨iZ HH.drew.b,HH.drew.c,HH.drew.r.at i hiU,ly (HR.n.u.up (under HH.drew.b)) HaU hiU,C7 (HR.l.up (under HH.drew.b)) HaL hi⟩ (fun hHeld=>?_)
       refine t0 ?_
       have Hcs:Hid (∀ wx:World,(fun w':World=>w'.heap[w.heap.size]?=some (.cells S.cells 34 (0,0))∧w'.heap[gC]?=some (.cells #[.slice (some ⟨gU,0,none⟩) S.N.nU S.N.nU,.int .i64 (iM S.K S.nK),.slice none 0 0] 30 (0,0))∧w'.cell? ⟨gU,i,none⟩=some (.int .i64 (jI S.K i S.nK))∧w'.cell? ⟨gn,on+i,none⟩=some (.int .i64 (S.N.u i))∧(∀ j,j<8→w'.cell? ⟨gl,ol+i*8+j,none⟩=(S.L i).cells[j]?)) wx→wx.cell? ⟨gC,0,none⟩=some (.slice (some ⟨gU,0,none⟩) S.N.nU S.N.nU)∧wx.cell? ⟨w.heap.size,10,none⟩=some (.slice (some ⟨gn,on,none⟩) S.N.nU S.N.cU)∧wx.cell? ⟨w.heap.size,14,none⟩=some (.slice (some ⟨gl,ol,none⟩) S.nL S.cL)):=fun wx hSw=>by
        obtain ⟨hS1,hS2,hS3,hS4,hS5⟩:=hSw
        have e0:wx.cell? ⟨gC,0,none⟩=some (.slice (some ⟨gU,0,none⟩) S.N.nU S.N.nU):=ie hS2 0
        have c10:wx.cell? ⟨w.heap.size,10,none⟩=some (.slice S.N.aU S.N.nU S.N.cU):=ie hS1 10
        rw [HaU.out] at c10
        have c14:wx.cell? ⟨w.heap.size,14,none⟩=some (.slice S.aL S.nL S.cL):=ie hS1 14
        rw [HaL.out] at c14
        exact ⟨e0,c10,c14⟩
       iterate 10 refine tX ?_
       refine tF ?_
       refine tN ?_
       refine tC 13 249 (v:=.agg S.cells) ?_ ?_
       · exact bZ
       try simp only [Act.put,PZ]
       iterate 4 refine tX ?_
       refine tC 18 254 (v:=.agg (S.L i).cells) ?_ ?_
       · exact bW
       try simp only [Act.put,PZ]
       refine rq1 19 (fun K hK=>?_)
       go_simp
       refine (ud S (S.L i) _ HSm (HR.up (under HH.drew.b)) (HSm.ls i hi) ((HR.ls i hi).up (under HH.drew.b)) HPk false ⟨fun h=>(by cases h),fun h=>absurd h Hlk⟩).mono ?_
       rintro e w1 ⟨rfl,hb⟩
       have HH1:=aa (HH.drew.up hb)
       have q1:_:=(show (fun w'=>w'.heap[w.heap.size]?=some (.cells S.cells 34 (0,0))∧w'.heap[gC]?=some (.cells #[.slice (some ⟨gU,0,none⟩) S.N.nU S.N.nU,.int .i64 (iM S.K S.nK),.slice none 0 0] 30 (0,0))∧w'.cell? ⟨gU,i,none⟩=some (.int .i64 (jI S.K i S.nK))∧w'.cell? ⟨gn,on+i,none⟩=some (.int .i64 (S.N.u i))∧(∀ j,j<8→w'.cell? ⟨gl,ol+i*8+j,none⟩=(S.L i).cells[j]?)) w1 from ⟨iZ HH1.b,HH1.c,HH1.r.at i hiU,ly (HR.n.u.up (under HH1.b)) HaU hiU,C7 (HR.l.up (under HH1.b)) HaL hi⟩)
       clear hb
       go_wp2_with fail
       refine ah (hK _ _ q1) ?_
       intro hHeld
       clear hK K
       iterate 2 refine tN ?_
       refine dnq ?_
       have B9:=under HH1.b
       clear hHeld q1 HH
       go_wp2_with fail
       go_ret
       exact ⟨iv HF.symm,B9⟩
     as_aux_lemma =>
      have heq':(jI S.K i S.nK != S.N.u i)=true:=by simp [heq]
      have HF:Hid (ok=false):=by
       rw [Hid,Bool.eq_false_iff]
       intro e
       exact heq ((HSw.1 (HO.1 e)).2.1 i hi).1
      clear heq
      refine wp_region_held_drew (S:=fun w'=>w'.heap[w.heap.size]?=some (.cells S.cells 34 (0,0))∧w'.heap[gC]?=some (.cells #[.slice (some ⟨gU,0,none⟩) S.N.nU S.N.nU,.int .i64 (iM S.K S.nK),.slice none 0 0] 30 (0,0))∧w'.cell? ⟨gU,i,none⟩=some (.int .i64 (jI S.K i S.nK))∧w'.cell? ⟨gn,on+i,none⟩=some (.int .i64 (S.N.u i))) (by kernel_rfl) ⟨iZ HH.drew.b,HH.drew.c,HH.drew.r.at i hiU,ly (HR.n.u.up (under HH.drew.b)) HaU hiU⟩ (fun hHeld=>?_)
      refine t0 ?_
      have Hcs:Hid (∀ wx:World,(fun w':World=>w'.heap[w.heap.size]?=some (.cells S.cells 34 (0,0))∧w'.heap[gC]?=some (.cells #[.slice (some ⟨gU,0,none⟩) S.N.nU S.N.nU,.int .i64 (iM S.K S.nK),.slice none 0 0] 30 (0,0))∧w'.cell? ⟨gU,i,none⟩=some (.int .i64 (jI S.K i S.nK))∧w'.cell? ⟨gn,on+i,none⟩=some (.int .i64 (S.N.u i))) wx→wx.cell? ⟨gC,0,none⟩=some (.slice (some ⟨gU,0,none⟩) S.N.nU S.N.nU)∧wx.cell? ⟨w.heap.size,10,none⟩=some (.slice (some ⟨gn,on,none⟩) S.N.nU S.N.cU)):=fun wx hSw=>by
       obtain ⟨hS1,hS2,hS3,hS4⟩:=hSw
       have e0:wx.cell? ⟨gC,0,none⟩=some (.slice (some ⟨gU,0,none⟩) S.N.nU S.N.nU):=ie hS2 0
       have c10:wx.cell? ⟨w.heap.size,10,none⟩=some (.slice S.N.aU S.N.nU S.N.cU):=ie hS1 10
       rw [HaU.out] at c10
       exact ⟨e0,c10⟩
      iterate 10 refine tX ?_
      refine tT ?_
      refine tN ?_
      iterate 8 refine sN ?_
      refine tN ?_
      refine dnq ?_
      have B9:=under HH.drew.b
      clear hHeld
      go_wp2_with fail
      go_ret
      exact ⟨iv HF.symm,B9⟩
    obtain rfl:i=S.N.nU:=by omega
    have hge:¬ ((S.N.nU:Nat):Int)<((S.N.nU:Nat):Int):=by omega
    have e1:wr.cell? ⟨gC,1,none⟩=some (.int .i64 (iM S.K S.nK)):=ie HH.c 1
    have c11:wr.cell? ⟨w.heap.size,11,none⟩=some (.int .i64 S.N.lo):=boxed HH.b 11
    have B9:=under HH.b
    have HE:Hid ((iM S.K S.nK == S.N.lo)=ok):=by
     rw [Hid,Bool.eq_iff_iff,HO.out,HSw.out]
     have hl:=HnL.out
     simp only [beq_iff_eq]
     exact ⟨fun h=>⟨HA,fun i hi=>HAl i (by omega),h⟩,fun h=>h.2.2⟩
    go_wp2_with fail
    go_ret
    exact ⟨iv (by rw [←HE.out] <;> rfl),B9⟩
