import Derived.Test.YtjippgbmmlcgoaaGreatDoorB31
import Derived.Test.YtjippgbmmlcgoaaGreatDoorB37
import Derived.Test.YtjippgbmmlcgoaaGreatDoorRows
import Derived.ChangeOld
import Derived.OpenShut
import Derived.ProofKit
import Derived.ShutString
namespace Go.Proofs.YtjippgbmmlcgoaaGreatDoor
set_option maxRecDepth 100000
set_option maxHeartbeats 9000000
open Go.RowKit
set_option linter.unusedVariables false
set_option linter.unusedSimpArgs false
variable {a:Addr} {p:Prop} {v:Value} {w:World}
theorem gM (h:p:=by
 go_wp2_with fail
 go_roundw
 case rel=>exact ⟨k+1,by omega,by go_num,HX⟩
 case measure=>simp [intOf];omega):p:=h
theorem gO (h:p:=by
 clear hS hS0
 go_wp2_with fail
 refine ah (hK _ _ hS1) ?_
 intro hHeld
 clear hK K
 refine tN ?_
 refine dnq ?_
 clear hHeld hS1
 exact gM):p:=h
theorem gQ (h:p:=by
 have B9:=HX.bel
 go_wp2_with fail
 go_ret
 exact ⟨rfl,B9⟩):p:=h
theorem tf (A B:Rnd) (w:World) (hs:A.Small) (h1:mN w A) (h2:mN w B) (ha:Alike A B) :
  Calls Tryz.prog 65 #[.agg A.cells,.agg B.cells] w fun e w'=>e=.returned (.bool true)∧Below w.heap.size w w':=by
 have HS:=aa hs
 have H1:=aa h1
 have HEB:Hid (B.cells=#[.slice B.aQ A.nQ B.cQ,.slice B.aD A.nD B.cD,.int .i64 A.turn,.bool A.fresh,.slice B.aS A.nS B.cS]):=by
  show B.cells=_
  unfold Rnd.cells
  rw [ha.nQ,ha.nD,ha.t,ha.f,ha.nS]
 have HQ2:Hid (iP w B.aQ A.nQ fun i=>.int .i64 (A.q i)):=by have:=h2.q;rw [ha.nQ,ha.q] at this;exact this
 have HD2:Hid (iP w B.aD A.nD fun i=>.int .i64 (A.d i)):=by have:=h2.d;rw [ha.nD,ha.d] at this;exact this
 have HS2:Hid (iP w B.aS A.nS fun i=>.slice (B.A i) (A.L i) (B.C i)):=by have:=h2.s;rw [ha.nS,ha.l] at this;exact this
 have HZ2:Hid (∀ i,i<A.nS→iP w (B.A i) (A.L i) fun j=>.int .i64 (A.z i j)):=by have:=h2.z;rw [ha.nS,ha.l,ha.z] at this;exact this
 have HS1:=aa h1.s
 have HZ1:=aa h1.z
 have HLm:=aa hs.l
 have hnS:=hs.s
 have hbb:(A.fresh != A.fresh)=false:=by cases A.fresh <;> rfl
 have hbb2:(!(A.fresh == A.fresh))=false:=by cases A.fresh <;> rfl
 obtain ⟨W,eW⟩:∃ W,(w.alloc (.cells A.cells 45)).alloc (.cells B.cells 45)=W:=⟨_,rfl⟩
 have HX:Hid (Two w A.cells B.cells 45 W):=by rw [←eW];exact Two.start _ _ _ _
 have c2:W.cell? ⟨w.heap.size,2,none⟩=some (.int .i64 A.turn):=ie HX.a 2
 have d2:W.cell? ⟨w.heap.size+1,2,none⟩=some (.int .i64 A.turn):=by rw [ie HX.b 2,HEB.out];rfl
 have c3:W.cell? ⟨w.heap.size,3,none⟩=some (.bool A.fresh):=ie HX.a 3
 have d3:W.cell? ⟨w.heap.size+1,3,none⟩=some (.bool A.fresh):=by rw [ie HX.b 3,HEB.out];rfl
 have c0:W.cell? ⟨w.heap.size,0,none⟩=some (.slice A.aQ A.nQ A.cQ):=ie HX.a 0
 have d0:W.cell? ⟨w.heap.size+1,0,none⟩=some (.slice B.aQ A.nQ B.cQ):=by rw [ie HX.b 0,HEB.out];rfl
 clear hs h1 h2 ha
 go_enter Tryz.func65,Tryz.ntmps65
 go_wp2_with fail
 clear eW
 clear c2 d2 c3 d3 c0 d0
 refine (kH A.aQ B.aQ A.nQ A.cQ B.cQ A.q _ HS.q (H1.q.up HX.bel) (HQ2.up HX.bel)).mono ?_
 rintro e w1 ⟨rfl,hS⟩
 replace HX:Hid (Two w A.cells B.cells 45 w1):=HX.up (hS.below _)
 clear hS
 have c1:w1.cell? ⟨w.heap.size,1,none⟩=some (.slice A.aD A.nD A.cD):=ie HX.a 1
 have d1:w1.cell? ⟨w.heap.size+1,1,none⟩=some (.slice B.aD A.nD B.cD):=by rw [ie HX.b 1,HEB.out];rfl
 go_wp2_with fail
 clear c1 d1
 refine (kH A.aD B.aD A.nD A.cD B.cD A.d _ HS.d (H1.d.up HX.bel) (HD2.up HX.bel)).mono ?_
 rintro e w2 ⟨rfl,hS⟩
 replace HX:Hid (Two w A.cells B.cells 45 w2):=HX.up (hS.below _)
 clear hS
 have c4:w2.cell? ⟨w.heap.size,4,none⟩=some (.slice A.aS A.nS A.cS):=ie HX.a 4
 have d4:w2.cell? ⟨w.heap.size+1,4,none⟩=some (.slice B.aS A.nS B.cS):=by rw [ie HX.b 4,HEB.out];rfl
 go_wp2_with fail
 clear c4 d4
 go_loopw [5] (fun s wr=>∃ k:Nat,k≤A.nS∧s=.int .i64 k∧Hid (Two w A.cells B.cells 45 wr)) (fun s _=>A.nS-(intOf s).toNat)
 case atStart=>exact ⟨0,Nat.zero_le _,rfl,HX⟩
 clear HX
 obtain ⟨k,hk,rfl,HX⟩:=hrel
 have c9:wr.cell? ⟨w.heap.size,4,none⟩=some (.slice A.aS A.nS A.cS):=ie HX.a 4
 by_cases hlt:k<A.nS
 ·
  have hlt':(k:Int)<(A.nS:Int):=by omega
  have hd:Below wr.heap.size wr wr.drew:=(Below.refl _ _).drew
  go_wp2_with fail
  replace HX:=aa (HX.up hd)
  clear hd c9
  obtain ⟨g,o,ea,s1⟩:=(HS1.up HX.bel) k hlt
  obtain ⟨g2,o2,eb,s2⟩:=(HS2.up HX.bel) k hlt
  have hS0:(fun w'=>w'.cell? ⟨w.heap.size,4,none⟩=some (.slice (some ⟨g,o,none⟩) A.nS A.cS)∧w'.cell? ⟨w.heap.size+1,4,none⟩=some (.slice (some ⟨g2,o2,none⟩) A.nS B.cS)∧w'.cell? ⟨g,o+k,none⟩=some (.slice (A.A k) (A.L k) (A.C k))∧w'.cell? ⟨g2,o2+k,none⟩=some (.slice (B.A k) (A.L k) (B.C k))) wr.drew:=⟨by rw [←ea];exact ie HX.a 4,by rw [←eb,ie HX.b 4,HEB.out];rfl,s1,s2⟩
  clear ea eb s1 s2
  refine wp_region_held_drew (S:=fun w'=>w'.cell? ⟨w.heap.size,4,none⟩=some (.slice (some ⟨g,o,none⟩) A.nS A.cS)∧w'.cell? ⟨w.heap.size+1,4,none⟩=some (.slice (some ⟨g2,o2,none⟩) A.nS B.cS)∧w'.cell? ⟨g,o+k,none⟩=some (.slice (A.A k) (A.L k) (A.C k))∧w'.cell? ⟨g2,o2+k,none⟩=some (.slice (B.A k) (A.L k) (B.C k))) (by kernel_rfl) hS0 (fun hHeld=>?_)
  generalize wr.drew=V at *
  refine t0 ?_
  iterate 9 refine tN ?_
  refine rq1 10 (fun K hK=>?_)
  go_simp
  refine (kH (A.A k) (B.A k) (A.L k) (A.C k) (B.C k) (A.z k) _ (HLm k hlt) ((HZ1 k hlt).up HX.bel) ((HZ2 k hlt).up HX.bel)).mono ?_
  rintro e V1 ⟨rfl,hS⟩
  replace HX:Hid (Two w A.cells B.cells 45 V1):=HX.up (hS.below _)
  have hS1:(fun w'=>w'.cell? ⟨w.heap.size,4,none⟩=some (.slice (some ⟨g,o,none⟩) A.nS A.cS)∧w'.cell? ⟨w.heap.size+1,4,none⟩=some (.slice (some ⟨g2,o2,none⟩) A.nS B.cS)∧w'.cell? ⟨g,o+k,none⟩=some (.slice (A.A k) (A.L k) (A.C k))∧w'.cell? ⟨g2,o2+k,none⟩=some (.slice (B.A k) (A.L k) (B.C k))) V1:=⟨(hS.cell _).trans hS0.1,(hS.cell _).trans hS0.2.1,(hS.cell _).trans hS0.2.2.1,(hS.cell _).trans hS0.2.2.2⟩
  exact gO
 obtain rfl:k=A.nS:=by omega
 have hkk:¬ ((A.nS:Nat):Int)<((A.nS:Nat):Int):=by omega
 exact gQ
theorem uI (A B:Lng) (w:World) (hs:A.Small) (h1:zo w A) (h2:zo w B) (ha:iO A B) :
  Calls Tryz.prog 24 #[.agg A.cells,.agg B.cells] w fun e w'=>e=.returned (.bool true)∧Below w.heap.size w w':=by
 have HS:=aa hs
 have H1:=aa h1
 have H2:=aa h2
 have HG:=aa ha.r
 have HEB:Hid (B.cells=#[.bool A.st,.slice B.aT A.nT B.cT,.slice B.aU A.nU B.cU,.slice B.R.aQ B.R.nQ B.R.cQ,.slice B.R.aD B.R.nD B.R.cD,.int .i64 B.R.turn,.bool B.R.fresh,.slice B.R.aS B.R.nS B.R.cS]):=by
  show B.cells=_
  unfold Lng.cells
  rw [ha.st,ha.nT,ha.nU]
 have HT2:Hid (iP w B.aT A.nT fun i=>.int .i64 (A.t i)):=by have:=h2.t;rw [ha.nT,ha.t] at this;exact this
 have HS2:Hid (iP w B.aU A.nU fun i=>.slice (B.uA i) (A.uL i) (B.uC i)):=by have:=h2.u;rw [ha.nU,ha.l] at this;exact this
 have HZ2:Hid (∀ i,i<A.nU→iP w (B.uA i) (A.uL i) fun j=>.int .i64 (A.uz i j)):=by have:=h2.z;rw [ha.nU,ha.l,ha.z] at this;exact this
 have HS1:=aa h1.u
 have HZ1:=aa h1.z
 have HLm:=aa hs.z
 have hnS:=hs.u
 have hbb:(A.st != A.st)=false:=by cases A.st <;> rfl
 have hbb2:(!(A.st == A.st))=false:=by cases A.st <;> rfl
 obtain ⟨W,eW⟩:∃ W,(w.alloc (.cells A.cells 47)).alloc (.cells B.cells 47)=W:=⟨_,rfl⟩
 have HX:Hid (Two w A.cells B.cells 47 W):=by rw [←eW];exact Two.start _ _ _ _
 have c0:W.cell? ⟨w.heap.size,0,none⟩=some (.bool A.st):=ie HX.a 0
 have d0:W.cell? ⟨w.heap.size+1,0,none⟩=some (.bool A.st):=by rw [ie HX.b 0,HEB.out];rfl
 have c1:W.cell? ⟨w.heap.size,1,none⟩=some (.slice A.aT A.nT A.cT):=ie HX.a 1
 have d1:W.cell? ⟨w.heap.size+1,1,none⟩=some (.slice B.aT A.nT B.cT):=by rw [ie HX.b 1,HEB.out];rfl
 clear hs h1 h2 ha
 go_enter Tryz.func24,Tryz.ntmps24
 go_wp2_with fail
 clear eW
 clear c0 d0 c1 d1
 refine (kH A.aT B.aT A.nT A.cT B.cT A.t _ HS.t (H1.t.up HX.bel) (HT2.up HX.bel)).mono ?_
 rintro e w1 ⟨rfl,hS⟩
 replace HX:Hid (Two w A.cells B.cells 47 w1):=HX.up (hS.below _)
 clear hS
 have c3:w1.cell? ⟨w.heap.size,3,none⟩=some (.slice A.R.aQ A.R.nQ A.R.cQ):=ie HX.a 3
 have d3:w1.cell? ⟨w.heap.size+1,3,none⟩=some (.slice B.R.aQ B.R.nQ B.R.cQ):=by rw [ie HX.b 3,HEB.out];rfl
 have c4:w1.cell? ⟨w.heap.size,4,none⟩=some (.slice A.R.aD A.R.nD A.R.cD):=ie HX.a 4
 have d4:w1.cell? ⟨w.heap.size+1,4,none⟩=some (.slice B.R.aD B.R.nD B.R.cD):=by rw [ie HX.b 4,HEB.out];rfl
 have c5:w1.cell? ⟨w.heap.size,5,none⟩=some (.int .i64 A.R.turn):=ie HX.a 5
 have d5:w1.cell? ⟨w.heap.size+1,5,none⟩=some (.int .i64 B.R.turn):=by rw [ie HX.b 5,HEB.out];rfl
 have c6:w1.cell? ⟨w.heap.size,6,none⟩=some (.bool A.R.fresh):=ie HX.a 6
 have d6:w1.cell? ⟨w.heap.size+1,6,none⟩=some (.bool B.R.fresh):=by rw [ie HX.b 6,HEB.out];rfl
 have c7:w1.cell? ⟨w.heap.size,7,none⟩=some (.slice A.R.aS A.R.nS A.R.cS):=ie HX.a 7
 have d7:w1.cell? ⟨w.heap.size+1,7,none⟩=some (.slice B.R.aS B.R.nS B.R.cS):=by rw [ie HX.b 7,HEB.out];rfl
 go_wp2_with fail
 clear c3 d3 c4 d4 c5 d5 c6 d6 c7 d7
 refine (tf A.R B.R _ HS.r (H1.r.up HX.bel) (H2.r.up HX.bel) HG).mono ?_
 rintro e w2 ⟨rfl,hb⟩
 replace HX:=aa (HX.up hb)
 clear hb
 have c2:w2.cell? ⟨w.heap.size,2,none⟩=some (.slice A.aU A.nU A.cU):=ie HX.a 2
 have d2:w2.cell? ⟨w.heap.size+1,2,none⟩=some (.slice B.aU A.nU B.cU):=by rw [ie HX.b 2,HEB.out];rfl
 go_wp2_with fail
 clear c2 d2
 go_loopw [5] (fun s wr=>∃ k:Nat,k≤A.nU∧s=.int .i64 k∧Hid (Two w A.cells B.cells 47 wr)) (fun s _=>A.nU-(intOf s).toNat)
 case atStart=>exact ⟨0,Nat.zero_le _,rfl,HX⟩
 clear HX
 obtain ⟨k,hk,rfl,HX⟩:=hrel
 have c9:wr.cell? ⟨w.heap.size,2,none⟩=some (.slice A.aU A.nU A.cU):=ie HX.a 2
 by_cases hlt:k<A.nU
 ·
  have hlt':(k:Int)<(A.nU:Int):=by omega
  have hd:Below wr.heap.size wr wr.drew:=(Below.refl _ _).drew
  go_wp2_with fail
  replace HX:=aa (HX.up hd)
  clear hd c9
  obtain ⟨g,o,ea,s1⟩:=(HS1.up HX.bel) k hlt
  obtain ⟨g2,o2,eb,s2⟩:=(HS2.up HX.bel) k hlt
  have hS0:(fun w'=>w'.cell? ⟨w.heap.size,2,none⟩=some (.slice (some ⟨g,o,none⟩) A.nU A.cU)∧w'.cell? ⟨w.heap.size+1,2,none⟩=some (.slice (some ⟨g2,o2,none⟩) A.nU B.cU)∧w'.cell? ⟨g,o+k,none⟩=some (.slice (A.uA k) (A.uL k) (A.uC k))∧w'.cell? ⟨g2,o2+k,none⟩=some (.slice (B.uA k) (A.uL k) (B.uC k))) wr.drew:=⟨by rw [←ea];exact ie HX.a 2,by rw [←eb,ie HX.b 2,HEB.out];rfl,s1,s2⟩
  clear ea eb s1 s2
  refine wp_region_held_drew (S:=fun w'=>w'.cell? ⟨w.heap.size,2,none⟩=some (.slice (some ⟨g,o,none⟩) A.nU A.cU)∧w'.cell? ⟨w.heap.size+1,2,none⟩=some (.slice (some ⟨g2,o2,none⟩) A.nU B.cU)∧w'.cell? ⟨g,o+k,none⟩=some (.slice (A.uA k) (A.uL k) (A.uC k))∧w'.cell? ⟨g2,o2+k,none⟩=some (.slice (B.uA k) (A.uL k) (B.uC k))) (by kernel_rfl) hS0 (fun hHeld=>?_)
  generalize wr.drew=V at *
  refine t0 ?_
  iterate 9 refine tN ?_
  refine rq1 10 (fun K hK=>?_)
  go_simp
  refine (kH (A.uA k) (B.uA k) (A.uL k) (A.uC k) (B.uC k) (A.uz k) _ (HLm k hlt) ((HZ1 k hlt).up HX.bel) ((HZ2 k hlt).up HX.bel)).mono ?_
  rintro e V1 ⟨rfl,hS⟩
  replace HX:Hid (Two w A.cells B.cells 47 V1):=HX.up (hS.below _)
  have hS1:(fun w'=>w'.cell? ⟨w.heap.size,2,none⟩=some (.slice (some ⟨g,o,none⟩) A.nU A.cU)∧w'.cell? ⟨w.heap.size+1,2,none⟩=some (.slice (some ⟨g2,o2,none⟩) A.nU B.cU)∧w'.cell? ⟨g,o+k,none⟩=some (.slice (A.uA k) (A.uL k) (A.uC k))∧w'.cell? ⟨g2,o2+k,none⟩=some (.slice (B.uA k) (A.uL k) (B.uC k))) V1:=⟨(hS.cell _).trans hS0.1,(hS.cell _).trans hS0.2.1,(hS.cell _).trans hS0.2.2.1,(hS.cell _).trans hS0.2.2.2⟩
  exact gO
 obtain rfl:k=A.nU:=by omega
 have hkk:¬ ((A.nU:Nat):Int)<((A.nU:Nat):Int):=by omega
 exact gQ
theorem te (a1 a2:Option Addr) (n c1 c2:Nat) (f:Nat→Ent) (w:World) (hn:n≤1048576) (h1:lD w a1 n f) (h2:lD w a2 n f) :
  Calls Tryz.prog 23 #[.slice a1 n c1,.slice a2 n c2] w fun e w'=>e=.returned (.bool true)∧Same w w':=by
 go_enter Tryz.func23,Tryz.ntmps23
 go_wp2_with fail
 go_loopw [5] (fun i wr=>∃ k:Nat,k≤n∧i=.int .i64 k∧Same w wr) (fun i _=>n-(intOf i).toNat)
 case atStart=>exact ⟨0,Nat.zero_le _,rfl,Same.refl _⟩
 obtain ⟨k,hk,rfl,hS⟩:=hrel
 by_cases hlt:k<n
 ·
  obtain ⟨g1,o1,rfl,p1,p2,p3⟩:=h1 k hlt
  obtain ⟨g2,o2,rfl,q1,q2,q3⟩:=h2 k hlt
  rw [←hS.cell] at p1 p2 p3 q1 q2 q3
  clear h1 h2
  have hlt':(k:Int)<n:=by omega
  go_wp2_with fail
  go_quiet (fail)
  go_wp2_with fail
  go_roundw
  case rel=>exact ⟨k+1,by omega,by go_num,hS.drewN _⟩
  case measure=>simp [intOf];omega
 obtain rfl:k=n:=by omega
 go_wp2_with fail
 go_ret
 exact ⟨rfl,hS⟩
theorem DK (h:w.cell? a=some v):a.block<w.heap.size:=by
 rcases Nat.lt_or_ge a.block w.heap.size with h' | h'
 ·
  exact h'
 simp [World.cell?,Array.getElem?_eq_none h'] at h
theorem BI:(Tryz.prog.info? 51).map (·.size)=some 8:=by kernel_rfl
theorem BJ:(Tryz.prog.info? 47).map (·.size)=some 8:=by kernel_rfl
theorem FQ {w':World} {g o:Nat} {cs:Array Value} (h:∀ j,j<8→w.cell? ⟨g,o+j,none⟩=cs[j]?) (hz:cs.size=8) (hb:Below w.heap.size w w'):∀ j,j<8→w'.cell? ⟨g,o+j,none⟩=cs[j]?:=fun j hj=>by
 have h1:=h j hj
 have h2:cs[j]?=some cs[j]:=by simp [hz,hj]
 rw [h2] at h1 ⊢
 rw [hb.cell (p:=⟨g,o+j,none⟩) (DK h1)]
 exact h1
theorem mo (A B:Swg) (w:World) (hs:A.Small) (h1:lr w A) (h2:lr w B) (ha:iw A B) :
  Calls Tryz.prog 8 #[.agg A.cells,.agg B.cells] w fun e w'=>e=.returned (.bool true)∧Below w.heap.size w w':=by
 have HS:=aa hs
 have H1:=aa h1
 have HN:=aa ha.n
 have HL:=aa ha.l
 have HE2:Hid (lD w B.aE A.nE A.e):=by have:=h2.e;rw [ha.nE,ha.e] at this;exact this
 have HN2:=aa h2.n
 have HK2:Hid (pI w B.aK A.nK A.K):=by have:=h2.k;rw [ha.nK,ha.k] at this;exact this
 have HL2:Hid (Fj w B.aL A.nL B.L):=by have:=h2.l;rw [ha.nL] at this;exact this
 have HQ2:Hid (∀ i,i<A.nL→zo w (B.L i)):=by have:=h2.ls;rw [ha.nL] at this;exact this
 have HEB:Hid (B.cells=#[.int .i64 A.C.p,.int .i64 A.C.c,.int .i64 A.C.xo,.int .i64 A.C.xn,.int .i64 A.C.hd,.int .i64 A.C.lo,.int .i64 A.C.dl,.int .i64 A.now,.int .i64 A.nx,.slice B.aE A.nE B.cE,.slice B.N.aU B.N.nU B.N.cU,.int .i64 B.N.lo,.slice B.N.aP B.N.nP B.N.cP,.slice B.aK A.nK B.cK,.slice B.aL A.nL B.cL,.int .i64 A.dr,.int .i64 A.lst]):=by
  show B.cells=_
  unfold Swg.cells
  rw [ha.c,ha.now,ha.nx,ha.nE,ha.nK,ha.nL,ha.dr,ha.lst]
 have hnK:=hs.k
 have hnL:=hs.l
 obtain ⟨W,eW⟩:∃ W,(w.alloc (.cells A.cells 34)).alloc (.cells B.cells 34)=W:=⟨_,rfl⟩
 have HX:Hid (Two w A.cells B.cells 34 W):=by rw [←eW];exact Two.start _ _ _ _
 have c0:W.cell? ⟨w.heap.size,0,none⟩=some (.int .i64 A.C.p):=ie HX.a 0
 have d0:W.cell? ⟨w.heap.size+1,0,none⟩=some (.int .i64 A.C.p):=by rw [ie HX.b 0,HEB.out];rfl
 have c1:W.cell? ⟨w.heap.size,1,none⟩=some (.int .i64 A.C.c):=ie HX.a 1
 have d1:W.cell? ⟨w.heap.size+1,1,none⟩=some (.int .i64 A.C.c):=by rw [ie HX.b 1,HEB.out];rfl
 have c2:W.cell? ⟨w.heap.size,2,none⟩=some (.int .i64 A.C.xo):=ie HX.a 2
 have d2:W.cell? ⟨w.heap.size+1,2,none⟩=some (.int .i64 A.C.xo):=by rw [ie HX.b 2,HEB.out];rfl
 have c3:W.cell? ⟨w.heap.size,3,none⟩=some (.int .i64 A.C.xn):=ie HX.a 3
 have d3:W.cell? ⟨w.heap.size+1,3,none⟩=some (.int .i64 A.C.xn):=by rw [ie HX.b 3,HEB.out];rfl
 have c4:W.cell? ⟨w.heap.size,4,none⟩=some (.int .i64 A.C.hd):=ie HX.a 4
 have d4:W.cell? ⟨w.heap.size+1,4,none⟩=some (.int .i64 A.C.hd):=by rw [ie HX.b 4,HEB.out];rfl
 have c5:W.cell? ⟨w.heap.size,5,none⟩=some (.int .i64 A.C.lo):=ie HX.a 5
 have d5:W.cell? ⟨w.heap.size+1,5,none⟩=some (.int .i64 A.C.lo):=by rw [ie HX.b 5,HEB.out];rfl
 have c6:W.cell? ⟨w.heap.size,6,none⟩=some (.int .i64 A.C.dl):=ie HX.a 6
 have d6:W.cell? ⟨w.heap.size+1,6,none⟩=some (.int .i64 A.C.dl):=by rw [ie HX.b 6,HEB.out];rfl
 have c7:W.cell? ⟨w.heap.size,7,none⟩=some (.int .i64 A.now):=ie HX.a 7
 have d7:W.cell? ⟨w.heap.size+1,7,none⟩=some (.int .i64 A.now):=by rw [ie HX.b 7,HEB.out];rfl
 have c8:W.cell? ⟨w.heap.size,8,none⟩=some (.int .i64 A.nx):=ie HX.a 8
 have d8:W.cell? ⟨w.heap.size+1,8,none⟩=some (.int .i64 A.nx):=by rw [ie HX.b 8,HEB.out];rfl
 have c15:W.cell? ⟨w.heap.size,15,none⟩=some (.int .i64 A.dr):=ie HX.a 15
 have d15:W.cell? ⟨w.heap.size+1,15,none⟩=some (.int .i64 A.dr):=by rw [ie HX.b 15,HEB.out];rfl
 have c16:W.cell? ⟨w.heap.size,16,none⟩=some (.int .i64 A.lst):=ie HX.a 16
 have d16:W.cell? ⟨w.heap.size+1,16,none⟩=some (.int .i64 A.lst):=by rw [ie HX.b 16,HEB.out];rfl
 have c9:W.cell? ⟨w.heap.size,9,none⟩=some (.slice A.aE A.nE A.cE):=ie HX.a 9
 have d9:W.cell? ⟨w.heap.size+1,9,none⟩=some (.slice B.aE A.nE B.cE):=by rw [ie HX.b 9,HEB.out];rfl
 clear hs h1 h2 ha
 go_enter Tryz.func8,Tryz.ntmps8
 go_wp2_with fail
 clear eW
 clear c0 d0 c1 d1 c2 d2 c3 d3 c4 d4 c5 d5 c6 d6 c7 d7 c8 d8 c15 d15 c16 d16 c9 d9
 refine (te A.aE B.aE A.nE A.cE B.cE A.e _ HS.e (H1.e.up HX.bel) (HE2.up HX.bel)).mono ?_
 rintro e w1 ⟨rfl,hS⟩
 replace HX:Hid (Two w A.cells B.cells 34 w1):=HX.up (hS.below _)
 clear hS
 have c10:w1.cell? ⟨w.heap.size,10,none⟩=some (.slice A.N.aU A.N.nU A.N.cU):=ie HX.a 10
 have d10:w1.cell? ⟨w.heap.size+1,10,none⟩=some (.slice B.N.aU B.N.nU B.N.cU):=by rw [ie HX.b 10,HEB.out];rfl
 have c11:w1.cell? ⟨w.heap.size,11,none⟩=some (.int .i64 A.N.lo):=ie HX.a 11
 have d11:w1.cell? ⟨w.heap.size+1,11,none⟩=some (.int .i64 B.N.lo):=by rw [ie HX.b 11,HEB.out];rfl
 have c12:w1.cell? ⟨w.heap.size,12,none⟩=some (.slice A.N.aP A.N.nP A.N.cP):=ie HX.a 12
 have d12:w1.cell? ⟨w.heap.size+1,12,none⟩=some (.slice B.N.aP B.N.nP B.N.cP):=by rw [ie HX.b 12,HEB.out];rfl
 go_wp2_with fail
 clear c10 d10 c11 d11 c12 d12
 refine (pc A.N B.N _ HS.n (H1.n.up HX.bel) (HN2.up HX.bel) HN).mono ?_
 rintro e w2 ⟨rfl,hb⟩
 replace HX:=aa (HX.up hb)
 clear hb
 have c13:w2.cell? ⟨w.heap.size,13,none⟩=some (.slice A.aK A.nK A.cK):=ie HX.a 13
 have d13:w2.cell? ⟨w.heap.size+1,13,none⟩=some (.slice B.aK A.nK B.cK):=by rw [ie HX.b 13,HEB.out];rfl
 have c14:w2.cell? ⟨w.heap.size,14,none⟩=some (.slice A.aL A.nL A.cL):=ie HX.a 14
 have d14:w2.cell? ⟨w.heap.size+1,14,none⟩=some (.slice B.aL A.nL B.cL):=by rw [ie HX.b 14,HEB.out];rfl
 go_wp2_with fail
 clear c13 d13 c14 d14
 go_loopw [5] (fun s wr=>∃ k:Nat,k≤A.nK∧s=.int .i64 k∧Hid (Two w A.cells B.cells 34 wr)) (fun s _=>A.nK-(intOf s).toNat)
 case atStart=>exact ⟨0,Nat.zero_le _,rfl,HX⟩
 clear HX
 obtain ⟨k,hk,rfl,HX⟩:=hrel
 have c9:wr.cell? ⟨w.heap.size,13,none⟩=some (.slice A.aK A.nK A.cK):=ie HX.a 13
 by_cases hlt:k<A.nK
 ·
  have hlt':(k:Int)<(A.nK:Int):=by omega
  have hd:Below wr.heap.size wr wr.drew:=(Below.refl _ _).drew
  go_wp2_with fail
  replace HX:=aa (HX.up hd)
  clear hd c9
  obtain ⟨g,o,ea,s1⟩:=(H1.k.up HX.bel) k hlt
  obtain ⟨g2,o2,eb,s2⟩:=(HK2.up HX.bel) k hlt
  have hS0:(fun w'=>w'.heap[w.heap.size]?=some (.cells A.cells 34 (0,0))∧w'.heap[w.heap.size+1]?=some (.cells B.cells 34 (0,0))∧(∀ j,j<8→w'.cell? ⟨g,o+k*8+j,none⟩=(#[.int .i64 (A.K k).id,.int .i64 (A.K k).inn,.int .i64 (A.K k).refs,.int .i64 (A.K k).k,.int .i64 (A.K k).d,.int .i64 (A.K k).s,.int .i64 (A.K k).p,.string (A.K k).b]:Array Value)[j]?)∧∀ j,j<8→w'.cell? ⟨g2,o2+k*8+j,none⟩=(#[.int .i64 (A.K k).id,.int .i64 (A.K k).inn,.int .i64 (A.K k).refs,.int .i64 (A.K k).k,.int .i64 (A.K k).d,.int .i64 (A.K k).s,.int .i64 (A.K k).p,.string (A.K k).b]:Array Value)[j]?) wr.drew:=⟨HX.a,HX.b,s1,s2⟩
  have Hcs:Hid (∀ wx:World,(fun w'=>w'.heap[w.heap.size]?=some (.cells A.cells 34 (0,0))∧w'.heap[w.heap.size+1]?=some (.cells B.cells 34 (0,0))∧(∀ j,j<8→w'.cell? ⟨g,o+k*8+j,none⟩=(#[.int .i64 (A.K k).id,.int .i64 (A.K k).inn,.int .i64 (A.K k).refs,.int .i64 (A.K k).k,.int .i64 (A.K k).d,.int .i64 (A.K k).s,.int .i64 (A.K k).p,.string (A.K k).b]:Array Value)[j]?)∧∀ j,j<8→w'.cell? ⟨g2,o2+k*8+j,none⟩=(#[.int .i64 (A.K k).id,.int .i64 (A.K k).inn,.int .i64 (A.K k).refs,.int .i64 (A.K k).k,.int .i64 (A.K k).d,.int .i64 (A.K k).s,.int .i64 (A.K k).p,.string (A.K k).b]:Array Value)[j]?) wx→wx.cell? ⟨w.heap.size,13,none⟩=some (.slice (some ⟨g,o,none⟩) A.nK A.cK)∧wx.cell? ⟨w.heap.size+1,13,none⟩=some (.slice (some ⟨g2,o2,none⟩) A.nK B.cK)):=fun wx h=>⟨by rw [←ea];exact ie h.1 13,by rw [←eb,ie h.2.1 13,HEB.out];rfl⟩
  clear ea eb s1 s2
  refine wp_region_held_drew (S:=fun w'=>w'.heap[w.heap.size]?=some (.cells A.cells 34 (0,0))∧w'.heap[w.heap.size+1]?=some (.cells B.cells 34 (0,0))∧(∀ j,j<8→w'.cell? ⟨g,o+k*8+j,none⟩=(#[.int .i64 (A.K k).id,.int .i64 (A.K k).inn,.int .i64 (A.K k).refs,.int .i64 (A.K k).k,.int .i64 (A.K k).d,.int .i64 (A.K k).s,.int .i64 (A.K k).p,.string (A.K k).b]:Array Value)[j]?)∧∀ j,j<8→w'.cell? ⟨g2,o2+k*8+j,none⟩=(#[.int .i64 (A.K k).id,.int .i64 (A.K k).inn,.int .i64 (A.K k).refs,.int .i64 (A.K k).k,.int .i64 (A.K k).d,.int .i64 (A.K k).s,.int .i64 (A.K k).p,.string (A.K k).b]:Array Value)[j]?) (by kernel_rfl) hS0 (fun hHeld=>?_)
  generalize wr.drew=V at *
  refine t0 ?_
  refine tXq 1 82 ?_
  iterate 2 refine tN ?_
  refine tC 4 85 (v:=.agg #[.int .i64 (A.K k).id,.int .i64 (A.K k).inn,.int .i64 (A.K k).refs,.int .i64 (A.K k).k,.int .i64 (A.K k).d,.int .i64 (A.K k).s,.int .i64 (A.K k).p,.string (A.K k).b]) ?_ ?_
  ·
   intro wx hSw
   exact jg 51 8 _ Tryz.underlying51 rfl BI (.tmp 84) rfl g (o+k*8) rfl _ rfl hSw.2.2.1
  try simp only [Act.put,PZ]
  refine tN ?_
  refine tXq 6 87 ?_
  iterate 2 refine tN ?_
  refine tC 9 90 (v:=.agg #[.int .i64 (A.K k).id,.int .i64 (A.K k).inn,.int .i64 (A.K k).refs,.int .i64 (A.K k).k,.int .i64 (A.K k).d,.int .i64 (A.K k).s,.int .i64 (A.K k).p,.string (A.K k).b]) ?_ ?_
  ·
   intro wx hSw
   exact jg 51 8 _ Tryz.underlying51 rfl BI (.tmp 89) rfl g2 (o2+k*8) rfl _ rfl hSw.2.2.2
  try simp only [Act.put,PZ]
  refine tF ?_
  refine dnq ?_
  clear hHeld hS0 Hcs
  exact gM
 obtain rfl:k=A.nK:=by omega
 have hkk:¬ ((A.nK:Nat):Int)<((A.nK:Nat):Int):=by omega
 go_wp2_with fail
 clear c9 hkk
 go_loopw [6] (fun s wr=>∃ k:Nat,k≤A.nL∧s=.int .i64 k∧Hid (Two w A.cells B.cells 34 wr)) (fun s _=>A.nL-(intOf s).toNat)
 case atStart=>exact ⟨0,Nat.zero_le _,rfl,HX⟩
 clear HX
 obtain ⟨k,hk,rfl,HX⟩:=hrel
 have c9:wr.cell? ⟨w.heap.size,14,none⟩=some (.slice A.aL A.nL A.cL):=ie HX.a 14
 by_cases hlt:k<A.nL
 ·
  have hlt':(k:Int)<(A.nL:Int):=by omega
  have hd:Below wr.heap.size wr wr.drew:=(Below.refl _ _).drew
  go_wp2_with fail
  replace HX:=aa (HX.up hd)
  clear hd c9
  obtain ⟨g,o,ea,s1⟩:=(H1.l.up HX.bel) k hlt
  obtain ⟨g2,o2,eb,s2⟩:=(HL2.up HX.bel) k hlt
  have hS0:(fun w'=>w'.heap[w.heap.size]?=some (.cells A.cells 34 (0,0))∧w'.heap[w.heap.size+1]?=some (.cells B.cells 34 (0,0))∧(∀ j,j<8→w'.cell? ⟨g,o+k*8+j,none⟩=((A.L k).cells)[j]?)∧∀ j,j<8→w'.cell? ⟨g2,o2+k*8+j,none⟩=((B.L k).cells)[j]?) wr.drew:=⟨HX.a,HX.b,s1,s2⟩
  have Hcs:Hid (∀ wx:World,(fun w'=>w'.heap[w.heap.size]?=some (.cells A.cells 34 (0,0))∧w'.heap[w.heap.size+1]?=some (.cells B.cells 34 (0,0))∧(∀ j,j<8→w'.cell? ⟨g,o+k*8+j,none⟩=((A.L k).cells)[j]?)∧∀ j,j<8→w'.cell? ⟨g2,o2+k*8+j,none⟩=((B.L k).cells)[j]?) wx→wx.cell? ⟨w.heap.size,14,none⟩=some (.slice (some ⟨g,o,none⟩) A.nL A.cL)∧wx.cell? ⟨w.heap.size+1,14,none⟩=some (.slice (some ⟨g2,o2,none⟩) A.nL B.cL)):=fun wx h=>⟨by rw [←ea];exact ie h.1 14,by rw [←eb,ie h.2.1 14,HEB.out];rfl⟩
  clear ea eb s1 s2
  refine wp_region_held_drew (S:=fun w'=>w'.heap[w.heap.size]?=some (.cells A.cells 34 (0,0))∧w'.heap[w.heap.size+1]?=some (.cells B.cells 34 (0,0))∧(∀ j,j<8→w'.cell? ⟨g,o+k*8+j,none⟩=((A.L k).cells)[j]?)∧∀ j,j<8→w'.cell? ⟨g2,o2+k*8+j,none⟩=((B.L k).cells)[j]?) (by kernel_rfl) hS0 (fun hHeld=>?_)
  generalize wr.drew=V at *
  refine t0 ?_
  refine tXq 1 100 ?_
  iterate 2 refine tN ?_
  refine tC 4 103 (v:=.agg (A.L k).cells) ?_ ?_
  ·
   intro wx hSw
   exact jg 47 8 _ Tryz.underlying47 rfl BJ (.tmp 102) rfl g (o+k*8) rfl (A.L k).cells rfl hSw.2.2.1
  try simp only [Act.put,PZ]
  refine tN ?_
  refine tXq 6 105 ?_
  iterate 2 refine tN ?_
  refine tC 9 108 (v:=.agg (B.L k).cells) ?_ ?_
  ·
   intro wx hSw
   exact jg 47 8 _ Tryz.underlying47 rfl BJ (.tmp 107) rfl g2 (o2+k*8) rfl (B.L k).cells rfl hSw.2.2.2
  try simp only [Act.put,PZ]
  refine rq1 10 (fun K hK=>?_)
  go_simp
  refine (uI (A.L k) (B.L k) _ (HS.ls k hlt) ((H1.ls k hlt).up HX.bel) ((HQ2 k hlt).up HX.bel) (HL k hlt)).mono ?_
  rintro e V1 ⟨rfl,hb⟩
  replace HX:=aa (HX.up hb)
  have hS1:(fun w'=>w'.heap[w.heap.size]?=some (.cells A.cells 34 (0,0))∧w'.heap[w.heap.size+1]?=some (.cells B.cells 34 (0,0))∧(∀ j,j<8→w'.cell? ⟨g,o+k*8+j,none⟩=((A.L k).cells)[j]?)∧∀ j,j<8→w'.cell? ⟨g2,o2+k*8+j,none⟩=((B.L k).cells)[j]?) V1:=⟨HX.a,HX.b,FQ hS0.2.2.1 rfl hb,FQ hS0.2.2.2 rfl hb⟩
  clear hb hS0
  go_wp2_with fail
  refine ah (hK _ _ hS1) ?_
  intro hHeld
  clear hK K
  refine tN ?_
  refine dnq ?_
  clear hHeld hS1 Hcs
  exact gM
 obtain rfl:k=A.nL:=by omega
 have hkk:¬ ((A.nL:Nat):Int)<((A.nL:Nat):Int):=by omega
 exact gQ
open Go.ChangeShapes Go.WideShapes Go.ChangeAt Go.RowKit
theorem own:ownKnob Tryz.prog.godebug=none:=by kernel_rfl
theorem laidOut:laidOutB Tryz.prog=true:=by kernel_rfl
theorem Fe (h:w.cell? a=some v):a.block<w.heap.size:=by
 unfold World.cell? at h
 split at h
 ·
  rename_i heq
  exact (Array.getElem?_eq_some_iff.1 heq).1
 cases h
theorem zJ {H:Type} {enc:TypeId × Value→H} {W:World} {held:Bool} {a:Option Addr} {len cap:Nat} {d:DataW H} {p:List MemPlace}
  (h:DataW.Trod enc Tryz.prog W 0 (fun _=>true) held 22 (.slice a len cap) d p):len≤maxLen∧(len≤1048576→Code W.heap.size (.slice a len cap) len W):=by
 obtain ⟨fuel,hf⟩:=h
 rcases open_ints Tryz.underlying22 Tryz.underlying5 (by kernel_rfl) hf with ⟨hcs,_⟩ | ⟨x,l,c,zs,hcs,_,hl,hm,hz,_,hcell,hwz⟩
 ·
  simp [Value.cells] at hcs
  obtain ⟨rfl,rfl,rfl⟩:=hcs
  exact ⟨Nat.zero_le _,fun _=>.inl ⟨⟨_,_,rfl⟩,rfl⟩⟩
 simp [Value.cells] at hcs
 obtain ⟨rfl,rfl,rfl⟩:=hcs
 refine ⟨by omega,fun hs=>?_⟩
 by_cases h0:len=0
 ·
  subst h0
  exact .inl ⟨⟨_,_,rfl⟩,rfl⟩
 obtain ⟨b,off,spot⟩:=x
 have hz':zs.length=cap:=by simpa using hz
 have hc0:=hcell 0 (by omega)
 have hspot:spot=none:=by simpa [Addr.add] using World.cell?_spot hc0
 subst hspot
 have hb:b<W.heap.size:=by
  have:=Fe hc0
  simpa [Addr.add] using this
 refine .inr ⟨b,off,cap,rfl,hb,hs,fun i hi=>?_⟩
 have hci:=hcell i (by omega)
 have hw:(Lit.int .u8 (zs.getD i 0)).wf=true:=by
  refine hwz _ ?_
  rw [List.getD_eq_getElem?_getD,List.getElem?_eq_getElem (by omega)]
  exact List.getElem_mem _
 have hx:0≤zs.getD i 0∧zs.getD i 0≤255:=by simpa [Lit.wf,IntKind.min,IntKind.max,IntKind.signed,IntKind.bits] using hw
 refine ⟨(zs.getD i 0).toNat,by omega,?_⟩
 rw [show (((zs.getD i 0).toNat:Nat):Int)=zs.getD i 0 by omega]
 have e:(⟨b,off,none⟩:Addr).add i=⟨b,off+i,none⟩:=by unfold Addr.add;split <;> simp_all
 rw [e] at hci
 exact hci
