import Derived.Test.YthicmlolanifhaaGreatRows
import Derived.Test.YthicmlolanifhaaGreatV30
import Derived.Test.YthicmlolanifhaaGreatV37
import Derived.ChangeOld
import Derived.OpenShut
import Derived.ProofKit
import Derived.ShutString
namespace Go.Proofs.YthicmlolanifhaaGreat
set_option maxRecDepth 100000
set_option maxHeartbeats 9000000
open Go.RowKit
set_option linter.unusedVariables false
set_option linter.unusedSimpArgs false
variable {a:Addr} {i:Nat} {K:Nat→Pkt} {p:Prop} {S:Swg} {v:Value} {w:World}
theorem gZ (h:p:=by
 go_wp2_with fail
 go_roundw
 case rel=>exact ⟨k+1,by omega,by go_num,HX⟩
 case measure=>simp [intOf];omega):p:=h
theorem hG (h:p:=by
 clear hS hS0
 go_wp2_with fail
 refine ah (hK _ _ hS1) ?_
 intro hHeld
 clear hK K
 refine tN ?_
 refine dnq ?_
 clear hHeld hS1
 exact gZ):p:=h
theorem ia (h:p:=by
 have B9:=HX.bel
 go_wp2_with fail
 go_ret
 exact ⟨rfl,B9⟩):p:=h
theorem ub (A B:Rnd) (w:World) (hs:A.Small) (h1:mo w A) (h2:mo w B) (ha:Alike A B) :
  Calls Tryz.prog 71 #[.agg A.cells,.agg B.cells] w fun e w'=>e=.returned (.bool true)∧Below w.heap.size w w':=by
 have HS:=aa hs
 have H1:=aa h1
 have HEB:Hid (B.cells=#[.slice B.aQ A.nQ B.cQ,.slice B.aD A.nD B.cD,.int .i64 A.turn,.bool A.fresh,.slice B.aS A.nS B.cS]):=by
  show B.cells=_
  unfold Rnd.cells
  rw [ha.nQ,ha.nD,ha.t,ha.f,ha.nS]
 have HQ2:Hid (iX w B.aQ A.nQ fun i=>.int .i64 (A.q i)):=by have:=h2.q;rw [ha.nQ,ha.q] at this;exact this
 have HD2:Hid (iX w B.aD A.nD fun i=>.int .i64 (A.d i)):=by have:=h2.d;rw [ha.nD,ha.d] at this;exact this
 have HS2:Hid (iX w B.aS A.nS fun i=>.slice (B.A i) (A.L i) (B.C i)):=by have:=h2.s;rw [ha.nS,ha.l] at this;exact this
 have HZ2:Hid (∀ i,i<A.nS→iX w (B.A i) (A.L i) fun j=>.int .i64 (A.z i j)):=by have:=h2.z;rw [ha.nS,ha.l,ha.z] at this;exact this
 have HS1:=aa h1.s
 have HZ1:=aa h1.z
 have HLm:=aa hs.l
 have hnS:=hs.s
 have hbb:(A.fresh != A.fresh)=false:=by cases A.fresh <;> rfl
 have hbb2:(!(A.fresh == A.fresh))=false:=by cases A.fresh <;> rfl
 obtain ⟨W,eW⟩:∃ W,(w.alloc (.cells A.cells 46)).alloc (.cells B.cells 46)=W:=⟨_,rfl⟩
 have HX:Hid (Two w A.cells B.cells 46 W):=by rw [←eW];exact Two.start _ _ _ _
 have c2:W.cell? (Hh w.heap.size 2)=some (.int .i64 A.turn):=iv HX.a 2
 have d2:W.cell? (Hh (w.heap.size+1) 2)=some (.int .i64 A.turn):=by rw [iv HX.b 2,HEB.out];rfl
 have c3:W.cell? (Hh w.heap.size 3)=some (.bool A.fresh):=iv HX.a 3
 have d3:W.cell? (Hh (w.heap.size+1) 3)=some (.bool A.fresh):=by rw [iv HX.b 3,HEB.out];rfl
 have c0:W.cell? (Hh w.heap.size 0)=some (.slice A.aQ A.nQ A.cQ):=iv HX.a 0
 have d0:W.cell? (Hh (w.heap.size+1) 0)=some (.slice B.aQ A.nQ B.cQ):=by rw [iv HX.b 0,HEB.out];rfl
 clear hs h1 h2 ha
 go_enter Tryz.func71,Tryz.ntmps71
 go_wp2_with fail
 clear eW
 clear c2 d2 c3 d3 c0 d0
 refine (lv A.aQ B.aQ A.nQ A.cQ B.cQ A.q _ HS.q (H1.q.up HX.bel) (HQ2.up HX.bel)).mono ?_
 rintro e w1 ⟨rfl,hS⟩
 replace HX:Hid (Two w A.cells B.cells 46 w1):=HX.up (hS.below _)
 clear hS
 have c1:w1.cell? (Hh w.heap.size 1)=some (.slice A.aD A.nD A.cD):=iv HX.a 1
 have d1:w1.cell? (Hh (w.heap.size+1) 1)=some (.slice B.aD A.nD B.cD):=by rw [iv HX.b 1,HEB.out];rfl
 go_wp2_with fail
 clear c1 d1
 refine (lv A.aD B.aD A.nD A.cD B.cD A.d _ HS.d (H1.d.up HX.bel) (HD2.up HX.bel)).mono ?_
 rintro e w2 ⟨rfl,hS⟩
 replace HX:Hid (Two w A.cells B.cells 46 w2):=HX.up (hS.below _)
 clear hS
 have c4:w2.cell? (Hh w.heap.size 4)=some (.slice A.aS A.nS A.cS):=iv HX.a 4
 have d4:w2.cell? (Hh (w.heap.size+1) 4)=some (.slice B.aS A.nS B.cS):=by rw [iv HX.b 4,HEB.out];rfl
 go_wp2_with fail
 clear c4 d4
 go_loopw [5] (fun s wr=>∃ k:Nat,k≤A.nS∧s=.int .i64 k∧Hid (Two w A.cells B.cells 46 wr)) (fun s _=>A.nS-(intOf s).toNat)
 case atStart=>exact ⟨0,Nat.zero_le _,rfl,HX⟩
 clear HX
 obtain ⟨k,hk,rfl,HX⟩:=hrel
 have c9:wr.cell? (Hh w.heap.size 4)=some (.slice A.aS A.nS A.cS):=iv HX.a 4
 by_cases hlt:k<A.nS
 ·
  have hlt':(k:Int)<(A.nS:Int):=by omega
  have hd:Below wr.heap.size wr wr.drew:=(Below.refl _ _).drew
  go_wp2_with fail
  replace HX:=aa (HX.up hd)
  clear hd c9
  obtain ⟨g,o,ea,s1⟩:=(HS1.up HX.bel) k hlt
  obtain ⟨g2,o2,eb,s2⟩:=(HS2.up HX.bel) k hlt
  have hS0:(fun w'=>w'.cell? (Hh w.heap.size 4)=some (.slice (some (Hh g o)) A.nS A.cS)∧w'.cell? (Hh (w.heap.size+1) 4)=some (.slice (some (Hh g2 o2)) A.nS B.cS)∧w'.cell? (Hh g (o+k))=some (.slice (A.A k) (A.L k) (A.C k))∧w'.cell? (Hh g2 (o2+k))=some (.slice (B.A k) (A.L k) (B.C k))) wr.drew:=⟨by rw [←ea];exact iv HX.a 4,by rw [←eb,iv HX.b 4,HEB.out];rfl,s1,s2⟩
  clear ea eb s1 s2
  refine wp_region_held_drew (S:=fun w'=>w'.cell? (Hh w.heap.size 4)=some (.slice (some (Hh g o)) A.nS A.cS)∧w'.cell? (Hh (w.heap.size+1) 4)=some (.slice (some (Hh g2 o2)) A.nS B.cS)∧w'.cell? (Hh g (o+k))=some (.slice (A.A k) (A.L k) (A.C k))∧w'.cell? (Hh g2 (o2+k))=some (.slice (B.A k) (A.L k) (B.C k))) (by kernel_rfl) hS0 (fun hHeld=>?_)
  generalize wr.drew=V at *
  refine t0 ?_
  iterate 9 refine tN ?_
  refine rq1 10 (fun K hK=>?_)
  go_simp
  refine (lv (A.A k) (B.A k) (A.L k) (A.C k) (B.C k) (A.z k) _ (HLm k hlt) ((HZ1 k hlt).up HX.bel) ((HZ2 k hlt).up HX.bel)).mono ?_
  rintro e V1 ⟨rfl,hS⟩
  replace HX:Hid (Two w A.cells B.cells 46 V1):=HX.up (hS.below _)
  have hS1:(fun w'=>w'.cell? (Hh w.heap.size 4)=some (.slice (some (Hh g o)) A.nS A.cS)∧w'.cell? (Hh (w.heap.size+1) 4)=some (.slice (some (Hh g2 o2)) A.nS B.cS)∧w'.cell? (Hh g (o+k))=some (.slice (A.A k) (A.L k) (A.C k))∧w'.cell? (Hh g2 (o2+k))=some (.slice (B.A k) (A.L k) (B.C k))) V1:=⟨(hS.cell _).trans hS0.1,(hS.cell _).trans hS0.2.1,(hS.cell _).trans hS0.2.2.1,(hS.cell _).trans hS0.2.2.2⟩
  exact hG
 obtain rfl:k=A.nS:=by omega
 have hkk:¬ ((A.nS:Nat):Int)<((A.nS:Nat):Int):=by omega
 exact ia
theorem vq (A B:Lng) (w:World) (hs:A.Small) (h1:zP w A) (h2:zP w B) (ha:iT A B) :
  Calls Tryz.prog 29 #[.agg A.cells,.agg B.cells] w fun e w'=>e=.returned (.bool true)∧Below w.heap.size w w':=by
 have HS:=aa hs
 have H1:=aa h1
 have H2:=aa h2
 have HG:=aa ha.r
 have HEB:Hid (B.cells=#[.bool A.st,.slice B.aT A.nT B.cT,.slice B.aU A.nU B.cU,.slice B.R.aQ B.R.nQ B.R.cQ,.slice B.R.aD B.R.nD B.R.cD,.int .i64 B.R.turn,.bool B.R.fresh,.slice B.R.aS B.R.nS B.R.cS]):=by
  show B.cells=_
  unfold Lng.cells
  rw [ha.st,ha.nT,ha.nU]
 have HT2:Hid (iX w B.aT A.nT fun i=>.int .i64 (A.t i)):=by have:=h2.t;rw [ha.nT,ha.t] at this;exact this
 have HS2:Hid (iX w B.aU A.nU fun i=>.slice (B.uA i) (A.uL i) (B.uC i)):=by have:=h2.u;rw [ha.nU,ha.l] at this;exact this
 have HZ2:Hid (∀ i,i<A.nU→iX w (B.uA i) (A.uL i) fun j=>.int .i64 (A.uz i j)):=by have:=h2.z;rw [ha.nU,ha.l,ha.z] at this;exact this
 have HS1:=aa h1.u
 have HZ1:=aa h1.z
 have HLm:=aa hs.z
 have hnS:=hs.u
 have hbb:(A.st != A.st)=false:=by cases A.st <;> rfl
 have hbb2:(!(A.st == A.st))=false:=by cases A.st <;> rfl
 obtain ⟨W,eW⟩:∃ W,(w.alloc (.cells A.cells 48)).alloc (.cells B.cells 48)=W:=⟨_,rfl⟩
 have HX:Hid (Two w A.cells B.cells 48 W):=by rw [←eW];exact Two.start _ _ _ _
 have c0:W.cell? (Hh w.heap.size 0)=some (.bool A.st):=iv HX.a 0
 have d0:W.cell? (Hh (w.heap.size+1) 0)=some (.bool A.st):=by rw [iv HX.b 0,HEB.out];rfl
 have c1:W.cell? (Hh w.heap.size 1)=some (.slice A.aT A.nT A.cT):=iv HX.a 1
 have d1:W.cell? (Hh (w.heap.size+1) 1)=some (.slice B.aT A.nT B.cT):=by rw [iv HX.b 1,HEB.out];rfl
 clear hs h1 h2 ha
 go_enter Tryz.func29,Tryz.ntmps29
 go_wp2_with fail
 clear eW
 clear c0 d0 c1 d1
 refine (lv A.aT B.aT A.nT A.cT B.cT A.t _ HS.t (H1.t.up HX.bel) (HT2.up HX.bel)).mono ?_
 rintro e w1 ⟨rfl,hS⟩
 replace HX:Hid (Two w A.cells B.cells 48 w1):=HX.up (hS.below _)
 clear hS
 have c3:w1.cell? (Hh w.heap.size 3)=some (.slice A.R.aQ A.R.nQ A.R.cQ):=iv HX.a 3
 have d3:w1.cell? (Hh (w.heap.size+1) 3)=some (.slice B.R.aQ B.R.nQ B.R.cQ):=by rw [iv HX.b 3,HEB.out];rfl
 have c4:w1.cell? (Hh w.heap.size 4)=some (.slice A.R.aD A.R.nD A.R.cD):=iv HX.a 4
 have d4:w1.cell? (Hh (w.heap.size+1) 4)=some (.slice B.R.aD B.R.nD B.R.cD):=by rw [iv HX.b 4,HEB.out];rfl
 have c5:w1.cell? (Hh w.heap.size 5)=some (.int .i64 A.R.turn):=iv HX.a 5
 have d5:w1.cell? (Hh (w.heap.size+1) 5)=some (.int .i64 B.R.turn):=by rw [iv HX.b 5,HEB.out];rfl
 have c6:w1.cell? (Hh w.heap.size 6)=some (.bool A.R.fresh):=iv HX.a 6
 have d6:w1.cell? (Hh (w.heap.size+1) 6)=some (.bool B.R.fresh):=by rw [iv HX.b 6,HEB.out];rfl
 have c7:w1.cell? (Hh w.heap.size 7)=some (.slice A.R.aS A.R.nS A.R.cS):=iv HX.a 7
 have d7:w1.cell? (Hh (w.heap.size+1) 7)=some (.slice B.R.aS B.R.nS B.R.cS):=by rw [iv HX.b 7,HEB.out];rfl
 go_wp2_with fail
 clear c3 d3 c4 d4 c5 d5 c6 d6 c7 d7
 refine (ub A.R B.R _ HS.r (H1.r.up HX.bel) (H2.r.up HX.bel) HG).mono ?_
 rintro e w2 ⟨rfl,hb⟩
 replace HX:=aa (HX.up hb)
 clear hb
 have c2:w2.cell? (Hh w.heap.size 2)=some (.slice A.aU A.nU A.cU):=iv HX.a 2
 have d2:w2.cell? (Hh (w.heap.size+1) 2)=some (.slice B.aU A.nU B.cU):=by rw [iv HX.b 2,HEB.out];rfl
 go_wp2_with fail
 clear c2 d2
 go_loopw [5] (fun s wr=>∃ k:Nat,k≤A.nU∧s=.int .i64 k∧Hid (Two w A.cells B.cells 48 wr)) (fun s _=>A.nU-(intOf s).toNat)
 case atStart=>exact ⟨0,Nat.zero_le _,rfl,HX⟩
 clear HX
 obtain ⟨k,hk,rfl,HX⟩:=hrel
 have c9:wr.cell? (Hh w.heap.size 2)=some (.slice A.aU A.nU A.cU):=iv HX.a 2
 by_cases hlt:k<A.nU
 ·
  have hlt':(k:Int)<(A.nU:Int):=by omega
  have hd:Below wr.heap.size wr wr.drew:=(Below.refl _ _).drew
  go_wp2_with fail
  replace HX:=aa (HX.up hd)
  clear hd c9
  obtain ⟨g,o,ea,s1⟩:=(HS1.up HX.bel) k hlt
  obtain ⟨g2,o2,eb,s2⟩:=(HS2.up HX.bel) k hlt
  have hS0:(fun w'=>w'.cell? (Hh w.heap.size 2)=some (.slice (some (Hh g o)) A.nU A.cU)∧w'.cell? (Hh (w.heap.size+1) 2)=some (.slice (some (Hh g2 o2)) A.nU B.cU)∧w'.cell? (Hh g (o+k))=some (.slice (A.uA k) (A.uL k) (A.uC k))∧w'.cell? (Hh g2 (o2+k))=some (.slice (B.uA k) (A.uL k) (B.uC k))) wr.drew:=⟨by rw [←ea];exact iv HX.a 2,by rw [←eb,iv HX.b 2,HEB.out];rfl,s1,s2⟩
  clear ea eb s1 s2
  refine wp_region_held_drew (S:=fun w'=>w'.cell? (Hh w.heap.size 2)=some (.slice (some (Hh g o)) A.nU A.cU)∧w'.cell? (Hh (w.heap.size+1) 2)=some (.slice (some (Hh g2 o2)) A.nU B.cU)∧w'.cell? (Hh g (o+k))=some (.slice (A.uA k) (A.uL k) (A.uC k))∧w'.cell? (Hh g2 (o2+k))=some (.slice (B.uA k) (A.uL k) (B.uC k))) (by kernel_rfl) hS0 (fun hHeld=>?_)
  generalize wr.drew=V at *
  refine t0 ?_
  iterate 9 refine tN ?_
  refine rq1 10 (fun K hK=>?_)
  go_simp
  refine (lv (A.uA k) (B.uA k) (A.uL k) (A.uC k) (B.uC k) (A.uz k) _ (HLm k hlt) ((HZ1 k hlt).up HX.bel) ((HZ2 k hlt).up HX.bel)).mono ?_
  rintro e V1 ⟨rfl,hS⟩
  replace HX:Hid (Two w A.cells B.cells 48 V1):=HX.up (hS.below _)
  have hS1:(fun w'=>w'.cell? (Hh w.heap.size 2)=some (.slice (some (Hh g o)) A.nU A.cU)∧w'.cell? (Hh (w.heap.size+1) 2)=some (.slice (some (Hh g2 o2)) A.nU B.cU)∧w'.cell? (Hh g (o+k))=some (.slice (A.uA k) (A.uL k) (A.uC k))∧w'.cell? (Hh g2 (o2+k))=some (.slice (B.uA k) (A.uL k) (B.uC k))) V1:=⟨(hS.cell _).trans hS0.1,(hS.cell _).trans hS0.2.1,(hS.cell _).trans hS0.2.2.1,(hS.cell _).trans hS0.2.2.2⟩
  exact hG
 obtain rfl:k=A.nU:=by omega
 have hkk:¬ ((A.nU:Nat):Int)<((A.nU:Nat):Int):=by omega
 exact ia
theorem tZ (a1 a2:Option Addr) (n c1 c2:Nat) (f:Nat→Ent) (w:World) (hn:n≤1048576) (h1:lO w a1 n f) (h2:lO w a2 n f) :
  Calls Tryz.prog 15 #[.slice a1 n c1,.slice a2 n c2] w fun e w'=>e=.returned (.bool true)∧Same w w':=by
 go_enter Tryz.func15,Tryz.ntmps15
 go_wp2_with fail
 go_loopw [5] (fun i wr=>∃ k:Nat,k≤n∧i=.int .i64 k∧Same w wr) (fun i _=>n-(intOf i).toNat)
 case atStart=>exact ⟨0,Nat.zero_le _,rfl,Same.refl _⟩
 obtain ⟨k,hk,rfl,hS⟩:=hrel
 by_cases hlt:k<n
 ·
  obtain ⟨g1,o1,rfl,p1,p2,p3⟩:=h1 k hlt
  obtain ⟨g2,o2,rfl,q1,q2,q3⟩:=h2 k hlt
  rw [←hS.cell] at p1 p2 p3 q1 q2 q3
  clear h1 h2
  have hlt':(k:Int)<n:=by omega
  go_wp2_with fail
  go_quiet (fail)
  go_wp2_with fail
  go_roundw
  case rel=>exact ⟨k+1,by omega,by go_num,hS.drewN _⟩
  case measure=>simp [intOf];omega
 obtain rfl:k=n:=by omega
 go_wp2_with fail
 go_ret
 exact ⟨rfl,hS⟩
theorem DZ (h:w.cell? a=some v):a.block<w.heap.size:=by
 rcases Nat.lt_or_ge a.block w.heap.size with h' | h'
 ·
  exact h'
 simp [World.cell?,Array.getElem?_eq_none h'] at h
theorem B8:(Tryz.prog.info? 50).map (·.size)=some 8:=by kernel_rfl
theorem Ca:(Tryz.prog.info? 48).map (·.size)=some 8:=by kernel_rfl
theorem Ga {w':World} {g o:Nat} {cs:Array Value} (h:∀ j,j<8→w.cell? (Hh g (o+j))=cs[j]?) (hz:cs.size=8) (hb:Below w.heap.size w w'):∀ j,j<8→w'.cell? (Hh g (o+j))=cs[j]?:=fun j hj=>by
 have h1:=h j hj
 have h2:cs[j]?=some cs[j]:=by simp [hz,hj]
 rw [h2] at h1 ⊢
 rw [hb.cell (p:=(Hh g (o+j))) (DZ h1)]
 exact h1
theorem pj (A B:Swg) (w:World) (hs:A.Small) (h1:lN w A) (h2:lN w B) (ha:iE A B) :
  Calls Tryz.prog 9 #[.agg A.cells,.agg B.cells] w fun e w'=>e=.returned (.bool true)∧Below w.heap.size w w':=by
 have HS:=aa hs
 have H1:=aa h1
 have HN:=aa ha.n
 have HL:=aa ha.l
 have HE2:Hid (lO w B.aE A.nE A.e):=by have:=h2.e;rw [ha.nE,ha.e] at this;exact this
 have HN2:=aa h2.n
 have HK2:Hid (pP w B.aK A.nK A.K):=by have:=h2.k;rw [ha.nK,ha.k] at this;exact this
 have HL2:Hid (Ec w B.aL A.nL B.L):=by have:=h2.l;rw [ha.nL] at this;exact this
 have HQ2:Hid (∀ i,i<A.nL→zP w (B.L i)):=by have:=h2.ls;rw [ha.nL] at this;exact this
 have HEB:Hid (B.cells=#[.int .i64 A.C.p,.int .i64 A.C.c,.int .i64 A.C.xo,.int .i64 A.C.xn,.int .i64 A.C.hd,.int .i64 A.C.lo,.int .i64 A.C.dl,.int .i64 A.now,.int .i64 A.nx,.slice B.aE A.nE B.cE,.slice B.N.aU B.N.nU B.N.cU,.int .i64 B.N.lo,.slice B.N.aP B.N.nP B.N.cP,.slice B.aK A.nK B.cK,.slice B.aL A.nL B.cL,.int .i64 A.dr,.int .i64 A.lst]):=by
  show B.cells=_
  unfold Swg.cells
  rw [ha.c,ha.now,ha.nx,ha.nE,ha.nK,ha.nL,ha.dr,ha.lst]
 have hnK:=hs.k
 have hnL:=hs.l
 obtain ⟨W,eW⟩:∃ W,(w.alloc (.cells A.cells 34)).alloc (.cells B.cells 34)=W:=⟨_,rfl⟩
 have HX:Hid (Two w A.cells B.cells 34 W):=by rw [←eW];exact Two.start _ _ _ _
 have c0:W.cell? (Hh w.heap.size 0)=some (.int .i64 A.C.p):=iv HX.a 0
 have d0:W.cell? (Hh (w.heap.size+1) 0)=some (.int .i64 A.C.p):=by rw [iv HX.b 0,HEB.out];rfl
 have c1:W.cell? (Hh w.heap.size 1)=some (.int .i64 A.C.c):=iv HX.a 1
 have d1:W.cell? (Hh (w.heap.size+1) 1)=some (.int .i64 A.C.c):=by rw [iv HX.b 1,HEB.out];rfl
 have c2:W.cell? (Hh w.heap.size 2)=some (.int .i64 A.C.xo):=iv HX.a 2
 have d2:W.cell? (Hh (w.heap.size+1) 2)=some (.int .i64 A.C.xo):=by rw [iv HX.b 2,HEB.out];rfl
 have c3:W.cell? (Hh w.heap.size 3)=some (.int .i64 A.C.xn):=iv HX.a 3
 have d3:W.cell? (Hh (w.heap.size+1) 3)=some (.int .i64 A.C.xn):=by rw [iv HX.b 3,HEB.out];rfl
 have c4:W.cell? (Hh w.heap.size 4)=some (.int .i64 A.C.hd):=iv HX.a 4
 have d4:W.cell? (Hh (w.heap.size+1) 4)=some (.int .i64 A.C.hd):=by rw [iv HX.b 4,HEB.out];rfl
 have c5:W.cell? (Hh w.heap.size 5)=some (.int .i64 A.C.lo):=iv HX.a 5
 have d5:W.cell? (Hh (w.heap.size+1) 5)=some (.int .i64 A.C.lo):=by rw [iv HX.b 5,HEB.out];rfl
 have c6:W.cell? (Hh w.heap.size 6)=some (.int .i64 A.C.dl):=iv HX.a 6
 have d6:W.cell? (Hh (w.heap.size+1) 6)=some (.int .i64 A.C.dl):=by rw [iv HX.b 6,HEB.out];rfl
 have c7:W.cell? (Hh w.heap.size 7)=some (.int .i64 A.now):=iv HX.a 7
 have d7:W.cell? (Hh (w.heap.size+1) 7)=some (.int .i64 A.now):=by rw [iv HX.b 7,HEB.out];rfl
 have c8:W.cell? (Hh w.heap.size 8)=some (.int .i64 A.nx):=iv HX.a 8
 have d8:W.cell? (Hh (w.heap.size+1) 8)=some (.int .i64 A.nx):=by rw [iv HX.b 8,HEB.out];rfl
 have c15:W.cell? (Hh w.heap.size 15)=some (.int .i64 A.dr):=iv HX.a 15
 have d15:W.cell? (Hh (w.heap.size+1) 15)=some (.int .i64 A.dr):=by rw [iv HX.b 15,HEB.out];rfl
 have c16:W.cell? (Hh w.heap.size 16)=some (.int .i64 A.lst):=iv HX.a 16
 have d16:W.cell? (Hh (w.heap.size+1) 16)=some (.int .i64 A.lst):=by rw [iv HX.b 16,HEB.out];rfl
 have c9:W.cell? (Hh w.heap.size 9)=some (.slice A.aE A.nE A.cE):=iv HX.a 9
 have d9:W.cell? (Hh (w.heap.size+1) 9)=some (.slice B.aE A.nE B.cE):=by rw [iv HX.b 9,HEB.out];rfl
 clear hs h1 h2 ha
 go_enter Tryz.func9,Tryz.ntmps9
 go_wp2_with fail
 clear eW
 clear c0 d0 c1 d1 c2 d2 c3 d3 c4 d4 c5 d5 c6 d6 c7 d7 c8 d8 c15 d15 c16 d16 c9 d9
 refine (tZ A.aE B.aE A.nE A.cE B.cE A.e _ HS.e (H1.e.up HX.bel) (HE2.up HX.bel)).mono ?_
 rintro e w1 ⟨rfl,hS⟩
 replace HX:Hid (Two w A.cells B.cells 34 w1):=HX.up (hS.below _)
 clear hS
 have c10:w1.cell? (Hh w.heap.size 10)=some (.slice A.N.aU A.N.nU A.N.cU):=iv HX.a 10
 have d10:w1.cell? (Hh (w.heap.size+1) 10)=some (.slice B.N.aU B.N.nU B.N.cU):=by rw [iv HX.b 10,HEB.out];rfl
 have c11:w1.cell? (Hh w.heap.size 11)=some (.int .i64 A.N.lo):=iv HX.a 11
 have d11:w1.cell? (Hh (w.heap.size+1) 11)=some (.int .i64 B.N.lo):=by rw [iv HX.b 11,HEB.out];rfl
 have c12:w1.cell? (Hh w.heap.size 12)=some (.slice A.N.aP A.N.nP A.N.cP):=iv HX.a 12
 have d12:w1.cell? (Hh (w.heap.size+1) 12)=some (.slice B.N.aP B.N.nP B.N.cP):=by rw [iv HX.b 12,HEB.out];rfl
 go_wp2_with fail
 clear c10 d10 c11 d11 c12 d12
 refine (uc A.N B.N _ HS.n (H1.n.up HX.bel) (HN2.up HX.bel) HN).mono ?_
 rintro e w2 ⟨rfl,hb⟩
 replace HX:=aa (HX.up hb)
 clear hb
 have c13:w2.cell? (Hh w.heap.size 13)=some (.slice A.aK A.nK A.cK):=iv HX.a 13
 have d13:w2.cell? (Hh (w.heap.size+1) 13)=some (.slice B.aK A.nK B.cK):=by rw [iv HX.b 13,HEB.out];rfl
 have c14:w2.cell? (Hh w.heap.size 14)=some (.slice A.aL A.nL A.cL):=iv HX.a 14
 have d14:w2.cell? (Hh (w.heap.size+1) 14)=some (.slice B.aL A.nL B.cL):=by rw [iv HX.b 14,HEB.out];rfl
 go_wp2_with fail
 clear c13 d13 c14 d14
 go_loopw [5] (fun s wr=>∃ k:Nat,k≤A.nK∧s=.int .i64 k∧Hid (Two w A.cells B.cells 34 wr)) (fun s _=>A.nK-(intOf s).toNat)
 case atStart=>exact ⟨0,Nat.zero_le _,rfl,HX⟩
 clear HX
 obtain ⟨k,hk,rfl,HX⟩:=hrel
 have c9:wr.cell? (Hh w.heap.size 13)=some (.slice A.aK A.nK A.cK):=iv HX.a 13
 by_cases hlt:k<A.nK
 ·
  have hlt':(k:Int)<(A.nK:Int):=by omega
  have hd:Below wr.heap.size wr wr.drew:=(Below.refl _ _).drew
  go_wp2_with fail
  replace HX:=aa (HX.up hd)
  clear hd c9
  obtain ⟨g,o,ea,s1⟩:=(H1.k.up HX.bel) k hlt
  obtain ⟨g2,o2,eb,s2⟩:=(HK2.up HX.bel) k hlt
  have hS0:(fun w'=>w'.heap[w.heap.size]?=some (.cells A.cells 34 (0,0))∧w'.heap[w.heap.size+1]?=some (.cells B.cells 34 (0,0))∧(∀ j,j<8→w'.cell? (Hh g (o+k*8+j))=(#[.int .i64 (A.K k).id,.int .i64 (A.K k).inn,.int .i64 (A.K k).refs,.int .i64 (A.K k).k,.int .i64 (A.K k).d,.int .i64 (A.K k).s,.int .i64 (A.K k).p,.string (A.K k).b]:Array Value)[j]?)∧∀ j,j<8→w'.cell? (Hh g2 (o2+k*8+j))=(#[.int .i64 (A.K k).id,.int .i64 (A.K k).inn,.int .i64 (A.K k).refs,.int .i64 (A.K k).k,.int .i64 (A.K k).d,.int .i64 (A.K k).s,.int .i64 (A.K k).p,.string (A.K k).b]:Array Value)[j]?) wr.drew:=⟨HX.a,HX.b,s1,s2⟩
  have Hcs:Hid (∀ wx:World,(fun w'=>w'.heap[w.heap.size]?=some (.cells A.cells 34 (0,0))∧w'.heap[w.heap.size+1]?=some (.cells B.cells 34 (0,0))∧(∀ j,j<8→w'.cell? (Hh g (o+k*8+j))=(#[.int .i64 (A.K k).id,.int .i64 (A.K k).inn,.int .i64 (A.K k).refs,.int .i64 (A.K k).k,.int .i64 (A.K k).d,.int .i64 (A.K k).s,.int .i64 (A.K k).p,.string (A.K k).b]:Array Value)[j]?)∧∀ j,j<8→w'.cell? (Hh g2 (o2+k*8+j))=(#[.int .i64 (A.K k).id,.int .i64 (A.K k).inn,.int .i64 (A.K k).refs,.int .i64 (A.K k).k,.int .i64 (A.K k).d,.int .i64 (A.K k).s,.int .i64 (A.K k).p,.string (A.K k).b]:Array Value)[j]?) wx→wx.cell? (Hh w.heap.size 13)=some (.slice (some (Hh g o)) A.nK A.cK)∧wx.cell? (Hh (w.heap.size+1) 13)=some (.slice (some (Hh g2 o2)) A.nK B.cK)):=fun wx h=>⟨by rw [←ea];exact iv h.1 13,by rw [←eb,iv h.2.1 13,HEB.out];rfl⟩
  clear ea eb s1 s2
  refine wp_region_held_drew (S:=fun w'=>w'.heap[w.heap.size]?=some (.cells A.cells 34 (0,0))∧w'.heap[w.heap.size+1]?=some (.cells B.cells 34 (0,0))∧(∀ j,j<8→w'.cell? (Hh g (o+k*8+j))=(#[.int .i64 (A.K k).id,.int .i64 (A.K k).inn,.int .i64 (A.K k).refs,.int .i64 (A.K k).k,.int .i64 (A.K k).d,.int .i64 (A.K k).s,.int .i64 (A.K k).p,.string (A.K k).b]:Array Value)[j]?)∧∀ j,j<8→w'.cell? (Hh g2 (o2+k*8+j))=(#[.int .i64 (A.K k).id,.int .i64 (A.K k).inn,.int .i64 (A.K k).refs,.int .i64 (A.K k).k,.int .i64 (A.K k).d,.int .i64 (A.K k).s,.int .i64 (A.K k).p,.string (A.K k).b]:Array Value)[j]?) (by kernel_rfl) hS0 (fun hHeld=>?_)
  generalize wr.drew=V at *
  refine t0 ?_
  refine tXq 1 82 ?_
  iterate 2 refine tN ?_
  refine tC 4 85 (v:=.agg #[.int .i64 (A.K k).id,.int .i64 (A.K k).inn,.int .i64 (A.K k).refs,.int .i64 (A.K k).k,.int .i64 (A.K k).d,.int .i64 (A.K k).s,.int .i64 (A.K k).p,.string (A.K k).b]) ?_ ?_
  ·
   intro wx hSw
   exact jF 50 8 _ Tryz.underlying50 rfl B8 (.tmp 84) rfl g (o+k*8) rfl _ rfl hSw.2.2.1
  try simp only [Act.put,PZ]
  refine tN ?_
  refine tXq 6 87 ?_
  iterate 2 refine tN ?_
  refine tC 9 90 (v:=.agg #[.int .i64 (A.K k).id,.int .i64 (A.K k).inn,.int .i64 (A.K k).refs,.int .i64 (A.K k).k,.int .i64 (A.K k).d,.int .i64 (A.K k).s,.int .i64 (A.K k).p,.string (A.K k).b]) ?_ ?_
  ·
   intro wx hSw
   exact jF 50 8 _ Tryz.underlying50 rfl B8 (.tmp 89) rfl g2 (o2+k*8) rfl _ rfl hSw.2.2.2
  try simp only [Act.put,PZ]
  refine tF ?_
  refine dnq ?_
  clear hHeld hS0 Hcs
  exact gZ
 obtain rfl:k=A.nK:=by omega
 have hkk:¬ ((A.nK:Nat):Int)<((A.nK:Nat):Int):=by omega
 go_wp2_with fail
 clear c9 hkk
 go_loopw [6] (fun s wr=>∃ k:Nat,k≤A.nL∧s=.int .i64 k∧Hid (Two w A.cells B.cells 34 wr)) (fun s _=>A.nL-(intOf s).toNat)
 case atStart=>exact ⟨0,Nat.zero_le _,rfl,HX⟩
 clear HX
 obtain ⟨k,hk,rfl,HX⟩:=hrel
 have c9:wr.cell? (Hh w.heap.size 14)=some (.slice A.aL A.nL A.cL):=iv HX.a 14
 by_cases hlt:k<A.nL
 ·
  have hlt':(k:Int)<(A.nL:Int):=by omega
  have hd:Below wr.heap.size wr wr.drew:=(Below.refl _ _).drew
  go_wp2_with fail
  replace HX:=aa (HX.up hd)
  clear hd c9
  obtain ⟨g,o,ea,s1⟩:=(H1.l.up HX.bel) k hlt
  obtain ⟨g2,o2,eb,s2⟩:=(HL2.up HX.bel) k hlt
  have hS0:(fun w'=>w'.heap[w.heap.size]?=some (.cells A.cells 34 (0,0))∧w'.heap[w.heap.size+1]?=some (.cells B.cells 34 (0,0))∧(∀ j,j<8→w'.cell? (Hh g (o+k*8+j))=((A.L k).cells)[j]?)∧∀ j,j<8→w'.cell? (Hh g2 (o2+k*8+j))=((B.L k).cells)[j]?) wr.drew:=⟨HX.a,HX.b,s1,s2⟩
  have Hcs:Hid (∀ wx:World,(fun w'=>w'.heap[w.heap.size]?=some (.cells A.cells 34 (0,0))∧w'.heap[w.heap.size+1]?=some (.cells B.cells 34 (0,0))∧(∀ j,j<8→w'.cell? (Hh g (o+k*8+j))=((A.L k).cells)[j]?)∧∀ j,j<8→w'.cell? (Hh g2 (o2+k*8+j))=((B.L k).cells)[j]?) wx→wx.cell? (Hh w.heap.size 14)=some (.slice (some (Hh g o)) A.nL A.cL)∧wx.cell? (Hh (w.heap.size+1) 14)=some (.slice (some (Hh g2 o2)) A.nL B.cL)):=fun wx h=>⟨by rw [←ea];exact iv h.1 14,by rw [←eb,iv h.2.1 14,HEB.out];rfl⟩
  clear ea eb s1 s2
  refine wp_region_held_drew (S:=fun w'=>w'.heap[w.heap.size]?=some (.cells A.cells 34 (0,0))∧w'.heap[w.heap.size+1]?=some (.cells B.cells 34 (0,0))∧(∀ j,j<8→w'.cell? (Hh g (o+k*8+j))=((A.L k).cells)[j]?)∧∀ j,j<8→w'.cell? (Hh g2 (o2+k*8+j))=((B.L k).cells)[j]?) (by kernel_rfl) hS0 (fun hHeld=>?_)
  generalize wr.drew=V at *
  refine t0 ?_
  refine tXq 1 100 ?_
  iterate 2 refine tN ?_
  refine tC 4 103 (v:=.agg (A.L k).cells) ?_ ?_
  ·
   intro wx hSw
   exact jF 48 8 _ Tryz.underlying48 rfl Ca (.tmp 102) rfl g (o+k*8) rfl (A.L k).cells rfl hSw.2.2.1
  try simp only [Act.put,PZ]
  refine tN ?_
  refine tXq 6 105 ?_
  iterate 2 refine tN ?_
  refine tC 9 108 (v:=.agg (B.L k).cells) ?_ ?_
  ·
   intro wx hSw
   exact jF 48 8 _ Tryz.underlying48 rfl Ca (.tmp 107) rfl g2 (o2+k*8) rfl (B.L k).cells rfl hSw.2.2.2
  try simp only [Act.put,PZ]
  refine rq1 10 (fun K hK=>?_)
  go_simp
  refine (vq (A.L k) (B.L k) _ (HS.ls k hlt) ((H1.ls k hlt).up HX.bel) ((HQ2 k hlt).up HX.bel) (HL k hlt)).mono ?_
  rintro e V1 ⟨rfl,hb⟩
  replace HX:=aa (HX.up hb)
  have hS1:(fun w'=>w'.heap[w.heap.size]?=some (.cells A.cells 34 (0,0))∧w'.heap[w.heap.size+1]?=some (.cells B.cells 34 (0,0))∧(∀ j,j<8→w'.cell? (Hh g (o+k*8+j))=((A.L k).cells)[j]?)∧∀ j,j<8→w'.cell? (Hh g2 (o2+k*8+j))=((B.L k).cells)[j]?) V1:=⟨HX.a,HX.b,Ga hS0.2.2.1 rfl hb,Ga hS0.2.2.2 rfl hb⟩
  clear hb hS0
  go_wp2_with fail
  refine ah (hK _ _ hS1) ?_
  intro hHeld
  clear hK K
  refine tN ?_
  refine dnq ?_
  clear hHeld hS1 Hcs
  exact gZ
 obtain rfl:k=A.nL:=by omega
 have hkk:¬ ((A.nL:Nat):Int)<((A.nL:Nat):Int):=by omega
 exact ia
def oG (fs:List Pkt):Nat→Nat
 | 0=>0
 | n+1=>oG fs n+if (fsF fs n).k=1 then 1 else 0
def mM (K:Nat→Pkt):Nat→Int
 | 0=>0
 | n+1=>mM K n+(K n).refs
theorem Swg.Ok.F4 {S:Swg} (h:S.Ok) (x:Int):∀ n,n≤S.nL→mh S.L x n≤n*3000
 | 0,_=>Nat.le_refl _
 | n+1,hn=>by
  have ih:=Swg.Ok.F4 h x n (by omega)
  have hl:=h.l n (by omega)
  have h5:=h.k.le
  have ht:=hl.t.le h.k
  have h0:=(hl.z 0 (by omega)).1.le h.k
  have h1:=(hl.z 1 (by omega)).1.le h.k
  show mh S.L x n+(S.L n).ug x≤(n+1)*3000
  rw [pI hl.u]
  have a:=pz (S.L n).t x (S.L n).nT
  have b:=pz ((S.L n).uz 0) x ((S.L n).uL 0)
  have c:=pz ((S.L n).uz 1) x ((S.L n).uL 1)
  omega
theorem Swg.Ok.xh {S:Swg} (h:S.Ok):∀ n,n≤S.nK→0≤mM S.K n∧mM S.K n≤(n:Int)*12000
 | 0,_=>⟨Int.le_refl _,Int.le_refl _⟩
 | n+1,hn=>by
  have ih:=Swg.Ok.xh h n (by omega)
  have hr:=h.refs n (by omega)
  have hl:=h.F4 (S.K n).id S.nL (Nat.le_refl _)
  have h4:=h.nl
  have h5:=h.n.c.num.p
  show 0≤mM S.K n+(S.K n).refs∧mM S.K n+(S.K n).refs≤((n+1:Nat):Int)*12000
  omega
theorem wT {K K':Nat→Pkt}:∀ n,(∀ i,i<n→(K i).refs=(K' i).refs)→mM K n=mM K' n
 | 0,_=>rfl
 | n+1,h=>by
  show mM K n+_=mM K' n+_
  rw [wT n (fun i hi=>h i (by omega)),h n (by omega)]
theorem zl (K:Nat→Pkt) (j:Nat):∀ n,mM (jM K j) n=mM K n-if j<n then 1 else 0
 | 0=>rfl
 | n+1=>by
  have ih:=zl K j n
  show mM (jM K j) n+(jM K j n).refs=mM K n+(K n).refs-_
  rw [ih]
  unfold jM
  by_cases e:n=j
  ·
   subst e
   rw [if_pos rfl,if_neg (by omega),if_pos (by omega)]
   show _+((K n).refs-1)=_
   omega
  rw [if_neg e]
  by_cases c:j<n
  ·
   rw [if_pos c,if_pos (by omega)];omega
  rw [if_neg c,if_neg (by omega)];omega
theorem Bf {K:Nat→Pkt}:∀ (n j:Nat),j≤n→mM (rmK K j) n+(K j).refs=mM K (n+1)
 | 0,j,h=>by
  obtain rfl:j=0:=by omega
  rfl
 | n+1,j,h=>by
  by_cases e:j=n+1
  ·
   subst e
   rw [wT (K':=K) (n+1) (fun i hi=>by rw [pq hi])]
   rfl
  have ih:=Bf (K:=K) n j (by omega)
  show mM (rmK K j) n+(rmK K j n).refs+_=mM K (n+1)+(K (n+1)).refs
  rw [pT (K:=K) (show j≤n by omega),←ih]
  omega
structure SndR (S S':Swg) (i:Nat) (fs:List Pkt) (d:Nat):Prop where
 d1:d≤1
 cnt:oG fs fs.length=d
 le:∀ n,n≤fs.length→oG fs n≤n
 ok:∀ n,n<fs.length→(fsF fs n).k=1→((fsF fs n).p=2→(S.L i).st=false)∧((fsF fs n).p≠2→0<(S.L i).nT→(S.L i).st=true)
 refs:mM S.K S.nK-mM S'.K S'.nK=(d:Int)
 waits:d=1↔0<(S.L i).uL 0+(S.L i).uL 1∨0<(S.L i).nT∧(S.L i).st=false
 lost:S'.lst=S.lst
theorem Gi (b:Bool):(CW b).k≠1:=by cases b <;> decide
theorem wz (fs:List Pkt):∀ n,oG fs n≤n
 | 0=>Nat.le_refl _
 | n+1=>by
  have:=wz fs n
  show oG fs n+_≤n+1
  split <;> omega
theorem wS {C:Cfg} {N:Cnt} {xs:List Pkt}:(∀ n,n<(lr C N i++xs).length→(fsF (lr C N i++xs) n).k=1→∃ m,m<xs.length∧fsF (lr C N i++xs) n=fsF xs m)∧oG (lr C N i++xs) (lr C N i++xs).length=oG xs xs.length:=by
 unfold lr
 split
 ·
  have hs:∀ m,fsF ([CW (jc C (N.u i) (N.p i))]++xs) (m+1)=fsF xs m:=fun m=>by unfold fsF;simp
  refine ⟨fun n hn hk=>?_,?_⟩
  ·
   rcases n with _ | n
   ·
    exact absurd hk (Gi _)
   exact ⟨n,by simpa using hn,hs n⟩
  have key:∀ m,oG ([CW (jc C (N.u i) (N.p i))]++xs) (m+1)=oG xs m:=by
   intro m
   induction m with
   | zero =>
    show 0+_=0
    rw [if_neg (show ¬ (fsF ([CW (jc C (N.u i) (N.p i))]++xs) 0).k=1 from Gi _)]
   | succ m ih =>
    show oG ([CW (jc C (N.u i) (N.p i))]++xs) (m+1)+_=oG xs m+_
    rw [ih,hs m]
  have e:([CW (jc C (N.u i) (N.p i))]++xs).length=xs.length+1:=by simp
  rw [e]
  exact key xs.length
 refine ⟨fun n hn hk=>⟨n,by simpa using hn,by simp⟩,by simp⟩
theorem Cv (x:Pkt):fsF [x] 0=x:=rfl
theorem mO.snd {S':Swg} (h:S.Ok) (hi:i<S.nL) {fs:List Pkt} (hm:mO S S' i fs):∃ d,SndR S S' i fs d:=by
 obtain ⟨l',id,ht,hm⟩:=hm
 have hl:=h.l i hi
 have hpos:∀ j,j<S.nK→1≤(S.K j).id:=fun j hj=>(h.k.one j hj).1.1
 have hid:∀ {z:Nat→Int} {n:Nat} {p:Int},pY n z p S.nK S.K→0<n→z 0≠0∧∀ j,j<S.nK→(S.K j).id=z 0→(S.K j).p=p:=fun {z n p} hz h0=>by
  obtain ⟨⟨j,j1,j2,j3⟩,_⟩:=hz 0 h0
  have:=hpos j j1
  refine ⟨by omega,fun j' hj' e=>?_⟩
  have:j'=j:=mR h.k.up hj' j1 (by omega)
  rw [this]
  exact j3
 rcases hm with ⟨h0,rfl,rfl⟩ | ⟨h0,j,hj,hji,rfl,hm⟩
 ·
  have hw:¬ (0<(S.L i).uL 0+(S.L i).uL 1∨0<(S.L i).nT∧(S.L i).st=false):=by
   rcases ht with ⟨h1,h2,e,_⟩ | ⟨hn,M,x,s,hp,⟨e,_,_⟩ | ⟨c,e,e2,_⟩⟩
   ·
    exact absurd (e.symm.trans h0) (hid hl.t h1).1
   ·
    rcases hp with ⟨hno,_⟩ | ⟨_,hz,_⟩ | ⟨_,_,k,c,_,e3⟩
    ·
     exact absurd hl.r hno
    ·
     have q0:=hz 0 (by rw [hl.n];omega)
     have q1:=hz 1 (by rw [hl.n];omega)
     rw [←(hl.z 0 (by omega)).2.1] at q0
     rw [←(hl.z 1 (by omega)).2.1] at q1
     rintro (a | a)
     ·
      omega
     exact hn a
    omega
   rcases hp with ⟨_,_,e3,_⟩ | ⟨_,_,_,e3,_⟩ | ⟨ho,_,k,c',hpk,e3⟩
   ·
    omega
   ·
    omega
   have ec:c'=c:=by omega
   subst ec
   obtain ⟨r1,_,_,_,_,r6⟩:=hpk.rows
   obtain ⟨o1,o2,_⟩:=hpk.ok ho
   have hc2:c'<2:=by have:=hl.n;omega
   have hz:=hl.z c' hc2
   exact absurd (e2.symm.trans h0) (hid hz.1 (by rw [hz.2.1];exact Nat.pos_of_ne_zero r1)).1
  have hd:=wS (C:=S.C) (N:=S.N) (i:=i) (xs:=[])
  rw [List.append_nil] at hd
  refine ⟨0,by omega,hd.2,fun n _=>wz _ n,fun n hn hk=>?_,?_,⟨fun e=>by omega,fun e=>absurd e hw⟩,rfl⟩
  ·
   obtain ⟨m,hm,_⟩:=hd.1 n hn hk
   exact absurd hm (Nat.not_lt_zero _)
  show mM S.K S.nK-mM S.K S.nK=0
  omega
 have hkk:(S.K j).k=1:=(h.k.one j hj).2.2.1
 have hd:=wS (C:=S.C) (N:=S.N) (i:=i) (xs:=[S.K j])
 have h1:oG [S.K j] 1=1:=by
  show 0+(if (fsF [S.K j] 0).k=1 then 1 else 0)=1
  rw [Cv,if_pos hkk]
 have hw:(0<(S.L i).uL 0+(S.L i).uL 1∨0<(S.L i).nT∧(S.L i).st=false)∧((S.K j).p=2→(S.L i).st=false)∧((S.K j).p≠2→0<(S.L i).nT→(S.L i).st=true):=by
  rcases ht with ⟨t1,t2,e,_⟩ | ⟨hn,M,x,s,hp,⟨e,e2,_⟩ | ⟨c,e,e2,_⟩⟩
  ·
   have hp:=(hid hl.t t1).2 j hj (hji.trans e)
   exact ⟨.inr ⟨t1,t2⟩,fun _=>t2,fun hne=>absurd hp hne⟩
  ·
   exact absurd e2 h0
  rcases hp with ⟨_,_,e3,_⟩ | ⟨_,_,_,e3,_⟩ | ⟨ho,_,k,c',hpk,e3⟩
  ·
   omega
  ·
   omega
  have ec:c'=c:=by omega
  subst ec
  obtain ⟨r1,_,_,_,_,r6⟩:=hpk.rows
  obtain ⟨o1,o2,_⟩:=hpk.ok ho
  have hc2:c'<2:=by have:=hl.n;omega
  have hz:=hl.z c' hc2
  have hpos2:0<(S.L i).uL c':=by rw [hz.2.1];exact Nat.pos_of_ne_zero r1
  have hp:=(hid hz.1 hpos2).2 j hj (hji.trans e2)
  refine ⟨.inl ?_,fun hp2=>by omega,fun _ h9=>?_⟩
  ·
   have:c'=0∨c'=1:=by omega
   rcases this with rfl | rfl <;> omega
  cases hst:(S.L i).st
  ·
   exact absurd ⟨h9,hst⟩ hn
  rfl
 refine ⟨1,by omega,hd.2.trans h1,fun n _=>wz _ n,fun n hn hk=>?_,?_,⟨fun _=>hw.1,fun _=>rfl⟩,?_⟩
 ·
  obtain ⟨m,hm,e⟩:=hd.1 n hn hk
  have hm0:m=0:=by simpa using hm
  subst hm0
  rw [e,Cv]
  exact hw.2
 ·
  rcases hm with ⟨hr,rfl⟩ | ⟨hr,rfl⟩
  ·
   show mM S.K S.nK-mM (jM S.K j) S.nK=((1:Nat):Int)
   rw [zl,if_pos hj]
   omega
  show mM S.K S.nK-mM (rmK S.K j) (S.nK-1)=((1:Nat):Int)
  have:=Bf (K:=S.K) (S.nK-1) j (by omega)
  rw [show S.nK-1+1=S.nK by omega] at this
  omega
 rcases hm with ⟨_,rfl⟩ | ⟨_,rfl⟩ <;> rfl
open Go.ChangeShapes Go.WideShapes Go.ChangeAt Go.RowKit
theorem own:ownKnob Tryz.prog.godebug=none:=by kernel_rfl
theorem laidOut:laidOutB Tryz.prog=true:=by kernel_rfl
theorem FE (h:w.cell? a=some v):a.block<w.heap.size:=by
 unfold World.cell? at h
 split at h
 ·
  rename_i heq
  exact (Array.getElem?_eq_some_iff.1 heq).1
 cases h
theorem Af {H:Type} {enc:TypeId × Value→H} {W:World} {held:Bool} {a:Option Addr} {len cap:Nat} {d:DataW H} {p:List MemPlace}
  (h:DataW.Trod enc Tryz.prog W 0 (fun _=>true) held 22 (.slice a len cap) d p):len≤maxLen∧(len≤1048576→Code W.heap.size (.slice a len cap) len W):=by
 obtain ⟨fuel,hf⟩:=h
 rcases open_ints Tryz.underlying22 Tryz.underlying5 (by kernel_rfl) hf with ⟨hcs,_⟩ | ⟨x,l,c,zs,hcs,_,hl,hm,hz,_,hcell,hwz⟩
 ·
  simp [Value.cells] at hcs
  obtain ⟨rfl,rfl,rfl⟩:=hcs
  exact ⟨Nat.zero_le _,fun _=>.inl ⟨⟨_,_,rfl⟩,rfl⟩⟩
 simp [Value.cells] at hcs
 obtain ⟨rfl,rfl,rfl⟩:=hcs
 refine ⟨by omega,fun hs=>?_⟩
 by_cases h0:len=0
 ·
  subst h0
  exact .inl ⟨⟨_,_,rfl⟩,rfl⟩
 obtain ⟨b,off,spot⟩:=x
 have hz':zs.length=cap:=by simpa using hz
 have hc0:=hcell 0 (by omega)
 have hspot:spot=none:=by simpa [Addr.add] using World.cell?_spot hc0
 subst hspot
 have hb:b<W.heap.size:=by
  have:=FE hc0
  simpa [Addr.add] using this
 refine .inr ⟨b,off,cap,rfl,hb,hs,fun i hi=>?_⟩
 have hci:=hcell i (by omega)
 have hw:(Lit.int .u8 (zs.getD i 0)).wf=true:=by
  refine hwz _ ?_
  rw [List.getD_eq_getElem?_getD,List.getElem?_eq_getElem (by omega)]
  exact List.getElem_mem _
 have hx:0≤zs.getD i 0∧zs.getD i 0≤255:=by simpa [Lit.wf,IntKind.min,IntKind.max,IntKind.signed,IntKind.bits] using hw
 refine ⟨(zs.getD i 0).toNat,by omega,?_⟩
 rw [show (((zs.getD i 0).toNat:Nat):Int)=zs.getD i 0 by omega]
 have e:((Hh b off):Addr).add i=(Hh b (off+i)):=by unfold Addr.add;split <;> simp_all
 rw [e] at hci
 exact hci
