import Derived.Test.YtjippgbmmlcgoaaGreatDoorB06
namespace Go.Proofs.YtjippgbmmlcgoaaGreatDoor
open Go.RowKit
set_option linter.unusedVariables false
set_option linter.unusedSimpArgs false
theorem bk {p:Prop} (h:p:=by
 rintro e w4 ⟨rfl,hb4⟩
 replace hB2:=ki hB2 hb4
 replace cb:=(je hB2).1
 replace cn:=(je hB2).2
 have hBr:=hBr.trans (hb4.mono hBr.size)
 clear hb4
 go_wp2_with fail
 refine ah (hK _ _ ⟨cb,cn⟩) ?_
 intro hHeld
 clear hK K
 refine rq1 6 (fun K hK=>?_)
 go_simp
 refine (iS _ _ _ _).mono ?_
 rintro e w' ⟨rfl,hw⟩
 rw [hw]
 clear hw w'
 rw [decide_eq_false hz]
 go_wp2_with fail
 refine ah (hK _ _ ⟨cb,cn⟩) ?_
 intro hHeld
 clear hK K
 refine tQ 7 40 ?_
 refine dnq ?_
 have B:=jt hB2
 exact aX):p:=h
def limP (C:Cfg) (N:Cnt):Nat→Prop
 | 0=>0≤N.lo∧N.lo≤C.lo
 | j+1=>0≤N.u j∧N.u j≤C.xo+C.hd
set_option maxHeartbeats 9000000 in
theorem ma (C:Cfg) (N:Cnt) (w:World) (hf:N.Fit) (h:my w N) (ok:Bool) (hok:ok=true↔Cnt.Ok C N) :
  Calls Tryz.prog 25 #[.agg C.cells,.agg N.cells] w fun e w'=>e=.returned (.bool ok)∧Below w.heap.size w w':=by
 obtain ⟨b,hb⟩:=oo C.Ok
 have HO:=aa hok
 have HR:=aa h
 have HF:=aa hf
 have HCb:=aa hb
 have hU3:(N.nU:Int)≤9223372036854775807:=by have:=hf.u;unfold maxLen at this;omega
 have hP3:(N.nP:Int)≤9223372036854775807:=by have:=hf.p;unfold maxLen at this;omega
 have HB0:Hid (Below (w.heap.size+2) ((w.alloc (.cells #[.int .i64 C.p,.int .i64 C.c,.int .i64 C.xo,.int .i64 C.xn,.int .i64 C.hd,.int .i64 C.lo,.int .i64 C.dl] 25)).alloc (.cells #[.slice N.aU N.nU N.cU,.int .i64 N.lo,.slice N.aP N.nP N.cP] 30)) ((w.alloc (.cells #[.int .i64 C.p,.int .i64 C.c,.int .i64 C.xo,.int .i64 C.xn,.int .i64 C.hd,.int .i64 C.lo,.int .i64 C.dl] 25)).alloc (.cells #[.slice N.aU N.nU N.cU,.int .i64 N.lo,.slice N.aP N.nP N.cP] 30))):=Below.refl _ _
 clear hok h hf hb
 unfold Cfg.cells Cnt.cells
 go_enter Tryz.func25,Tryz.ntmps25
 go_wp2_with fail
 refine (vv C _ b HCb).mono ?_
 rintro e w1 ⟨rfl,hb1⟩
 have hB:=ki HB0 hb1
 have cb:=(je hB).1
 have cn:=(je hB).2
 clear hb1
 cases b
 ·
  have HE:Hid (ok=false):=by
   show ok=false
   rw [Bool.eq_false_iff]
   intro e
   have:=HCb.2 (HO.1 e).c
   cases this
  have B:=jt hB
  exact aX
 have HC:Hid C.Ok:=HCb.1 rfl
 clear HCb
 by_cases hU:(N.nU:Int)=C.p
 rotate_left
 ·
  have HE:Hid (ok=false):=by
   show ok=false
   rw [Bool.eq_false_iff]
   intro e
   exact hU (HO.1 e).nU
  have hU':((N.nU:Int) != C.p)=true:=by simpa using hU
  have B:=jt hB
  clear hU
  exact aX
 have hU':((N.nU:Int) != C.p)=false:=by simpa using hU
 have HU:=aa hU
 clear hU
 by_cases hP:(N.nP:Int)=C.p
 rotate_left
 ·
  have HE:Hid (ok=false):=by
   show ok=false
   rw [Bool.eq_false_iff]
   intro e
   exact hP (HO.1 e).nP
  have hP':((N.nP:Int) != C.p)=true:=by simpa using hP
  have B:=jt hB
  clear hP
  exact aX
 have hP':((N.nP:Int) != C.p)=false:=by simpa using hP
 have HP:=aa hP
 clear hP
 go_wp2_with fail
 obtain ⟨n,hn2,hn4,hpn⟩:∃ n:Nat,2≤n∧n≤4∧C.p=(n:Int):=⟨C.p.toNat,by have:=HC.num.p;omega,by have:=HC.num.p;omega,by have:=HC.num.p;omega⟩
 have HnU:Hid (N.nU=n):=by show N.nU=n;have:=HU.out;omega
 have HPn:=aa hpn
 clear hpn
 refine (rj C n _ hn4 HPn).mono ?_
 rintro e w2 ⟨⟨g,cap,rfl,hown⟩,hb2⟩
 replace hB:=ki hB hb2
 have HRL:=aa (wO hown)
 clear hb2 hown cb cn
 go_wp2_with fail
 go_loopw [29] (fun i wr=>∃ k:Nat,k≤n+1∧i=.int .i64 k∧(∀ j,j<k→limP C N j)∧Below w2.heap.size w2 wr) (fun i _=>n+1-(intOf i).toNat)
 case atStart=>exact ⟨0,Nat.zero_le _,rfl,fun j hj=>by omega,Below.refl _ _⟩
 obtain ⟨k,hk,rfl,hall,hBr⟩:=hrel
 have HA:=aa hall
 clear hall
 have hB2:=ki hB hBr
 have cb:=(je hB2).1
 have cn:=(je hB2).2
 by_cases hlt:k<n+1
 ·
  have hlt':(k:Int)<((n+1:Nat):Int):=by omega
  obtain ⟨g',o',ea,c1⟩:=(HRL.up hBr) k hlt
  cases ea
  rw [Nat.zero_add] at c1
  cases k with
  | zero =>
   dsimp only [FM,sv] at c1
   by_cases hz:0≤N.lo∧N.lo≤C.lo
   ·
    go_wp2_with fail
    refine wp_region_held_drew (S:=fun w'=>(∀ o,w'.cell? ⟨w.heap.size,o,none⟩=(#[.int .i64 C.p,.int .i64 C.c,.int .i64 C.xo,.int .i64 C.xn,.int .i64 C.hd,.int .i64 C.lo,.int .i64 C.dl]:Array Value)[o]?)∧(∀ o,w'.cell? ⟨w.heap.size+1,o,none⟩=(#[.slice N.aU N.nU N.cU,.int .i64 N.lo,.slice N.aP N.nP N.cP]:Array Value)[o]?)) (by kernel_rfl) ⟨cb,cn⟩ (fun hHeld=>?_)
    refine t0 ?_
    refine tN ?_
    refine tQ 3 36 ?_
    refine tQ 4 37 ?_
    refine rq1 2 (fun K hK=>?_)
    go_simp
    have hB2:Below (w.heap.size+2) _ wr.drew:=hB2.drew
    try go_invoke
    try go_simp
    refine (pU N _).mono ?_
    rintro e w3 ⟨rfl,hb3⟩
    replace hB2:=ki hB2 hb3
    replace cb:=(je hB2).1
    replace cn:=(je hB2).2
    have hBr:=hBr.drew.trans (hb3.mono hBr.size)
    clear hb3
    go_wp2_with fail
    refine ah (hK _ _ ⟨cb,cn⟩) ?_
    intro hHeld
    clear hK K
    refine rq1 5 (fun K hK=>?_)
    go_simp
    try go_invoke
    try go_simp
    refine (nw C _).mono ?_
    rintro e w4 ⟨rfl,hb4⟩
    replace hB2:=ki hB2 hb4
    replace cb:=(je hB2).1
    replace cn:=(je hB2).2
    have hBr:=hBr.trans (hb4.mono hBr.size)
    clear hb4
    go_wp2_with fail
    refine ah (hK _ _ ⟨cb,cn⟩) ?_
    intro hHeld
    clear hK K
    refine rq1 6 (fun K hK=>?_)
    go_simp
    refine (iS _ _ _ _).mono ?_
    rintro e w' ⟨rfl,hw⟩
    rw [hw]
    clear hw w'
    rw [decide_eq_true hz]
    go_wp2_with fail
    refine ah (hK _ _ ⟨cb,cn⟩) ?_
    intro hHeld
    clear hK K
    refine tQ 7 40 ?_
    refine dnq ?_
    have HZ:=aa hz
    clear hz
    go_wp2_with fail
    go_roundw
    case rel=>exact ⟨0+1,by omega,by first | rfl | go_num,fun j hj=>by
     obtain rfl:j=0:=by omega
     exact HZ,hBr⟩
    case measure=>simp [intOf];try omega
   have HE:Hid (ok=false):=by
    show ok=false
    rw [Bool.eq_false_iff]
    intro e
    exact hz (HO.1 e).lo
   go_wp2_with fail
   refine wp_region_held_drew (S:=fun w'=>(∀ o,w'.cell? ⟨w.heap.size,o,none⟩=(#[.int .i64 C.p,.int .i64 C.c,.int .i64 C.xo,.int .i64 C.xn,.int .i64 C.hd,.int .i64 C.lo,.int .i64 C.dl]:Array Value)[o]?)∧(∀ o,w'.cell? ⟨w.heap.size+1,o,none⟩=(#[.slice N.aU N.nU N.cU,.int .i64 N.lo,.slice N.aP N.nP N.cP]:Array Value)[o]?)) (by kernel_rfl) ⟨cb,cn⟩ (fun hHeld=>?_)
   refine t0 ?_
   refine tN ?_
   refine tQ 3 36 ?_
   refine tQ 4 37 ?_
   refine rq1 2 (fun K hK=>?_)
   go_simp
   have hB2:Below (w.heap.size+2) _ wr.drew:=hB2.drew
   try go_invoke
   try go_simp
   refine (pU N _).mono ?_
   rintro e w3 ⟨rfl,hb3⟩
   replace hB2:=ki hB2 hb3
   replace cb:=(je hB2).1
   replace cn:=(je hB2).2
   have hBr:=hBr.drew.trans (hb3.mono hBr.size)
   clear hb3
   go_wp2_with fail
   refine ah (hK _ _ ⟨cb,cn⟩) ?_
   intro hHeld
   clear hK K
   refine rq1 5 (fun K hK=>?_)
   go_simp
   try go_invoke
   try go_simp
   refine (nw C _).mono ?_
   exact bk
  | succ j =>
   dsimp only [FM,uO] at c1
   by_cases hz:0≤N.u j∧N.u j≤C.xo+C.hd
   ·
    go_wp2_with fail
    refine wp_region_held_drew (S:=fun w'=>(∀ o,w'.cell? ⟨w.heap.size,o,none⟩=(#[.int .i64 C.p,.int .i64 C.c,.int .i64 C.xo,.int .i64 C.xn,.int .i64 C.hd,.int .i64 C.lo,.int .i64 C.dl]:Array Value)[o]?)∧(∀ o,w'.cell? ⟨w.heap.size+1,o,none⟩=(#[.slice N.aU N.nU N.cU,.int .i64 N.lo,.slice N.aP N.nP N.cP]:Array Value)[o]?)) (by kernel_rfl) ⟨cb,cn⟩ (fun hHeld=>?_)
    refine t0 ?_
    refine tN ?_
    refine tQ 3 36 ?_
    refine tQ 4 37 ?_
    refine rq1 2 (fun K hK=>?_)
    go_simp
    have hB2:Below (w.heap.size+2) _ wr.drew:=hB2.drew
    try go_invoke
    try go_simp
    refine (ra N j _ HF (by have:=HnU.out;omega) (HR.up (jt hB2))).mono ?_
    rintro e w3 ⟨rfl,hb3⟩
    replace hB2:=ki hB2 hb3
    replace cb:=(je hB2).1
    replace cn:=(je hB2).2
    have hBr:=hBr.drew.trans (hb3.mono hBr.size)
    clear hb3
    go_wp2_with fail
    refine ah (hK _ _ ⟨cb,cn⟩) ?_
    intro hHeld
    clear hK K
    refine rq1 5 (fun K hK=>?_)
    go_simp
    try go_invoke
    try go_simp
    refine (oc C _ _ (by have:=HC.num.xo;omega) (by have:=HC.num.xo;omega) (by have:=HC.num.hd;omega) (by have:=HC.num.hd;omega)).mono ?_
    rintro e w4 ⟨rfl,hb4⟩
    replace hB2:=ki hB2 hb4
    replace cb:=(je hB2).1
    replace cn:=(je hB2).2
    have hBr:=hBr.trans (hb4.mono hBr.size)
    clear hb4
    go_wp2_with fail
    refine ah (hK _ _ ⟨cb,cn⟩) ?_
    intro hHeld
    clear hK K
    refine rq1 6 (fun K hK=>?_)
    go_simp
    refine (iS _ _ _ _).mono ?_
    rintro e w' ⟨rfl,hw⟩
    rw [hw]
    clear hw w'
    rw [decide_eq_true hz]
    go_wp2_with fail
    refine ah (hK _ _ ⟨cb,cn⟩) ?_
    intro hHeld
    clear hK K
    refine tQ 7 40 ?_
    refine dnq ?_
    have HZ:=aa hz
    clear hz
    go_wp2_with fail
    go_roundw
    case rel=>exact ⟨j+1+1,by omega,by first | rfl | go_num,fun i hi=>by
     by_cases e:i=j+1
     ·
      subst e;exact HZ.out
     ·
      exact HA i (by omega),hBr⟩
    case measure=>simp [intOf];try omega
   have HE:Hid (ok=false):=by
    show ok=false
    rw [Bool.eq_false_iff]
    intro e
    exact hz ((HO.1 e).u j (by have:=HnU.out;omega))
   go_wp2_with fail
   refine wp_region_held_drew (S:=fun w'=>(∀ o,w'.cell? ⟨w.heap.size,o,none⟩=(#[.int .i64 C.p,.int .i64 C.c,.int .i64 C.xo,.int .i64 C.xn,.int .i64 C.hd,.int .i64 C.lo,.int .i64 C.dl]:Array Value)[o]?)∧(∀ o,w'.cell? ⟨w.heap.size+1,o,none⟩=(#[.slice N.aU N.nU N.cU,.int .i64 N.lo,.slice N.aP N.nP N.cP]:Array Value)[o]?)) (by kernel_rfl) ⟨cb,cn⟩ (fun hHeld=>?_)
   refine t0 ?_
   refine tN ?_
   refine tQ 3 36 ?_
   refine tQ 4 37 ?_
   refine rq1 2 (fun K hK=>?_)
   go_simp
   have hB2:Below (w.heap.size+2) _ wr.drew:=hB2.drew
   try go_invoke
   try go_simp
   refine (ra N j _ HF (by have:=HnU.out;omega) (HR.up (jt hB2))).mono ?_
   rintro e w3 ⟨rfl,hb3⟩
   replace hB2:=ki hB2 hb3
   replace cb:=(je hB2).1
   replace cn:=(je hB2).2
   have hBr:=hBr.drew.trans (hb3.mono hBr.size)
   clear hb3
   go_wp2_with fail
   refine ah (hK _ _ ⟨cb,cn⟩) ?_
   intro hHeld
   clear hK K
   refine rq1 5 (fun K hK=>?_)
   go_simp
   try go_invoke
   try go_simp
   refine (oc C _ _ (by have:=HC.num.xo;omega) (by have:=HC.num.xo;omega) (by have:=HC.num.hd;omega) (by have:=HC.num.hd;omega)).mono ?_
   exact bk
 obtain rfl:k=n+1:=by omega
 have HT:Hid (ok=true):=HO.2 ⟨HC.out,HU.out,HP.out,HA 0 (by omega),fun i hi=>HA (i+1) (by have:=HnU.out;omega)⟩
 have B:=jt hB2
 go_wp2_with fail
 go_ret
 exact ⟨iv HT.symm,B⟩
