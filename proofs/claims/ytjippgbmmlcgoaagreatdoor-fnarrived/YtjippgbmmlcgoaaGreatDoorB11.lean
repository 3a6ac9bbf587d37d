import Derived.Test.YtjippgbmmlcgoaaGreatDoorB10
namespace Go.Proofs.YtjippgbmmlcgoaaGreatDoor
set_option maxRecDepth 100000
set_option maxHeartbeats 9000000
open Go.RowKit
set_option linter.unusedVariables false
set_option linter.unusedSimpArgs false
variable {a b:Int} {base n:Nat} {q:Nat→Int} {p:Prop} {W w:World}
theorem bz (h:p:=by
 rw [e]
 go_enter Tryz.func141,Tryz.ntmps141
 go_wp2_with (go_at_call 145;refine (Bz _ _).mono ?_;rintro e w' ⟨rfl,rfl⟩)
 go_ret
 exact ⟨rfl,rfl⟩):p:=h
theorem bA (h:p:=by
 go_wp2_with fail
 go_ret
 exact ⟨iv HF.symm,hB2⟩):p:=h
theorem vR {ops:Array Oper} {rest:List Oper} {o:Oper} {a:Act} {Q:Exit→Act→World→Prop} (x:Operand) (ho:o.op=.load 51 x) (hw:Region.wanted o (yielded ops a.tmps)=true) (b off:Nat) (hx:a.eval x=.pointer (some ⟨b,off,none⟩))
  (X:Pkt) (hc:∀ j,j<8→w.cell? ⟨b,off+j,none⟩=X.cells[j]?) (h:wpList Tryz.prog ops Q rest (a.put o.dst (.agg X.cells)) w):wpList Tryz.prog ops Q (o :: rest) a w :=
 wpList_step fun K hK=>by
  rw [if_pos hw]
  exact wp_load_mid 51 x ho b off hx X.cells.toList _ (fun j v hv=>by
   have hj:j<8:=by
    have:=(List.getElem?_eq_some_iff.1 hv).1
    simpa [Pkt.cells] using this
   rw [hc j hj,←Array.getElem?_toList]
   exact hv) Tryz.underlying51 rfl rq (hK _ _ h)
def zj (a b:Int):Int:=if a<b then -1 else if b<a then 1 else 0
theorem Bz (a:Int) (w:World) :
  Calls Tryz.prog 145 #[.int .i64 a] w fun e w'=>e=.returned (.bool false)∧w'=w:=by
 have h:(a != a)=false:=by simp
 go_enter Tryz.func145,Tryz.ntmps145
 go_wp2
 go_ret
 exact ⟨iv (by simp),rfl⟩
theorem E9 (a b:Int) (w:World) :
  Calls Tryz.prog 141 #[.int .i64 a,.int .i64 b] w fun e w'=>e=.returned (.int .i64 (zj a b))∧w'=w:=by
 by_cases h1:a<b
 ·
  have e:zj a b=-1:=if_pos h1
  exact bz
 by_cases h2:b<a
 ·
  have e:zj a b=1:=by unfold zj;rw [if_neg h1,if_pos h2]
  exact bz
 have e:zj a b=0:=by unfold zj;rw [if_neg h1,if_neg h2]
 exact bz
theorem xu (x:Pkt) (b:Int) (w:World) :
  Calls Tryz.prog 140 #[.agg x.cells,.int .i64 b] w fun e w'=>e=.returned (.int .i64 (zj x.id b))∧Below w.heap.size w w':=by
 have hB:Below (w.heap.size+1) (w.alloc (.cells x.cells 51)) (w.alloc (.cells x.cells 51)):=Below.refl _ _
 have c0:(w.alloc (.cells x.cells 51)).cell? ⟨w.heap.size,0,none⟩=some (.int .i64 x.id):=boxed hB 0
 go_enter Tryz.func140,Tryz.ntmps140
 go_wp2_with (go_at_call 141;refine (E9 _ _ _).mono ?_;rintro e w' ⟨rfl,rfl⟩)
 go_ret
 exact ⟨rfl,under hB⟩
theorem Cr:zj a b<0↔a<b:=by
 unfold zj
 split
 ·
  simp [*]
 split
 ·
  simp;omega
 simp;omega
theorem Fa:zj a b=0↔a=b:=by
 unfold zj
 split
 ·
  simp;omega
 split
 ·
  simp;omega
 simp;omega
def FndV (n:Nat) (K:Nat→Pkt) (t:Int) (i:Nat) (v:Value):Prop :=
 ∃ f:Bool,v=.bool f∧i≤n∧(∀ m,m<i→(K m).id<t)∧(∀ m,i≤m→m<n→t≤(K m).id)∧(f=true↔i<n∧(K i).id=t)
theorem tR (a:Option Addr) (n c:Nat) (K:Nat→Pkt) (t:Int) (w:World) (hn:n≤1048576) (h:pI w a n K) (hup:∀ i,i<n→0<i→(K (i-1)).id<(K i).id) :
  Calls Tryz.prog 139 #[.slice a n c,.int .i64 t,.func (.func 140) #[] #[]] w fun e w' =>
   ∃ (i:Nat) (v:Value),FndV n K t i v∧e=.returned (.tuple #[.int .i64 i,v])∧Below w.heap.size w w':=by
 have HR:=aa h
 have HU:=aa (oa hup)
 clear h hup
 go_enter Tryz.func139,Tryz.ntmps139
 go_wp2_with fail
 go_loopw [9,10] (fun x y wr=>∃ i j:Nat,i≤j∧j≤n∧x=.int .i64 i∧y=.int .i64 j∧(∀ m,m<i→(K m).id<t)∧(∀ m,j≤m→m<n→t≤(K m).id)∧Below w.heap.size w wr) (fun x y _=>(intOf y).toNat-(intOf x).toNat)
 case atStart=>exact ⟨0,n,Nat.zero_le _,Nat.le_refl _,rfl,rfl,fun m hm=>by omega,fun m h1 h2=>by omega,Below.refl _ _⟩
 obtain ⟨i,j,hij,hjn,rfl,rfl,hlo,hhi,hB⟩:=hrel
 have HL:=aa hlo
 have HH:=aa hhi
 clear hlo hhi
 by_cases hlt:i<j
 ·
  have hlt':(i:Int)<(j:Int):=by omega
  have hq:(i+j) / 2<n:=by omega
  obtain ⟨g,o,rfl,hc⟩:=(HR.up hB) _ hq
  go_wp2_with (refine lx rfl (.tmp 27) rfl g (o+(i+j) / 2*8) rfl (K ((i+j) / 2)) hc ?_)
  refine (xu _ _ _).mono ?_
  rintro e w2 ⟨rfl,hb⟩
  have hB2:=hB.trans (hb.mono hB.size)
  clear hb hc hB
  by_cases hcm:(K ((i+j) / 2)).id<t
  ·
   have hcm':zj (K ((i+j) / 2)).id t<0:=Cr.2 hcm
   have HN:Hid (∀ m,m<(i+j) / 2+1→(K m).id<t):=fun m hm=>by
    by_cases e:m=(i+j) / 2
    ·
     rw [e];exact hcm
    have:=HU ((i+j) / 2) m (by omega) hq
    omega
   clear hcm
   go_wp2_with fail
   go_roundw
   case rel=>exact ⟨(i+j) / 2+1,j,by omega,hjn,by go_num,rfl,HN.out,HH.out,hB2⟩
   case measure=>simp [intOf];omega
  have hcm':¬ zj (K ((i+j) / 2)).id t<0:=fun e=>hcm (Cr.1 e)
  have HN:Hid (∀ m,(i+j) / 2≤m→m<n→t≤(K m).id):=fun m hm hm2=>by
   by_cases e:m=(i+j) / 2
   ·
    rw [e];omega
   have:=HU m ((i+j) / 2) (by omega) hm2
   omega
  clear hcm
  go_wp2_with fail
  go_roundw
  case rel=>exact ⟨i,(i+j) / 2,by omega,by omega,rfl,by go_num,HL.out,HN.out,hB2⟩
  case measure=>simp [intOf];omega
 obtain rfl:i=j:=by omega
 have hge:¬ (i:Int)<(i:Int):=by omega
 by_cases hin:i<n
 ·
  have hin':(i:Int)<(n:Int):=by omega
  obtain ⟨g,o,rfl,hc⟩:=(HR.up hB) _ hin
  go_wp2_with (refine vR (.tmp 43) rfl (by kernel_rfl) g (o+i*8) rfl (K i) hc ?_)
  refine (xu _ _ _).mono ?_
  rintro e w2 ⟨rfl,hb⟩
  have hB2:=hB.trans (hb.mono hB.size)
  clear hb hc hB
  have HQ:Hid ((zj (K i).id t == 0)=true↔i<n∧(K i).id=t):=by
   rw [Hid]
   simp [hin,Fa]
  go_wp2_with fail
  go_ret2
  exact ⟨i,_,⟨_,rfl,hjn,HL,HH,HQ⟩,rfl,hB2⟩
 have hin':¬ (i:Int)<(n:Int):=by omega
 go_wp2_with fail
 go_ret2
 exact ⟨i,.bool false,⟨false,rfl,hjn,HL,HH,⟨fun h=>by simp at h,fun h=>absurd h.1 hin⟩⟩,rfl,hB⟩
theorem re (g o n c:Nat) (K:Nat→Pkt) (id:Int) (w:World) (hn:n≤1048576) (h:pI w (some ⟨g,o,none⟩) n K) (hup:∀ i,i<n→0<i→(K (i-1)).id<(K i).id) (j:Nat) (hj:j<n) (hid:(K j).id=id) :
  Calls Tryz.prog 127 #[.slice (some ⟨g,o,none⟩) n c,.int .i64 id] w fun e w'=>e=.returned (.pointer (some ⟨g,o+j*8,none⟩))∧Below w.heap.size w w':=by
 go_enter Tryz.func127,Tryz.ntmps127
 go_wp2_with fail
 refine (tR _ n c K id _ hn h hup).mono ?_
 rintro e w2 ⟨i,v,⟨f,rfl,hi,hlo,hhi,hf⟩,rfl,hb⟩
 obtain rfl:i=j:=by
  have:=oa hup
  by_cases c1:j<i
  ·
   have:=hlo j c1;omega
  by_cases c2:i<j
  ·
   have h1:=hhi i (Nat.le_refl _) (by omega)
   have h2:=this j i c2 hj
   omega
  omega
 obtain rfl:f=true:=hf.2 ⟨hj,hid⟩
 clear hf
 have hj':(i:Int)<(n:Int):=by omega
 clear hlo hhi hup
 go_wp2_with fail
 go_ret
 exact ⟨rfl,hb⟩
theorem xZ (a:Option Addr) (n c:Nat) (K:Nat→Pkt) (id:Int) (w:World) (hn:n≤1048576) (h:pI w a n K) (hup:∀ i,i<n→0<i→(K (i-1)).id<(K i).id) (hid:∀ j,j<n→(K j).id≠id) :
  Calls Tryz.prog 127 #[.slice a n c,.int .i64 id] w fun e w'=>e=.returned (.pointer none)∧Below w.heap.size w w':=by
 go_enter Tryz.func127,Tryz.ntmps127
 go_wp2_with fail
 refine (tR a n c K id _ hn h hup).mono ?_
 rintro e w2 ⟨i,v,⟨f,rfl,hi,hlo,hhi,hf⟩,rfl,hb⟩
 obtain rfl:f=false:=by
  rw [Bool.eq_false_iff]
  intro e
  exact hid i (hf.1 e).1 (hf.1 e).2
 clear hf
 clear hlo hhi hup hid
 go_wp2_with fail
 go_ret
 exact ⟨rfl,hb⟩
theorem qc (aT:Option Addr) (n c:Nat) (z:Nat→Int) (prio:Int) (aK:Option Addr) (m cK:Nat) (K:Nat→Pkt) (w:World) (hn:n≤1048576) (hm:m≤1048576) (ht:iP w aT n fun i=>.int .i64 (z i)) (hk:pI w aK m K) (hup:∀ i,i<m→0<i→(K (i-1)).id<(K i).id) (ok:Bool) (hok:ok=true↔pD n z prio m K) :
  Calls Tryz.prog 105 #[.slice aT n c,.int .i64 prio,.slice aK m cK] w fun e w'=>e=.returned (.bool ok)∧Below w.heap.size w w':=by
 have HO:=aa hok
 have HR:=aa hk
 have HT:=aa ht
 have HU:=aa hup
 clear hok hk ht hup
 go_enter Tryz.func105,Tryz.ntmps105
 go_wp2_with fail
 go_loopw [12] (fun i wr=>∃ k:Nat,k≤n∧i=.int .i64 k∧pD k z prio m K∧Below w.heap.size w wr) (fun i _=>n-(intOf i).toNat)
 case atStart=>exact ⟨0,Nat.zero_le _,rfl,fun i hi=>by omega,Below.refl _ _⟩
 obtain ⟨k,hk,rfl,hall,hB⟩:=hrel
 have HA:=aa hall
 clear hall
 by_cases hlt:k<n
 ·
  have hlt':(k:Int)<n:=by omega
  obtain ⟨gt,ot,rfl,c0⟩:=(HT.up hB) k hlt
  dsimp only at c0
  go_wp2_with fail
  clear c0
  by_cases hex:∃ j,j<m∧(K j).id=z k
  ·
   obtain ⟨j,hj,ej⟩:=hex
   obtain ⟨g,o,rfl,_⟩:=HR j hj
   refine (re g o m cK K (z k) _ hm (HR.up hB) HU j hj ej).mono ?_
   rintro e w2 ⟨rfl,hb⟩
   have hB2:=hB.trans (hb.mono hB.size)
   have c6:w2.cell? ⟨g,o+j*8+6,none⟩=some (.int .i64 (K j).p):=(HR.up hB2).cell hj 6 (by omega)
   have HE:=aa ej
   clear hb hB ej
   by_cases hp:(K j).p=prio
   ·
    have hp':((K j).p != prio)=false:=by simp [hp]
    have HP:=aa hp
    clear hp
    by_cases h0:k=0
    ·
     subst h0
     go_wp2_with fail
     go_roundw
     case rel=>exact ⟨0+1,by omega,by go_num,fun i hi=>by
      obtain rfl:i=0:=by omega
      exact ⟨⟨j,hj,HE,HP⟩,fun h=>by omega⟩,hB2⟩
     case measure=>simp [intOf];omega
    have h0':(0:Int)<(k:Int):=by omega
    have hk1:(1:Int)≤(k:Int):=by omega
    have hk2:(k:Int)-1<(n:Int):=by omega
    have hk3:((k:Int)-1).toNat=k-1:=by omega
    obtain ⟨gt',ot',et,c1⟩:=(HT.up hB2) (k-1) (by omega)
    cases et
    dsimp only at c1
    by_cases hr:z (k-1)<z k
    ·
     have hr':¬ z k≤z (k-1):=by omega
     have HRs:=aa hr
     clear hr
     go_wp2_with fail
     go_roundw
     case rel=>exact ⟨k+1,by omega,by go_num,fun i hi=>by
      by_cases e:i=k
      ·
       subst e;exact ⟨⟨j,hj,HE.out,HP.out⟩,fun _=>HRs.out⟩
      ·
       exact HA i (by omega),hB2⟩
     case measure=>simp [intOf];omega
    have hr':z k≤z (k-1):=by omega
    have HF:Hid (ok=false):=by
     rw [Hid,Bool.eq_false_iff]
     intro e
     exact hr ((HO.1 e k hlt).2 (by omega))
    clear hr
    exact bA
   have hp':((K j).p != prio)=true:=by simp [hp]
   have HF:Hid (ok=false):=by
    rw [Hid,Bool.eq_false_iff]
    intro e
    obtain ⟨⟨j2,hj2,e2,e3⟩,_⟩:=HO.1 e k hlt
    obtain rfl:=nr HU hj hj2 (HE.trans e2.symm)
    exact hp e3
   clear hp
   exact bA
  have HF:Hid (ok=false):=by
   rw [Hid,Bool.eq_false_iff]
   intro e
   obtain ⟨⟨j2,hj2,e2,e3⟩,_⟩:=HO.1 e k hlt
   exact hex ⟨j2,hj2,e2⟩
  refine (xZ aK m cK K (z k) _ hm (HR.up hB) HU (fun j hj e=>hex ⟨j,hj,e⟩)).mono ?_
  rintro e w2 ⟨rfl,hb⟩
  have hB2:=hB.trans (hb.mono hB.size)
  clear hb hB hex
  exact bA
 obtain rfl:k=n:=by omega
 have hge:¬ ((k:Nat):Int)<((k:Nat):Int):=by omega
 have HT2:=aa (HO.2 HA.out)
 go_wp2_with fail
 go_ret
 exact ⟨iv HT2.symm,hB⟩
theorem ml (a1 a2:Option Addr) (n1 n2 c1 c2:Nat) (f1 f2:Nat→Int) (w:World) (hn:n1≤1048576) (hn2:n2≤1048576) (h1:iP w a1 n1 fun i=>.int .i64 (f1 i)) (h2:iP w a2 n2 fun i=>.int .i64 (f2 i)) (ok:Bool) (hok:ok=true↔n1=n2∧∀ i,i<n1→f1 i=f2 i) :
  Calls Tryz.prog 74 #[.slice a1 n1 c1,.slice a2 n2 c2] w fun e w'=>e=.returned (.bool ok)∧Same w w':=by
 have HO:=aa hok
 have H1:=aa h1
 have H2:=aa h2
 clear hok h1 h2
 by_cases hl:n1=n2
 ·
  subst hl
  have hnn:((n1:Int) != (n1:Int))=false:=by simp
  go_enter Tryz.func74,Tryz.ntmps74
  go_wp2_with fail
  go_loopw [13] (fun i wr=>∃ k:Nat,k≤n1∧i=.int .i64 k∧(∀ i,i<k→f1 i=f2 i)∧Same w wr) (fun i _=>n1-(intOf i).toNat)
  case atStart=>exact ⟨0,Nat.zero_le _,rfl,fun i hi=>by omega,Same.refl _⟩
  obtain ⟨k,hk,rfl,hall,hS⟩:=hrel
  have HA:=aa hall
  clear hall
  by_cases hlt:k<n1
  ·
   obtain ⟨g1,o1,rfl,e1⟩:=H1 k hlt
   obtain ⟨g2,o2,rfl,e2⟩:=H2 k hlt
   rw [←hS.cell] at e1 e2
   dsimp only at e1 e2
   have hlt':(k:Int)<n1:=by omega
   by_cases he:f1 k=f2 k
   ·
    have hbb:(f1 k != f2 k)=false:=by simp [he]
    have HE:=aa he
    clear he
    go_wp2_with fail
    go_quiet (fail)
    go_wp2_with fail
    go_roundw
    case rel=>exact ⟨k+1,by omega,by go_num,fun i hi=>by
     by_cases e:i=k
     ·
      subst e;exact HE.out
     ·
      exact HA i (by omega),hS.drewN _⟩
    case measure=>simp [intOf];omega
   have hbb:(f1 k != f2 k)=true:=by simp [he]
   have HF:Hid (ok=false):=by
    rw [Hid,Bool.eq_false_iff]
    intro e
    exact he ((HO.1 e).2 k hlt)
   clear he
   go_wp2_with fail
   go_quiet (fail)
   go_wp2_with fail
   go_ret
   exact ⟨iv HF.symm,hS.drewN _⟩
  obtain rfl:k=n1:=by omega
  have hge:¬ ((k:Nat):Int)<((k:Nat):Int):=by omega
  have HT:Hid (ok=true):=HO.2 ⟨by trivial,HA.out⟩
  go_wp2_with fail
  go_ret
  exact ⟨iv HT.symm,hS⟩
 have hnn:((n1:Int) != (n2:Int))=true:=by simp;omega
 have hnn2:¬ ((n1:Int)=(n2:Int)):=by omega
 obtain rfl:ok=false:=by
  rw [Bool.eq_false_iff]
  intro e
  exact hl (HO.1 e).1
 clear hl
 go_enter Tryz.func74,Tryz.ntmps74
 go_wp2_with fail
 go_ret
 exact ⟨rfl,Same.refl _⟩
def vn (n:Nat) (q:Nat→Int):List Value:=(List.range n).map fun i=>.int .i64 (q i)
theorem Ae (n:Nat) (q:Nat→Int):vn (n+1) q=vn n q++[.int .i64 (q n)]:=by simp [vn,List.range_succ]
theorem Bb {c:Nat} {a:Option Addr} (h:w.ownsRow base 2 1 (.slice a n c) n (vn n q)):iP w a n fun i=>.int .i64 (q i):=by
 intro i hi
 rcases h.2 with ⟨_,e0⟩ | ⟨g,cap,cur,e,_,hb,h1,h2,h3,h4⟩
 ·
  omega
 cases e
 refine ⟨g,0,rfl,?_⟩
 rw [Nat.zero_add,ie hb]
 have:(cur.toList.take (n*1))[i]?=(vn n q)[i]?:=by rw [h4]
 rw [List.getElem?_take_of_lt (by omega),Array.getElem?_toList] at this
 rw [this]
 simp [vn,hi]
theorem appQ {v:Value} (hown:W.ownsRow base 2 1 v n (vn n q)) (hl:n≤1048576) (hb:base≤W.heap.size) :
  ∃ a' c' W',(Builtin.append_ #[27,27] 27 #[v,.slice (some ⟨W.heap.size,0,none⟩) 1 1]).run Tryz.prog (W.alloc (.cells #[.int .i64 (q n)] 2))=.ok (.slice a' (n+1) c') W'∧W'.ownsRow base 2 1 (.slice a' (n+1) c') (n+1) (vn (n+1) q)∧Below base W W':=by
 obtain ⟨ii,hi,hz0,hz1,hz2⟩:=info_parts rD
 have hA:Below W.heap.size W (W.alloc (.cells #[.int .i64 (q n)] 2)):=(Below.refl _ _).alloc (Nat.le_refl _) _
 have eA:(W.alloc (.cells #[.int .i64 (q n)] 2)).heap.size=W.heap.size+1:=by simp
 have hown2:=mq hown hA (Nat.le_refl _)
 have hadd:∀ j:Nat,(⟨W.heap.size,0,none⟩:Addr).add j=⟨W.heap.size,0+j,none⟩:=fun j=>by unfold Addr.add;split <;> simp_all
 obtain ⟨va,W2,hrun,hown3,hgrow,_,hblk⟩:=run_append_own_at (P:=Tryz.prog) (w:=W.alloc (.cells #[.int .i64 (q n)] 2)) base 27 27 2 ii (.int .i64 0) 1 8 Tryz.underlying27 hi hz0 hz1 hz2 rfl (by decide) v n _ hown2 ⟨W.heap.size,0,none⟩ 1 1 [.int .i64 (q n)] rfl (fun j u hu=>by
  have hj:j=0:=by
   have:=(List.getElem?_eq_some_iff.1 hu).1
   simp at this
   exact this
  subst hj
  rw [hadd,ie (im W _)]
  simpa using hu) (by intro u hu;simp at hu;subst hu;rfl) (by unfold maxLen;omega) (by omega) (by omega)
 rw [←Ae] at hown3
 have hlow:∀ x,v.ownBlock=some x→base≤x:=fun x hx=>by
  rcases hown.2 with ⟨e,_⟩ | ⟨g,cap,cur,e,hg,_⟩
  ·
   rw [e] at hx;simp [Value.ownBlock] at hx
  rw [e] at hx;simp [Value.ownBlock] at hx;omega
 have hB:Below base W W2:=by
  refine ⟨hgrow.os,hgrow.tape,hgrow.output,by have:=hgrow.size;omega,fun k hk=>?_⟩
  exact (hgrow.block k (by omega) (fun e=>by have:=hlow k e.symm;omega)).trans (hA.block k (by omega))
 rcases qE hown3 with ⟨_,e0⟩ | ⟨g,cap,rfl⟩
 ·
  omega
 exact ⟨_,_,_,hrun,hown3,hB⟩
theorem vJ {x:Pkt} (h:x.nR):qo x.k x.d x.s x.p x.b.size=x.cl:=by
 unfold qo
 rw [if_pos h.2]
 rfl
theorem rz (aT:Option Addr) (n c:Nat) (z:Nat→Int) (aK:Option Addr) (m cK:Nat) (K:Nat→Pkt) (nx p:Int) (q:Nat→Int) (w:World) (hn:n≤1048576) (ht:iP w aT n fun i=>.int .i64 (z i)) (hk:pI w aK m K) (hK:lQ nx p m K) (hq:∀ i,i<n→∃ j,j<m∧(K j).id=z i∧q i=(K j).cl) :
  Calls Tryz.prog 106 #[.slice aT n c,.slice aK m cK] w fun e w'=>∃ a c',e=.returned (.slice a n c')∧iP w' a n (fun i=>.int .i64 (q i))∧Below w.heap.size w w':=by
 have HR:=aa hk
 have HT:=aa ht
 have HK:=aa hK
 have HQ:=aa hq
 have hm:m≤1000:=hK.le
 clear hk ht hK hq
 go_enter Tryz.func106,Tryz.ntmps106
 go_wp2_with fail
 go_loopw [5,10] (fun v i wr=>∃ (k:Nat) (a:Option Addr) (c':Nat),k≤n∧i=.int .i64 k∧v=.slice a k c'∧wr.ownsRow w.heap.size 2 1 (.slice a k c') k (vn k q)∧Below w.heap.size w wr) (fun _ i _=>n-(intOf i).toNat)
 case atStart=>exact ⟨0,none,0,Nat.zero_le _,rfl,rfl,⟨rfl,.inl ⟨rfl,rfl⟩⟩,Below.refl _ _⟩
 obtain ⟨k,a,c',hk,rfl,rfl,hown,hB⟩:=hrel
 by_cases hlt:k<n
 ·
  have hlt':(k:Int)<n:=by omega
  obtain ⟨gt,ot,rfl,c0⟩:=(HT.up hB) k hlt
  dsimp only at c0
  obtain ⟨j,hj,ej,eq⟩:=HQ k hlt
  obtain ⟨g,o,rfl,_⟩:=HR j hj
  go_wp2_with fail
  clear c0
  refine (re g o m cK K (z k) _ (by omega) (HR.up hB) HK.up j hj ej).mono ?_
  rintro e w2 ⟨rfl,hb⟩
  have hB2:=hB.trans (hb.mono hB.size)
  have hcl:=(HR.up hB2).cell hj
  have c3:w2.cell? ⟨g,o+j*8+3,none⟩=some (.int .i64 (K j).k):=hcl 3 (by omega)
  have c4:w2.cell? ⟨g,o+j*8+3+1,none⟩=some (.int .i64 (K j).d):=hcl 4 (by omega)
  have c5:w2.cell? ⟨g,o+j*8+3+2,none⟩=some (.int .i64 (K j).s):=hcl 5 (by omega)
  have c6:w2.cell? ⟨g,o+j*8+3+3,none⟩=some (.int .i64 (K j).p):=hcl 6 (by omega)
  have c7:w2.cell? ⟨g,o+j*8+3+4,none⟩=some (.string (K j).b):=hcl 7 (by omega)
  have hown2:=mq hown hb (Nat.le_refl _)
  clear hown hb hB hcl
  have hf:=(HK.one j hj).2.2
  have hle:=hf.le
  go_wp2_with fail
  refine (kJ _ _ _ _ _ _ (by unfold maxLen;omega)).mono ?_
  rintro e w3 ⟨rfl,hb⟩
  rw [vJ hf,←eq]
  have hB3:=hB2.trans (hb.mono hB2.size)
  have hown3:=mq hown2 hb (Nat.le_refl _)
  obtain ⟨a2,c2,W4,hrun,hown4,hB4⟩:=appQ hown3 (by omega) hB3.size
  have HB5:=aa (hB3.trans hB4)
  have HW:=aa hown4
  clear hown2 hown3 hb hB2 c3 c4 c5 c6 c7 hf hle eq hown4 hB3 hB4
  go_wp2_with (at_builtin;refine Lib.wpList_append_run _ rfl _ _ _ _ rfl _ _ rfl rfl _ _ hrun ?_)
  go_roundw
  case rel=>exact ⟨k+1,a2,c2,by omega,by go_num,rfl,HW.out,HB5.out⟩
  case measure=>simp [intOf];omega
 obtain rfl:k=n:=by omega
 have hge:¬ ((k:Nat):Int)<((k:Nat):Int):=by omega
 go_wp2_with fail
 go_ret
 first | exact ⟨a,⟨c',rfl⟩,Bb hown,hB⟩ | exact ⟨a,c',rfl,Bb hown,hB⟩
theorem lb7 {b:Nat} {t:TypeId} {fr:Nat × Nat} {l:Lng} (h:W.heap[b]?=some (.cells l.cells t fr)):W.cell? ⟨b,1,none⟩=some (.slice l.aT l.nT l.cT)∧W.cell? ⟨b,2,none⟩=some (.slice l.aU l.nU l.cU) ∧
  W.cell? ⟨b,3,none⟩=some (.slice l.R.aQ l.R.nQ l.R.cQ)∧W.cell? ⟨b,4,none⟩=some (.slice l.R.aD l.R.nD l.R.cD)∧W.cell? ⟨b,5,none⟩=some (.int .i64 l.R.turn)∧W.cell? ⟨b,6,none⟩=some (.bool l.R.fresh) ∧
  W.cell? ⟨b,7,none⟩=some (.slice l.R.aS l.R.nS l.R.cS):=⟨ie h 1,ie h 2,ie h 3,ie h 4,ie h 5,ie h 6,ie h 7⟩
