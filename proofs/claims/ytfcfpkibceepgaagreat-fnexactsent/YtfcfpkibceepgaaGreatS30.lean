import Derived.Test.YtfcfpkibceepgaaGreatS29
import Derived.Deep.Cut
import Derived.Deep.DeepCutAuto
namespace Go.Proofs.YtfcfpkibceepgaaGreat
set_option maxRecDepth 10000
set_option maxHeartbeats 4000000
open Go.RowKit
set_option linter.unusedVariables false
set_option linter.unusedSimpArgs false
theorem eG {p:Prop} (h:p:=by
 intro wx hSw
 try dsimp only at hSw
 exact dW):p:=h
theorem eH {p:Prop} (h:p:=by
 rintro e w' ⟨rfl,h1,h2⟩
 refine ⟨rfl,.inr ⟨g,rfl,hg,h1⟩,?_⟩
 unfold gF
 rw [if_neg (by omega)]
 exact h2):p:=h
theorem eI {p:Prop} (h:p:=by
 go_wp2_with fail
 go_loop [1,5] (fun x i=>i=.int .i64 0∧x=.int .i64 (m:Int)) (fun _ _=>0)
 case atStart=>exact ⟨rfl,rfl⟩
 obtain ⟨rfl,rfl⟩:=hrel
 go_wp2_with fail
 go_ret
 exact ⟨rfl,rfl⟩):p:=h
theorem eJ {p:Prop} (h:p:=by
 go_wp2_with fail
 go_roundw
 case rel=>exact ⟨k+1,_,by omega,by go_num,rfl,by unfold Hid;have:=HK7.out;omega,HB2⟩
 case measure=>simp [intOf];omega):p:=h
theorem eO {p:Prop} (h:p:=by
 show _=m+(iD (fun i=>3+(L i).tot) k+(3+(L k).tot))
 have e0:c=m+iD (fun i=>3+(L i).tot) k:=HQ.out
 rw [AU,el,e0,Nat.add_assoc]):p:=h
theorem eR {p:Prop} (h:p:=by
 rintro e w' ⟨rfl,rfl⟩
 exact ⟨by simp,.inl rfl,Touch.refl _ _⟩):p:=h
theorem fa {p:Prop} (h:p:=by
 rintro e w' ⟨rfl,rfl⟩
 exact ⟨by simp,Below.refl _ _⟩):p:=h
theorem fb {p:Prop} (h:p:=by
 obtain rfl:k=n:=by omega
 go_wp2_with fail
 go_ret
 exact ⟨jM HQ.out,HR.out,HT.out⟩):p:=h
theorem fc {p:Prop} (h:p:=by
 obtain rfl:k=n:=by omega
 go_wp2_with fail
 go_ret
 exact ⟨jM HQ.out,HB.out⟩):p:=h
theorem iw {w W:World} {g n k:Nat} {t:TypeId} {F:Nat→Value} {arr:Array Value} {v:Value} (hn:n≤arr.size) (hc:∀ i,i<k→arr[i]?=some (F i)) (hlt:k<n) (hv:F k=v) (hP:Put w W g (lay arr k #[v]) t):fV g t n F (k+1) W:=by
 have hf:k+(#[v]:Array Value).size≤arr.size:=by show k+1≤_;omega
 refine ⟨_,hP.blk,by rw [jb hf];exact hn,fun i hi=>?_⟩
 by_cases e:i<k
 ·
  rw [jI hf i e]
  exact hc i e
 have:=iX hf 0 (by show 0<1;omega)
 rw [show i=k+0 by omega,this,Nat.add_zero,hv]
 rfl
def jr (m j:Nat):Value:=if j % 8=7 then .string (mt (m+j)) else .int .i64 ((m+j:Nat):Int)
theorem jt {m k j:Nat} (h:j<7):jr m (k*8+j)=.int .i64 ((m+k*8+j:Nat):Int):=by
 unfold jr
 rw [if_neg (by omega),Nat.add_assoc]
theorem yV {m k:Nat}:jr m (k*8+7)=.string (mt (m+k*8+7)):=by
 unfold jr
 rw [if_pos (by omega),Nat.add_assoc]
theorem int_eq {a b:Int} (h:a=b):(Value.int .i64 a)=.int .i64 b:=by rw [h]
theorem vA (g n cap m:Nat) (f:Nat→Value) (w:World) (h:fV g 97 (n*8) f (n*8) w) (hn:n≤1048576) (hm:m≤50000000) :
  Calls Tryz.prog 38 #[.slice (some ⟨g,0,none⟩) n cap,.int .i64 m] w fun e w'=>e=.returned (.int .i64 ((m+n*8:Nat):Int))∧fV g 97 (n*8) (jr m) (n*8) w'∧Touch [g] w w':=by
 have HM:Hid (fV g 97 (n*8) (jr m) (0*8) w):=h.Bm
 clear h
 go_enter Tryz.func38,Tryz.ntmps38
 go_wp2_with fail
 go_loopw [1,5] (fun x i wr=>∃ (k:Nat) (q:Int),k≤n∧i=.int .i64 k∧x=.int .i64 q∧Hid (q=((m+k*8:Nat):Int))∧Hid (fV g 97 (n*8) (jr m) (k*8) wr)∧Hid (Touch [g] w wr)) (fun _ i _=>n-(intOf i).toNat)
 case atStart=>exact ⟨0,m,Nat.zero_le _,rfl,rfl,by show (m:Int)=_;simp,HM.out,Touch.refl _ _⟩
 obtain ⟨k,q,hk,rfl,rfl,HQ,HR,HT⟩:=hrel
 by_cases hlt:k<n
 ·
  have hlt':(k:Int)<n:=by omega
  have q0:0≤q:=by have:=HQ.out;omega
  have q1:q≤1000000000:=by have:=HQ.out;omega
  obtain ⟨arr,hb,hn2,hc⟩:=HR.out
  have HG:Hid (wr.heap[g]?=some (.cells arr 97 (0,0))):=hb
  have HN:Hid (n*8≤arr.size∧∀ i,i<k*8+0→arr[i]?=some (jr m i)):=⟨hn2,hc⟩
  clear hb hn2 hc HR
  go_wp2_with (refine fJ rfl 2 (.tmp 16) (.tmp 14) rfl g (k*8) (by simp [Act.eval]) (.int .i64 q) rfl 1 rfl 97 arr HG.out jv (by have:=HN.out.1;omega) (by simp [Value.cells,Value.oneCell']) ?_)
  intro Y0 hP
  have HR:Hid (fV g 97 (n*8) (jr m) (k*8+1) Y0):=iw (k:=k*8+0) HN.out.1 HN.out.2 (by omega) (by rw [jt (by omega)];exact int_eq (by have:=HQ.out;omega)) hP
  replace HT:Hid (Touch [g] w Y0):=HT.out.trans hP.to
  clear hP HG HN
  obtain ⟨arr,hb,hn2,hc⟩:=HR.out
  have HG:Hid (Y0.heap[g]?=some (.cells arr 97 (0,0))):=hb
  have HN:Hid (n*8≤arr.size∧∀ i,i<k*8+1→arr[i]?=some (jr m i)):=⟨hn2,hc⟩
  clear hb hn2 hc HR
  go_wp2_with (refine fJ rfl 2 (.tmp 23) (.tmp 21) rfl g (k*8+1) (by simp [Act.eval]) (.int .i64 (q+1)) rfl 1 rfl 97 arr HG.out jv (by have:=HN.out.1;omega) (by simp [Value.cells,Value.oneCell']) ?_)
  intro Y1 hP
  have HR:Hid (fV g 97 (n*8) (jr m) (k*8+2) Y1):=iw (k:=k*8+1) HN.out.1 HN.out.2 (by omega) (by rw [jt (by omega)];exact int_eq (by have:=HQ.out;omega)) hP
  replace HT:Hid (Touch [g] w Y1):=HT.out.trans hP.to
  clear hP HG HN
  obtain ⟨arr,hb,hn2,hc⟩:=HR.out
  have HG:Hid (Y1.heap[g]?=some (.cells arr 97 (0,0))):=hb
  have HN:Hid (n*8≤arr.size∧∀ i,i<k*8+2→arr[i]?=some (jr m i)):=⟨hn2,hc⟩
  clear hb hn2 hc HR
  go_wp2_with (refine fJ rfl 2 (.tmp 30) (.tmp 28) rfl g (k*8+2) (by simp [Act.eval]) (.int .i64 (q+1+1)) rfl 1 rfl 97 arr HG.out jv (by have:=HN.out.1;omega) (by simp [Value.cells,Value.oneCell']) ?_)
  intro Y2 hP
  have HR:Hid (fV g 97 (n*8) (jr m) (k*8+3) Y2):=iw (k:=k*8+2) HN.out.1 HN.out.2 (by omega) (by rw [jt (by omega)];exact int_eq (by have:=HQ.out;omega)) hP
  replace HT:Hid (Touch [g] w Y2):=HT.out.trans hP.to
  clear hP HG HN
  obtain ⟨arr,hb,hn2,hc⟩:=HR.out
  have HG:Hid (Y2.heap[g]?=some (.cells arr 97 (0,0))):=hb
  have HN:Hid (n*8≤arr.size∧∀ i,i<k*8+3→arr[i]?=some (jr m i)):=⟨hn2,hc⟩
  clear hb hn2 hc HR
  go_wp2_with (refine fJ rfl 2 (.tmp 38) (.tmp 35) rfl g (k*8+3) (by simp [Act.eval]) (.int .i64 (q+1+1+1)) rfl 1 rfl 97 arr HG.out jv (by have:=HN.out.1;omega) (by simp [Value.cells,Value.oneCell']) ?_)
  intro Y3 hP
  have HR:Hid (fV g 97 (n*8) (jr m) (k*8+4) Y3):=iw (k:=k*8+3) HN.out.1 HN.out.2 (by omega) (by rw [jt (by omega)];exact int_eq (by have:=HQ.out;omega)) hP
  replace HT:Hid (Touch [g] w Y3):=HT.out.trans hP.to
  clear hP HG HN
  obtain ⟨arr,hb,hn2,hc⟩:=HR.out
  have HG:Hid (Y3.heap[g]?=some (.cells arr 97 (0,0))):=hb
  have HN:Hid (n*8≤arr.size∧∀ i,i<k*8+4→arr[i]?=some (jr m i)):=⟨hn2,hc⟩
  clear hb hn2 hc HR
  go_wp2_with (refine fJ rfl 2 (.tmp 46) (.tmp 43) rfl g (k*8+4) (by simp [Act.eval]) (.int .i64 (q+1+1+1+1)) rfl 1 rfl 97 arr HG.out jv (by have:=HN.out.1;omega) (by simp [Value.cells,Value.oneCell']) ?_)
  intro Y4 hP
  have HR:Hid (fV g 97 (n*8) (jr m) (k*8+5) Y4):=iw (k:=k*8+4) HN.out.1 HN.out.2 (by omega) (by rw [jt (by omega)];exact int_eq (by have:=HQ.out;omega)) hP
  replace HT:Hid (Touch [g] w Y4):=HT.out.trans hP.to
  clear hP HG HN
  obtain ⟨arr,hb,hn2,hc⟩:=HR.out
  have HG:Hid (Y4.heap[g]?=some (.cells arr 97 (0,0))):=hb
  have HN:Hid (n*8≤arr.size∧∀ i,i<k*8+5→arr[i]?=some (jr m i)):=⟨hn2,hc⟩
  clear hb hn2 hc HR
  go_wp2_with (refine fJ rfl 2 (.tmp 54) (.tmp 51) rfl g (k*8+5) (by simp [Act.eval]) (.int .i64 (q+1+1+1+1+1)) rfl 1 rfl 97 arr HG.out jv (by have:=HN.out.1;omega) (by simp [Value.cells,Value.oneCell']) ?_)
  intro Y5 hP
  have HR:Hid (fV g 97 (n*8) (jr m) (k*8+6) Y5):=iw (k:=k*8+5) HN.out.1 HN.out.2 (by omega) (by rw [jt (by omega)];exact int_eq (by have:=HQ.out;omega)) hP
  replace HT:Hid (Touch [g] w Y5):=HT.out.trans hP.to
  clear hP HG HN
  obtain ⟨arr,hb,hn2,hc⟩:=HR.out
  have HG:Hid (Y5.heap[g]?=some (.cells arr 97 (0,0))):=hb
  have HN:Hid (n*8≤arr.size∧∀ i,i<k*8+6→arr[i]?=some (jr m i)):=⟨hn2,hc⟩
  clear hb hn2 hc HR
  go_wp2_with (refine fJ rfl 2 (.tmp 62) (.tmp 59) rfl g (k*8+6) (by simp [Act.eval]) (.int .i64 (q+1+1+1+1+1+1)) rfl 1 rfl 97 arr HG.out jv (by have:=HN.out.1;omega) (by simp [Value.cells,Value.oneCell']) ?_)
  intro Y6 hP
  have HR:Hid (fV g 97 (n*8) (jr m) (k*8+7) Y6):=iw (k:=k*8+6) HN.out.1 HN.out.2 (by omega) (by rw [jt (by omega)];exact int_eq (by have:=HQ.out;omega)) hP
  replace HT:Hid (Touch [g] w Y6):=HT.out.trans hP.to
  clear hP HG HN
  obtain ⟨arr,hb,hn2,hc⟩:=HR.out
  have HG:Hid (Y6.heap[g]?=some (.cells arr 97 (0,0))):=hb
  have HN:Hid (n*8≤arr.size∧∀ i,i<k*8+7→arr[i]?=some (jr m i)):=⟨hn2,hc⟩
  clear hb hn2 hc HR
  go_wp2_with fail
  have hk7:q+1+1+1+1+1+1+1=((m+k*8+7:Nat):Int):=by have:=HQ.out;omega
  rw [hk7]
  refine (km (m+k*8+7) _ (by omega)).mono ?_
  rintro e wm ⟨rfl,hbm⟩
  replace HT:Hid (Touch [g] w wm):=HT.out.trans (Touch.gY hbm)
  replace HG:Hid (wm.heap[g]?=some (.cells arr 97 (0,0))):=(hbm.block _ (fH HG.out)).trans HG.out
  clear hbm
  go_wp2_with (refine fJ rfl 9 (.tmp 71) (.tmp 68) rfl g (k*8+7) (by simp [Act.eval]) (.string (mt (m+k*8+7))) rfl 1 rfl 97 arr HG.out (by kernel_rfl) (by have:=HN.out.1;omega) (by simp [Value.cells,Value.oneCell']) ?_)
  intro Y7 hP
  have HR:Hid (fV g 97 (n*8) (jr m) (k*8+8) Y7):=iw (k:=k*8+7) HN.out.1 HN.out.2 (by omega) yV hP
  replace HT:Hid (Touch [g] w Y7):=HT.out.trans hP.to
  clear hP HG HN
  go_wp2_with fail
  go_roundw
  case rel=>exact ⟨k+1,_,by omega,by go_num,rfl,by unfold Hid;omega,by show fV _ _ _ _ ((k+1)*8) _;rw [show (k+1)*8=k*8+8 by omega];exact HR.out,HT⟩
  case measure=>simp [intOf];omega
 exact fb
theorem vN (g n cap m:Nat) (w:World) (h:fV g 97 (n*8) (jr m) (n*8) w) (hn:n≤1048576) (hm:m≤50000000) :
  Calls Tryz.prog 43 #[.slice (some ⟨g,0,none⟩) n cap,.int .i64 m] w fun e w'=>e=.returned (.int .i64 ((m+n*8:Nat):Int))∧Below w.heap.size w w':=by
 have HR:Hid (fV g 97 (n*8) (jr m) (n*8) w):=h
 clear h
 go_enter Tryz.func43,Tryz.ntmps43
 go_wp2_with fail
 go_loopw [1,5] (fun x i wr=>∃ (k:Nat) (q:Int),k≤n∧i=.int .i64 k∧x=.int .i64 q∧Hid (q=((m+k*8:Nat):Int))∧Hid (Below w.heap.size w wr)) (fun _ i _=>n-(intOf i).toNat)
 case atStart=>exact ⟨0,m,Nat.zero_le _,rfl,rfl,by unfold Hid;simp,Below.refl _ _⟩
 obtain ⟨k,q,hk,rfl,rfl,HQ,HB⟩:=hrel
 by_cases hlt:k<n
 ·
  have hlt':(k:Int)<n:=by omega
  have q0:0≤q:=by have:=HQ.out;omega
  have q1:q≤1000000000:=by have:=HQ.out;omega
  have HRr:Hid (fV g 97 (n*8) (jr m) (n*8) wr):=HR.out.ir (HB.out.block _ HR.out.lt)
  have c0:wr.cell? ⟨g,k*8,none⟩=some (.int .i64 (q)):=by rw [HRr.out.at _ (by omega),show k*8=k*8+0 by omega,jt (m:=m) (k:=k) (j:=0) (by omega)];exact congrArg some (int_eq (by have:=HQ.out;omega))
  have c1:wr.cell? ⟨g,k*8+1,none⟩=some (.int .i64 (q+1)):=by rw [HRr.out.at _ (by omega),jt (m:=m) (k:=k) (j:=1) (by omega)];exact congrArg some (int_eq (by have:=HQ.out;omega))
  have c2:wr.cell? ⟨g,k*8+2,none⟩=some (.int .i64 (q+1+1)):=by rw [HRr.out.at _ (by omega),jt (m:=m) (k:=k) (j:=2) (by omega)];exact congrArg some (int_eq (by have:=HQ.out;omega))
  have c3:wr.cell? ⟨g,k*8+3,none⟩=some (.int .i64 (q+1+1+1)):=by rw [HRr.out.at _ (by omega),jt (m:=m) (k:=k) (j:=3) (by omega)];exact congrArg some (int_eq (by have:=HQ.out;omega))
  have c4:wr.cell? ⟨g,k*8+4,none⟩=some (.int .i64 (q+1+1+1+1)):=by rw [HRr.out.at _ (by omega),jt (m:=m) (k:=k) (j:=4) (by omega)];exact congrArg some (int_eq (by have:=HQ.out;omega))
  have c5:wr.cell? ⟨g,k*8+5,none⟩=some (.int .i64 (q+1+1+1+1+1)):=by rw [HRr.out.at _ (by omega),jt (m:=m) (k:=k) (j:=5) (by omega)];exact congrArg some (int_eq (by have:=HQ.out;omega))
  have c6:wr.cell? ⟨g,k*8+6,none⟩=some (.int .i64 (q+1+1+1+1+1+1)):=by rw [HRr.out.at _ (by omega),jt (m:=m) (k:=k) (j:=6) (by omega)];exact congrArg some (int_eq (by have:=HQ.out;omega))
  have c7:wr.cell? ⟨g,k*8+7,none⟩=some (.string (mt (m+k*8+7))):=by rw [HRr.out.at _ (by omega),yV]
  have hk7:q+1+1+1+1+1+1+1=((m+k*8+7:Nat):Int):=by have:=HQ.out;omega
  have HK7:Hid (q+1+1+1+1+1+1+1=((m+k*8+7:Nat):Int)):=hk7
  clear hk7 HRr
  go_wp2_with fail
  clear c0 c1 c2 c3 c4 c5 c6
  refine wp_region_held_drew (S:=fun w'=>w'.cell? ⟨g,k*8+7,none⟩=some (.string (mt (m+k*8+7)))) (by kernel_rfl) c7 (fun hHeld=>?_)
  refine t0 ?_
  iterate 6 refine tN ?_
  refine rq1 7 (fun K hK=>?_)
  go_simp
  rw [HK7.out]
  refine (km (m+k*8+7) _ (by omega)).mono ?_
  rintro e wm ⟨rfl,hbm⟩
  have HB2:Hid (Below w.heap.size w wm):=HB.out.drew.trans (hbm.mono HB.out.drew.size)
  have c72:wm.cell? ⟨g,k*8+7,none⟩=some (.string (mt (m+k*8+7))):=(hbm.cell (p:=⟨g,k*8+7,none⟩) (iu (w:=wr.drew) c7)).trans c7
  clear hbm c7 HB
  go_wp2_with fail
  refine hK.out _ _ c72 (fun hHeld=>?_)
  clear hK K
  try simp only [Act.put,PZ]
  refine tN ?_
  refine dnq ?_
  clear hHeld c72
  exact eJ
 exact fc
theorem r7 {g:Nat→List Nat}:∀ n,((List.range n).flatMap g).Nodup→∀ i j,i<n→j<n→i≠j→∀ x∈g i,x∉g j:=by
 have lt:∀ n,((List.range n).flatMap g).Nodup→∀ i j,i<j→j<n→∀ x,x∈g i→x∉g j:=by
  intro n
  induction n with
  | zero=>intro _ i j _ hj;omega
  | succ n ih =>
   intro hn i j hij hj x h1 h2
   rw [List.range_succ,List.flatMap_append] at hn
   simp only [List.flatMap_cons,List.flatMap_nil,List.append_nil] at hn
   obtain ⟨n1,n2,n3⟩:=List.nodup_append.1 hn
   by_cases e:j=n
   ·
    subst e
    exact n3 x (by simp only [List.mem_flatMap,List.mem_range];exact ⟨i,hij,h1⟩) x h2 rfl
   exact ih n1 i j hij (by omega) x h1 h2
 intro n hn i j hi hj hne x hx hy
 rcases Nat.lt_or_gt_of_ne hne with h | h
 ·
  exact lt n hn i j h hj x hx hy
 exact lt n hn j i h hi x hy hx
structure Dis (l:Lng):Prop where
 tu:∀ x∈gF l.aT l.nT,x∉mi l.nU l.uA l.uL
 tq:∀ x∈gF l.aT l.nT,x∉gF l.R.aQ l.R.nQ
 td:∀ x∈gF l.aT l.nT,x∉gF l.R.aD l.R.nD
 ty:∀ x∈gF l.aT l.nT,x∉mi l.R.nS l.R.A l.R.L
 uq:∀ x∈mi l.nU l.uA l.uL,x∉gF l.R.aQ l.R.nQ
 ud:∀ x∈mi l.nU l.uA l.uL,x∉gF l.R.aD l.R.nD
 uy:∀ x∈mi l.nU l.uA l.uL,x∉mi l.R.nS l.R.A l.R.L
 qd:∀ x∈gF l.R.aQ l.R.nQ,x∉gF l.R.aD l.R.nD
 qy:∀ x∈gF l.R.aQ l.R.nQ,x∉mi l.R.nS l.R.A l.R.L
 dy:∀ x∈gF l.R.aD l.R.nD,x∉mi l.R.nS l.R.A l.R.L
 uu:∀ i j,i<l.nU→j<l.nU→i≠j→wZ (l.uA i) (l.uL i) (l.uA j) (l.uL j)
 yy:∀ i j,i<l.R.nS→j<l.R.nS→i≠j→wZ (l.R.A i) (l.R.L i) (l.R.A j) (l.R.L j)
theorem Lng.dis {l:Lng} (h:l.jh.Nodup):Dis l:=by
 unfold Lng.jh at h
 obtain ⟨_,h1,d1⟩:=List.nodup_append.1 h
 obtain ⟨u,h2,d2⟩:=List.nodup_append.1 h1
 obtain ⟨_,h3,d3⟩:=List.nodup_append.1 h2
 obtain ⟨_,y,d4⟩:=List.nodup_append.1 h3
 have m1:∀ {x:Nat} {a b:List Nat},x∈a→x∈a++b:=fun h=>List.mem_append_left _ h
 have m2:∀ {x:Nat} {a b:List Nat},x∈b→x∈a++b:=fun h=>List.mem_append_right _ h
 exact ⟨fun x hx hy=>d1 x hx x (m1 hy) rfl,fun x hx hy=>d1 x hx x (m2 (m1 hy)) rfl,fun x hx hy=>d1 x hx x (m2 (m2 (m1 hy))) rfl,fun x hx hy=>d1 x hx x (m2 (m2 (m2 hy))) rfl,
  fun x hx hy=>d2 x hx x (m1 hy) rfl,fun x hx hy=>d2 x hx x (m2 (m1 hy)) rfl,fun x hx hy=>d2 x hx x (m2 (m2 hy)) rfl,fun x hx hy=>d3 x hx x (m1 hy) rfl,fun x hx hy=>d3 x hx x (m2 hy) rfl,fun x hx hy=>d4 x hx x hy rfl,
  r7 _ u,r7 _ y⟩
section
variable {w w' : World} {base : Nat} {l : Lng} {S : List Nat}
theorem gO.type2 (h:gO w base l):∀ x∈l.jh,∃ cs,w.heap[x]?=some (.cells cs 2 (0,0)):=by
 intro x hx
 unfold Lng.jh at hx
 simp only [List.mem_append,ib] at hx
 rcases hx with hx | ⟨i,hi,hx⟩ | hx | hx | ⟨i,hi,hx⟩
 ·
  exact h.t.type x hx
 ·
  exact (h.z i hi).type x hx
 ·
  exact h.q.type x hx
 ·
  exact h.d.type x hx
 exact (h.y i hi).type x hx
theorem gO.uQ (h:gO w base l) (h2:∀ x∈S,∃ cs,w.heap[x]?=some (.cells cs 2 (0,0))):∀ x∈gF l.aU l.nU,x∉S:=fun x hx hy=>by
 obtain ⟨cs,e1⟩:=h.u.type x hx
 obtain ⟨cs',e2⟩:=h2 x hy
 rw [e1] at e2
 simp at e2
theorem gO.uR (h:gO w base l) (h2:∀ x∈S,∃ cs,w.heap[x]?=some (.cells cs 2 (0,0))):∀ x∈gF l.R.aS l.R.nS,x∉S:=fun x hx hy=>by
 obtain ⟨cs,e1⟩:=h.s.type x hx
 obtain ⟨cs',e2⟩:=h2 x hy
 rw [e1] at e2
 simp at e2
theorem gO.far (h:gO w base l) (ht:Touch S w w') (h2:∀ x∈S,∃ cs,w.heap[x]?=some (.cells cs 2 (0,0))) (hd:∀ x∈l.jh,x∉S):gO w' base l:=by
 have k1:∀ x∈gF l.aT l.nT,x∉S:=fun x hx=>hd x (List.mem_append_left _ hx)
 have k2:∀ i,i<l.nU→∀ x∈gF (l.uA i) (l.uL i),x∉S:=fun i hi x hx=>hd x (List.mem_append_right _ (List.mem_append_left _ (ib.2 ⟨i,hi,hx⟩)))
 have k3:∀ x∈gF l.R.aQ l.R.nQ,x∉S:=fun x hx=>hd x (List.mem_append_right _ (List.mem_append_right _ (List.mem_append_left _ hx)))
 have k4:∀ x∈gF l.R.aD l.R.nD,x∉S:=fun x hx=>hd x (List.mem_append_right _ (List.mem_append_right _ (List.mem_append_right _ (List.mem_append_left _ hx))))
 have k5:∀ i,i<l.R.nS→∀ x∈gF (l.R.A i) (l.R.L i),x∉S:=fun i hi x hx=>hd x (List.mem_append_right _ (List.mem_append_right _ (List.mem_append_right _ (List.mem_append_right _ (ib.2 ⟨i,hi,hx⟩)))))
 exact ⟨h.t.fK ht k1,h.u.fK ht (h.uQ h2),fun i hi=>(h.z i hi).fK ht (k2 i hi),h.q.fK ht k3,h.d.fK ht k4,h.s.fK ht (h.uR h2),fun i hi=>(h.y i hi).fK ht (k5 i hi),h.nd⟩
theorem gO.mT {f:Nat→Int} (h:gO w base l) (hv:VGI w' base l.aT l.nT f) (ht:Touch (gF l.aT l.nT) w w'):gO w' base { l with t:=f }:=by
 have d:=Lng.dis h.nd
 have h2:∀ x∈gF l.aT l.nT,∃ cs,w.heap[x]?=some (.cells cs 2 (0,0)):=h.t.type
 exact ⟨hv,h.u.fK ht (h.uQ h2),fun i hi=>(h.z i hi).fK ht (fun x hx hy=>d.tu x hy (ib.2 ⟨i,hi,hx⟩)),h.q.fK ht (fun x hx hy=>d.tq x hy hx),h.d.fK ht (fun x hx hy=>d.td x hy hx),h.s.fK ht (h.uR h2),fun i hi=>(h.y i hi).fK ht (fun x hx hy=>d.ty x hy (ib.2 ⟨i,hi,hx⟩)),h.nd⟩
theorem gO.mU {z:Nat→Nat→Int} (h:gO w base l) (hv:∀ i,i<l.nU→VGI w' base (l.uA i) (l.uL i) (z i)) (ht:Touch (mi l.nU l.uA l.uL) w w'):gO w' base { l with uz:=z }:=by
 have d:=Lng.dis h.nd
 have h2:∀ x∈mi l.nU l.uA l.uL,∃ cs,w.heap[x]?=some (.cells cs 2 (0,0)):=fun x hx=>by
  obtain ⟨i,hi,hx⟩:=ib.1 hx
  exact (h.z i hi).type x hx
 exact ⟨h.t.fK ht (fun x hx hy=>d.tu x hx hy),h.u.fK ht (h.uQ h2),hv,h.q.fK ht (fun x hx hy=>d.uq x hy hx),h.d.fK ht (fun x hx hy=>d.ud x hy hx),h.s.fK ht (h.uR h2),fun i hi=>(h.y i hi).fK ht (fun x hx hy=>d.uy x hy (ib.2 ⟨i,hi,hx⟩)),h.nd⟩
theorem gO.mQ {f:Nat→Int} (h:gO w base l) (hv:VGI w' base l.R.aQ l.R.nQ f) (ht:Touch (gF l.R.aQ l.R.nQ) w w'):gO w' base { l with R:={ l.R with q:=f } }:=by
 have d:=Lng.dis h.nd
 have h2:∀ x∈gF l.R.aQ l.R.nQ,∃ cs,w.heap[x]?=some (.cells cs 2 (0,0)):=h.q.type
 exact ⟨h.t.fK ht (fun x hx hy=>d.tq x hx hy),h.u.fK ht (h.uQ h2),fun i hi=>(h.z i hi).fK ht (fun x hx hy=>d.uq x (ib.2 ⟨i,hi,hx⟩) hy),hv,h.d.fK ht (fun x hx hy=>d.qd x hy hx),h.s.fK ht (h.uR h2),fun i hi=>(h.y i hi).fK ht (fun x hx hy=>d.qy x hy (ib.2 ⟨i,hi,hx⟩)),h.nd⟩
theorem gO.mD {f:Nat→Int} (h:gO w base l) (hv:VGI w' base l.R.aD l.R.nD f) (ht:Touch (gF l.R.aD l.R.nD) w w'):gO w' base { l with R:={ l.R with d:=f } }:=by
 have d:=Lng.dis h.nd
 have h2:∀ x∈gF l.R.aD l.R.nD,∃ cs,w.heap[x]?=some (.cells cs 2 (0,0)):=h.d.type
 exact ⟨h.t.fK ht (fun x hx hy=>d.td x hx hy),h.u.fK ht (h.uQ h2),fun i hi=>(h.z i hi).fK ht (fun x hx hy=>d.ud x (ib.2 ⟨i,hi,hx⟩) hy),h.q.fK ht (fun x hx hy=>d.qd x hx hy),hv,h.s.fK ht (h.uR h2),fun i hi=>(h.y i hi).fK ht (fun x hx hy=>d.dy x hy (ib.2 ⟨i,hi,hx⟩)),h.nd⟩
theorem gO.mY {z:Nat→Nat→Int} (h:gO w base l) (hv:∀ i,i<l.R.nS→VGI w' base (l.R.A i) (l.R.L i) (z i)) (ht:Touch (mi l.R.nS l.R.A l.R.L) w w'):gO w' base { l with R:={ l.R with z:=z } }:=by
 have d:=Lng.dis h.nd
 have h2:∀ x∈mi l.R.nS l.R.A l.R.L,∃ cs,w.heap[x]?=some (.cells cs 2 (0,0)):=fun x hx=>by
  obtain ⟨i,hi,hx⟩:=ib.1 hx
  exact (h.y i hi).type x hx
 exact ⟨h.t.fK ht (fun x hx hy=>d.ty x hx hy),h.u.fK ht (h.uQ h2),fun i hi=>(h.z i hi).fK ht (fun x hx hy=>d.uy x (ib.2 ⟨i,hi,hx⟩) hy),h.q.fK ht (fun x hx hy=>d.qy x hx hy),h.d.fK ht (fun x hx hy=>d.dy x hx hy),h.s.fK ht (h.uR h2),hv,h.nd⟩
end
structure Lns (w:World) (base g n:Nat) (L:Nat→Lng):Prop where
 r:fV g 102 (n*8) (k6 L) (n*8) w
 ls:∀ i,i<n→gO w base (L i)
 ap:∀ i j,i<n→j<n→i≠j→∀ x∈(L i).jh,x∉(L j).jh
def lK (L:Nat→Lng) (k:Nat) (l:Lng) (i:Nat):Lng:=if i=k then l else L i
theorem iN (L:Nat→Lng) (k:Nat) (l:Lng):lK L k l k=l:=if_pos rfl
theorem uP (L:Nat→Lng) {k i:Nat} (l:Lng) (h:i≠k):lK L k l i=L i:=if_neg h
theorem wC (L:Nat→Lng) (k:Nat) (l l2:Lng):lK (lK L k l) k l2=lK L k l2:=by
 funext i
 unfold lK
 split <;> rfl
theorem BG (L:Nat→Lng) (k:Nat):lK L k (L k)=L:=by
 funext i
 unfold lK
 split
 ·
  rename_i h;rw [h]
 rfl
section
variable {w w' : World} {base g n k : Nat} {L : Nat → Lng} {l : Lng} {S : List Nat}
theorem Lns.cell (h:Lns w base g n L) (hk:k<n) (j:Nat) (hj:j<8):w.cell? ⟨g,k*8+j,none⟩=(L k).cells[j]?:=by
 rw [h.r.at _ (by omega)]
 exact jw L k j hj
theorem Lns.apU (h:Lns w base g n L) (hb:l.jh=(L k).jh):∀ i j,i<n→j<n→i≠j→∀ x∈(lK L k l i).jh,x∉(lK L k l j).jh:=by
 intro i j hi hj hne x hx hy
 have e:∀ i,(lK L k l i).jh=(L i).jh:=fun i=>by
  unfold lK
  split
  ·
   rename_i e;rw [hb,e]
  rfl
 rw [e] at hx hy
 exact h.ap i j hi hj hne x hx hy
theorem Lns.mark (h:Lns w base g n L) (hk:k<n) (hc:l.cells=(L k).cells) (hb:l.jh=(L k).jh) (ho:gO w' base l) (ht:Touch S w w') (hS:∀ x∈S,x∈(L k).jh):Lns w' base g n (lK L k l):=by
 have h2:∀ x∈S,∃ cs,w.heap[x]?=some (.cells cs 2 (0,0)):=fun x hx=>(h.ls k hk).type2 x (hS x hx)
 have hg:g∉S:=fun hx=>by
  obtain ⟨cs,e1⟩:=h2 g hx
  obtain ⟨arr,e2,_⟩:=h.r
  rw [e1] at e2
  simp at e2
 have ef:k6 (lK L k l)=k6 L:=by
  funext j
  unfold k6 lK
  split
  ·
   rename_i e;rw [hc,e]
  rfl
 refine ⟨by rw [ef];exact h.r.ir (ht.block g h.r.lt hg),fun i hi=>?_,h.apU hb⟩
 by_cases e:i=k
 ·
  rw [e,iN];exact ho
 rw [uP _ _ e]
 exact (h.ls i hi).far ht h2 (fun x hx hy=>h.ap i k hi hk e x hx (hS x hy))
theorem Lns.put (h:Lns w base g n L) (hk:k<n) {j:Nat} (hj:j<8) {v:Value} {arr:Array Value} (ha:w.heap[g]?=some (.cells arr 102 (0,0))) (hP:Put w w' g (lay arr (k*8+j) #[v]) 102) (hc:l.cells=(L k).cells.setIfInBounds j v) (hb:l.jh=(L k).jh) (ho:∀ W,gO W base (L k)→gO W base l):Lns w' base g n (lK L k l):=by
 have far:∀ {l:Lng},gO w base l→gO w' base l:=fun {l} hl=>by
  have no2:∀ {a:Option Addr} {n:Nat} {f:Nat→Value} {t:TypeId},VG t w base a n f→t≠102→VG t w' base a n f:=fun hv hne=>hv.fK hP.to (fun x hx hy=>by
   obtain ⟨cs,e1⟩:=hv.type x hx
   rw [List.mem_singleton.1 hy,ha] at e1
   simp at e1
   exact hne e1.2.symm)
  exact ⟨no2 hl.t (by decide),no2 hl.u (by decide),fun i hi=>no2 (hl.z i hi) (by decide),no2 hl.q (by decide),no2 hl.d (by decide),no2 hl.s (by decide),fun i hi=>no2 (hl.y i hi) (by decide),hl.nd⟩
 obtain ⟨arr',e1,e2,e3⟩:=h.r
 rw [ha] at e1
 simp at e1
 subst e1
 have hf:k*8+j+(#[v]:Array Value).size≤arr.size:=by show k*8+j+1≤_;omega
 refine ⟨⟨_,hP.blk,by rw [jb hf];exact e2,fun i hi=>?_⟩,fun i hi=>?_,h.apU hb⟩
 ·
  by_cases e:i=k*8+j
  ·
   have q:=iX hf 0 (by show 0<1;omega)
   rw [Nat.add_zero] at q
   rw [e,q,jw _ k j hj,iN,hc]
   rw [Array.getElem?_setIfInBounds_self_of_lt (by rw [Lng.ig];exact hj)]
   rfl
  have q:(lay arr (k*8+j) #[v])[i]?=arr[i]?:=by
   by_cases lo:i<k*8+j
   ·
    exact jI hf i lo
   unfold lay
   simp only [List.getElem?_toArray]
   rw [List.getElem?_append_right (by simp;omega),List.getElem?_drop,Array.getElem?_toList]
   congr 1
   simp
   omega
  rw [q,e3 i hi]
  have hh:some (k6 (lK L k l) i)=some (k6 L i):=by
   have a1:=jw (lK L k l) (i / 8) (i % 8) (by omega)
   have a2:=jw L (i / 8) (i % 8) (by omega)
   rw [show i / 8*8+i % 8=i by omega] at a1 a2
   rw [a1,a2]
   by_cases ek:i / 8=k
   ·
    rw [ek,iN,hc,Array.getElem?_setIfInBounds_ne (by omega)]
   rw [uP _ _ ek]
  exact hh.symm
 by_cases e:i=k
 ·
  rw [e,iN];exact ho _ (far (h.ls k hk))
 rw [uP _ _ e];exact far (h.ls i hi)
end
theorem DK (q:Nat):(((q:Int)) % 3 == 0)=mb q:=by
 rw [Bool.eq_iff_iff]
 simp only [mb,beq_iff_eq,decide_eq_true_eq]
 omega
theorem CN (q:Nat):(((q:Int)+1) % 3 == 0)=mb (q+1):=by
 rw [Bool.eq_iff_iff]
 simp only [mb,beq_iff_eq,decide_eq_true_eq]
 omega
def Ap (l:Lng) (st:Bool) (t:Nat→Int) (uz:Nat→Nat→Int) (q d:Nat→Int) (turn:Int) (fresh:Bool) (z:Nat→Nat→Int):Lng :=
 ⟨st,l.aT,l.nT,l.cT,t,l.aU,l.nU,l.cU,l.uA,l.uL,l.uC,uz,⟨l.R.aQ,l.R.nQ,l.R.cQ,q,l.R.aD,l.R.nD,l.R.cD,d,turn,fresh,l.R.aS,l.R.nS,l.R.cS,l.R.A,l.R.L,l.R.C,z⟩⟩
def Lng.c1 (l:Lng) (c:Nat):Nat:=c+1+l.nT
def Lng.c2 (l:Lng) (c:Nat):Nat:=l.c1 c+iD l.uL l.nU
def Lng.c3 (l:Lng) (c:Nat):Nat:=l.c2 c+l.R.nQ
def Lng.c4 (l:Lng) (c:Nat):Nat:=l.c3 c+l.R.nD
def qC (c:Nat) (l:Lng):Lng:=Ap l (mb c) (fun i=>((c+1+i:Nat):Int)) (fun i j=>((l.c1 c+iD l.uL i+j:Nat):Int)) (fun i=>((l.c2 c+i:Nat):Int)) (fun i=>((l.c3 c+i:Nat):Int)) ((l.c4 c:Nat):Int) (mb (l.c4 c+1)) (fun i j=>((l.c4 c+2+iD l.R.L i+j:Nat):Int))
theorem AU (c:Nat) (l:Lng):l.c4 c+2+iD l.R.L l.R.nS=c+(3+l.tot):=by
 unfold Lng.c4 Lng.c3 Lng.c2 Lng.c1 Lng.tot Rnd.tot
 omega
section
variable {w w' : World} {base g n k : Nat} {M : Nat → Lng} {l l' : Lng} {S : List Nat}
theorem Lns.sm (h:Lns w base g n (lK M k l)) (hk:k<n):gO w base l:=by
 have:=h.ls k hk
 rwa [iN] at this
theorem Lns.Af (h:Lns w base g n (lK M k l)) (hk:k<n) (j:Nat) (hj:j<8):w.cell? ⟨g,k*8+j,none⟩=l.cells[j]?:=by
 rw [h.cell hk j hj,iN]
theorem Lns.yZ (h:Lns w base g n (lK M k l)) (hk:k<n) (hc:l'.cells=l.cells) (hb:l'.jh=l.jh) (ho:gO w' base l') (ht:Touch S w w') (hS:∀ x∈S,x∈l.jh):Lns w' base g n (lK M k l'):=by
 have:=h.mark hk (l:=l') (by rw [iN];exact hc) (by rw [iN];exact hb) ho ht (by rw [iN];exact hS)
 rwa [wC] at this
theorem Lns.Dl (h:Lns w base g n (lK M k l)) (hk:k<n) {j:Nat} (hj:j<8) {v:Value} {arr:Array Value} (ha:w.heap[g]?=some (.cells arr 102 (0,0))) (hP:Put w w' g (lay arr (k*8+j) #[v]) 102) (hc:l'.cells=l.cells.setIfInBounds j v) (hb:l'.jh=l.jh) (ho:∀ W,gO W base l→gO W base l'):Lns w' base g n (lK M k l'):=by
 have:=h.put hk hj (l:=l') ha hP (by rw [iN];exact hc) (by rw [iN];exact hb) (by rw [iN];exact ho)
 rwa [wC] at this
end
def xd (g n:Nat) (L:Nat→Lng):List Nat:=g :: (List.range n).flatMap fun i=>(L i).jh
theorem Bn {g n k:Nat} {L:Nat→Lng} (hk:k<n):∀ x∈(L k).jh,x∈xd g n L:=fun x hx=>List.mem_cons_of_mem _ (by simp only [List.mem_flatMap,List.mem_range];exact ⟨k,hk,hx⟩)
def oL (L:Nat→Lng) (k:Nat):Nat:=iD (fun i=>3+(L i).tot) k
def jo (m:Nat) (L:Nat→Lng) (k i:Nat):Lng:=if i<k then qC (m+oL L i) (L i) else L i
theorem vw (m:Nat) (L:Nat→Lng):jo m L 0=L:=by
 funext i
 unfold jo
 rw [if_neg (by omega)]
theorem vz (m:Nat) (L:Nat→Lng) (k:Nat):jo m L k k=L k:=by
 unfold jo
 rw [if_neg (by omega)]
theorem vy (m:Nat) (L:Nat→Lng) (k:Nat):lK (jo m L k) k (qC (m+oL L k) (L k))=jo m L (k+1):=by
 funext i
 unfold lK jo
 by_cases e:i=k
 ·
  subst e
  rw [if_pos rfl,if_pos (by omega)]
 rw [if_neg e]
 by_cases h:i<k
 ·
  rw [if_pos h,if_pos (by omega)]
 rw [if_neg h,if_neg (by omega)]
theorem Ac (L:Nat→Lng) {i n:Nat} (h:i<n):oL L i+(3+(L i).tot)≤oL L n:=by
 have h1:=u5 (fun i=>3+(L i).tot) (show i+1≤n by omega)
 have h2:iD (fun i=>3+(L i).tot) (i+1)=iD (fun i=>3+(L i).tot) i+(3+(L i).tot):=rfl
 unfold oL
 omega
theorem vB (g n cap m base:Nat) (L:Nat→Lng) (w:World) (h:Lns w base g n L) (hn:n≤1048576) (hm:m≤30000000) (hs:oL L n≤10000000) (hsm:∀ i,i<n→(L i).Small) :
  Calls Tryz.prog 39 #[.slice (some ⟨g,0,none⟩) n cap,.int .i64 m] w fun e w'=>e=.returned (.int .i64 ((m+oL L n:Nat):Int))∧Lns w' base g n (jo m L n)∧Touch (xd g n L) w w':=by
 have H0:Hid (Lns w base g n (jo m L 0)):=by rw [Hid,vw];exact h
 have HS:Hid (∀ i,i<n→(L i).Small):=hsm
 clear h hsm
 go_enter Tryz.func39,Tryz.ntmps39
 go_wp2_with fail
 go_loopw [1,5] (fun x i wr=>∃ (k c:Nat),k≤n∧i=.int .i64 k∧x=.int .i64 c∧Hid (c=m+oL L k)∧Hid (Lns wr base g n (jo m L k))∧Hid (Touch (xd g n L) w wr)) (fun _ i _=>n-(intOf i).toNat)
 case atStart=>exact ⟨0,m,Nat.zero_le _,rfl,rfl,rfl,H0,Touch.refl _ _⟩
 clear H0
 obtain ⟨k,c,hk,rfl,rfl,HQ,HL,HT⟩:=hrel
 by_cases hlt:k<n
 ·
  have hlt':(k:Int)<n:=by omega
  have hcn:=Ac L hlt
  have HsT:Hid ((L k).tot≤10000000):=by rw [Hid];omega
  have hcb:c+(3+(L k).tot)≤40000000:=by have:=HQ.out;omega
  have HSk:Hid (L k).Small:=HS.out k hlt
  have HA:Hid (∀ x∈(L k).jh,x∈xd g n L):=Bn hlt
  obtain ⟨M,eM⟩:∃ M,jo m L k=M:=⟨_,rfl⟩
  obtain ⟨l,el⟩:∃ l,L k=l:=⟨_,rfl⟩
  have HM:Hid (∀ W,Lns W base g n (lK M k (qC c l))→Lns W base g n (jo m L (k+1))):=fun W hW=>by rw [←vy,eM,el,←HQ.out];exact hW
  have HL0:Hid (Lns wr base g n (lK M k (Ap l l.st l.t l.uz l.R.q l.R.d l.R.turn l.R.fresh l.R.z))):=by
   have e:lK M k l=M:=by rw [←el,←vz m L k,eM,BG]
   show Lns wr base g n (lK M k l)
   rw [e,←eM]
   exact HL.out
  rw [el] at HSk HA hcb HsT
  clear HL eM hcn
  have hto:l.tot=l.nT+iD l.uL l.nU+(l.R.nQ+l.R.nD+iD l.R.L l.R.nS):=rfl
  have HTo:Hid (c+(3+l.tot)≤40000000):=hcb
  have h1:c+1≤100000000:=by omega
  have h2:l.c1 c≤50000000:=by unfold Lng.c1;omega
  have h3:l.c2 c≤100000000:=by unfold Lng.c2 Lng.c1;omega
  have h4:l.c3 c≤100000000:=by unfold Lng.c3 Lng.c2 Lng.c1;omega
  have h5:l.c4 c+2≤50000000:=by unfold Lng.c4 Lng.c3 Lng.c2 Lng.c1;omega
  have hsU:iD l.uL l.nU≤10000000:=by have:=HsT.out;omega
  have hsZ:iD l.R.L l.R.nS≤10000000:=by have:=HsT.out;omega
  clear hto
  obtain ⟨arr,hb,_,_⟩:=HL0.out.r
  have HG:Hid (wr.heap[g]?=some (.cells arr 102 (0,0))):=hb
  have HN:Hid (n*8≤arr.size):=by obtain ⟨a2,e1,e2,_⟩:=HL0.out.r;rw [hb] at e1;cases e1;exact e2
  clear hb
  go_wp2_with (refine fJ rfl 4 (.tmp 18) (.tmp 16) rfl g (k*8) (by simp [Act.eval]) (.bool (mb c)) (by simp [Act.eval,DK]) 1 rfl 102 arr HG.out zD (by have:=HN.out;omega) (by simp [Value.cells,Value.oneCell']) ?_)
  intro Y0 hP
  replace HL0:Hid (Lns Y0 base g n (lK M k (Ap l (mb c) l.t l.uz l.R.q l.R.d l.R.turn l.R.fresh l.R.z))):=HL0.out.Dl hlt (j:=0) (by omega) HG.out hP rfl rfl (fun W hW=>⟨hW.t,hW.u,hW.z,hW.q,hW.d,hW.s,hW.y,hW.nd⟩)
  replace HT:Hid (Touch (xd g n L) w Y0):=HT.out.trans (hP.to.mono (fun x hx=>by rw [List.mem_singleton.1 hx];exact List.mem_cons_self ..))
  clear hP HG HN
  have c1:Y0.cell? ⟨g,k*8+1,none⟩=some (.slice l.aT l.nT l.cT):=HL0.out.Af hlt 1 (by omega)
  go_wp2_with fail
  refine (lq l.aT l.nT l.cT (c+1) base l.t _ (HL0.out.sm hlt).t HSk.out.t h1).mono ?_
  rintro e Y1 ⟨rfl,hv,ht⟩
  replace HL0:Hid (Lns Y1 base g n (lK M k (Ap l (mb c) (fun i=>((c+1+i:Nat):Int)) l.uz l.R.q l.R.d l.R.turn l.R.fresh l.R.z))):=HL0.out.yZ hlt rfl rfl ((HL0.out.sm hlt).mT hv ht) ht (fun x hx=>List.mem_append_left _ hx)
  replace HT:Hid (Touch (xd g n L) w Y1):=HT.out.trans (ht.mono (fun x hx=>HA.out x ((fun x hx=>List.mem_append_left _ hx) x hx)))
  clear hv ht c1
  rw [show c+1+l.nT=l.c1 c from rfl]
  have c2:Y1.cell? ⟨g,k*8+2,none⟩=some (.slice l.aU l.nU l.cU):=HL0.out.Af hlt 2 (by omega)
  go_wp2_with fail
  refine (px l.aU l.nU l.cU (l.c1 c) base l.uA l.uL l.uC l.uz (mi l.nU l.uA l.uL) _ HSk.out.u hsU h2 HSk.out.z (fun w' ht=>((HL0.out.sm hlt).u.fK ht ((HL0.out.sm hlt).uQ (fun x hx=>(HL0.out.sm hlt).type2 x (List.mem_append_right _ (List.mem_append_left _ hx))))).read) (HL0.out.sm hlt).z (Lng.dis (HL0.out.sm hlt).nd).uu (fun i hi x hx=>ib.2 ⟨i,hi,hx⟩)).mono ?_
  rintro e Y2 ⟨rfl,hv,ht⟩
  replace HL0:Hid (Lns Y2 base g n (lK M k (Ap l (mb c) (fun i=>((c+1+i:Nat):Int)) (fun i j=>((l.c1 c+iD l.uL i+j:Nat):Int)) l.R.q l.R.d l.R.turn l.R.fresh l.R.z))):=HL0.out.yZ hlt rfl rfl ((HL0.out.sm hlt).mU hv ht) ht (fun x hx=>List.mem_append_right _ (List.mem_append_left _ hx))
  replace HT:Hid (Touch (xd g n L) w Y2):=HT.out.trans (ht.mono (fun x hx=>HA.out x ((fun x hx=>List.mem_append_right _ (List.mem_append_left _ hx)) x hx)))
  clear hv ht c2
  rw [show l.c1 c+iD l.uL l.nU=l.c2 c from rfl]
  have c3:Y2.cell? ⟨g,k*8+3,none⟩=some (.slice l.R.aQ l.R.nQ l.R.cQ):=HL0.out.Af hlt 3 (by omega)
  go_wp2_with fail
  refine (lq l.R.aQ l.R.nQ l.R.cQ (l.c2 c) base l.R.q _ (HL0.out.sm hlt).q HSk.out.r.q h3).mono ?_
  rintro e Y3 ⟨rfl,hv,ht⟩
  replace HL0:Hid (Lns Y3 base g n (lK M k (Ap l (mb c) (fun i=>((c+1+i:Nat):Int)) (fun i j=>((l.c1 c+iD l.uL i+j:Nat):Int)) (fun i=>((l.c2 c+i:Nat):Int)) l.R.d l.R.turn l.R.fresh l.R.z))):=HL0.out.yZ hlt rfl rfl ((HL0.out.sm hlt).mQ hv ht) ht (fun x hx=>List.mem_append_right _ (List.mem_append_right _ (List.mem_append_left _ hx)))
  replace HT:Hid (Touch (xd g n L) w Y3):=HT.out.trans (ht.mono (fun x hx=>HA.out x ((fun x hx=>List.mem_append_right _ (List.mem_append_right _ (List.mem_append_left _ hx))) x hx)))
  clear hv ht c3
  rw [show l.c2 c+l.R.nQ=l.c3 c from rfl]
  have c4:Y3.cell? ⟨g,k*8+4,none⟩=some (.slice l.R.aD l.R.nD l.R.cD):=HL0.out.Af hlt 4 (by omega)
  go_wp2_with fail
  refine (lq l.R.aD l.R.nD l.R.cD (l.c3 c) base l.R.d _ (HL0.out.sm hlt).d HSk.out.r.d h4).mono ?_
  rintro e Y4 ⟨rfl,hv,ht⟩
  replace HL0:Hid (Lns Y4 base g n (lK M k (Ap l (mb c) (fun i=>((c+1+i:Nat):Int)) (fun i j=>((l.c1 c+iD l.uL i+j:Nat):Int)) (fun i=>((l.c2 c+i:Nat):Int)) (fun i=>((l.c3 c+i:Nat):Int)) l.R.turn l.R.fresh l.R.z))):=HL0.out.yZ hlt rfl rfl ((HL0.out.sm hlt).mD hv ht) ht (fun x hx=>List.mem_append_right _ (List.mem_append_right _ (List.mem_append_right _ (List.mem_append_left _ hx))))
  replace HT:Hid (Touch (xd g n L) w Y4):=HT.out.trans (ht.mono (fun x hx=>HA.out x ((fun x hx=>List.mem_append_right _ (List.mem_append_right _ (List.mem_append_right _ (List.mem_append_left _ hx)))) x hx)))
  clear hv ht c4
  rw [show l.c3 c+l.R.nD=l.c4 c from rfl]
  obtain ⟨arr,hb,_,_⟩:=HL0.out.r
  have HG:Hid (Y4.heap[g]?=some (.cells arr 102 (0,0))):=hb
  have HN:Hid (n*8≤arr.size):=by obtain ⟨a2,e1,e2,_⟩:=HL0.out.r;rw [hb] at e1;cases e1;exact e2
  clear hb
  go_wp2_with (refine fJ rfl 2 (.tmp 56) (.tmp 53) rfl g (k*8+5) (by simp [Act.eval]) (.int .i64 ((l.c4 c:Nat):Int)) rfl 1 rfl 102 arr HG.out jv (by have:=HN.out;omega) (by simp [Value.cells,Value.oneCell']) ?_)
  intro Y5 hP
  replace HL0:Hid (Lns Y5 base g n (lK M k (Ap l (mb c) (fun i=>((c+1+i:Nat):Int)) (fun i j=>((l.c1 c+iD l.uL i+j:Nat):Int)) (fun i=>((l.c2 c+i:Nat):Int)) (fun i=>((l.c3 c+i:Nat):Int)) ((l.c4 c:Nat):Int) l.R.fresh l.R.z))):=HL0.out.Dl hlt (j:=5) (by omega) HG.out hP rfl rfl (fun W hW=>⟨hW.t,hW.u,hW.z,hW.q,hW.d,hW.s,hW.y,hW.nd⟩)
  replace HT:Hid (Touch (xd g n L) w Y5):=HT.out.trans (hP.to.mono (fun x hx=>by rw [List.mem_singleton.1 hx];exact List.mem_cons_self ..))
  clear hP HG HN
  obtain ⟨arr,hb,_,_⟩:=HL0.out.r
  have HG:Hid (Y5.heap[g]?=some (.cells arr 102 (0,0))):=hb
  have HN:Hid (n*8≤arr.size):=by obtain ⟨a2,e1,e2,_⟩:=HL0.out.r;rw [hb] at e1;cases e1;exact e2
  clear hb
  go_wp2_with (refine fJ rfl 4 (.tmp 66) (.tmp 63) rfl g (k*8+6) (by simp [Act.eval]) (.bool (mb (l.c4 c+1))) (by simp [Act.eval,CN]) 1 rfl 102 arr HG.out zD (by have:=HN.out;omega) (by simp [Value.cells,Value.oneCell']) ?_)
  intro Y6 hP
  replace HL0:Hid (Lns Y6 base g n (lK M k (Ap l (mb c) (fun i=>((c+1+i:Nat):Int)) (fun i j=>((l.c1 c+iD l.uL i+j:Nat):Int)) (fun i=>((l.c2 c+i:Nat):Int)) (fun i=>((l.c3 c+i:Nat):Int)) ((l.c4 c:Nat):Int) (mb (l.c4 c+1)) l.R.z))):=HL0.out.Dl hlt (j:=6) (by omega) HG.out hP rfl rfl (fun W hW=>⟨hW.t,hW.u,hW.z,hW.q,hW.d,hW.s,hW.y,hW.nd⟩)
  replace HT:Hid (Touch (xd g n L) w Y6):=HT.out.trans (hP.to.mono (fun x hx=>by rw [List.mem_singleton.1 hx];exact List.mem_cons_self ..))
  clear hP HG HN
  have c7:Y6.cell? ⟨g,k*8+7,none⟩=some (.slice l.R.aS l.R.nS l.R.cS):=HL0.out.Af hlt 7 (by omega)
  go_wp2_with fail
  refine (px l.R.aS l.R.nS l.R.cS (l.c4 c+2) base l.R.A l.R.L l.R.C l.R.z (mi l.R.nS l.R.A l.R.L) _ HSk.out.r.s hsZ h5 HSk.out.r.l (fun w' ht=>((HL0.out.sm hlt).s.fK ht ((HL0.out.sm hlt).uR (fun x hx=>(HL0.out.sm hlt).type2 x (List.mem_append_right _ (List.mem_append_right _ (List.mem_append_right _ (List.mem_append_right _ hx))))))).read) (HL0.out.sm hlt).y (Lng.dis (HL0.out.sm hlt).nd).yy (fun i hi x hx=>ib.2 ⟨i,hi,hx⟩)).mono ?_
  rintro e Y7 ⟨rfl,hv,ht⟩
  replace HL0:Hid (Lns Y7 base g n (lK M k (Ap l (mb c) (fun i=>((c+1+i:Nat):Int)) (fun i j=>((l.c1 c+iD l.uL i+j:Nat):Int)) (fun i=>((l.c2 c+i:Nat):Int)) (fun i=>((l.c3 c+i:Nat):Int)) ((l.c4 c:Nat):Int) (mb (l.c4 c+1)) (fun i j=>((l.c4 c+2+iD l.R.L i+j:Nat):Int))))):=HL0.out.yZ hlt rfl rfl ((HL0.out.sm hlt).mY hv ht) ht (fun x hx=>List.mem_append_right _ (List.mem_append_right _ (List.mem_append_right _ (List.mem_append_right _ hx))))
  replace HT:Hid (Touch (xd g n L) w Y7):=HT.out.trans (ht.mono (fun x hx=>HA.out x ((fun x hx=>List.mem_append_right _ (List.mem_append_right _ (List.mem_append_right _ (List.mem_append_right _ hx)))) x hx)))
  clear hv ht c7
  have HL1:Hid (Lns Y7 base g n (jo m L (k+1))):=HM.out _ HL0.out
  have HQ1:Hid (l.c4 c+2+iD l.R.L l.R.nS=m+oL L (k+1)):=eO
  clear HL0 HM h1 h2 h3 h4 h5 hsU hsZ hcb
  go_wp2_with fail
  go_roundw
  case rel=>exact ⟨k+1,_,by omega,by go_num,rfl,HQ1,HL1,HT⟩
  case measure=>simp [intOf];omega
 obtain rfl:k=n:=by omega
 go_wp2_with fail
 go_ret
 exact ⟨jM (by rw [HQ.out]),HL.out,HT.out⟩
theorem vO (g n cap m base:Nat) (L:Nat→Lng) (w:World) (h:Lns w base g n (jo m L n)) (hn:n≤1048576) (hm:m≤30000000) (hs:oL L n≤10000000) (hsm:∀ i,i<n→(L i).Small) :
  Calls Tryz.prog 44 #[.slice (some ⟨g,0,none⟩) n cap,.int .i64 m] w fun e w'=>e=.returned (.int .i64 ((m+oL L n:Nat):Int))∧w=w':=by
 have H0:Hid (Lns w base g n (jo m L n)):=h
 have HS:Hid (∀ i,i<n→(L i).Small):=hsm
 clear h hsm
 go_enter Tryz.func44,Tryz.ntmps44
 go_wp2_with fail
 go_loop [1,5] (fun x i=>∃ (k c:Nat),k≤n∧i=.int .i64 k∧x=.int .i64 c∧Hid (c=m+oL L k)) (fun _ i=>n-(intOf i).toNat)
 case atStart=>exact ⟨0,m,Nat.zero_le _,rfl,rfl,rfl⟩
 obtain ⟨k,c,hk,rfl,rfl,HQ⟩:=hrel
 by_cases hlt:k<n
 ·
  have hlt':(k:Int)<n:=by omega
  have hcn:=Ac L hlt
  have HsT:Hid ((L k).tot≤10000000):=by rw [Hid];omega
  have hcb:c+(3+(L k).tot)≤40000000:=by have:=HQ.out;omega
  have HSk:Hid (L k).Small:=HS.out k hlt
  obtain ⟨l,el⟩:∃ l,L k=l:=⟨_,rfl⟩
  have eK:jo m L n k=qC c l:=by unfold jo;rw [if_pos hlt,←HQ.out,el]
  have HO:Hid (gO w base (qC c l)):=by rw [Hid,←eK];exact H0.out.ls k hlt
  have HC:Hid (∀ j,j<8→w.cell? ⟨g,k*8+j,none⟩=(qC c l).cells[j]?):=fun j hj=>by rw [H0.out.cell hlt j hj,eK]
  rw [el] at HSk hcb HsT
  clear hcn eK
  have hto:l.tot=l.nT+iD l.uL l.nU+(l.R.nQ+l.R.nD+iD l.R.L l.R.nS):=rfl
  have h1:c+1≤100000000:=by omega
  have h2:l.c1 c≤50000000:=by unfold Lng.c1;omega
  have h3:l.c2 c≤100000000:=by unfold Lng.c2 Lng.c1;omega
  have h4:l.c3 c≤100000000:=by unfold Lng.c3 Lng.c2 Lng.c1;omega
  have h5:l.c4 c+2≤50000000:=by unfold Lng.c4 Lng.c3 Lng.c2 Lng.c1;omega
  have hsU:iD l.uL l.nU≤10000000:=by have:=HsT.out;omega
  have hsZ:iD l.R.L l.R.nS≤10000000:=by have:=HsT.out;omega
  clear hto
  have c0:w.cell? ⟨g,k*8,none⟩=some (.bool (mb c)):=HC.out 0 (by omega)
  have d1:w.cell? ⟨g,k*8+1,none⟩=some (.slice l.aT l.nT l.cT):=HC.out 1 (by omega)
  have d2:w.cell? ⟨g,k*8+2,none⟩=some (.slice l.aU l.nU l.cU):=HC.out 2 (by omega)
  have d3:w.cell? ⟨g,k*8+3,none⟩=some (.slice l.R.aQ l.R.nQ l.R.cQ):=HC.out 3 (by omega)
  have d4:w.cell? ⟨g,k*8+4,none⟩=some (.slice l.R.aD l.R.nD l.R.cD):=HC.out 4 (by omega)
  have d5:w.cell? ⟨g,k*8+5,none⟩=some (.int .i64 ((l.c4 c:Nat):Int)):=HC.out 5 (by omega)
  have d6:w.cell? ⟨g,k*8+6,none⟩=some (.bool (mb (l.c4 c+1))):=HC.out 6 (by omega)
  have d7:w.cell? ⟨g,k*8+7,none⟩=some (.slice l.R.aS l.R.nS l.R.cS):=HC.out 7 (by omega)
  have e3:=DK c
  have hb1:(mb c != mb c)=false:=by simp
  have e6:=CN (l.c4 c)
  have hb2:(mb (l.c4 c+1) != mb (l.c4 c+1))=false:=by simp
  go_wp2_with fail
  clear e3 hb1
  refine (lu l.aT l.nT l.cT (c+1) base _ HO.out.t HSk.out.t h1).mono ?_
  rintro e w1 ⟨rfl,rfl⟩
  rw [show c+1+l.nT=l.c1 c from rfl]
  go_wp2_with fail
  refine (pH l.aU l.nU l.cU (l.c1 c) base l.uA l.uL l.uC _ HSk.out.u hsU h2 HSk.out.z HO.out.u.read HO.out.z).mono ?_
  rintro e w2 ⟨rfl,rfl⟩
  rw [show l.c1 c+iD l.uL l.nU=l.c2 c from rfl]
  go_wp2_with fail
  refine (lu l.R.aQ l.R.nQ l.R.cQ (l.c2 c) base _ HO.out.q HSk.out.r.q h3).mono ?_
  rintro e w3 ⟨rfl,rfl⟩
  rw [show l.c2 c+l.R.nQ=l.c3 c from rfl]
  go_wp2_with fail
  refine (lu l.R.aD l.R.nD l.R.cD (l.c3 c) base _ HO.out.d HSk.out.r.d h4).mono ?_
  rintro e w4 ⟨rfl,rfl⟩
  rw [show l.c3 c+l.R.nD=l.c4 c from rfl]
  have hb5:(((l.c4 c:Nat):Int) != ((l.c4 c:Nat):Int))=false:=by simp
  go_wp2_with fail
  refine (pH l.R.aS l.R.nS l.R.cS (l.c4 c+2) base l.R.A l.R.L l.R.C _ HSk.out.r.s hsZ h5 HSk.out.r.l HO.out.s.read HO.out.y).mono ?_
  rintro e w5 ⟨rfl,rfl⟩
  have HQ1:Hid (l.c4 c+2+iD l.R.L l.R.nS=m+oL L (k+1)):=eO
  clear h1 h2 h3 h4 h5 hsU hsZ hcb hb5 e6 hb2 c0 d1 d2 d3 d4 d5 d6 d7
  go_wp2_with fail
  go_round
  case rel=>exact ⟨k+1,_,by omega,by go_num,rfl,HQ1⟩
  case measure=>simp [intOf];omega
 obtain rfl:k=n:=by omega
 go_wp2_with fail
 go_ret
 exact ⟨jM (by have:=HQ.out;omega),rfl⟩
def j8 (m:Nat) (j:Nat):Value:=.int .i64 ((m+j:Nat):Int)
theorem fV.any {g n k:Nat} {t:TypeId} {f:Nat→Value} {w:World} (h:fV g t n f k w) (f':Nat→Value):fV g t n f' 0 w:=h.Bm
theorem tp (g n cap m:Nat) (f:Nat→Value) (w:World) (h:fV g 95 (n*3) f (n*3) w) (hn:n≤1048576) (hm:m≤100000000) :
  Calls Tryz.prog 36 #[.slice (some ⟨g,0,none⟩) n cap,.int .i64 m] w fun e w'=>e=.returned (.int .i64 ((m+n*3:Nat):Int))∧fV g 95 (n*3) (j8 m) (n*3) w'∧Touch [g] w w':=by
 have HM:Hid (fV g 95 (n*3) (j8 m) (0*3) w):=h.Bm
 clear h
 go_enter Tryz.func36,Tryz.ntmps36
 go_wp2_with fail
 go_loopw [1,5] (fun x i wr=>∃ (k:Nat) (q:Int),k≤n∧i=.int .i64 k∧x=.int .i64 q∧q=((m+k*3:Nat):Int)∧fV g 95 (n*3) (j8 m) (k*3) wr∧Touch [g] w wr) (fun _ i _=>n-(intOf i).toNat)
 case atStart=>exact ⟨0,m,Nat.zero_le _,rfl,rfl,by simp,HM.out,Touch.refl _ _⟩
 obtain ⟨k,q,hk,rfl,rfl,hq,hR,hT⟩:=hrel
 have HQ:Hid (q=((m+k*3:Nat):Int)):=hq
 by_cases hlt:k<n
 ·
  have hlt':(k:Int)<n:=by omega
  have q0:0≤q:=by omega
  have q1:q≤1000000000:=by omega
  have HT:Hid (Touch [g] w wr):=hT
  have e0:(j8 m (k*3))=.int .i64 q:=by unfold j8;rw [HQ.out]
  have e1:(j8 m (k*3+1))=.int .i64 (q+1):=by unfold j8;rw [HQ.out];congr 1
  have e2:(j8 m (k*3+1+1))=.int .i64 (q+1+1):=by unfold j8;rw [HQ.out];congr 1
  have R1:=hR.step (by omega)
  rw [e0] at R1
  have R2:=R1.step (by omega)
  rw [e1] at R2
  have R3:=R2.step (by omega)
  rw [e2] at R3
  obtain ⟨v0,c0⟩:=hR.there (k*3) (by omega)
  obtain ⟨v1,c1⟩:=R1.there (k*3+1) (by omega)
  obtain ⟨v2,c2⟩:=R2.there (k*3+2) (by omega)
  have f0:=hR.free (k*3)
  have f1:=R1.free (k*3+1)
  have f2:=R2.free (k*3+2)
  have HR3:Hid (fV g 95 (n*3) (j8 m) (k*3+1+1+1) _):=R3
  clear hq R1 R2 R3 e0 e1 e2 hR hT
  go_wp2_with fail
  go_roundw
  case rel=>exact ⟨k+1,q+1+1+1,by omega,by go_num,by go_num,by rw [HQ.out];omega,by rw [show (k+1)*3=k*3+1+1+1 by omega];exact HR3.out,((HT.out.set (by simp) _ _).set (by simp) _ _).set (by simp) _ _⟩
  case measure=>simp [intOf];omega
 obtain rfl:k=n:=by omega
 go_wp2_with fail
 go_ret
 exact ⟨jM HQ.out,hR,hT⟩
theorem ui (g n cap m:Nat) (w:World) (h:fV g 95 (n*3) (j8 m) (n*3) w) (hn:n≤1048576) (hm:m≤100000000) :
  Calls Tryz.prog 41 #[.slice (some ⟨g,0,none⟩) n cap,.int .i64 m] w fun e w'=>e=.returned (.int .i64 ((m+n*3:Nat):Int))∧Below w.heap.size w w':=by
 have HM:Hid (fV g 95 (n*3) (j8 m) (n*3) w):=h
 clear h
 go_enter Tryz.func41,Tryz.ntmps41
 go_wp2_with fail
 go_loopw [1,5] (fun x i wr=>∃ (k:Nat) (q:Int),k≤n∧i=.int .i64 k∧x=.int .i64 q∧q=((m+k*3:Nat):Int)∧Same w wr) (fun _ i _=>n-(intOf i).toNat)
 case atStart=>exact ⟨0,m,Nat.zero_le _,rfl,rfl,by simp,Same.refl _⟩
 obtain ⟨k,q,hk,rfl,rfl,hq,hS⟩:=hrel
 have HQ:Hid (q=((m+k*3:Nat):Int)):=hq
 by_cases hlt:k<n
 ·
  have hlt':(k:Int)<n:=by omega
  have q0:0≤q:=by omega
  have q1:q≤1000000000:=by omega
  have HS:Hid (Same w wr):=hS
  have c0:wr.cell? ⟨g,k*3,none⟩=some (.int .i64 q):=by
   rw [hS.cell,HM.out.at _ (by omega)];unfold j8;rw [HQ.out]
  have c1:wr.cell? ⟨g,k*3+1,none⟩=some (.int .i64 (q+1)):=by
   rw [hS.cell,HM.out.at _ (by omega)];unfold j8;rw [HQ.out];congr 2
  have c2:wr.cell? ⟨g,k*3+2,none⟩=some (.int .i64 (q+1+1)):=by
   rw [hS.cell,HM.out.at _ (by omega)];unfold j8;rw [HQ.out];congr 2
  clear hq hS
  go_wp2_with fail
  go_roundw
  case rel=>exact ⟨k+1,q+1+1+1,by omega,by go_num,by go_num,by rw [HQ.out];omega,HS.out⟩
  case measure=>simp [intOf];omega
 obtain rfl:k=n:=by omega
 go_wp2_with fail
 go_ret
 exact ⟨jM HQ.out,hS.below _⟩
theorem uI.iU {w w':World} {base:Nat} {v:Value} {L:List Ent} {S:List Nat} (h:uI w base v L) (ht:Touch S w w') (hS:∀ g,v.ownBlock=some g→g∉S):uI w' base v L:=by
 obtain ⟨h1,h2⟩:=h
 refine ⟨h1,h2.imp id ?_⟩
 rintro ⟨g,cap,cur,rfl,hg,hb,hr⟩
 exact ⟨g,cap,cur,rfl,hg,(ht.block g (fH hb) (hS g rfl)).trans hb,hr⟩
theorem uI.blk {w:World} {base:Nat} {v:Value} {L:List Ent} (h:uI w base v L):∀ g,v.ownBlock=some g→base≤g∧g<w.heap.size:=World.ownsRow.lt h
def wy (w:World) (v:Value) (n m:Nat):Prop:=(v=.slice none 0 0∧n=0)∨∃ g cap,v=.slice (some ⟨g,0,none⟩) n cap∧fV g 95 (n*3) (j8 m) (n*3) w
theorem wy.up {w w':World} {v:Value} {n m:Nat} (h:wy w v n m) (hb:Below w.heap.size w w'):wy w' v n m :=
 h.imp id (by rintro ⟨g,cap,rfl,hr⟩;exact ⟨g,cap,rfl,hr.ir (hb.block _ hr.lt)⟩)
theorem yY (a:Option Addr) (cap m:Nat) (w:World):Calls Tryz.prog 36 #[.slice a 0 cap,.int .i64 m] w fun e w'=>e=.returned (.int .i64 m)∧w=w':=by
 go_enter Tryz.func36,Tryz.ntmps36
 exact bY
theorem zM (a:Option Addr) (cap m:Nat) (w:World):Calls Tryz.prog 41 #[.slice a 0 cap,.int .i64 m] w fun e w'=>e=.returned (.int .i64 m)∧w=w':=by
 go_enter Tryz.func41,Tryz.ntmps41
 exact bY
theorem AV (a:Option Addr) (cap m:Nat) (w:World):Calls Tryz.prog 38 #[.slice a 0 cap,.int .i64 m] w fun e w'=>e=.returned (.int .i64 m)∧w=w':=by
 go_enter Tryz.func38,Tryz.ntmps38
 exact bY
theorem Bd (a:Option Addr) (cap m:Nat) (w:World):Calls Tryz.prog 43 #[.slice a 0 cap,.int .i64 m] w fun e w'=>e=.returned (.int .i64 m)∧w=w':=by
 go_enter Tryz.func43,Tryz.ntmps43
 exact bY
theorem AW (a:Option Addr) (cap m:Nat) (w:World):Calls Tryz.prog 39 #[.slice a 0 cap,.int .i64 m] w fun e w'=>e=.returned (.int .i64 m)∧w=w':=by
 go_enter Tryz.func39,Tryz.ntmps39
 exact bY
theorem Be (a:Option Addr) (cap m:Nat) (w:World):Calls Tryz.prog 44 #[.slice a 0 cap,.int .i64 m] w fun e w'=>e=.returned (.int .i64 m)∧w=w':=by
 go_enter Tryz.func44,Tryz.ntmps44
 exact bY
theorem xC (a:Option Addr) (n cap m base:Nat) (F:Nat→Value) (w:World) (h:VT 95 w base a (n*3) F) (hn:n≤1048576) (hm:m≤100000000) :
  Calls Tryz.prog 36 #[.slice a n cap,.int .i64 m] w fun e w'=>e=.returned (.int .i64 ((m+n*3:Nat):Int))∧VT 95 w' base a (n*3) (j8 m)∧Touch (gF a (n*3)) w w':=by
 by_cases h0:n=0
 ·
  subst h0
  refine (yY a cap m w).mono ?_
  exact eR
 rcases h with h | ⟨g,rfl,hg,hr⟩
 ·
  omega
 refine (tp g n cap m _ w hr hn hm).mono ?_
 exact eH
theorem xR (a:Option Addr) (n cap m base:Nat) (w:World) (h:VT 95 w base a (n*3) (j8 m)) (hn:n≤1048576) (hm:m≤100000000) :
  Calls Tryz.prog 41 #[.slice a n cap,.int .i64 m] w fun e w'=>e=.returned (.int .i64 ((m+n*3:Nat):Int))∧Below w.heap.size w w':=by
 by_cases h0:n=0
 ·
  subst h0
  refine (zM a cap m w).mono ?_
  exact fa
 rcases h with h | ⟨g,rfl,hg,hr⟩
 ·
  omega
 exact ui g n cap m w hr hn hm
theorem xA (a:Option Addr) (n cap m base:Nat) (F:Nat→Value) (w:World) (h:VT 97 w base a (n*8) F) (hn:n≤1048576) (hm:m≤50000000) :
  Calls Tryz.prog 38 #[.slice a n cap,.int .i64 m] w fun e w'=>e=.returned (.int .i64 ((m+n*8:Nat):Int))∧VT 97 w' base a (n*8) (jr m)∧Touch (gF a (n*8)) w w':=by
 by_cases h0:n=0
 ·
  subst h0
  refine (AV a cap m w).mono ?_
  exact eR
 rcases h with h | ⟨g,rfl,hg,hr⟩
 ·
  omega
 refine (vA g n cap m _ w hr hn hm).mono ?_
 exact eH
theorem xQ (a:Option Addr) (n cap m base:Nat) (w:World) (h:VT 97 w base a (n*8) (jr m)) (hn:n≤1048576) (hm:m≤50000000) :
  Calls Tryz.prog 43 #[.slice a n cap,.int .i64 m] w fun e w'=>e=.returned (.int .i64 ((m+n*8:Nat):Int))∧Below w.heap.size w w':=by
 by_cases h0:n=0
 ·
  subst h0
  refine (Bd a cap m w).mono ?_
  exact fa
 rcases h with h | ⟨g,rfl,hg,hr⟩
 ·
  omega
 exact vN g n cap m w hr hn hm
def VL (w:World) (base:Nat) (a:Option Addr) (n:Nat) (L:Nat→Lng):Prop:=n=0∨∃ g,a=some ⟨g,0,none⟩∧base≤g∧Lns w base g n L
def BD (a:Option Addr) (n:Nat) (L:Nat→Lng):List Nat:=gF a (n*8)++(List.range n).flatMap fun i=>(L i).jh
theorem xz (a:Option Addr) (n cap m base:Nat) (L:Nat→Lng) (w:World) (h:VL w base a n L) (hn:n≤1048576) (hm:m≤30000000) (hs:oL L n≤10000000) (hsm:∀ i,i<n→(L i).Small) :
  Calls Tryz.prog 39 #[.slice a n cap,.int .i64 m] w fun e w'=>e=.returned (.int .i64 ((m+oL L n:Nat):Int))∧VL w' base a n (jo m L n)∧Touch (BD a n L) w w':=by
 by_cases h0:n=0
 ·
  subst h0
  refine (AW a cap m w).mono ?_
  rintro e w' ⟨rfl,rfl⟩
  exact ⟨rfl,.inl rfl,Touch.refl _ _⟩
 rcases h with h | ⟨g,rfl,hg,hr⟩
 ·
  omega
 refine (vB g n cap m base L w hr hn hm hs hsm).mono ?_
 rintro e w' ⟨rfl,h1,h2⟩
 refine ⟨rfl,.inr ⟨g,rfl,hg,h1⟩,?_⟩
 have e:BD (some ⟨g,0,none⟩) n L=xd g n L:=by
  unfold BD xd gF
  rw [if_neg (by omega)]
  rfl
 rw [e]
 exact h2
theorem xP (a:Option Addr) (n cap m base:Nat) (L:Nat→Lng) (w:World) (h:VL w base a n (jo m L n)) (hn:n≤1048576) (hm:m≤30000000) (hs:oL L n≤10000000) (hsm:∀ i,i<n→(L i).Small) :
  Calls Tryz.prog 44 #[.slice a n cap,.int .i64 m] w fun e w'=>e=.returned (.int .i64 ((m+oL L n:Nat):Int))∧w=w':=by
 by_cases h0:n=0
 ·
  subst h0
  refine (Be a cap m w).mono ?_
  rintro e w' ⟨rfl,rfl⟩
  exact ⟨rfl,rfl⟩
 rcases h with h | ⟨g,rfl,hg,hr⟩
 ·
  omega
 exact vO g n cap m base L w hr hn hm hs hsm
section
variable {w w' : World} {base g n : Nat} {L : Nat → Lng} {S : List Nat}
theorem VT.lX {t t':TypeId} {a:Option Addr} {f:Nat→Value} (h:VT t w base a n f) (ht:Touch S w w') (hS:∀ x∈S,∃ cs,w.heap[x]?=some (.cells cs t' (0,0))) (hne:t≠t'):VT t w' base a n f :=
 h.fK ht (fun x hx hy=>by
  obtain ⟨cs,e1⟩:=h.type x hx
  obtain ⟨cs',e2⟩:=hS x hy
  rw [e1] at e2
  simp at e2
  exact hne e2.2)
theorem gO.lX {l:Lng} {t':TypeId} (h:gO w base l) (ht:Touch S w w') (hS:∀ x∈S,∃ cs,w.heap[x]?=some (.cells cs t' (0,0))) (h2:2≠t') (h3:25≠t'):gO w' base l:=by
 have no:∀ {a:Option Addr} {n:Nat} {f:Nat→Value} {t:TypeId},VG t w base a n f→t≠t'→VG t w' base a n f:=fun hv hne=>hv.fK ht (fun x hx hy=>by
  obtain ⟨cs,e1⟩:=hv.type x hx
  obtain ⟨cs',e2⟩:=hS x hy
  rw [e1] at e2
  simp at e2
  exact hne e2.2)
 exact ⟨no h.t h2,no h.u h3,fun i hi=>no (h.z i hi) h2,no h.q h2,no h.d h2,no h.s h3,fun i hi=>no (h.y i hi) h2,h.nd⟩
theorem Lns.C4 (h:Lns w base g n L) {x:Nat} {cs:Array Value} {t':TypeId} (hx:w.heap[x]?=some (.cells cs t' (0,0))) (hne:102≠t'):g≠x:=fun e=>by
 obtain ⟨arr,e1,_⟩:=h.r
 rw [e,hx] at e1
 simp at e1
 exact hne e1.2.symm
theorem Lns.lX {t':TypeId} (h:Lns w base g n L) (ht:Touch S w w') (hS:∀ x∈S,∃ cs,w.heap[x]?=some (.cells cs t' (0,0))) (h1:102≠t') (h2:2≠t') (h3:25≠t'):Lns w' base g n L :=
 ⟨h.r.ir (ht.block g h.r.lt (fun hx=>by obtain ⟨cs,e⟩:=hS g hx;exact h.C4 e h1 rfl)),fun i hi=>(h.ls i hi).lX ht hS h2 h3,h.ap⟩
theorem Lns.C7 (h:Lns w base g n L) (ht:Touch S w w') (hS:∀ x∈S,∃ cs,w.heap[x]?=some (.cells cs 2 (0,0))) (hd:∀ i,i<n→∀ x∈(L i).jh,x∉S):Lns w' base g n L :=
 ⟨h.r.ir (ht.block g h.r.lt (fun hx=>by obtain ⟨cs,e⟩:=hS g hx;exact h.C4 e (by decide) rfl)),fun i hi=>(h.ls i hi).far ht hS (hd i hi),h.ap⟩
end
theorem VL.imp {w w':World} {base:Nat} {a:Option Addr} {n:Nat} {L L':Nat→Lng} (h:VL w base a n L) (f:∀ g,Lns w base g n L→Lns w' base g n L'):VL w' base a n L':=Or.imp id (by rintro ⟨g,ha,hg,hl⟩;exact ⟨g,ha,hg,f g hl⟩) h
def Swg.m1 (S:Swg) (m:Nat):Nat:=m+S.nE*3
def Swg.m2 (S:Swg) (m:Nat):Nat:=S.m1 m+S.N.nU
def Swg.m3 (S:Swg) (m:Nat):Nat:=S.m2 m+S.N.nP
def Swg.m4 (S:Swg) (m:Nat):Nat:=S.m3 m+S.nK*8
def Swg.py (S:Swg) (m:Nat):Nat:=S.m4 m+oL S.L S.nL
structure qi (w:World) (base m:Nat) (S:Swg):Prop where
 e:VT 95 w base S.aE (S.nE*3) (j8 m)
 u:VT 2 w base S.N.aU S.N.nU fun i=>.int .i64 ((S.m1 m+i:Nat):Int)
 p:VT 4 w base S.N.aP S.N.nP fun i=>.bool (mb (S.m2 m+i))
 k:VT 97 w base S.aK (S.nK*8) (jr (S.m3 m))
 l:VL w base S.aL S.nL (jo (S.m4 m) S.L S.nL)
theorem gO.upL {w w':World} {base g n:Nat} {L:Nat→Lng} (h:Lns w base g n L) (hb:Below w.heap.size w w'):Lns w' base g n L:=⟨h.r.ir (hb.block _ h.r.lt),fun i hi=>(h.ls i hi).up hb,h.ap⟩
theorem qi.up {w w':World} {base m:Nat} {S:Swg} (h:qi w base m S) (hb:Below w.heap.size w w'):qi w' base m S:=⟨h.e.up hb,h.u.up hb,h.p.up hb,h.k.up hb,h.l.imp (fun g hl=>gO.upL hl hb)⟩
def Swg.all (S:Swg):List Nat:=gF S.aE (S.nE*3)++(gF S.N.aU S.N.nU++(gF S.N.aP S.N.nP++(gF S.aK (S.nK*8)++BD S.aL S.nL S.L)))
theorem gI.all {w:World} {base:Nat} {S:Swg} (h:gI w base S):∀ x∈S.all,base≤x∧x<w.heap.size:=by
 intro x hx
 unfold Swg.all BD at hx
 simp only [List.mem_append,List.mem_flatMap,List.mem_range] at hx
 rcases hx with hx | hx | hx | hx | hx | ⟨i,hi,hx⟩
 ·
  exact h.e.blk x hx
 ·
  exact h.u.blk x hx
 ·
  exact h.p.blk x hx
 ·
  exact h.k.blk x hx
 ·
  exact h.l.blk x hx
 exact (h.ls i hi).blk x hx
theorem gI.vl {w:World} {base:Nat} {S:Swg} (h:gI w base S):VL w base S.aL S.nL S.L:=by
 rcases h.l with h0 | ⟨g,ha,hg,hr⟩
 ·
  exact .inl (by omega)
 exact .inr ⟨g,ha,hg,hr,h.ls,r7 _ (List.nodup_append.1 h.nd).2.1⟩
theorem gI.un {w:World} {base:Nat} {S:Swg} (h:gI w base S):∀ i,i<S.nL→∀ x∈(S.L i).jh,x∉gF S.N.aU S.N.nU:=fun i hi x hx hy =>
 (List.nodup_append.1 h.nd).2.2 x hy x (by simp only [List.mem_flatMap,List.mem_range];exact ⟨i,hi,hx⟩) rfl
theorem yB (f:Nat→Nat):∀ n,iD (fun i=>3+f i) n=3*n+iD f n:=by
 intro n
 induction n with
 | zero=>rfl
 | succ n ih =>
  show iD (fun i=>3+f i) n+(3+f n)=3*(n+1)+(iD f n+f n)
  rw [ih]
  omega
theorem Ab {S:Swg} (h:S.tot≤2000000):oL S.L S.nL≤6000000:=by
 unfold Swg.tot at h
 unfold oL
 rw [yB]
 omega
theorem vE (N:Cnt) (m base:Nat) (w:World) (hu:VT 2 w base N.aU N.nU fun i=>.int .i64 (N.u i)) (hp:VT 4 w base N.aP N.nP fun i=>.bool (N.p i)) (hs:N.Small) (hm:m≤50000000) :
  Calls Tryz.prog 37 #[.agg N.cells,.int .i64 m] w fun e w'=>e=.returned (.int .i64 ((m+N.nU+N.nP:Nat):Int))∧(∃ w1,Touch (gF N.aU N.nU) w w1∧VT 2 w1 base N.aU N.nU (fun i=>.int .i64 ((m+i:Nat):Int))∧VT 4 w' base N.aP N.nP (fun i=>.bool (mb (m+N.nU+i)))∧Touch (gF N.aP N.nP) w1 w'∧∀ x∈gF N.aP N.nP,∃ cs,w1.heap[x]?=some (.cells cs 4 (0,0))):=by
 have HU:Hid (VT 2 w base N.aU N.nU fun i=>.int .i64 (N.u i)):=hu
 have HP:Hid (VT 4 w base N.aP N.nP fun i=>.bool (N.p i)):=hp
 have HS:Hid N.Small:=hs
 obtain ⟨W,eW⟩:∃ W,w.alloc (.cells N.cells 36)=W:=⟨_,rfl⟩
 have HB:Hid (Below (w.heap.size+1) (w.alloc (.cells N.cells 36)) W):=by rw [eW];exact Below.refl _ _
 have c0:W.cell? ⟨w.heap.size,0,none⟩=some (.slice N.aU N.nU N.cU):=boxed HB.out 0
 have hW:Below w.heap.size w W:=under HB.out
 have HW:Hid (Below w.heap.size w W):=hW
 have hbx:w.heap.size<W.heap.size:=by have:=upper HB.out;omega
 clear hu hp hs hW
 go_enter Tryz.func37,Tryz.ntmps37
 go_wp2_with fail
 clear eW c0
 refine (rn N.aU N.nU N.cU m base _ _ (HU.out.up HW.out) HS.out.u (by omega)).mono ?_
 rintro e w1 ⟨rfl,hv1,ht1⟩
 have hg1:w.heap.size∉gF N.aU N.nU:=fun hx=>by have:=(HU.out.blk _ hx).2;omega
 have c2:w1.cell? ⟨w.heap.size,2,none⟩=some (.slice N.aP N.nP N.cP):=by
  rw [World.cell?_of_block (w:=W) (a:=⟨w.heap.size,2,none⟩) (ht1.block _ hbx hg1)]
  exact boxed HB.out 2
 have HV1:Hid (VT 2 w1 base N.aU N.nU (fun i=>.int .i64 ((m+i:Nat):Int))∧Touch (gF N.aU N.nU) W w1):=⟨hv1,ht1⟩
 have HP1:Hid (VT 4 w1 base N.aP N.nP fun i=>.bool (N.p i)):=(HP.out.up HW.out).lX ht1 (HU.out.up HW.out).type (by decide)
 clear hv1 ht1 hg1
 go_wp2_with fail
 refine (pV N.aP N.nP N.cP (m+N.nU) base _ _ HP1.out HS.out.p (by have:=HS.out.u;omega)).mono ?_
 rintro e w2 ⟨rfl,hv2,ht2⟩
 have HF:Hid (∃ w1,Touch (gF N.aU N.nU) w w1∧VT 2 w1 base N.aU N.nU (fun i=>.int .i64 ((m+i:Nat):Int))∧VT 4 w2 base N.aP N.nP (fun i=>.bool (mb (m+N.nU+i)))∧Touch (gF N.aP N.nP) w1 w2∧∀ x∈gF N.aP N.nP,∃ cs,w1.heap[x]?=some (.cells cs 4 (0,0))):=⟨w1,(Touch.gY HW.out).trans HV1.out.2,HV1.out.1,hv2,ht2,HP1.out.type⟩
 clear hv2 ht2 c2
 go_wp2_with fail
 go_ret
 exact ⟨rfl,HF.out⟩
theorem vQ (N:Cnt) (m base:Nat) (w:World) (hu:VT 2 w base N.aU N.nU fun i=>.int .i64 ((m+i:Nat):Int)) (hp:VT 4 w base N.aP N.nP fun i=>.bool (mb (m+N.nU+i))) (hs:N.Small) (hm:m≤50000000) :
  Calls Tryz.prog 42 #[.agg N.cells,.int .i64 m] w fun e w'=>e=.returned (.int .i64 ((m+N.nU+N.nP:Nat):Int))∧Below w.heap.size w w':=by
 have HU:Hid (VT 2 w base N.aU N.nU fun i=>.int .i64 ((m+i:Nat):Int)):=hu
 have HP:Hid (VT 4 w base N.aP N.nP fun i=>.bool (mb (m+N.nU+i))):=hp
 have HS:Hid N.Small:=hs
 obtain ⟨W,eW⟩:∃ W,w.alloc (.cells N.cells 36)=W:=⟨_,rfl⟩
 have HB:Hid (Below (w.heap.size+1) (w.alloc (.cells N.cells 36)) W):=by rw [eW];exact Below.refl _ _
 have c0:W.cell? ⟨w.heap.size,0,none⟩=some (.slice N.aU N.nU N.cU):=boxed HB.out 0
 have c2:W.cell? ⟨w.heap.size,2,none⟩=some (.slice N.aP N.nP N.cP):=boxed HB.out 2
 have HW:Hid (Below w.heap.size w W):=under HB.out
 clear hu hp hs
 go_enter Tryz.func42,Tryz.ntmps42
 go_wp2_with fail
 clear eW
 refine (rX N.aU N.nU N.cU m base _ (HU.out.up HW.out) HS.out.u (by omega)).mono ?_
 rintro e w1 ⟨rfl,rfl⟩
 go_wp2_with fail
 refine (p9 N.aP N.nP N.cP (m+N.nU) base _ (HP.out.up HW.out) HS.out.p (by have:=HS.out.u;omega)).mono ?_
 rintro e w2 ⟨rfl,rfl⟩
 go_wp2_with fail
 go_ret
 exact ⟨rfl,HW.out⟩
theorem qB (S:Swg) (base:Nat) (w:World) (h:gI w base S) (hs:S.Small) (ht:S.tot≤2000000) :
  Calls Tryz.prog 10 #[.agg S.cells,.int .i64 1] w fun e w'=>e=.returned (.int .i64 ((S.py 1:Nat):Int))∧qi w' base 1 S∧Touch S.all w w':=by
 have HO:Hid (gI w base S):=h
 have HS:Hid S.Small:=hs
 have HC:Hid (oL S.L S.nL≤6000000):=Ab ht
 have hb:S.nE≤2000000∧S.N.nU≤2000000∧S.N.nP≤2000000∧S.nK≤2000000:=by unfold Swg.tot at ht;omega
 have HN:Hid (S.nE≤2000000∧S.N.nU≤2000000∧S.N.nP≤2000000∧S.nK≤2000000∧S.nE+S.N.nU+S.N.nP+S.nK≤2000000):=by unfold Swg.tot at ht;rw [Hid];omega
 obtain ⟨W,eW⟩:∃ W,w.alloc (.cells S.cells 40)=W:=⟨_,rfl⟩
 have HB:Hid (Below (w.heap.size+1) (w.alloc (.cells S.cells 40)) W):=by rw [eW];exact Below.refl _ _
 have HW:Hid (Below w.heap.size w W):=under HB.out
 have HK:Hid (W.heap[w.heap.size]?=some (.cells S.cells 40 (0,0))):=by rw [←eW];exact fL _ _
 have Hno:Hid (w.heap.size∉S.all):=fun hx=>by have:=(h.all _ hx).2;omega
 have HA:Hid ((∀ x∈gF S.aE (S.nE*3),x∈S.all)∧(∀ x∈gF S.N.aU S.N.nU,x∈S.all)∧(∀ x∈gF S.N.aP S.N.nP,x∈S.all)∧(∀ x∈gF S.aK (S.nK*8),x∈S.all)∧∀ x∈BD S.aL S.nL S.L,x∈S.all):=⟨fun x hx=>List.mem_append_left _ hx,fun x hx=>List.mem_append_right _ (List.mem_append_left _ hx),fun x hx=>List.mem_append_right _ (List.mem_append_right _ (List.mem_append_left _ hx)),fun x hx=>List.mem_append_right _ (List.mem_append_right _ (List.mem_append_right _ (List.mem_append_left _ hx))),fun x hx=>List.mem_append_right _ (List.mem_append_right _ (List.mem_append_right _ (List.mem_append_right _ hx)))⟩
 have c9:W.cell? ⟨w.heap.size,9,none⟩=some (.slice S.aE S.nE S.cE):=fG HK.out 9
 have Q0:gI W base S:=h.up HW.out
 have HQ0:Hid (gI W base S):=Q0
 have HL0:Hid (VL W base S.aL S.nL S.L):=Q0.vl
 clear h hs ht Q0 hb
 go_enter Tryz.func10,Tryz.ntmps10
 go_wp2_with fail
 clear eW c9
 refine (xC S.aE S.nE S.cE 1 base _ _ HQ0.out.e HS.out.e (by omega)).mono ?_
 rintro e w1 ⟨rfl,hv,ht⟩
 rw [show 1+S.nE*3=S.m1 1 from rfl]
 have hty:=HQ0.out.e.type
 have HE:Hid (VT 95 w1 base S.aE (S.nE*3) (j8 1)):=hv
 have HU:Hid (VT 2 w1 base S.N.aU S.N.nU fun i=>.int .i64 (S.N.u i)):=HQ0.out.u.lX ht hty (by decide)
 have HP:Hid (VT 4 w1 base S.N.aP S.N.nP fun i=>.bool (S.N.p i)):=HQ0.out.p.lX ht hty (by decide)
 have HKk:Hid (VT 97 w1 base S.aK (S.nK*8) (my S.K)):=HQ0.out.k.lX ht hty (by decide)
 replace HL0:Hid (VL w1 base S.aL S.nL S.L):=HL0.out.imp (fun g hl=>hl.lX ht hty (by decide) (by decide) (by decide))
 replace HK:Hid (w1.heap[w.heap.size]?=some (.cells S.cells 40 (0,0))):=(ht.block _ (fH HK.out) (fun hx=>Hno.out (HA.out.1 _ hx))).trans HK.out
 have HT:Hid (Touch S.all w w1):=(Touch.gY HW.out).trans (ht.mono HA.out.1)
 have c10:w1.cell? ⟨w.heap.size,10,none⟩=some (.slice S.N.aU S.N.nU S.N.cU):=fG HK.out 10
 have c11:w1.cell? ⟨w.heap.size,11,none⟩=some (.int .i64 S.N.lo):=fG HK.out 11
 have c12:w1.cell? ⟨w.heap.size,12,none⟩=some (.slice S.N.aP S.N.nP S.N.cP):=fG HK.out 12
 clear hv ht hty
 go_wp2_with fail
 clear c10 c11 c12
 refine (vE S.N (S.m1 1) base _ HU.out HP.out HS.out.n (by have:=HN.out;unfold Swg.m1;omega)).mono ?_
 rintro e w3 ⟨rfl,w2,t1,hv1,hv2,t2,ty4⟩
 rw [show S.m1 1+S.N.nU+S.N.nP=S.m3 1 from rfl]
 have ty2:=HU.out.type
 have HE3:Hid (VT 95 w3 base S.aE (S.nE*3) (j8 1)):=(HE.out.lX t1 ty2 (by decide)).lX t2 ty4 (by decide)
 have HU3:Hid (VT 2 w3 base S.N.aU S.N.nU fun i=>.int .i64 ((S.m1 1+i:Nat):Int)):=hv1.lX t2 ty4 (by decide)
 have HP3:Hid (VT 4 w3 base S.N.aP S.N.nP fun i=>.bool (mb (S.m2 1+i))):=hv2
 have HK3:Hid (VT 97 w3 base S.aK (S.nK*8) (my S.K)):=(HKk.out.lX t1 ty2 (by decide)).lX t2 ty4 (by decide)
 replace HL0:Hid (VL w3 base S.aL S.nL S.L):=(HL0.out.imp (fun g hl=>hl.C7 t1 ty2 HO.out.un)).imp (fun g hl=>hl.lX t2 ty4 (by decide) (by decide) (by decide))
 replace HK:Hid (w3.heap[w.heap.size]?=some (.cells S.cells 40 (0,0))):=by
  have q1:=(t1.block _ (fH HK.out) (fun hx=>Hno.out (HA.out.2.1 _ hx))).trans HK.out
  exact (t2.block _ (fH q1) (fun hx=>Hno.out (HA.out.2.2.1 _ hx))).trans q1
 replace HT:Hid (Touch S.all w w3):=(HT.out.trans (t1.mono HA.out.2.1)).trans (t2.mono HA.out.2.2.1)
 have c13:w3.cell? ⟨w.heap.size,13,none⟩=some (.slice S.aK S.nK S.cK):=fG HK.out 13
 clear HE HU HP HKk t1 hv1 hv2 t2 ty4 ty2
 go_wp2_with fail
 clear c13
 refine (xA S.aK S.nK S.cK (S.m3 1) base _ _ HK3.out HS.out.k (by have:=HN.out;unfold Swg.m3 Swg.m2 Swg.m1;omega)).mono ?_
 rintro e w4 ⟨rfl,hv,ht⟩
 rw [show S.m3 1+S.nK*8=S.m4 1 from rfl]
 have hty:=HK3.out.type
 have HE4:Hid (VT 95 w4 base S.aE (S.nE*3) (j8 1)):=HE3.out.lX ht hty (by decide)
 have HU4:Hid (VT 2 w4 base S.N.aU S.N.nU fun i=>.int .i64 ((S.m1 1+i:Nat):Int)):=HU3.out.lX ht hty (by decide)
 have HP4:Hid (VT 4 w4 base S.N.aP S.N.nP fun i=>.bool (mb (S.m2 1+i))):=HP3.out.lX ht hty (by decide)
 have HK4:Hid (VT 97 w4 base S.aK (S.nK*8) (jr (S.m3 1))):=hv
 replace HL0:Hid (VL w4 base S.aL S.nL S.L):=HL0.out.imp (fun g hl=>hl.lX ht hty (by decide) (by decide) (by decide))
 replace HK:Hid (w4.heap[w.heap.size]?=some (.cells S.cells 40 (0,0))):=(ht.block _ (fH HK.out) (fun hx=>Hno.out (HA.out.2.2.2.1 _ hx))).trans HK.out
 replace HT:Hid (Touch S.all w w4):=HT.out.trans (ht.mono HA.out.2.2.2.1)
 have c14:w4.cell? ⟨w.heap.size,14,none⟩=some (.slice S.aL S.nL S.cL):=fG HK.out 14
 clear HE3 HU3 HP3 HK3 hv ht hty
 go_wp2_with fail
 clear c14
 refine (xz S.aL S.nL S.cL (S.m4 1) base S.L _ HL0.out HS.out.l (by have:=HN.out;unfold Swg.m4 Swg.m3 Swg.m2 Swg.m1;omega) (by have:=HC.out;omega) HS.out.ls).mono ?_
 rintro e w5 ⟨rfl,hv,ht⟩
 rw [show S.m4 1+oL S.L S.nL=S.py 1 from rfl]
 have HF:Hid (qi w5 base 1 S∧Touch S.all w w5):=by
  have hne:∀ {t:TypeId} {a:Option Addr} {n:Nat} {f:Nat→Value},VT t w4 base a n f→t≠2→t≠102→VT t w5 base a n f:=fun hx h2 h3=>hx.fK ht (fun x hx1 hy=>by
   obtain ⟨cs,e1⟩:=hx.type x hx1
   rcases HL0.out with h0 | ⟨g,ea,hg,hl⟩
   ·
    rw [h0] at hy;simp [BD,gF] at hy
   ·
    rcases List.mem_append.1 hy with hy | hy
    ·
     rw [ea] at hy
     rw [j3 hy] at e1
     exact hl.C4 e1 (fun e=>h3 e.symm) rfl
    ·
     simp only [List.mem_flatMap,List.mem_range] at hy
     obtain ⟨i,hi,hy⟩:=hy
     obtain ⟨cs',e2⟩:=(hl.ls i hi).type2 x hy
     rw [e1] at e2
     simp at e2
     exact h2 e2.2)
  have hu:VT 2 w5 base S.N.aU S.N.nU fun i=>.int .i64 ((S.m1 1+i:Nat):Int):=HU4.out.fK ht (fun x hx hy=>by
   rcases List.mem_append.1 hy with hy | hy
   ·
    obtain ⟨cs,e1⟩:=HU4.out.type x hx
    rcases HL0.out with h0 | ⟨g,ea,hg,hl⟩
    ·
     rw [h0] at hy;simp [gF] at hy
    rw [ea] at hy
    rw [j3 hy] at e1
    exact hl.C4 e1 (by decide) rfl
   ·
    simp only [List.mem_flatMap,List.mem_range] at hy
    obtain ⟨i,hi,hy⟩:=hy
    exact HO.out.un i hi x hy hx)
  exact ⟨⟨hne HE4.out (by decide) (by decide),hu,hne HP4.out (by decide) (by decide),hne HK4.out (by decide) (by decide),hv⟩,HT.out.trans (ht.mono HA.out.2.2.2.2)⟩
 clear hv ht
 go_wp2_with fail
 go_ret
 exact ⟨rfl,HF.out⟩
theorem qG (S:Swg) (base:Nat) (w:World) (h:qi w base 1 S) (hs:S.Small) (ht:S.tot≤2000000) :
  Calls Tryz.prog 12 #[.agg S.cells,.int .i64 1] w fun e w'=>e=.returned (.int .i64 ((S.py 1:Nat):Int))∧Below w.heap.size w w':=by
 have HO:Hid (qi w base 1 S):=h
 have HS:Hid S.Small:=hs
 have HC:Hid (oL S.L S.nL≤6000000):=Ab ht
 have HN:Hid (S.nE+S.N.nU+S.N.nP+S.nK≤2000000):=by unfold Swg.tot at ht;rw [Hid];omega
 obtain ⟨W,eW⟩:∃ W,w.alloc (.cells S.cells 40)=W:=⟨_,rfl⟩
 have HB:Hid (Below (w.heap.size+1) (w.alloc (.cells S.cells 40)) W):=by rw [eW];exact Below.refl _ _
 have c9:W.cell? ⟨w.heap.size,9,none⟩=some (.slice S.aE S.nE S.cE):=boxed HB.out 9
 clear h hs ht
 go_enter Tryz.func12,Tryz.ntmps12
 go_wp2_with fail
 clear eW c9
 refine (xR S.aE S.nE S.cE 1 base _ (HO.out.e.up (under HB.out)) HS.out.e (by omega)).mono ?_
 rintro e w1 ⟨rfl,hb⟩
 rw [show 1+S.nE*3=S.m1 1 from rfl]
 replace HB:Hid (Below (w.heap.size+1) (w.alloc (.cells S.cells 40)) w1):=next HB.out hb
 have c10:w1.cell? ⟨w.heap.size,10,none⟩=some (.slice S.N.aU S.N.nU S.N.cU):=boxed HB.out 10
 have c11:w1.cell? ⟨w.heap.size,11,none⟩=some (.int .i64 S.N.lo):=boxed HB.out 11
 have c12:w1.cell? ⟨w.heap.size,12,none⟩=some (.slice S.N.aP S.N.nP S.N.cP):=boxed HB.out 12
 clear hb
 go_wp2_with fail
 clear c10 c11 c12
 refine (vQ S.N (S.m1 1) base _ (HO.out.u.up (under HB.out)) (HO.out.p.up (under HB.out)) HS.out.n (by have:=HN.out;unfold Swg.m1;omega)).mono ?_
 rintro e w2 ⟨rfl,hb⟩
 rw [show S.m1 1+S.N.nU+S.N.nP=S.m3 1 from rfl]
 replace HB:Hid (Below (w.heap.size+1) (w.alloc (.cells S.cells 40)) w2):=next HB.out hb
 have c13:w2.cell? ⟨w.heap.size,13,none⟩=some (.slice S.aK S.nK S.cK):=boxed HB.out 13
 clear hb
 go_wp2_with fail
 clear c13
 refine (xQ S.aK S.nK S.cK (S.m3 1) base _ (HO.out.k.up (under HB.out)) HS.out.k (by have:=HN.out;unfold Swg.m3 Swg.m2 Swg.m1;omega)).mono ?_
 rintro e w3 ⟨rfl,hb⟩
 rw [show S.m3 1+S.nK*8=S.m4 1 from rfl]
 replace HB:Hid (Below (w.heap.size+1) (w.alloc (.cells S.cells 40)) w3):=next HB.out hb
 have c14:w3.cell? ⟨w.heap.size,14,none⟩=some (.slice S.aL S.nL S.cL):=boxed HB.out 14
 clear hb
 go_wp2_with fail
 clear c14
 refine (xP S.aL S.nL S.cL (S.m4 1) base S.L _ ((HO.out.up (under HB.out)).l) HS.out.l (by have:=HN.out;unfold Swg.m4 Swg.m3 Swg.m2 Swg.m1;omega) (by have:=HC.out;omega) HS.out.ls).mono ?_
 rintro e w4 ⟨rfl,rfl⟩
 rw [show S.m4 1+oL S.L S.nL=S.py 1 from rfl]
 have B9:=under HB.out
 go_wp2_with fail
 go_ret
 exact ⟨rfl,B9⟩
theorem OG.lX {t t':TypeId} {sz:Nat} {w w':World} {base n c:Nat} {a:Option Addr} {xs:List Value} {S:List Nat} (h:OG t sz w base a n c xs) (ht:Touch S w w') (hS:∀ x∈S,∃ cs,w.heap[x]?=some (.cells cs t' (0,0))) (hne:t≠t'):OG t sz w' base a n c xs :=
 h.fK ht (fun x hx hy=>by
  obtain ⟨cs,e1⟩:=h.type x hx
  obtain ⟨cs',e2⟩:=hS x hy
  rw [e1] at e2
  simp at e2
  exact hne e2.2)
structure DE (t':TypeId):Prop where
 e:95≠t'
 i:2≠t'
 b:4≠t'
 k:97≠t'
 l:102≠t'
 s:25≠t'
theorem gI.lX {t':TypeId} {w w':World} {base:Nat} {G:Swg} {S:List Nat} (h:gI w base G) (ht:Touch S w w') (hS:∀ x∈S,∃ cs,w.heap[x]?=some (.cells cs t' (0,0))) (q:DE t'):gI w' base G :=
 ⟨h.e.lX ht hS q.e,h.u.lX ht hS q.i,h.p.lX ht hS q.b,h.k.lX ht hS q.k,h.l.lX ht hS q.l,fun i hi=>(h.ls i hi).lX ht hS q.i q.s,h.nd⟩
theorem Dp:DE 74:=⟨by decide,by decide,by decide,by decide,by decide,by decide⟩
def Hst.lh (h:Hst):List Nat:=ij h.aO++ij h.aG
structure mB (w:World) (base:Nat) (h:Hst):Prop where
 o:OG 74 5 w base h.aO h.nO h.cO (tV h.nO fun i=>(h.O i).frame)
 g:OG 74 5 w base h.aG h.nG h.cG (tV h.nG fun i=>(h.G i).frame)
 og:∀ x∈ij h.aO,x∉ij h.aG
theorem mB.up {w w':World} {base:Nat} {h:Hst} (k:mB w base h) (hb:Below w.heap.size w w'):mB w' base h:=⟨k.o.up hb,k.g.up hb,k.og⟩
theorem mB.mono {w:World} {base base':Nat} {h:Hst} (k:mB w base h) (hb:base'≤base):mB w base' h:=⟨k.o.mono hb,k.g.mono hb,k.og⟩
theorem mB.low {w w':World} {base:Nat} {h:Hst} {S:List Nat} (k:mB w base h) (ht:Touch S w w') (hS:∀ x∈S,x<base):mB w' base h:=⟨k.o.low ht hS,k.g.low ht hS,k.og⟩
theorem mB.lX {t':TypeId} {w w':World} {base:Nat} {h:Hst} {S:List Nat} (k:mB w base h) (ht:Touch S w w') (hS:∀ x∈S,∃ cs,w.heap[x]?=some (.cells cs t' (0,0))) (q:74≠t'):mB w' base h:=⟨k.o.lX ht hS q,k.g.lX ht hS q,k.og⟩
theorem mB.blk {w:World} {base:Nat} {h:Hst} (k:mB w base h):∀ x∈h.lh,base≤x∧x<w.heap.size:=by
 intro x hx
 rcases List.mem_append.1 hx with hx | hx
 ·
  exact k.o.blk x hx
 exact k.g.blk x hx
theorem mB.rd {w:World} {base:Nat} {h:Hst} (k:mB w base h):CB w h:=⟨k.o.jA,k.g.jA⟩
section
variable {w w' : World} {base base' : Nat} {aH : Option Addr} {nH cH : Nat} {H : Nat → Hst} {S : List Nat}
end
def jl (m j:Nat):Value:=if j % 5=4 then .string (mt (m+j)) else .int .i64 ((m+j:Nat):Int)
theorem l6 {m k j:Nat} (h:j<4):jl m (k*5+j)=.int .i64 ((m+k*5+j:Nat):Int):=by
 unfold jl
 rw [if_neg (by omega),Nat.add_assoc]
theorem yU {m k:Nat}:jl m (k*5+4)=.string (mt (m+k*5+4)):=by
 unfold jl
 rw [if_pos (by omega),Nat.add_assoc]
theorem vC (g n cap m:Nat) (f:Nat→Value) (w:World) (h:fV g 74 (n*5) f (n*5) w) (hn:n≤1048576) (hm:m≤50000000) :
  Calls Tryz.prog 11 #[.slice (some ⟨g,0,none⟩) n cap,.int .i64 m] w fun e w'=>e=.returned (.int .i64 ((m+n*5:Nat):Int))∧fV g 74 (n*5) (jl m) (n*5) w'∧Touch [g] w w':=by
 have HM:Hid (fV g 74 (n*5) (jl m) (0*5) w):=h.Bm
 clear h
 go_enter Tryz.func11,Tryz.ntmps11
 go_wp2_with fail
 go_loopw [1,5] (fun x i wr=>∃ (k:Nat) (q:Int),k≤n∧i=.int .i64 k∧x=.int .i64 q∧Hid (q=((m+k*5:Nat):Int))∧Hid (fV g 74 (n*5) (jl m) (k*5) wr)∧Hid (Touch [g] w wr)) (fun _ i _=>n-(intOf i).toNat)
 case atStart=>exact ⟨0,m,Nat.zero_le _,rfl,rfl,by show (m:Int)=_;simp,HM.out,Touch.refl _ _⟩
 obtain ⟨k,q,hk,rfl,rfl,HQ,HR,HT⟩:=hrel
 by_cases hlt:k<n
 ·
  have hlt':(k:Int)<n:=by omega
  have q0:0≤q:=by have:=HQ.out;omega
  have q1:q≤1000000000:=by have:=HQ.out;omega
  obtain ⟨arr,hb,hn2,hc⟩:=HR.out
  have HG:Hid (wr.heap[g]?=some (.cells arr 74 (0,0))):=hb
  have HN:Hid (n*5≤arr.size∧∀ i,i<k*5+0→arr[i]?=some (jl m i)):=⟨hn2,hc⟩
  clear hb hn2 hc HR
  go_wp2_with (refine fJ rfl 2 (.tmp 16) (.tmp 14) rfl g (k*5) (by simp [Act.eval]) (.int .i64 q) rfl 1 rfl 74 arr HG.out jv (by have:=HN.out.1;omega) (by simp [Value.cells,Value.oneCell']) ?_)
  intro Y0 hP
  have HR:Hid (fV g 74 (n*5) (jl m) (k*5+1) Y0):=iw (k:=k*5+0) HN.out.1 HN.out.2 (by omega) (by rw [l6 (by omega)];exact int_eq (by have:=HQ.out;omega)) hP
  replace HT:Hid (Touch [g] w Y0):=HT.out.trans hP.to
  clear hP HG HN
  obtain ⟨arr,hb,hn2,hc⟩:=HR.out
  have HG:Hid (Y0.heap[g]?=some (.cells arr 74 (0,0))):=hb
  have HN:Hid (n*5≤arr.size∧∀ i,i<k*5+1→arr[i]?=some (jl m i)):=⟨hn2,hc⟩
  clear hb hn2 hc HR
  go_wp2_with (refine fJ rfl 2 (.tmp 23) (.tmp 21) rfl g (k*5+1) (by simp [Act.eval]) (.int .i64 (q+1)) rfl 1 rfl 74 arr HG.out jv (by have:=HN.out.1;omega) (by simp [Value.cells,Value.oneCell']) ?_)
  intro Y1 hP
  have HR:Hid (fV g 74 (n*5) (jl m) (k*5+2) Y1):=iw (k:=k*5+1) HN.out.1 HN.out.2 (by omega) (by rw [l6 (by omega)];exact int_eq (by have:=HQ.out;omega)) hP
  replace HT:Hid (Touch [g] w Y1):=HT.out.trans hP.to
  clear hP HG HN
  obtain ⟨arr,hb,hn2,hc⟩:=HR.out
  have HG:Hid (Y1.heap[g]?=some (.cells arr 74 (0,0))):=hb
  have HN:Hid (n*5≤arr.size∧∀ i,i<k*5+2→arr[i]?=some (jl m i)):=⟨hn2,hc⟩
  clear hb hn2 hc HR
  go_wp2_with (refine fJ rfl 2 (.tmp 30) (.tmp 28) rfl g (k*5+2) (by simp [Act.eval]) (.int .i64 (q+1+1)) rfl 1 rfl 74 arr HG.out jv (by have:=HN.out.1;omega) (by simp [Value.cells,Value.oneCell']) ?_)
  intro Y2 hP
  have HR:Hid (fV g 74 (n*5) (jl m) (k*5+3) Y2):=iw (k:=k*5+2) HN.out.1 HN.out.2 (by omega) (by rw [l6 (by omega)];exact int_eq (by have:=HQ.out;omega)) hP
  replace HT:Hid (Touch [g] w Y2):=HT.out.trans hP.to
  clear hP HG HN
  obtain ⟨arr,hb,hn2,hc⟩:=HR.out
  have HG:Hid (Y2.heap[g]?=some (.cells arr 74 (0,0))):=hb
  have HN:Hid (n*5≤arr.size∧∀ i,i<k*5+3→arr[i]?=some (jl m i)):=⟨hn2,hc⟩
  clear hb hn2 hc HR
  go_wp2_with (refine fJ rfl 2 (.tmp 37) (.tmp 35) rfl g (k*5+3) (by simp [Act.eval]) (.int .i64 (q+1+1+1)) rfl 1 rfl 74 arr HG.out jv (by have:=HN.out.1;omega) (by simp [Value.cells,Value.oneCell']) ?_)
  intro Y3 hP
  have HR:Hid (fV g 74 (n*5) (jl m) (k*5+4) Y3):=iw (k:=k*5+3) HN.out.1 HN.out.2 (by omega) (by rw [l6 (by omega)];exact int_eq (by have:=HQ.out;omega)) hP
  replace HT:Hid (Touch [g] w Y3):=HT.out.trans hP.to
  clear hP HG HN
  obtain ⟨arr,hb,hn2,hc⟩:=HR.out
  have HG:Hid (Y3.heap[g]?=some (.cells arr 74 (0,0))):=hb
  have HN:Hid (n*5≤arr.size∧∀ i,i<k*5+4→arr[i]?=some (jl m i)):=⟨hn2,hc⟩
  clear hb hn2 hc HR
  go_wp2_with fail
  have hk7:q+1+1+1+1=((m+k*5+4:Nat):Int):=by have:=HQ.out;omega
  rw [hk7]
  refine (km (m+k*5+4) _ (by omega)).mono ?_
  rintro e wm ⟨rfl,hbm⟩
  replace HT:Hid (Touch [g] w wm):=HT.out.trans (Touch.gY hbm)
  replace HG:Hid (wm.heap[g]?=some (.cells arr 74 (0,0))):=(hbm.block _ (fH HG.out)).trans HG.out
  clear hbm
  go_wp2_with (refine fJ rfl 9 (.tmp 45) (.tmp 43) rfl g (k*5+4) (by simp [Act.eval]) (.string (mt (m+k*5+4))) rfl 1 rfl 74 arr HG.out (by kernel_rfl) (by have:=HN.out.1;omega) (by simp [Value.cells,Value.oneCell']) ?_)
  intro Y4 hP
  have HR:Hid (fV g 74 (n*5) (jl m) (k*5+5) Y4):=iw (k:=k*5+4) HN.out.1 HN.out.2 (by omega) yU hP
  replace HT:Hid (Touch [g] w Y4):=HT.out.trans hP.to
  clear hP HG HN
  go_wp2_with fail
  go_roundw
  case rel=>exact ⟨k+1,_,by omega,by go_num,rfl,by unfold Hid;omega,by show fV _ _ _ _ ((k+1)*5) _;rw [show (k+1)*5=k*5+5 by omega];exact HR.out,HT⟩
  case measure=>simp [intOf];omega
 exact fb
theorem vP (g n cap m:Nat) (w:World) (h:fV g 74 (n*5) (jl m) (n*5) w) (hn:n≤1048576) (hm:m≤50000000) :
  Calls Tryz.prog 13 #[.slice (some ⟨g,0,none⟩) n cap,.int .i64 m] w fun e w'=>e=.returned (.int .i64 ((m+n*5:Nat):Int))∧Below w.heap.size w w':=by
 have HR:Hid (fV g 74 (n*5) (jl m) (n*5) w):=h
 clear h
 go_enter Tryz.func13,Tryz.ntmps13
 go_wp2_with fail
 go_loopw [1,5] (fun x i wr=>∃ (k:Nat) (q:Int),k≤n∧i=.int .i64 k∧x=.int .i64 q∧Hid (q=((m+k*5:Nat):Int))∧Hid (Below w.heap.size w wr)) (fun _ i _=>n-(intOf i).toNat)
 case atStart=>exact ⟨0,m,Nat.zero_le _,rfl,rfl,by unfold Hid;simp,Below.refl _ _⟩
 obtain ⟨k,q,hk,rfl,rfl,HQ,HB⟩:=hrel
 by_cases hlt:k<n
 ·
  have hlt':(k:Int)<n:=by omega
  have q0:0≤q:=by have:=HQ.out;omega
  have q1:q≤1000000000:=by have:=HQ.out;omega
  have HRr:Hid (fV g 74 (n*5) (jl m) (n*5) wr):=HR.out.ir (HB.out.block _ HR.out.lt)
  have c0:wr.cell? ⟨g,k*5,none⟩=some (.int .i64 (q)):=by rw [HRr.out.at _ (by omega),show k*5=k*5+0 by omega,l6 (m:=m) (k:=k) (j:=0) (by omega)];exact congrArg some (int_eq (by have:=HQ.out;omega))
  have c1:wr.cell? ⟨g,k*5+1,none⟩=some (.int .i64 (q+1)):=by rw [HRr.out.at _ (by omega),l6 (m:=m) (k:=k) (j:=1) (by omega)];exact congrArg some (int_eq (by have:=HQ.out;omega))
  have c2:wr.cell? ⟨g,k*5+2,none⟩=some (.int .i64 (q+1+1)):=by rw [HRr.out.at _ (by omega),l6 (m:=m) (k:=k) (j:=2) (by omega)];exact congrArg some (int_eq (by have:=HQ.out;omega))
  have c3:wr.cell? ⟨g,k*5+3,none⟩=some (.int .i64 (q+1+1+1)):=by rw [HRr.out.at _ (by omega),l6 (m:=m) (k:=k) (j:=3) (by omega)];exact congrArg some (int_eq (by have:=HQ.out;omega))
  have c4:wr.cell? ⟨g,k*5+4,none⟩=some (.string (mt (m+k*5+4))):=by rw [HRr.out.at _ (by omega),yU]
  have hk7:q+1+1+1+1=((m+k*5+4:Nat):Int):=by have:=HQ.out;omega
  have HK7:Hid (q+1+1+1+1=((m+k*5+4:Nat):Int)):=hk7
  clear hk7 HRr
  go_wp2_with fail
  clear c0 c1 c2 c3
  refine wp_region_held_drew (S:=fun w'=>w'.cell? ⟨g,k*5+4,none⟩=some (.string (mt (m+k*5+4)))) (by kernel_rfl) c4 (fun hHeld=>?_)
  refine tC 0 48 (v:=?_) ?_ ?_
  rotate_left
  · exact eG
  try simp only [Act.put,PZ]
  refine tC 1 49 (v:=?_) ?_ ?_
  rotate_left
  · exact eG
  try simp only [Act.put,PZ]
  refine tC 2 50 (v:=?_) ?_ ?_
  rotate_left
  · exact eG
  try simp only [Act.put,PZ]
  refine tC 3 51 (v:=?_) ?_ ?_
  rotate_left
  · exact eG
  try simp only [Act.put,PZ]
  refine tC 4 52 (v:=?_) ?_ ?_
  rotate_left
  · exact eG
  try simp only [Act.put,PZ]
  refine tC 5 53 (v:=?_) ?_ ?_
  rotate_left
  · exact eG
  try simp only [Act.put,PZ]
  refine rq1 6 (fun K hK=>?_)
  go_simp
  rw [HK7.out]
  refine (km (m+k*5+4) _ (by omega)).mono ?_
  rintro e wm ⟨rfl,hbm⟩
  have HB2:Hid (Below w.heap.size w wm):=HB.out.drew.trans (hbm.mono HB.out.drew.size)
  have c42:wm.cell? ⟨g,k*5+4,none⟩=some (.string (mt (m+k*5+4))):=(hbm.cell (p:=⟨g,k*5+4,none⟩) (iu (w:=wr.drew) c4)).trans c4
  clear hbm c4 HB
  go_wp2_with fail
  refine hK.out _ _ c42 (fun hHeld=>?_)
  clear hK K
  try simp only [Act.put,PZ]
  refine tC 7 55 (v:=?_) ?_ ?_
  rotate_left
  · exact eG
  try simp only [Act.put,PZ]
  refine dnq ?_
  clear hHeld c42
  exact eJ
 exact fc
theorem AX (a:Option Addr) (cap m:Nat) (w:World):Calls Tryz.prog 11 #[.slice a 0 cap,.int .i64 m] w fun e w'=>e=.returned (.int .i64 (m:Int))∧w'=w:=by
 go_enter Tryz.func11,Tryz.ntmps11
 exact eI
theorem Bf (a:Option Addr) (cap m:Nat) (w:World):Calls Tryz.prog 13 #[.slice a 0 cap,.int .i64 m] w fun e w'=>e=.returned (.int .i64 (m:Int))∧w'=w:=by
 go_enter Tryz.func13,Tryz.ntmps13
 exact eI
theorem vD (a:Option Addr) (n cap m base:Nat) (f:Nat→Value) (w:World) (h:VT 74 w base a (n*5) f) (hn:n≤1048576) (hm:m≤50000000) :
  Calls Tryz.prog 11 #[.slice a n cap,.int .i64 m] w fun e w'=>e=.returned (.int .i64 ((m+n*5:Nat):Int))∧VT 74 w' base a (n*5) (jl m)∧Touch (gF a (n*5)) w w':=by
 by_cases h0:n=0
 ·
  subst h0
  refine (AX a cap m w).mono ?_
  exact eR
 rcases h with h | ⟨g,rfl,hg,hr⟩
 ·
  omega
 refine (vC g n cap m _ w hr hn hm).mono ?_
 exact eH
theorem pI (a:Option Addr) (n cap m base:Nat) (w:World) (h:VT 74 w base a (n*5) (jl m)) (hn:n≤1048576) (hm:m≤50000000) :
  Calls Tryz.prog 13 #[.slice a n cap,.int .i64 m] w fun e w'=>e=.returned (.int .i64 ((m+n*5:Nat):Int))∧Below w.heap.size w w':=by
 by_cases h0:n=0
 ·
  subst h0
  refine (Bf a cap m w).mono ?_
  exact fa
 rcases h with h | ⟨g,rfl,hg,hr⟩
 ·
  omega
 exact vP g n cap m w hr hn hm
def hM (m:Nat) (H:Nat→Hst):Nat→Nat
 | 0=>m
 | i+1=>hM m H i+1+(H i).nO*5+(H i).nG*5
theorem qi.lX {t':TypeId} {w w':World} {base m:Nat} {G:Swg} {S:List Nat} (h:qi w base m G) (ht:Touch S w w') (hS:∀ x∈S,∃ cs,w.heap[x]?=some (.cells cs t' (0,0))) (q:DE t'):qi w' base m G :=
 ⟨h.e.lX ht hS q.e,h.u.lX ht hS q.i,h.p.lX ht hS q.b,h.k.lX ht hS q.k,h.l.imp (fun g hl=>hl.lX ht hS q.l q.i q.s)⟩
end Go.Proofs.YtfcfpkibceepgaaGreat
