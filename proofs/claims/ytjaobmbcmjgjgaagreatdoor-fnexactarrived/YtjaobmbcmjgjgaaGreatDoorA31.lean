import Derived.Test.YtjaobmbcmjgjgaaGreatDoorA30
import Derived.Test.YtjaobmbcmjgjgaaGreatDoorRows
import Derived.Below
import Derived.ChangeOld
import Derived.Deep.Grids
import Derived.Deep.Matrix
import Derived.Deep.Slices
import Derived.OpenShut
import Derived.ProofKit
import Derived.ShutString
namespace Go.Proofs.YtjaobmbcmjgjgaaGreatDoor
set_option maxRecDepth 100000
set_option maxHeartbeats 4000000
open Go.RowKit
set_option linter.unusedVariables false
set_option linter.unusedSimpArgs false
theorem fa {p:Prop} (h:p:=by
 go_wp2_with fail
 go_ret
 exact ⟨⟨_,rfl,.inl rfl⟩,B9⟩):p:=h
theorem fb {p:Prop} (h:p:=by
 show _=m+(iy (fun i=>3+(L i).tot) k+(3+(L k).tot))
 have e0:c=m+iy (fun i=>3+(L i).tot) k:=HQ.out
 rw [Av,el,e0,Nat.add_assoc]):p:=h
theorem fc {p:Prop} (h:p:=by
 rintro e w' ⟨rfl,h1,h2⟩
 refine ⟨rfl,.inr ⟨g,rfl,hg,h1⟩,?_⟩
 unfold ib
 rw [if_neg (by omega)]
 exact h2):p:=h
theorem vh (g n cap m:Nat) (w:World) (h:fU g 94 (n*8) (jm m) (n*8) w) (hn:n≤1048576) (hm:m≤50000000) :
  Calls Tryz.prog 39 #[.slice (some ⟨g,0,none⟩) n cap,.int .i64 m] w fun e w'=>e=.returned (.int .i64 ((m+n*8:Nat):Int))∧Below w.heap.size w w':=by
 have HR:Hid (fU g 94 (n*8) (jm m) (n*8) w):=h
 clear h
 go_enter Tryz.func39,Tryz.ntmps39
 go_wp2_with fail
 go_loopw [1,5] (fun x i wr=>∃ (k:Nat) (q:Int),k≤n∧i=.int .i64 k∧x=.int .i64 q∧Hid (q=((m+k*8:Nat):Int))∧Hid (Below w.heap.size w wr)) (fun _ i _=>n-(intOf i).toNat)
 case atStart=>exact ⟨0,m,Nat.zero_le _,rfl,rfl,by unfold Hid;simp,Below.refl _ _⟩
 obtain ⟨k,q,hk,rfl,rfl,HQ,HB⟩:=hrel
 by_cases hlt:k<n
 ·
  have hlt':(k:Int)<n:=by omega
  have q0:0≤q:=by have:=HQ.out;omega
  have q1:q≤1000000000:=by have:=HQ.out;omega
  have HRr:Hid (fU g 94 (n*8) (jm m) (n*8) wr):=HR.out.iB (HB.out.block _ HR.out.lt)
  have c0:wr.cell? ⟨g,k*8,none⟩=some (.int .i64 (q)):=by rw [HRr.out.at _ (by omega),show k*8=k*8+0 by omega,ju (m:=m) (k:=k) (j:=0) (by omega)];exact congrArg some (int_eq (by have:=HQ.out;omega))
  have c1:wr.cell? ⟨g,k*8+1,none⟩=some (.int .i64 (q+1)):=by rw [HRr.out.at _ (by omega),ju (m:=m) (k:=k) (j:=1) (by omega)];exact congrArg some (int_eq (by have:=HQ.out;omega))
  have c2:wr.cell? ⟨g,k*8+2,none⟩=some (.int .i64 (q+1+1)):=by rw [HRr.out.at _ (by omega),ju (m:=m) (k:=k) (j:=2) (by omega)];exact congrArg some (int_eq (by have:=HQ.out;omega))
  have c3:wr.cell? ⟨g,k*8+3,none⟩=some (.int .i64 (q+1+1+1)):=by rw [HRr.out.at _ (by omega),ju (m:=m) (k:=k) (j:=3) (by omega)];exact congrArg some (int_eq (by have:=HQ.out;omega))
  have c4:wr.cell? ⟨g,k*8+4,none⟩=some (.int .i64 (q+1+1+1+1)):=by rw [HRr.out.at _ (by omega),ju (m:=m) (k:=k) (j:=4) (by omega)];exact congrArg some (int_eq (by have:=HQ.out;omega))
  have c5:wr.cell? ⟨g,k*8+5,none⟩=some (.int .i64 (q+1+1+1+1+1)):=by rw [HRr.out.at _ (by omega),ju (m:=m) (k:=k) (j:=5) (by omega)];exact congrArg some (int_eq (by have:=HQ.out;omega))
  have c6:wr.cell? ⟨g,k*8+6,none⟩=some (.int .i64 (q+1+1+1+1+1+1)):=by rw [HRr.out.at _ (by omega),ju (m:=m) (k:=k) (j:=6) (by omega)];exact congrArg some (int_eq (by have:=HQ.out;omega))
  have c7:wr.cell? ⟨g,k*8+7,none⟩=some (.string (mt (m+k*8+7))):=by rw [HRr.out.at _ (by omega),yw]
  have hk7:q+1+1+1+1+1+1+1=((m+k*8+7:Nat):Int):=by have:=HQ.out;omega
  have HK7:Hid (q+1+1+1+1+1+1+1=((m+k*8+7:Nat):Int)):=hk7
  clear hk7 HRr
  go_wp2_with fail
  clear c0 c1 c2 c3 c4 c5 c6
  refine wp_region_held_drew (S:=fun w'=>w'.cell? ⟨g,k*8+7,none⟩=some (.string (mt (m+k*8+7)))) (by kernel_rfl) c7 (fun hHeld=>?_)
  refine t0 ?_
  iterate 6 refine tN ?_
  refine rq1 7 (fun K hK=>?_)
  go_simp
  rw [HK7.out]
  refine (nR (m+k*8+7) _ (by omega)).mono ?_
  rintro e wm ⟨rfl,hbm⟩
  have HB2:Hid (Below w.heap.size w wm):=HB.out.drew.trans (hbm.mono HB.out.drew.size)
  have c72:wm.cell? ⟨g,k*8+7,none⟩=some (.string (mt (m+k*8+7))):=(hbm.cell (p:=⟨g,k*8+7,none⟩) (iI (w:=wr.drew) c7)).trans c7
  clear hbm c7 HB
  go_wp2_with fail
  refine hK.out _ _ c72 (fun hHeld=>?_)
  clear hK K
  try simp only [Act.put,PZ]
  refine tN ?_
  refine dnq ?_
  clear hHeld c72
  go_wp2_with fail
  go_roundw
  case rel=>exact ⟨k+1,_,by omega,by go_num,rfl,by unfold Hid;have:=HK7.out;omega,HB2⟩
  case measure=>simp [intOf];omega
 obtain rfl:k=n:=by omega
 go_wp2_with fail
 go_ret
 exact ⟨iM HQ.out,HB.out⟩
theorem rA {g:Nat→List Nat}:∀ n,((List.range n).flatMap g).Nodup→∀ i j,i<n→j<n→i≠j→∀ x∈g i,x∉g j:=by
 have lt:∀ n,((List.range n).flatMap g).Nodup→∀ i j,i<j→j<n→∀ x,x∈g i→x∉g j:=by
  intro n
  induction n with
  | zero=>intro _ i j _ hj;omega
  | succ n ih =>
   intro hn i j hij hj x h1 h2
   rw [List.range_succ,List.flatMap_append] at hn
   simp only [List.flatMap_cons,List.flatMap_nil,List.append_nil] at hn
   obtain ⟨n1,n2,n3⟩:=List.nodup_append.1 hn
   by_cases e:j=n
   ·
    subst e
    exact n3 x (by simp only [List.mem_flatMap,List.mem_range];exact ⟨i,hij,h1⟩) x h2 rfl
   exact ih n1 i j hij (by omega) x h1 h2
 intro n hn i j hi hj hne x hx hy
 rcases Nat.lt_or_gt_of_ne hne with h | h
 ·
  exact lt n hn i j h hj x hx hy
 exact lt n hn j i h hi x hy hx
structure Dis (l:Lng):Prop where
 tu:∀ x∈ib l.aT l.nT,x∉l7 l.nU l.uA l.uL
 tq:∀ x∈ib l.aT l.nT,x∉ib l.R.aQ l.R.nQ
 td:∀ x∈ib l.aT l.nT,x∉ib l.R.aD l.R.nD
 ty:∀ x∈ib l.aT l.nT,x∉l7 l.R.nS l.R.A l.R.L
 uq:∀ x∈l7 l.nU l.uA l.uL,x∉ib l.R.aQ l.R.nQ
 ud:∀ x∈l7 l.nU l.uA l.uL,x∉ib l.R.aD l.R.nD
 uy:∀ x∈l7 l.nU l.uA l.uL,x∉l7 l.R.nS l.R.A l.R.L
 qd:∀ x∈ib l.R.aQ l.R.nQ,x∉ib l.R.aD l.R.nD
 qy:∀ x∈ib l.R.aQ l.R.nQ,x∉l7 l.R.nS l.R.A l.R.L
 dy:∀ x∈ib l.R.aD l.R.nD,x∉l7 l.R.nS l.R.A l.R.L
 uu:∀ i j,i<l.nU→j<l.nU→i≠j→wE (l.uA i) (l.uL i) (l.uA j) (l.uL j)
 yy:∀ i j,i<l.R.nS→j<l.R.nS→i≠j→wE (l.R.A i) (l.R.L i) (l.R.A j) (l.R.L j)
theorem Lng.dis {l:Lng} (h:l.kH.Nodup):Dis l:=by
 unfold Lng.kH at h
 obtain ⟨_,h1,d1⟩:=List.nodup_append.1 h
 obtain ⟨u,h2,d2⟩:=List.nodup_append.1 h1
 obtain ⟨_,h3,d3⟩:=List.nodup_append.1 h2
 obtain ⟨_,y,d4⟩:=List.nodup_append.1 h3
 have m1:∀ {x:Nat} {a b:List Nat},x∈a→x∈a++b:=fun h=>List.mem_append_left _ h
 have m2:∀ {x:Nat} {a b:List Nat},x∈b→x∈a++b:=fun h=>List.mem_append_right _ h
 exact ⟨fun x hx hy=>d1 x hx x (m1 hy) rfl,fun x hx hy=>d1 x hx x (m2 (m1 hy)) rfl,fun x hx hy=>d1 x hx x (m2 (m2 (m1 hy))) rfl,fun x hx hy=>d1 x hx x (m2 (m2 (m2 hy))) rfl,
  fun x hx hy=>d2 x hx x (m1 hy) rfl,fun x hx hy=>d2 x hx x (m2 (m1 hy)) rfl,fun x hx hy=>d2 x hx x (m2 (m2 hy)) rfl,fun x hx hy=>d3 x hx x (m1 hy) rfl,fun x hx hy=>d3 x hx x (m2 hy) rfl,fun x hx hy=>d4 x hx x hy rfl,
  rA _ u,rA _ y⟩
section
variable {w w' : World} {base : Nat} {l : Lng} {S : List Nat}
theorem gZ.type2 (h:gZ w base l):∀ x∈l.kH,∃ cs,w.heap[x]?=some (.cells cs 2 (0,0)):=by
 intro x hx
 unfold Lng.kH at hx
 simp only [List.mem_append,ig] at hx
 rcases hx with hx | ⟨i,hi,hx⟩ | hx | hx | ⟨i,hi,hx⟩
 ·
  exact h.t.type x hx
 ·
  exact (h.z i hi).type x hx
 ·
  exact h.q.type x hx
 ·
  exact h.d.type x hx
 exact (h.y i hi).type x hx
theorem gZ.uB (h:gZ w base l) (h2:∀ x∈S,∃ cs,w.heap[x]?=some (.cells cs 2 (0,0))):∀ x∈ib l.aU l.nU,x∉S:=fun x hx hy=>by
 obtain ⟨cs,e1⟩:=h.u.type x hx
 obtain ⟨cs',e2⟩:=h2 x hy
 rw [e1] at e2
 simp at e2
theorem gZ.uD (h:gZ w base l) (h2:∀ x∈S,∃ cs,w.heap[x]?=some (.cells cs 2 (0,0))):∀ x∈ib l.R.aS l.R.nS,x∉S:=fun x hx hy=>by
 obtain ⟨cs,e1⟩:=h.s.type x hx
 obtain ⟨cs',e2⟩:=h2 x hy
 rw [e1] at e2
 simp at e2
theorem gZ.far (h:gZ w base l) (ht:Touch S w w') (h2:∀ x∈S,∃ cs,w.heap[x]?=some (.cells cs 2 (0,0))) (hd:∀ x∈l.kH,x∉S):gZ w' base l:=by
 have k1:∀ x∈ib l.aT l.nT,x∉S:=fun x hx=>hd x (List.mem_append_left _ hx)
 have k2:∀ i,i<l.nU→∀ x∈ib (l.uA i) (l.uL i),x∉S:=fun i hi x hx=>hd x (List.mem_append_right _ (List.mem_append_left _ (ig.2 ⟨i,hi,hx⟩)))
 have k3:∀ x∈ib l.R.aQ l.R.nQ,x∉S:=fun x hx=>hd x (List.mem_append_right _ (List.mem_append_right _ (List.mem_append_left _ hx)))
 have k4:∀ x∈ib l.R.aD l.R.nD,x∉S:=fun x hx=>hd x (List.mem_append_right _ (List.mem_append_right _ (List.mem_append_right _ (List.mem_append_left _ hx))))
 have k5:∀ i,i<l.R.nS→∀ x∈ib (l.R.A i) (l.R.L i),x∉S:=fun i hi x hx=>hd x (List.mem_append_right _ (List.mem_append_right _ (List.mem_append_right _ (List.mem_append_right _ (ig.2 ⟨i,hi,hx⟩)))))
 exact ⟨h.t.fL ht k1,h.u.fL ht (h.uB h2),fun i hi=>(h.z i hi).fL ht (k2 i hi),h.q.fL ht k3,h.d.fL ht k4,h.s.fL ht (h.uD h2),fun i hi=>(h.y i hi).fL ht (k5 i hi),h.nd⟩
theorem gZ.mT {f:Nat→Int} (h:gZ w base l) (hv:VGI w' base l.aT l.nT f) (ht:Touch (ib l.aT l.nT) w w'):gZ w' base { l with t:=f }:=by
 have d:=Lng.dis h.nd
 have h2:∀ x∈ib l.aT l.nT,∃ cs,w.heap[x]?=some (.cells cs 2 (0,0)):=h.t.type
 exact ⟨hv,h.u.fL ht (h.uB h2),fun i hi=>(h.z i hi).fL ht (fun x hx hy=>d.tu x hy (ig.2 ⟨i,hi,hx⟩)),h.q.fL ht (fun x hx hy=>d.tq x hy hx),h.d.fL ht (fun x hx hy=>d.td x hy hx),h.s.fL ht (h.uD h2),fun i hi=>(h.y i hi).fL ht (fun x hx hy=>d.ty x hy (ig.2 ⟨i,hi,hx⟩)),h.nd⟩
theorem gZ.mU {z:Nat→Nat→Int} (h:gZ w base l) (hv:∀ i,i<l.nU→VGI w' base (l.uA i) (l.uL i) (z i)) (ht:Touch (l7 l.nU l.uA l.uL) w w'):gZ w' base { l with uz:=z }:=by
 have d:=Lng.dis h.nd
 have h2:∀ x∈l7 l.nU l.uA l.uL,∃ cs,w.heap[x]?=some (.cells cs 2 (0,0)):=fun x hx=>by
  obtain ⟨i,hi,hx⟩:=ig.1 hx
  exact (h.z i hi).type x hx
 exact ⟨h.t.fL ht (fun x hx hy=>d.tu x hx hy),h.u.fL ht (h.uB h2),hv,h.q.fL ht (fun x hx hy=>d.uq x hy hx),h.d.fL ht (fun x hx hy=>d.ud x hy hx),h.s.fL ht (h.uD h2),fun i hi=>(h.y i hi).fL ht (fun x hx hy=>d.uy x hy (ig.2 ⟨i,hi,hx⟩)),h.nd⟩
theorem gZ.mQ {f:Nat→Int} (h:gZ w base l) (hv:VGI w' base l.R.aQ l.R.nQ f) (ht:Touch (ib l.R.aQ l.R.nQ) w w'):gZ w' base { l with R:={ l.R with q:=f } }:=by
 have d:=Lng.dis h.nd
 have h2:∀ x∈ib l.R.aQ l.R.nQ,∃ cs,w.heap[x]?=some (.cells cs 2 (0,0)):=h.q.type
 exact ⟨h.t.fL ht (fun x hx hy=>d.tq x hx hy),h.u.fL ht (h.uB h2),fun i hi=>(h.z i hi).fL ht (fun x hx hy=>d.uq x (ig.2 ⟨i,hi,hx⟩) hy),hv,h.d.fL ht (fun x hx hy=>d.qd x hy hx),h.s.fL ht (h.uD h2),fun i hi=>(h.y i hi).fL ht (fun x hx hy=>d.qy x hy (ig.2 ⟨i,hi,hx⟩)),h.nd⟩
theorem gZ.mD {f:Nat→Int} (h:gZ w base l) (hv:VGI w' base l.R.aD l.R.nD f) (ht:Touch (ib l.R.aD l.R.nD) w w'):gZ w' base { l with R:={ l.R with d:=f } }:=by
 have d:=Lng.dis h.nd
 have h2:∀ x∈ib l.R.aD l.R.nD,∃ cs,w.heap[x]?=some (.cells cs 2 (0,0)):=h.d.type
 exact ⟨h.t.fL ht (fun x hx hy=>d.td x hx hy),h.u.fL ht (h.uB h2),fun i hi=>(h.z i hi).fL ht (fun x hx hy=>d.ud x (ig.2 ⟨i,hi,hx⟩) hy),h.q.fL ht (fun x hx hy=>d.qd x hx hy),hv,h.s.fL ht (h.uD h2),fun i hi=>(h.y i hi).fL ht (fun x hx hy=>d.dy x hy (ig.2 ⟨i,hi,hx⟩)),h.nd⟩
theorem gZ.mY {z:Nat→Nat→Int} (h:gZ w base l) (hv:∀ i,i<l.R.nS→VGI w' base (l.R.A i) (l.R.L i) (z i)) (ht:Touch (l7 l.R.nS l.R.A l.R.L) w w'):gZ w' base { l with R:={ l.R with z:=z } }:=by
 have d:=Lng.dis h.nd
 have h2:∀ x∈l7 l.R.nS l.R.A l.R.L,∃ cs,w.heap[x]?=some (.cells cs 2 (0,0)):=fun x hx=>by
  obtain ⟨i,hi,hx⟩:=ig.1 hx
  exact (h.y i hi).type x hx
 exact ⟨h.t.fL ht (fun x hx hy=>d.ty x hx hy),h.u.fL ht (h.uB h2),fun i hi=>(h.z i hi).fL ht (fun x hx hy=>d.uy x (ig.2 ⟨i,hi,hx⟩) hy),h.q.fL ht (fun x hx hy=>d.qy x hx hy),h.d.fL ht (fun x hx hy=>d.dy x hx hy),h.s.fL ht (h.uD h2),hv,h.nd⟩
end
structure Lns (w:World) (base g n:Nat) (L:Nat→Lng):Prop where
 r:fU g 99 (n*8) (l3 L) (n*8) w
 ls:∀ i,i<n→gZ w base (L i)
 ap:∀ i j,i<n→j<n→i≠j→∀ x∈(L i).kH,x∉(L j).kH
def lJ (L:Nat→Lng) (k:Nat) (l:Lng) (i:Nat):Lng:=if i=k then l else L i
theorem iG (L:Nat→Lng) (k:Nat) (l:Lng):lJ L k l k=l:=if_pos rfl
theorem uw (L:Nat→Lng) {k i:Nat} (l:Lng) (h:i≠k):lJ L k l i=L i:=if_neg h
theorem vP (L:Nat→Lng) (k:Nat) (l l2:Lng):lJ (lJ L k l) k l2=lJ L k l2:=by
 funext i
 unfold lJ
 split <;> rfl
theorem BA (L:Nat→Lng) (k:Nat):lJ L k (L k)=L:=by
 funext i
 unfold lJ
 split
 ·
  rename_i h;rw [h]
 rfl
section
variable {w w' : World} {base g n k : Nat} {L : Nat → Lng} {l : Lng} {S : List Nat}
theorem Lns.cell (h:Lns w base g n L) (hk:k<n) (j:Nat) (hj:j<8):w.cell? ⟨g,k*8+j,none⟩=(L k).cells[j]?:=by
 rw [h.r.at _ (by omega)]
 exact jU L k j hj
theorem Lns.apU (h:Lns w base g n L) (hb:l.kH=(L k).kH):∀ i j,i<n→j<n→i≠j→∀ x∈(lJ L k l i).kH,x∉(lJ L k l j).kH:=by
 intro i j hi hj hne x hx hy
 have e:∀ i,(lJ L k l i).kH=(L i).kH:=fun i=>by
  unfold lJ
  split
  ·
   rename_i e;rw [hb,e]
  rfl
 rw [e] at hx hy
 exact h.ap i j hi hj hne x hx hy
theorem Lns.mark (h:Lns w base g n L) (hk:k<n) (hc:l.cells=(L k).cells) (hb:l.kH=(L k).kH) (ho:gZ w' base l) (ht:Touch S w w') (hS:∀ x∈S,x∈(L k).kH):Lns w' base g n (lJ L k l):=by
 have h2:∀ x∈S,∃ cs,w.heap[x]?=some (.cells cs 2 (0,0)):=fun x hx=>(h.ls k hk).type2 x (hS x hx)
 have hg:g∉S:=fun hx=>by
  obtain ⟨cs,e1⟩:=h2 g hx
  obtain ⟨arr,e2,_⟩:=h.r
  rw [e1] at e2
  simp at e2
 have ef:l3 (lJ L k l)=l3 L:=by
  funext j
  unfold l3 lJ
  split
  ·
   rename_i e;rw [hc,e]
  rfl
 refine ⟨by rw [ef];exact h.r.iB (ht.block g h.r.lt hg),fun i hi=>?_,h.apU hb⟩
 by_cases e:i=k
 ·
  rw [e,iG];exact ho
 rw [uw _ _ e]
 exact (h.ls i hi).far ht h2 (fun x hx hy=>h.ap i k hi hk e x hx (hS x hy))
theorem Lns.put (h:Lns w base g n L) (hk:k<n) {j:Nat} (hj:j<8) {v:Value} {arr:Array Value} (ha:w.heap[g]?=some (.cells arr 99 (0,0))) (hP:Put w w' g (lay arr (k*8+j) #[v]) 99) (hc:l.cells=(L k).cells.setIfInBounds j v) (hb:l.kH=(L k).kH) (ho:∀ W,gZ W base (L k)→gZ W base l):Lns w' base g n (lJ L k l):=by
 have far:∀ {l:Lng},gZ w base l→gZ w' base l:=fun {l} hl=>by
  have no2:∀ {a:Option Addr} {n:Nat} {f:Nat→Value} {t:TypeId},VG t w base a n f→t≠99→VG t w' base a n f:=fun hv hne=>hv.fL hP.to (fun x hx hy=>by
   obtain ⟨cs,e1⟩:=hv.type x hx
   rw [List.mem_singleton.1 hy,ha] at e1
   simp at e1
   exact hne e1.2.symm)
  exact ⟨no2 hl.t (by decide),no2 hl.u (by decide),fun i hi=>no2 (hl.z i hi) (by decide),no2 hl.q (by decide),no2 hl.d (by decide),no2 hl.s (by decide),fun i hi=>no2 (hl.y i hi) (by decide),hl.nd⟩
 obtain ⟨arr',e1,e2,e3⟩:=h.r
 rw [ha] at e1
 simp at e1
 subst e1
 have hf:k*8+j+(#[v]:Array Value).size≤arr.size:=by show k*8+j+1≤_;omega
 refine ⟨⟨_,hP.blk,by rw [jc hf];exact e2,fun i hi=>?_⟩,fun i hi=>?_,h.apU hb⟩
 ·
  by_cases e:i=k*8+j
  ·
   have q:=jx hf 0 (by show 0<1;omega)
   rw [Nat.add_zero] at q
   rw [e,q,jU _ k j hj,iG,hc]
   rw [Array.getElem?_setIfInBounds_self_of_lt (by rw [Lng.gJ];exact hj)]
   rfl
  have q:(lay arr (k*8+j) #[v])[i]?=arr[i]?:=by
   by_cases lo:i<k*8+j
   ·
    exact lg hf i lo
   unfold lay
   simp only [List.getElem?_toArray]
   rw [List.getElem?_append_right (by simp;omega),List.getElem?_drop,Array.getElem?_toList]
   congr 1
   simp
   omega
  rw [q,e3 i hi]
  have hh:some (l3 (lJ L k l) i)=some (l3 L i):=by
   have a1:=jU (lJ L k l) (i / 8) (i % 8) (by omega)
   have a2:=jU L (i / 8) (i % 8) (by omega)
   rw [show i / 8*8+i % 8=i by omega] at a1 a2
   rw [a1,a2]
   by_cases ek:i / 8=k
   ·
    rw [ek,iG,hc,Array.getElem?_setIfInBounds_ne (by omega)]
   rw [uw _ _ ek]
  exact hh.symm
 by_cases e:i=k
 ·
  rw [e,iG];exact ho _ (far (h.ls k hk))
 rw [uw _ _ e];exact far (h.ls i hi)
end
theorem Dx (q:Nat):(((q:Int)) % 3 == 0)=mb q:=by
 rw [Bool.eq_iff_iff]
 simp only [mb,beq_iff_eq,decide_eq_true_eq]
 omega
theorem CB (q:Nat):(((q:Int)+1) % 3 == 0)=mb (q+1):=by
 rw [Bool.eq_iff_iff]
 simp only [mb,beq_iff_eq,decide_eq_true_eq]
 omega
def zX (l:Lng) (st:Bool) (t:Nat→Int) (uz:Nat→Nat→Int) (q d:Nat→Int) (turn:Int) (fresh:Bool) (z:Nat→Nat→Int):Lng :=
 ⟨st,l.aT,l.nT,l.cT,t,l.aU,l.nU,l.cU,l.uA,l.uL,l.uC,uz,⟨l.R.aQ,l.R.nQ,l.R.cQ,q,l.R.aD,l.R.nD,l.R.cD,d,turn,fresh,l.R.aS,l.R.nS,l.R.cS,l.R.A,l.R.L,l.R.C,z⟩⟩
def Lng.c1 (l:Lng) (c:Nat):Nat:=c+1+l.nT
def Lng.c2 (l:Lng) (c:Nat):Nat:=l.c1 c+iy l.uL l.nU
def Lng.c3 (l:Lng) (c:Nat):Nat:=l.c2 c+l.R.nQ
def Lng.c4 (l:Lng) (c:Nat):Nat:=l.c3 c+l.R.nD
def qa (c:Nat) (l:Lng):Lng:=zX l (mb c) (fun i=>((c+1+i:Nat):Int)) (fun i j=>((l.c1 c+iy l.uL i+j:Nat):Int)) (fun i=>((l.c2 c+i:Nat):Int)) (fun i=>((l.c3 c+i:Nat):Int)) ((l.c4 c:Nat):Int) (mb (l.c4 c+1)) (fun i j=>((l.c4 c+2+iy l.R.L i+j:Nat):Int))
theorem Av (c:Nat) (l:Lng):l.c4 c+2+iy l.R.L l.R.nS=c+(3+l.tot):=by
 unfold Lng.c4 Lng.c3 Lng.c2 Lng.c1 Lng.tot Rnd.tot
 omega
section
variable {w w' : World} {base g n k : Nat} {M : Nat → Lng} {l l' : Lng} {S : List Nat}
theorem Lns.r9 (h:Lns w base g n (lJ M k l)) (hk:k<n):gZ w base l:=by
 have:=h.ls k hk
 rwa [iG] at this
theorem Lns.zG (h:Lns w base g n (lJ M k l)) (hk:k<n) (j:Nat) (hj:j<8):w.cell? ⟨g,k*8+j,none⟩=l.cells[j]?:=by
 rw [h.cell hk j hj,iG]
theorem Lns.yB (h:Lns w base g n (lJ M k l)) (hk:k<n) (hc:l'.cells=l.cells) (hb:l'.kH=l.kH) (ho:gZ w' base l') (ht:Touch S w w') (hS:∀ x∈S,x∈l.kH):Lns w' base g n (lJ M k l'):=by
 have:=h.mark hk (l:=l') (by rw [iG];exact hc) (by rw [iG];exact hb) ho ht (by rw [iG];exact hS)
 rwa [vP] at this
theorem Lns.Dg (h:Lns w base g n (lJ M k l)) (hk:k<n) {j:Nat} (hj:j<8) {v:Value} {arr:Array Value} (ha:w.heap[g]?=some (.cells arr 99 (0,0))) (hP:Put w w' g (lay arr (k*8+j) #[v]) 99) (hc:l'.cells=l.cells.setIfInBounds j v) (hb:l'.kH=l.kH) (ho:∀ W,gZ W base l→gZ W base l'):Lns w' base g n (lJ M k l'):=by
 have:=h.put hk hj (l:=l') ha hP (by rw [iG];exact hc) (by rw [iG];exact hb) (by rw [iG];exact ho)
 rwa [vP] at this
end
def wF (g n:Nat) (L:Nat→Lng):List Nat:=g :: (List.range n).flatMap fun i=>(L i).kH
theorem A0 {g n k:Nat} {L:Nat→Lng} (hk:k<n):∀ x∈(L k).kH,x∈wF g n L:=fun x hx=>List.mem_cons_of_mem _ (by simp only [List.mem_flatMap,List.mem_range];exact ⟨k,hk,hx⟩)
def oG (L:Nat→Lng) (k:Nat):Nat:=iy (fun i=>3+(L i).tot) k
def jj (m:Nat) (L:Nat→Lng) (k i:Nat):Lng:=if i<k then qa (m+oG L i) (L i) else L i
theorem uZ (m:Nat) (L:Nat→Lng):jj m L 0=L:=by
 funext i
 unfold jj
 rw [if_neg (by omega)]
theorem u2 (m:Nat) (L:Nat→Lng) (k:Nat):jj m L k k=L k:=by
 unfold jj
 rw [if_neg (by omega)]
theorem u0 (m:Nat) (L:Nat→Lng) (k:Nat):lJ (jj m L k) k (qa (m+oG L k) (L k))=jj m L (k+1):=by
 funext i
 unfold lJ jj
 by_cases e:i=k
 ·
  subst e
  rw [if_pos rfl,if_pos (by omega)]
 rw [if_neg e]
 by_cases h:i<k
 ·
  rw [if_pos h,if_pos (by omega)]
 rw [if_neg h,if_neg (by omega)]
theorem zC (L:Nat→Lng) {i n:Nat} (h:i<n):oG L i+(3+(L i).tot)≤oG L n:=by
 have h1:=uM (fun i=>3+(L i).tot) (show i+1≤n by omega)
 have h2:iy (fun i=>3+(L i).tot) (i+1)=iy (fun i=>3+(L i).tot) i+(3+(L i).tot):=rfl
 unfold oG
 omega
theorem u4 (g n cap m base:Nat) (L:Nat→Lng) (w:World) (h:Lns w base g n L) (hn:n≤1048576) (hm:m≤30000000) (hs:oG L n≤10000000) (hsm:∀ i,i<n→(L i).Small) :
  Calls Tryz.prog 36 #[.slice (some ⟨g,0,none⟩) n cap,.int .i64 m] w fun e w'=>e=.returned (.int .i64 ((m+oG L n:Nat):Int))∧Lns w' base g n (jj m L n)∧Touch (wF g n L) w w':=by
 have H0:Hid (Lns w base g n (jj m L 0)):=by rw [Hid,uZ];exact h
 have HS:Hid (∀ i,i<n→(L i).Small):=hsm
 clear h hsm
 go_enter Tryz.func36,Tryz.ntmps36
 go_wp2_with fail
 go_loopw [1,5] (fun x i wr=>∃ (k c:Nat),k≤n∧i=.int .i64 k∧x=.int .i64 c∧Hid (c=m+oG L k)∧Hid (Lns wr base g n (jj m L k))∧Hid (Touch (wF g n L) w wr)) (fun _ i _=>n-(intOf i).toNat)
 case atStart=>exact ⟨0,m,Nat.zero_le _,rfl,rfl,rfl,H0,Touch.refl _ _⟩
 clear H0
 obtain ⟨k,c,hk,rfl,rfl,HQ,HL,HT⟩:=hrel
 by_cases hlt:k<n
 ·
  have hlt':(k:Int)<n:=by omega
  have hcn:=zC L hlt
  have HsT:Hid ((L k).tot≤10000000):=by rw [Hid];omega
  have hcb:c+(3+(L k).tot)≤40000000:=by have:=HQ.out;omega
  have HSk:Hid (L k).Small:=HS.out k hlt
  have HA:Hid (∀ x∈(L k).kH,x∈wF g n L):=A0 hlt
  obtain ⟨M,eM⟩:∃ M,jj m L k=M:=⟨_,rfl⟩
  obtain ⟨l,el⟩:∃ l,L k=l:=⟨_,rfl⟩
  have HM:Hid (∀ W,Lns W base g n (lJ M k (qa c l))→Lns W base g n (jj m L (k+1))):=fun W hW=>by rw [←u0,eM,el,←HQ.out];exact hW
  have HL0:Hid (Lns wr base g n (lJ M k (zX l l.st l.t l.uz l.R.q l.R.d l.R.turn l.R.fresh l.R.z))):=by
   have e:lJ M k l=M:=by rw [←el,←u2 m L k,eM,BA]
   show Lns wr base g n (lJ M k l)
   rw [e,←eM]
   exact HL.out
  rw [el] at HSk HA hcb HsT
  clear HL eM hcn
  have hto:l.tot=l.nT+iy l.uL l.nU+(l.R.nQ+l.R.nD+iy l.R.L l.R.nS):=rfl
  have HTo:Hid (c+(3+l.tot)≤40000000):=hcb
  have h1:c+1≤100000000:=by omega
  have h2:l.c1 c≤50000000:=by unfold Lng.c1;omega
  have h3:l.c2 c≤100000000:=by unfold Lng.c2 Lng.c1;omega
  have h4:l.c3 c≤100000000:=by unfold Lng.c3 Lng.c2 Lng.c1;omega
  have h5:l.c4 c+2≤50000000:=by unfold Lng.c4 Lng.c3 Lng.c2 Lng.c1;omega
  have hsU:iy l.uL l.nU≤10000000:=by have:=HsT.out;omega
  have hsZ:iy l.R.L l.R.nS≤10000000:=by have:=HsT.out;omega
  clear hto
  obtain ⟨arr,hb,_,_⟩:=HL0.out.r
  have HG:Hid (wr.heap[g]?=some (.cells arr 99 (0,0))):=hb
  have HN:Hid (n*8≤arr.size):=by obtain ⟨a2,e1,e2,_⟩:=HL0.out.r;rw [hb] at e1;cases e1;exact e2
  clear hb
  go_wp2_with (refine fJ rfl 4 (.tmp 18) (.tmp 16) rfl g (k*8) (by simp [Act.eval]) (.bool (mb c)) (by simp [Act.eval,Dx]) 1 rfl 99 arr HG.out zd (by have:=HN.out;omega) (by simp [Value.cells,Value.oneCell']) ?_)
  intro Y0 hP
  replace HL0:Hid (Lns Y0 base g n (lJ M k (zX l (mb c) l.t l.uz l.R.q l.R.d l.R.turn l.R.fresh l.R.z))):=HL0.out.Dg hlt (j:=0) (by omega) HG.out hP rfl rfl (fun W hW=>⟨hW.t,hW.u,hW.z,hW.q,hW.d,hW.s,hW.y,hW.nd⟩)
  replace HT:Hid (Touch (wF g n L) w Y0):=HT.out.trans (hP.to.mono (fun x hx=>by rw [List.mem_singleton.1 hx];exact List.mem_cons_self ..))
  clear hP HG HN
  have c1:Y0.cell? ⟨g,k*8+1,none⟩=some (.slice l.aT l.nT l.cT):=HL0.out.zG hlt 1 (by omega)
  go_wp2_with fail
  refine (lz l.aT l.nT l.cT (c+1) base l.t _ (HL0.out.r9 hlt).t HSk.out.t h1).mono ?_
  rintro e Y1 ⟨rfl,hv,ht⟩
  replace HL0:Hid (Lns Y1 base g n (lJ M k (zX l (mb c) (fun i=>((c+1+i:Nat):Int)) l.uz l.R.q l.R.d l.R.turn l.R.fresh l.R.z))):=HL0.out.yB hlt rfl rfl ((HL0.out.r9 hlt).mT hv ht) ht (fun x hx=>List.mem_append_left _ hx)
  replace HT:Hid (Touch (wF g n L) w Y1):=HT.out.trans (ht.mono (fun x hx=>HA.out x ((fun x hx=>List.mem_append_left _ hx) x hx)))
  clear hv ht c1
  rw [show c+1+l.nT=l.c1 c from rfl]
  have c2:Y1.cell? ⟨g,k*8+2,none⟩=some (.slice l.aU l.nU l.cU):=HL0.out.zG hlt 2 (by omega)
  go_wp2_with fail
  refine (o8 l.aU l.nU l.cU (l.c1 c) base l.uA l.uL l.uC l.uz (l7 l.nU l.uA l.uL) _ HSk.out.u hsU h2 HSk.out.z (fun w' ht=>((HL0.out.r9 hlt).u.fL ht ((HL0.out.r9 hlt).uB (fun x hx=>(HL0.out.r9 hlt).type2 x (List.mem_append_right _ (List.mem_append_left _ hx))))).read) (HL0.out.r9 hlt).z (Lng.dis (HL0.out.r9 hlt).nd).uu (fun i hi x hx=>ig.2 ⟨i,hi,hx⟩)).mono ?_
  rintro e Y2 ⟨rfl,hv,ht⟩
  replace HL0:Hid (Lns Y2 base g n (lJ M k (zX l (mb c) (fun i=>((c+1+i:Nat):Int)) (fun i j=>((l.c1 c+iy l.uL i+j:Nat):Int)) l.R.q l.R.d l.R.turn l.R.fresh l.R.z))):=HL0.out.yB hlt rfl rfl ((HL0.out.r9 hlt).mU hv ht) ht (fun x hx=>List.mem_append_right _ (List.mem_append_left _ hx))
  replace HT:Hid (Touch (wF g n L) w Y2):=HT.out.trans (ht.mono (fun x hx=>HA.out x ((fun x hx=>List.mem_append_right _ (List.mem_append_left _ hx)) x hx)))
  clear hv ht c2
  rw [show l.c1 c+iy l.uL l.nU=l.c2 c from rfl]
  have c3:Y2.cell? ⟨g,k*8+3,none⟩=some (.slice l.R.aQ l.R.nQ l.R.cQ):=HL0.out.zG hlt 3 (by omega)
  go_wp2_with fail
  refine (lz l.R.aQ l.R.nQ l.R.cQ (l.c2 c) base l.R.q _ (HL0.out.r9 hlt).q HSk.out.r.q h3).mono ?_
  rintro e Y3 ⟨rfl,hv,ht⟩
  replace HL0:Hid (Lns Y3 base g n (lJ M k (zX l (mb c) (fun i=>((c+1+i:Nat):Int)) (fun i j=>((l.c1 c+iy l.uL i+j:Nat):Int)) (fun i=>((l.c2 c+i:Nat):Int)) l.R.d l.R.turn l.R.fresh l.R.z))):=HL0.out.yB hlt rfl rfl ((HL0.out.r9 hlt).mQ hv ht) ht (fun x hx=>List.mem_append_right _ (List.mem_append_right _ (List.mem_append_left _ hx)))
  replace HT:Hid (Touch (wF g n L) w Y3):=HT.out.trans (ht.mono (fun x hx=>HA.out x ((fun x hx=>List.mem_append_right _ (List.mem_append_right _ (List.mem_append_left _ hx))) x hx)))
  clear hv ht c3
  rw [show l.c2 c+l.R.nQ=l.c3 c from rfl]
  have c4:Y3.cell? ⟨g,k*8+4,none⟩=some (.slice l.R.aD l.R.nD l.R.cD):=HL0.out.zG hlt 4 (by omega)
  go_wp2_with fail
  refine (lz l.R.aD l.R.nD l.R.cD (l.c3 c) base l.R.d _ (HL0.out.r9 hlt).d HSk.out.r.d h4).mono ?_
  rintro e Y4 ⟨rfl,hv,ht⟩
  replace HL0:Hid (Lns Y4 base g n (lJ M k (zX l (mb c) (fun i=>((c+1+i:Nat):Int)) (fun i j=>((l.c1 c+iy l.uL i+j:Nat):Int)) (fun i=>((l.c2 c+i:Nat):Int)) (fun i=>((l.c3 c+i:Nat):Int)) l.R.turn l.R.fresh l.R.z))):=HL0.out.yB hlt rfl rfl ((HL0.out.r9 hlt).mD hv ht) ht (fun x hx=>List.mem_append_right _ (List.mem_append_right _ (List.mem_append_right _ (List.mem_append_left _ hx))))
  replace HT:Hid (Touch (wF g n L) w Y4):=HT.out.trans (ht.mono (fun x hx=>HA.out x ((fun x hx=>List.mem_append_right _ (List.mem_append_right _ (List.mem_append_right _ (List.mem_append_left _ hx)))) x hx)))
  clear hv ht c4
  rw [show l.c3 c+l.R.nD=l.c4 c from rfl]
  obtain ⟨arr,hb,_,_⟩:=HL0.out.r
  have HG:Hid (Y4.heap[g]?=some (.cells arr 99 (0,0))):=hb
  have HN:Hid (n*8≤arr.size):=by obtain ⟨a2,e1,e2,_⟩:=HL0.out.r;rw [hb] at e1;cases e1;exact e2
  clear hb
  go_wp2_with (refine fJ rfl 2 (.tmp 56) (.tmp 53) rfl g (k*8+5) (by simp [Act.eval]) (.int .i64 ((l.c4 c:Nat):Int)) rfl 1 rfl 99 arr HG.out iP (by have:=HN.out;omega) (by simp [Value.cells,Value.oneCell']) ?_)
  intro Y5 hP
  replace HL0:Hid (Lns Y5 base g n (lJ M k (zX l (mb c) (fun i=>((c+1+i:Nat):Int)) (fun i j=>((l.c1 c+iy l.uL i+j:Nat):Int)) (fun i=>((l.c2 c+i:Nat):Int)) (fun i=>((l.c3 c+i:Nat):Int)) ((l.c4 c:Nat):Int) l.R.fresh l.R.z))):=HL0.out.Dg hlt (j:=5) (by omega) HG.out hP rfl rfl (fun W hW=>⟨hW.t,hW.u,hW.z,hW.q,hW.d,hW.s,hW.y,hW.nd⟩)
  replace HT:Hid (Touch (wF g n L) w Y5):=HT.out.trans (hP.to.mono (fun x hx=>by rw [List.mem_singleton.1 hx];exact List.mem_cons_self ..))
  clear hP HG HN
  obtain ⟨arr,hb,_,_⟩:=HL0.out.r
  have HG:Hid (Y5.heap[g]?=some (.cells arr 99 (0,0))):=hb
  have HN:Hid (n*8≤arr.size):=by obtain ⟨a2,e1,e2,_⟩:=HL0.out.r;rw [hb] at e1;cases e1;exact e2
  clear hb
  go_wp2_with (refine fJ rfl 4 (.tmp 66) (.tmp 63) rfl g (k*8+6) (by simp [Act.eval]) (.bool (mb (l.c4 c+1))) (by simp [Act.eval,CB]) 1 rfl 99 arr HG.out zd (by have:=HN.out;omega) (by simp [Value.cells,Value.oneCell']) ?_)
  intro Y6 hP
  replace HL0:Hid (Lns Y6 base g n (lJ M k (zX l (mb c) (fun i=>((c+1+i:Nat):Int)) (fun i j=>((l.c1 c+iy l.uL i+j:Nat):Int)) (fun i=>((l.c2 c+i:Nat):Int)) (fun i=>((l.c3 c+i:Nat):Int)) ((l.c4 c:Nat):Int) (mb (l.c4 c+1)) l.R.z))):=HL0.out.Dg hlt (j:=6) (by omega) HG.out hP rfl rfl (fun W hW=>⟨hW.t,hW.u,hW.z,hW.q,hW.d,hW.s,hW.y,hW.nd⟩)
  replace HT:Hid (Touch (wF g n L) w Y6):=HT.out.trans (hP.to.mono (fun x hx=>by rw [List.mem_singleton.1 hx];exact List.mem_cons_self ..))
  clear hP HG HN
  have c7:Y6.cell? ⟨g,k*8+7,none⟩=some (.slice l.R.aS l.R.nS l.R.cS):=HL0.out.zG hlt 7 (by omega)
  go_wp2_with fail
  refine (o8 l.R.aS l.R.nS l.R.cS (l.c4 c+2) base l.R.A l.R.L l.R.C l.R.z (l7 l.R.nS l.R.A l.R.L) _ HSk.out.r.s hsZ h5 HSk.out.r.l (fun w' ht=>((HL0.out.r9 hlt).s.fL ht ((HL0.out.r9 hlt).uD (fun x hx=>(HL0.out.r9 hlt).type2 x (List.mem_append_right _ (List.mem_append_right _ (List.mem_append_right _ (List.mem_append_right _ hx))))))).read) (HL0.out.r9 hlt).y (Lng.dis (HL0.out.r9 hlt).nd).yy (fun i hi x hx=>ig.2 ⟨i,hi,hx⟩)).mono ?_
  rintro e Y7 ⟨rfl,hv,ht⟩
  replace HL0:Hid (Lns Y7 base g n (lJ M k (zX l (mb c) (fun i=>((c+1+i:Nat):Int)) (fun i j=>((l.c1 c+iy l.uL i+j:Nat):Int)) (fun i=>((l.c2 c+i:Nat):Int)) (fun i=>((l.c3 c+i:Nat):Int)) ((l.c4 c:Nat):Int) (mb (l.c4 c+1)) (fun i j=>((l.c4 c+2+iy l.R.L i+j:Nat):Int))))):=HL0.out.yB hlt rfl rfl ((HL0.out.r9 hlt).mY hv ht) ht (fun x hx=>List.mem_append_right _ (List.mem_append_right _ (List.mem_append_right _ (List.mem_append_right _ hx))))
  replace HT:Hid (Touch (wF g n L) w Y7):=HT.out.trans (ht.mono (fun x hx=>HA.out x ((fun x hx=>List.mem_append_right _ (List.mem_append_right _ (List.mem_append_right _ (List.mem_append_right _ hx)))) x hx)))
  clear hv ht c7
  have HL1:Hid (Lns Y7 base g n (jj m L (k+1))):=HM.out _ HL0.out
  have HQ1:Hid (l.c4 c+2+iy l.R.L l.R.nS=m+oG L (k+1)):=fb
  clear HL0 HM h1 h2 h3 h4 h5 hsU hsZ hcb
  go_wp2_with fail
  go_roundw
  case rel=>exact ⟨k+1,_,by omega,by go_num,rfl,HQ1,HL1,HT⟩
  case measure=>simp [intOf];omega
 obtain rfl:k=n:=by omega
 go_wp2_with fail
 go_ret
 exact ⟨iM (by rw [HQ.out]),HL.out,HT.out⟩
theorem vj (g n cap m base:Nat) (L:Nat→Lng) (w:World) (h:Lns w base g n (jj m L n)) (hn:n≤1048576) (hm:m≤30000000) (hs:oG L n≤10000000) (hsm:∀ i,i<n→(L i).Small) :
  Calls Tryz.prog 40 #[.slice (some ⟨g,0,none⟩) n cap,.int .i64 m] w fun e w'=>e=.returned (.int .i64 ((m+oG L n:Nat):Int))∧w=w':=by
 have H0:Hid (Lns w base g n (jj m L n)):=h
 have HS:Hid (∀ i,i<n→(L i).Small):=hsm
 clear h hsm
 go_enter Tryz.func40,Tryz.ntmps40
 go_wp2_with fail
 go_loop [1,5] (fun x i=>∃ (k c:Nat),k≤n∧i=.int .i64 k∧x=.int .i64 c∧Hid (c=m+oG L k)) (fun _ i=>n-(intOf i).toNat)
 case atStart=>exact ⟨0,m,Nat.zero_le _,rfl,rfl,rfl⟩
 obtain ⟨k,c,hk,rfl,rfl,HQ⟩:=hrel
 by_cases hlt:k<n
 ·
  have hlt':(k:Int)<n:=by omega
  have hcn:=zC L hlt
  have HsT:Hid ((L k).tot≤10000000):=by rw [Hid];omega
  have hcb:c+(3+(L k).tot)≤40000000:=by have:=HQ.out;omega
  have HSk:Hid (L k).Small:=HS.out k hlt
  obtain ⟨l,el⟩:∃ l,L k=l:=⟨_,rfl⟩
  have eK:jj m L n k=qa c l:=by unfold jj;rw [if_pos hlt,←HQ.out,el]
  have HO:Hid (gZ w base (qa c l)):=by rw [Hid,←eK];exact H0.out.ls k hlt
  have HC:Hid (∀ j,j<8→w.cell? ⟨g,k*8+j,none⟩=(qa c l).cells[j]?):=fun j hj=>by rw [H0.out.cell hlt j hj,eK]
  rw [el] at HSk hcb HsT
  clear hcn eK
  have hto:l.tot=l.nT+iy l.uL l.nU+(l.R.nQ+l.R.nD+iy l.R.L l.R.nS):=rfl
  have h1:c+1≤100000000:=by omega
  have h2:l.c1 c≤50000000:=by unfold Lng.c1;omega
  have h3:l.c2 c≤100000000:=by unfold Lng.c2 Lng.c1;omega
  have h4:l.c3 c≤100000000:=by unfold Lng.c3 Lng.c2 Lng.c1;omega
  have h5:l.c4 c+2≤50000000:=by unfold Lng.c4 Lng.c3 Lng.c2 Lng.c1;omega
  have hsU:iy l.uL l.nU≤10000000:=by have:=HsT.out;omega
  have hsZ:iy l.R.L l.R.nS≤10000000:=by have:=HsT.out;omega
  clear hto
  have c0:w.cell? ⟨g,k*8,none⟩=some (.bool (mb c)):=HC.out 0 (by omega)
  have d1:w.cell? ⟨g,k*8+1,none⟩=some (.slice l.aT l.nT l.cT):=HC.out 1 (by omega)
  have d2:w.cell? ⟨g,k*8+2,none⟩=some (.slice l.aU l.nU l.cU):=HC.out 2 (by omega)
  have d3:w.cell? ⟨g,k*8+3,none⟩=some (.slice l.R.aQ l.R.nQ l.R.cQ):=HC.out 3 (by omega)
  have d4:w.cell? ⟨g,k*8+4,none⟩=some (.slice l.R.aD l.R.nD l.R.cD):=HC.out 4 (by omega)
  have d5:w.cell? ⟨g,k*8+5,none⟩=some (.int .i64 ((l.c4 c:Nat):Int)):=HC.out 5 (by omega)
  have d6:w.cell? ⟨g,k*8+6,none⟩=some (.bool (mb (l.c4 c+1))):=HC.out 6 (by omega)
  have d7:w.cell? ⟨g,k*8+7,none⟩=some (.slice l.R.aS l.R.nS l.R.cS):=HC.out 7 (by omega)
  have e3:=Dx c
  have hb1:(mb c != mb c)=false:=by simp
  have e6:=CB (l.c4 c)
  have hb2:(mb (l.c4 c+1) != mb (l.c4 c+1))=false:=by simp
  go_wp2_with fail
  clear e3 hb1
  refine (lF l.aT l.nT l.cT (c+1) base _ HO.out.t HSk.out.t h1).mono ?_
  rintro e w1 ⟨rfl,rfl⟩
  rw [show c+1+l.nT=l.c1 c from rfl]
  go_wp2_with fail
  refine (pt l.aU l.nU l.cU (l.c1 c) base l.uA l.uL l.uC _ HSk.out.u hsU h2 HSk.out.z HO.out.u.read HO.out.z).mono ?_
  rintro e w2 ⟨rfl,rfl⟩
  rw [show l.c1 c+iy l.uL l.nU=l.c2 c from rfl]
  go_wp2_with fail
  refine (lF l.R.aQ l.R.nQ l.R.cQ (l.c2 c) base _ HO.out.q HSk.out.r.q h3).mono ?_
  rintro e w3 ⟨rfl,rfl⟩
  rw [show l.c2 c+l.R.nQ=l.c3 c from rfl]
  go_wp2_with fail
  refine (lF l.R.aD l.R.nD l.R.cD (l.c3 c) base _ HO.out.d HSk.out.r.d h4).mono ?_
  rintro e w4 ⟨rfl,rfl⟩
  rw [show l.c3 c+l.R.nD=l.c4 c from rfl]
  have hb5:(((l.c4 c:Nat):Int) != ((l.c4 c:Nat):Int))=false:=by simp
  go_wp2_with fail
  refine (pt l.R.aS l.R.nS l.R.cS (l.c4 c+2) base l.R.A l.R.L l.R.C _ HSk.out.r.s hsZ h5 HSk.out.r.l HO.out.s.read HO.out.y).mono ?_
  rintro e w5 ⟨rfl,rfl⟩
  have HQ1:Hid (l.c4 c+2+iy l.R.L l.R.nS=m+oG L (k+1)):=fb
  clear h1 h2 h3 h4 h5 hsU hsZ hcb hb5 e6 hb2 c0 d1 d2 d3 d4 d5 d6 d7
  go_wp2_with fail
  go_round
  case rel=>exact ⟨k+1,_,by omega,by go_num,rfl,HQ1⟩
  case measure=>simp [intOf];omega
 obtain rfl:k=n:=by omega
 go_wp2_with fail
 go_ret
 exact ⟨iM (by have:=HQ.out;omega),rfl⟩
def kc (m:Nat) (j:Nat):Value:=.int .i64 ((m+j:Nat):Int)
theorem fU.any {g n k:Nat} {t:TypeId} {f:Nat→Value} {w:World} (h:fU g t n f k w) (f':Nat→Value):fU g t n f' 0 w:=h.Bq
theorem s6 (g n cap m:Nat) (f:Nat→Value) (w:World) (h:fU g 92 (n*3) f (n*3) w) (hn:n≤1048576) (hm:m≤100000000) :
  Calls Tryz.prog 33 #[.slice (some ⟨g,0,none⟩) n cap,.int .i64 m] w fun e w'=>e=.returned (.int .i64 ((m+n*3:Nat):Int))∧fU g 92 (n*3) (kc m) (n*3) w'∧Touch [g] w w':=by
 have HM:Hid (fU g 92 (n*3) (kc m) (0*3) w):=h.Bq
 clear h
 go_enter Tryz.func33,Tryz.ntmps33
 go_wp2_with fail
 go_loopw [1,5] (fun x i wr=>∃ (k:Nat) (q:Int),k≤n∧i=.int .i64 k∧x=.int .i64 q∧q=((m+k*3:Nat):Int)∧fU g 92 (n*3) (kc m) (k*3) wr∧Touch [g] w wr) (fun _ i _=>n-(intOf i).toNat)
 case atStart=>exact ⟨0,m,Nat.zero_le _,rfl,rfl,by simp,HM.out,Touch.refl _ _⟩
 obtain ⟨k,q,hk,rfl,rfl,hq,hR,hT⟩:=hrel
 have HQ:Hid (q=((m+k*3:Nat):Int)):=hq
 by_cases hlt:k<n
 ·
  have hlt':(k:Int)<n:=by omega
  have q0:0≤q:=by omega
  have q1:q≤1000000000:=by omega
  have HT:Hid (Touch [g] w wr):=hT
  have e0:(kc m (k*3))=.int .i64 q:=by unfold kc;rw [HQ.out]
  have e1:(kc m (k*3+1))=.int .i64 (q+1):=by unfold kc;rw [HQ.out];congr 1
  have e2:(kc m (k*3+1+1))=.int .i64 (q+1+1):=by unfold kc;rw [HQ.out];congr 1
  have R1:=hR.step (by omega)
  rw [e0] at R1
  have R2:=R1.step (by omega)
  rw [e1] at R2
  have R3:=R2.step (by omega)
  rw [e2] at R3
  obtain ⟨v0,c0⟩:=hR.there (k*3) (by omega)
  obtain ⟨v1,c1⟩:=R1.there (k*3+1) (by omega)
  obtain ⟨v2,c2⟩:=R2.there (k*3+2) (by omega)
  have f0:=hR.free (k*3)
  have f1:=R1.free (k*3+1)
  have f2:=R2.free (k*3+2)
  have HR3:Hid (fU g 92 (n*3) (kc m) (k*3+1+1+1) _):=R3
  clear hq R1 R2 R3 e0 e1 e2 hR hT
  go_wp2_with fail
  go_roundw
  case rel=>exact ⟨k+1,q+1+1+1,by omega,by go_num,by go_num,by rw [HQ.out];omega,by rw [show (k+1)*3=k*3+1+1+1 by omega];exact HR3.out,((HT.out.set (by simp) _ _).set (by simp) _ _).set (by simp) _ _⟩
  case measure=>simp [intOf];omega
 obtain rfl:k=n:=by omega
 go_wp2_with fail
 go_ret
 exact ⟨iM HQ.out,hR,hT⟩
theorem tw (g n cap m:Nat) (w:World) (h:fU g 92 (n*3) (kc m) (n*3) w) (hn:n≤1048576) (hm:m≤100000000) :
  Calls Tryz.prog 37 #[.slice (some ⟨g,0,none⟩) n cap,.int .i64 m] w fun e w'=>e=.returned (.int .i64 ((m+n*3:Nat):Int))∧Below w.heap.size w w':=by
 have HM:Hid (fU g 92 (n*3) (kc m) (n*3) w):=h
 clear h
 go_enter Tryz.func37,Tryz.ntmps37
 go_wp2_with fail
 go_loopw [1,5] (fun x i wr=>∃ (k:Nat) (q:Int),k≤n∧i=.int .i64 k∧x=.int .i64 q∧q=((m+k*3:Nat):Int)∧kJ w wr) (fun _ i _=>n-(intOf i).toNat)
 case atStart=>exact ⟨0,m,Nat.zero_le _,rfl,rfl,by simp,kJ.refl _⟩
 obtain ⟨k,q,hk,rfl,rfl,hq,hS⟩:=hrel
 have HQ:Hid (q=((m+k*3:Nat):Int)):=hq
 by_cases hlt:k<n
 ·
  have hlt':(k:Int)<n:=by omega
  have q0:0≤q:=by omega
  have q1:q≤1000000000:=by omega
  have HS:Hid (kJ w wr):=hS
  have c0:wr.cell? ⟨g,k*3,none⟩=some (.int .i64 q):=by
   rw [hS.cell,HM.out.at _ (by omega)];unfold kc;rw [HQ.out]
  have c1:wr.cell? ⟨g,k*3+1,none⟩=some (.int .i64 (q+1)):=by
   rw [hS.cell,HM.out.at _ (by omega)];unfold kc;rw [HQ.out];congr 2
  have c2:wr.cell? ⟨g,k*3+2,none⟩=some (.int .i64 (q+1+1)):=by
   rw [hS.cell,HM.out.at _ (by omega)];unfold kc;rw [HQ.out];congr 2
  clear hq hS
  go_wp2_with fail
  go_roundw
  case rel=>exact ⟨k+1,q+1+1+1,by omega,by go_num,by go_num,by rw [HQ.out];omega,HS.out⟩
  case measure=>simp [intOf];omega
 obtain rfl:k=n:=by omega
 go_wp2_with fail
 go_ret
 exact ⟨iM HQ.out,hS.below _⟩
theorem ks.kO {w w':World} {base:Nat} {v:Value} {L:List Ent} {S:List Nat} (h:ks w base v L) (ht:Touch S w w') (hS:∀ g,v.ownBlock=some g→g∉S):ks w' base v L:=by
 obtain ⟨h1,h2⟩:=h
 refine ⟨h1,h2.imp id ?_⟩
 rintro ⟨g,cap,cur,rfl,hg,hb,hr⟩
 exact ⟨g,cap,cur,rfl,hg,(ht.block g (fG hb) (hS g rfl)).trans hb,hr⟩
theorem ks.blk {w:World} {base:Nat} {v:Value} {L:List Ent} (h:ks w base v L):∀ g,v.ownBlock=some g→base≤g∧g<w.heap.size:=World.ownsRow.lt h
def vF (w:World) (v:Value) (n m:Nat):Prop:=(v=.slice none 0 0∧n=0)∨∃ g cap,v=.slice (some ⟨g,0,none⟩) n cap∧fU g 92 (n*3) (kc m) (n*3) w
theorem vF.up {w w':World} {v:Value} {n m:Nat} (h:vF w v n m) (hb:Below w.heap.size w w'):vF w' v n m :=
 h.imp id (by rintro ⟨g,cap,rfl,hr⟩;exact ⟨g,cap,rfl,hr.iB (hb.block _ hr.lt)⟩)
theorem yA (a:Option Addr) (cap m:Nat) (w:World):Calls Tryz.prog 33 #[.slice a 0 cap,.int .i64 m] w fun e w'=>e=.returned (.int .i64 m)∧w=w':=by
 go_enter Tryz.func33,Tryz.ntmps33
 exact aA
theorem zl (a:Option Addr) (cap m:Nat) (w:World):Calls Tryz.prog 37 #[.slice a 0 cap,.int .i64 m] w fun e w'=>e=.returned (.int .i64 m)∧w=w':=by
 go_enter Tryz.func37,Tryz.ntmps37
 exact aA
theorem Aw (a:Option Addr) (cap m:Nat) (w:World):Calls Tryz.prog 35 #[.slice a 0 cap,.int .i64 m] w fun e w'=>e=.returned (.int .i64 m)∧w=w':=by
 go_enter Tryz.func35,Tryz.ntmps35
 exact aA
theorem AM (a:Option Addr) (cap m:Nat) (w:World):Calls Tryz.prog 39 #[.slice a 0 cap,.int .i64 m] w fun e w'=>e=.returned (.int .i64 m)∧w=w':=by
 go_enter Tryz.func39,Tryz.ntmps39
 exact aA
theorem Ax (a:Option Addr) (cap m:Nat) (w:World):Calls Tryz.prog 36 #[.slice a 0 cap,.int .i64 m] w fun e w'=>e=.returned (.int .i64 m)∧w=w':=by
 go_enter Tryz.func36,Tryz.ntmps36
 exact aA
theorem AN (a:Option Addr) (cap m:Nat) (w:World):Calls Tryz.prog 40 #[.slice a 0 cap,.int .i64 m] w fun e w'=>e=.returned (.int .i64 m)∧w=w':=by
 go_enter Tryz.func40,Tryz.ntmps40
 exact aA
theorem xj (a:Option Addr) (n cap m base:Nat) (F:Nat→Value) (w:World) (h:VT 92 w base a (n*3) F) (hn:n≤1048576) (hm:m≤100000000) :
  Calls Tryz.prog 33 #[.slice a n cap,.int .i64 m] w fun e w'=>e=.returned (.int .i64 ((m+n*3:Nat):Int))∧VT 92 w' base a (n*3) (kc m)∧Touch (ib a (n*3)) w w':=by
 by_cases h0:n=0
 ·
  subst h0
  refine (yA a cap m w).mono ?_
  rintro e w' ⟨rfl,rfl⟩
  exact ⟨by simp,.inl rfl,Touch.refl _ _⟩
 rcases h with h | ⟨g,rfl,hg,hr⟩
 ·
  omega
 refine (s6 g n cap m _ w hr hn hm).mono ?_
 exact fc
theorem xy (a:Option Addr) (n cap m base:Nat) (w:World) (h:VT 92 w base a (n*3) (kc m)) (hn:n≤1048576) (hm:m≤100000000) :
  Calls Tryz.prog 37 #[.slice a n cap,.int .i64 m] w fun e w'=>e=.returned (.int .i64 ((m+n*3:Nat):Int))∧Below w.heap.size w w':=by
 by_cases h0:n=0
 ·
  subst h0
  refine (zl a cap m w).mono ?_
  rintro e w' ⟨rfl,rfl⟩
  exact ⟨by simp,Below.refl _ _⟩
 rcases h with h | ⟨g,rfl,hg,hr⟩
 ·
  omega
 exact tw g n cap m w hr hn hm
theorem xi (a:Option Addr) (n cap m base:Nat) (F:Nat→Value) (w:World) (h:VT 94 w base a (n*8) F) (hn:n≤1048576) (hm:m≤50000000) :
  Calls Tryz.prog 35 #[.slice a n cap,.int .i64 m] w fun e w'=>e=.returned (.int .i64 ((m+n*8:Nat):Int))∧VT 94 w' base a (n*8) (jm m)∧Touch (ib a (n*8)) w w':=by
 by_cases h0:n=0
 ·
  subst h0
  refine (Aw a cap m w).mono ?_
  rintro e w' ⟨rfl,rfl⟩
  exact ⟨by simp,.inl rfl,Touch.refl _ _⟩
 rcases h with h | ⟨g,rfl,hg,hr⟩
 ·
  omega
 refine (u3 g n cap m _ w hr hn hm).mono ?_
 exact fc
theorem xx (a:Option Addr) (n cap m base:Nat) (w:World) (h:VT 94 w base a (n*8) (jm m)) (hn:n≤1048576) (hm:m≤50000000) :
  Calls Tryz.prog 39 #[.slice a n cap,.int .i64 m] w fun e w'=>e=.returned (.int .i64 ((m+n*8:Nat):Int))∧Below w.heap.size w w':=by
 by_cases h0:n=0
 ·
  subst h0
  refine (AM a cap m w).mono ?_
  rintro e w' ⟨rfl,rfl⟩
  exact ⟨by simp,Below.refl _ _⟩
 rcases h with h | ⟨g,rfl,hg,hr⟩
 ·
  omega
 exact vh g n cap m w hr hn hm
def VL (w:World) (base:Nat) (a:Option Addr) (n:Nat) (L:Nat→Lng):Prop:=n=0∨∃ g,a=some ⟨g,0,none⟩∧base≤g∧Lns w base g n L
def Br (a:Option Addr) (n:Nat) (L:Nat→Lng):List Nat:=ib a (n*8)++(List.range n).flatMap fun i=>(L i).kH
theorem xh (a:Option Addr) (n cap m base:Nat) (L:Nat→Lng) (w:World) (h:VL w base a n L) (hn:n≤1048576) (hm:m≤30000000) (hs:oG L n≤10000000) (hsm:∀ i,i<n→(L i).Small) :
  Calls Tryz.prog 36 #[.slice a n cap,.int .i64 m] w fun e w'=>e=.returned (.int .i64 ((m+oG L n:Nat):Int))∧VL w' base a n (jj m L n)∧Touch (Br a n L) w w':=by
 by_cases h0:n=0
 ·
  subst h0
  refine (Ax a cap m w).mono ?_
  rintro e w' ⟨rfl,rfl⟩
  exact ⟨rfl,.inl rfl,Touch.refl _ _⟩
 rcases h with h | ⟨g,rfl,hg,hr⟩
 ·
  omega
 refine (u4 g n cap m base L w hr hn hm hs hsm).mono ?_
 rintro e w' ⟨rfl,h1,h2⟩
 refine ⟨rfl,.inr ⟨g,rfl,hg,h1⟩,?_⟩
 have e:Br (some ⟨g,0,none⟩) n L=wF g n L:=by
  unfold Br wF ib
  rw [if_neg (by omega)]
  rfl
 rw [e]
 exact h2
theorem xw (a:Option Addr) (n cap m base:Nat) (L:Nat→Lng) (w:World) (h:VL w base a n (jj m L n)) (hn:n≤1048576) (hm:m≤30000000) (hs:oG L n≤10000000) (hsm:∀ i,i<n→(L i).Small) :
  Calls Tryz.prog 40 #[.slice a n cap,.int .i64 m] w fun e w'=>e=.returned (.int .i64 ((m+oG L n:Nat):Int))∧w=w':=by
 by_cases h0:n=0
 ·
  subst h0
  refine (AN a cap m w).mono ?_
  rintro e w' ⟨rfl,rfl⟩
  exact ⟨rfl,rfl⟩
 rcases h with h | ⟨g,rfl,hg,hr⟩
 ·
  omega
 exact vj g n cap m base L w hr hn hm hs hsm
section
variable {w w' : World} {base g n : Nat} {L : Nat → Lng} {S : List Nat}
theorem VT.se {t t':TypeId} {a:Option Addr} {f:Nat→Value} (h:VT t w base a n f) (ht:Touch S w w') (hS:∀ x∈S,∃ cs,w.heap[x]?=some (.cells cs t' (0,0))) (hne:t≠t'):VT t w' base a n f :=
 h.fL ht (fun x hx hy=>by
  obtain ⟨cs,e1⟩:=h.type x hx
  obtain ⟨cs',e2⟩:=hS x hy
  rw [e1] at e2
  simp at e2
  exact hne e2.2)
theorem gZ.se {l:Lng} {t':TypeId} (h:gZ w base l) (ht:Touch S w w') (hS:∀ x∈S,∃ cs,w.heap[x]?=some (.cells cs t' (0,0))) (h2:2≠t') (h3:25≠t'):gZ w' base l:=by
 have no:∀ {a:Option Addr} {n:Nat} {f:Nat→Value} {t:TypeId},VG t w base a n f→t≠t'→VG t w' base a n f:=fun hv hne=>hv.fL ht (fun x hx hy=>by
  obtain ⟨cs,e1⟩:=hv.type x hx
  obtain ⟨cs',e2⟩:=hS x hy
  rw [e1] at e2
  simp at e2
  exact hne e2.2)
 exact ⟨no h.t h2,no h.u h3,fun i hi=>no (h.z i hi) h2,no h.q h2,no h.d h2,no h.s h3,fun i hi=>no (h.y i hi) h2,h.nd⟩
theorem Lns.C0 (h:Lns w base g n L) {x:Nat} {cs:Array Value} {t':TypeId} (hx:w.heap[x]?=some (.cells cs t' (0,0))) (hne:99≠t'):g≠x:=fun e=>by
 obtain ⟨arr,e1,_⟩:=h.r
 rw [e,hx] at e1
 simp at e1
 exact hne e1.2.symm
theorem Lns.se {t':TypeId} (h:Lns w base g n L) (ht:Touch S w w') (hS:∀ x∈S,∃ cs,w.heap[x]?=some (.cells cs t' (0,0))) (h1:99≠t') (h2:2≠t') (h3:25≠t'):Lns w' base g n L :=
 ⟨h.r.iB (ht.block g h.r.lt (fun hx=>by obtain ⟨cs,e⟩:=hS g hx;exact h.C0 e h1 rfl)),fun i hi=>(h.ls i hi).se ht hS h2 h3,h.ap⟩
theorem Lns.far2 (h:Lns w base g n L) (ht:Touch S w w') (hS:∀ x∈S,∃ cs,w.heap[x]?=some (.cells cs 2 (0,0))) (hd:∀ i,i<n→∀ x∈(L i).kH,x∉S):Lns w' base g n L :=
 ⟨h.r.iB (ht.block g h.r.lt (fun hx=>by obtain ⟨cs,e⟩:=hS g hx;exact h.C0 e (by decide) rfl)),fun i hi=>(h.ls i hi).far ht hS (hd i hi),h.ap⟩
end
theorem VL.imp {w w':World} {base:Nat} {a:Option Addr} {n:Nat} {L L':Nat→Lng} (h:VL w base a n L) (f:∀ g,Lns w base g n L→Lns w' base g n L'):VL w' base a n L':=Or.imp id (by rintro ⟨g,ha,hg,hl⟩;exact ⟨g,ha,hg,f g hl⟩) h
def Swg.m1 (S:Swg) (m:Nat):Nat:=m+S.nE*3
def Swg.m2 (S:Swg) (m:Nat):Nat:=S.m1 m+S.N.nU
def Swg.m3 (S:Swg) (m:Nat):Nat:=S.m2 m+S.N.nP
def Swg.m4 (S:Swg) (m:Nat):Nat:=S.m3 m+S.nK*8
def Swg.Bb (S:Swg) (m:Nat):Nat:=S.m4 m+oG S.L S.nL
structure xW (w:World) (base m:Nat) (S:Swg):Prop where
 e:VT 92 w base S.aE (S.nE*3) (kc m)
 u:VT 2 w base S.N.aU S.N.nU fun i=>.int .i64 ((S.m1 m+i:Nat):Int)
 p:VT 4 w base S.N.aP S.N.nP fun i=>.bool (mb (S.m2 m+i))
 k:VT 94 w base S.aK (S.nK*8) (jm (S.m3 m))
 l:VL w base S.aL S.nL (jj (S.m4 m) S.L S.nL)
theorem gZ.upL {w w':World} {base g n:Nat} {L:Nat→Lng} (h:Lns w base g n L) (hb:Below w.heap.size w w'):Lns w' base g n L:=⟨h.r.iB (hb.block _ h.r.lt),fun i hi=>(h.ls i hi).up hb,h.ap⟩
theorem xW.up {w w':World} {base m:Nat} {S:Swg} (h:xW w base m S) (hb:Below w.heap.size w w'):xW w' base m S:=⟨h.e.up hb,h.u.up hb,h.p.up hb,h.k.up hb,h.l.imp (fun g hl=>gZ.upL hl hb)⟩
def Swg.all (S:Swg):List Nat:=ib S.aE (S.nE*3)++(ib S.N.aU S.N.nU++(ib S.N.aP S.N.nP++(ib S.aK (S.nK*8)++Br S.aL S.nL S.L)))
theorem iD.all {w:World} {base:Nat} {S:Swg} (h:iD w base S):∀ x∈S.all,base≤x∧x<w.heap.size:=by
 intro x hx
 unfold Swg.all Br at hx
 simp only [List.mem_append,List.mem_flatMap,List.mem_range] at hx
 rcases hx with hx | hx | hx | hx | hx | ⟨i,hi,hx⟩
 ·
  exact h.e.blk x hx
 ·
  exact h.u.blk x hx
 ·
  exact h.p.blk x hx
 ·
  exact h.k.blk x hx
 ·
  exact h.l.blk x hx
 exact (h.ls i hi).blk x hx
theorem iD.vl {w:World} {base:Nat} {S:Swg} (h:iD w base S):VL w base S.aL S.nL S.L:=by
 rcases h.l with h0 | ⟨g,ha,hg,hr⟩
 ·
  exact .inl (by omega)
 exact .inr ⟨g,ha,hg,hr,h.ls,rA _ (List.nodup_append.1 h.nd).2.1⟩
theorem iD.un {w:World} {base:Nat} {S:Swg} (h:iD w base S):∀ i,i<S.nL→∀ x∈(S.L i).kH,x∉ib S.N.aU S.N.nU:=fun i hi x hx hy =>
 (List.nodup_append.1 h.nd).2.2 x hy x (by simp only [List.mem_flatMap,List.mem_range];exact ⟨i,hi,hx⟩) rfl
theorem yb (f:Nat→Nat):∀ n,iy (fun i=>3+f i) n=3*n+iy f n:=by
 intro n
 induction n with
 | zero=>rfl
 | succ n ih =>
  show iy (fun i=>3+f i) n+(3+f n)=3*(n+1)+(iy f n+f n)
  rw [ih]
  omega
theorem Bl {S:Swg} (h:S.tot≤2000000):oG S.L S.nL≤6000000:=by
 unfold Swg.tot at h
 unfold oG
 rw [yb]
 omega
theorem u5 (N:Cnt) (m base:Nat) (w:World) (hu:VT 2 w base N.aU N.nU fun i=>.int .i64 (N.u i)) (hp:VT 4 w base N.aP N.nP fun i=>.bool (N.p i)) (hs:N.Small) (hm:m≤50000000) :
  Calls Tryz.prog 34 #[.agg N.cells,.int .i64 m] w fun e w'=>e=.returned (.int .i64 ((m+N.nU+N.nP:Nat):Int))∧(∃ w1,Touch (ib N.aU N.nU) w w1∧VT 2 w1 base N.aU N.nU (fun i=>.int .i64 ((m+i:Nat):Int))∧VT 4 w' base N.aP N.nP (fun i=>.bool (mb (m+N.nU+i)))∧Touch (ib N.aP N.nP) w1 w'∧∀ x∈ib N.aP N.nP,∃ cs,w1.heap[x]?=some (.cells cs 4 (0,0))):=by
 have HU:Hid (VT 2 w base N.aU N.nU fun i=>.int .i64 (N.u i)):=hu
 have HP:Hid (VT 4 w base N.aP N.nP fun i=>.bool (N.p i)):=hp
 have HS:Hid N.Small:=hs
 obtain ⟨W,eW⟩:∃ W,w.alloc (.cells N.cells 39)=W:=⟨_,rfl⟩
 have HB:Hid (Below (w.heap.size+1) (w.alloc (.cells N.cells 39)) W):=by rw [eW];exact Below.refl _ _
 have c0:W.cell? ⟨w.heap.size,0,none⟩=some (.slice N.aU N.nU N.cU):=boxed HB.out 0
 have hW:Below w.heap.size w W:=under HB.out
 have HW:Hid (Below w.heap.size w W):=hW
 have hbx:w.heap.size<W.heap.size:=by have:=upper HB.out;omega
 clear hu hp hs hW
 go_enter Tryz.func34,Tryz.ntmps34
 go_wp2_with fail
 clear eW c0
 refine (qS N.aU N.nU N.cU m base _ _ (HU.out.up HW.out) HS.out.u (by omega)).mono ?_
 rintro e w1 ⟨rfl,hv1,ht1⟩
 have hg1:w.heap.size∉ib N.aU N.nU:=fun hx=>by have:=(HU.out.blk _ hx).2;omega
 have c2:w1.cell? ⟨w.heap.size,2,none⟩=some (.slice N.aP N.nP N.cP):=by
  rw [World.cell?_of_block (w:=W) (a:=⟨w.heap.size,2,none⟩) (ht1.block _ hbx hg1)]
  exact boxed HB.out 2
 have HV1:Hid (VT 2 w1 base N.aU N.nU (fun i=>.int .i64 ((m+i:Nat):Int))∧Touch (ib N.aU N.nU) W w1):=⟨hv1,ht1⟩
 have HP1:Hid (VT 4 w1 base N.aP N.nP fun i=>.bool (N.p i)):=(HP.out.up HW.out).se ht1 (HU.out.up HW.out).type (by decide)
 clear hv1 ht1 hg1
 go_wp2_with fail
 refine (pD N.aP N.nP N.cP (m+N.nU) base _ _ HP1.out HS.out.p (by have:=HS.out.u;omega)).mono ?_
 rintro e w2 ⟨rfl,hv2,ht2⟩
 have HF:Hid (∃ w1,Touch (ib N.aU N.nU) w w1∧VT 2 w1 base N.aU N.nU (fun i=>.int .i64 ((m+i:Nat):Int))∧VT 4 w2 base N.aP N.nP (fun i=>.bool (mb (m+N.nU+i)))∧Touch (ib N.aP N.nP) w1 w2∧∀ x∈ib N.aP N.nP,∃ cs,w1.heap[x]?=some (.cells cs 4 (0,0))):=⟨w1,(Touch.gY HW.out).trans HV1.out.2,HV1.out.1,hv2,ht2,HP1.out.type⟩
 clear hv2 ht2 c2
 go_wp2_with fail
 go_ret
 exact ⟨rfl,HF.out⟩
theorem vk (N:Cnt) (m base:Nat) (w:World) (hu:VT 2 w base N.aU N.nU fun i=>.int .i64 ((m+i:Nat):Int)) (hp:VT 4 w base N.aP N.nP fun i=>.bool (mb (m+N.nU+i))) (hs:N.Small) (hm:m≤50000000) :
  Calls Tryz.prog 38 #[.agg N.cells,.int .i64 m] w fun e w'=>e=.returned (.int .i64 ((m+N.nU+N.nP:Nat):Int))∧Below w.heap.size w w':=by
 have HU:Hid (VT 2 w base N.aU N.nU fun i=>.int .i64 ((m+i:Nat):Int)):=hu
 have HP:Hid (VT 4 w base N.aP N.nP fun i=>.bool (mb (m+N.nU+i))):=hp
 have HS:Hid N.Small:=hs
 obtain ⟨W,eW⟩:∃ W,w.alloc (.cells N.cells 39)=W:=⟨_,rfl⟩
 have HB:Hid (Below (w.heap.size+1) (w.alloc (.cells N.cells 39)) W):=by rw [eW];exact Below.refl _ _
 have c0:W.cell? ⟨w.heap.size,0,none⟩=some (.slice N.aU N.nU N.cU):=boxed HB.out 0
 have c2:W.cell? ⟨w.heap.size,2,none⟩=some (.slice N.aP N.nP N.cP):=boxed HB.out 2
 have HW:Hid (Below w.heap.size w W):=under HB.out
 clear hu hp hs
 go_enter Tryz.func38,Tryz.ntmps38
 go_wp2_with fail
 clear eW
 refine (rn N.aU N.nU N.cU m base _ (HU.out.up HW.out) HS.out.u (by omega)).mono ?_
 rintro e w1 ⟨rfl,rfl⟩
 go_wp2_with fail
 refine (pI N.aP N.nP N.cP (m+N.nU) base _ (HP.out.up HW.out) HS.out.p (by have:=HS.out.u;omega)).mono ?_
 rintro e w2 ⟨rfl,rfl⟩
 go_wp2_with fail
 go_ret
 exact ⟨rfl,HW.out⟩
theorem p9 (S:Swg) (base:Nat) (w:World) (h:iD w base S) (hs:S.Small) (ht:S.tot≤2000000) :
  Calls Tryz.prog 11 #[.agg S.cells,.int .i64 1] w fun e w'=>e=.returned (.int .i64 ((S.Bb 1:Nat):Int))∧xW w' base 1 S∧Touch S.all w w':=by
 have HO:Hid (iD w base S):=h
 have HS:Hid S.Small:=hs
 have HC:Hid (oG S.L S.nL≤6000000):=Bl ht
 have hb:S.nE≤2000000∧S.N.nU≤2000000∧S.N.nP≤2000000∧S.nK≤2000000:=by unfold Swg.tot at ht;omega
 have HN:Hid (S.nE≤2000000∧S.N.nU≤2000000∧S.N.nP≤2000000∧S.nK≤2000000∧S.nE+S.N.nU+S.N.nP+S.nK≤2000000):=by unfold Swg.tot at ht;rw [Hid];omega
 obtain ⟨W,eW⟩:∃ W,w.alloc (.cells S.cells 43)=W:=⟨_,rfl⟩
 have HB:Hid (Below (w.heap.size+1) (w.alloc (.cells S.cells 43)) W):=by rw [eW];exact Below.refl _ _
 have HW:Hid (Below w.heap.size w W):=under HB.out
 have HK:Hid (W.heap[w.heap.size]?=some (.cells S.cells 43 (0,0))):=by rw [←eW];exact fK _ _
 have Hno:Hid (w.heap.size∉S.all):=fun hx=>by have:=(h.all _ hx).2;omega
 have HA:Hid ((∀ x∈ib S.aE (S.nE*3),x∈S.all)∧(∀ x∈ib S.N.aU S.N.nU,x∈S.all)∧(∀ x∈ib S.N.aP S.N.nP,x∈S.all)∧(∀ x∈ib S.aK (S.nK*8),x∈S.all)∧∀ x∈Br S.aL S.nL S.L,x∈S.all):=⟨fun x hx=>List.mem_append_left _ hx,fun x hx=>List.mem_append_right _ (List.mem_append_left _ hx),fun x hx=>List.mem_append_right _ (List.mem_append_right _ (List.mem_append_left _ hx)),fun x hx=>List.mem_append_right _ (List.mem_append_right _ (List.mem_append_right _ (List.mem_append_left _ hx))),fun x hx=>List.mem_append_right _ (List.mem_append_right _ (List.mem_append_right _ (List.mem_append_right _ hx)))⟩
 have c9:W.cell? ⟨w.heap.size,9,none⟩=some (.slice S.aE S.nE S.cE):=fF HK.out 9
 have Q0:iD W base S:=h.up HW.out
 have HQ0:Hid (iD W base S):=Q0
 have HL0:Hid (VL W base S.aL S.nL S.L):=Q0.vl
 clear h hs ht Q0 hb
 go_enter Tryz.func11,Tryz.ntmps11
 go_wp2_with fail
 clear eW c9
 refine (xj S.aE S.nE S.cE 1 base _ _ HQ0.out.e HS.out.e (by omega)).mono ?_
 rintro e w1 ⟨rfl,hv,ht⟩
 rw [show 1+S.nE*3=S.m1 1 from rfl]
 have hty:=HQ0.out.e.type
 have HE:Hid (VT 92 w1 base S.aE (S.nE*3) (kc 1)):=hv
 have HU:Hid (VT 2 w1 base S.N.aU S.N.nU fun i=>.int .i64 (S.N.u i)):=HQ0.out.u.se ht hty (by decide)
 have HP:Hid (VT 4 w1 base S.N.aP S.N.nP fun i=>.bool (S.N.p i)):=HQ0.out.p.se ht hty (by decide)
 have HKk:Hid (VT 94 w1 base S.aK (S.nK*8) (pv S.K)):=HQ0.out.k.se ht hty (by decide)
 replace HL0:Hid (VL w1 base S.aL S.nL S.L):=HL0.out.imp (fun g hl=>hl.se ht hty (by decide) (by decide) (by decide))
 replace HK:Hid (w1.heap[w.heap.size]?=some (.cells S.cells 43 (0,0))):=(ht.block _ (fG HK.out) (fun hx=>Hno.out (HA.out.1 _ hx))).trans HK.out
 have HT:Hid (Touch S.all w w1):=(Touch.gY HW.out).trans (ht.mono HA.out.1)
 have c10:w1.cell? ⟨w.heap.size,10,none⟩=some (.slice S.N.aU S.N.nU S.N.cU):=fF HK.out 10
 have c11:w1.cell? ⟨w.heap.size,11,none⟩=some (.int .i64 S.N.lo):=fF HK.out 11
 have c12:w1.cell? ⟨w.heap.size,12,none⟩=some (.slice S.N.aP S.N.nP S.N.cP):=fF HK.out 12
 clear hv ht hty
 go_wp2_with fail
 clear c10 c11 c12
 refine (u5 S.N (S.m1 1) base _ HU.out HP.out HS.out.n (by have:=HN.out;unfold Swg.m1;omega)).mono ?_
 rintro e w3 ⟨rfl,w2,t1,hv1,hv2,t2,ty4⟩
 rw [show S.m1 1+S.N.nU+S.N.nP=S.m3 1 from rfl]
 have ty2:=HU.out.type
 have HE3:Hid (VT 92 w3 base S.aE (S.nE*3) (kc 1)):=(HE.out.se t1 ty2 (by decide)).se t2 ty4 (by decide)
 have HU3:Hid (VT 2 w3 base S.N.aU S.N.nU fun i=>.int .i64 ((S.m1 1+i:Nat):Int)):=hv1.se t2 ty4 (by decide)
 have HP3:Hid (VT 4 w3 base S.N.aP S.N.nP fun i=>.bool (mb (S.m2 1+i))):=hv2
 have HK3:Hid (VT 94 w3 base S.aK (S.nK*8) (pv S.K)):=(HKk.out.se t1 ty2 (by decide)).se t2 ty4 (by decide)
 replace HL0:Hid (VL w3 base S.aL S.nL S.L):=(HL0.out.imp (fun g hl=>hl.far2 t1 ty2 HO.out.un)).imp (fun g hl=>hl.se t2 ty4 (by decide) (by decide) (by decide))
 replace HK:Hid (w3.heap[w.heap.size]?=some (.cells S.cells 43 (0,0))):=by
  have q1:=(t1.block _ (fG HK.out) (fun hx=>Hno.out (HA.out.2.1 _ hx))).trans HK.out
  exact (t2.block _ (fG q1) (fun hx=>Hno.out (HA.out.2.2.1 _ hx))).trans q1
 replace HT:Hid (Touch S.all w w3):=(HT.out.trans (t1.mono HA.out.2.1)).trans (t2.mono HA.out.2.2.1)
 have c13:w3.cell? ⟨w.heap.size,13,none⟩=some (.slice S.aK S.nK S.cK):=fF HK.out 13
 clear HE HU HP HKk t1 hv1 hv2 t2 ty4 ty2
 go_wp2_with fail
 clear c13
 refine (xi S.aK S.nK S.cK (S.m3 1) base _ _ HK3.out HS.out.k (by have:=HN.out;unfold Swg.m3 Swg.m2 Swg.m1;omega)).mono ?_
 rintro e w4 ⟨rfl,hv,ht⟩
 rw [show S.m3 1+S.nK*8=S.m4 1 from rfl]
 have hty:=HK3.out.type
 have HE4:Hid (VT 92 w4 base S.aE (S.nE*3) (kc 1)):=HE3.out.se ht hty (by decide)
 have HU4:Hid (VT 2 w4 base S.N.aU S.N.nU fun i=>.int .i64 ((S.m1 1+i:Nat):Int)):=HU3.out.se ht hty (by decide)
 have HP4:Hid (VT 4 w4 base S.N.aP S.N.nP fun i=>.bool (mb (S.m2 1+i))):=HP3.out.se ht hty (by decide)
 have HK4:Hid (VT 94 w4 base S.aK (S.nK*8) (jm (S.m3 1))):=hv
 replace HL0:Hid (VL w4 base S.aL S.nL S.L):=HL0.out.imp (fun g hl=>hl.se ht hty (by decide) (by decide) (by decide))
 replace HK:Hid (w4.heap[w.heap.size]?=some (.cells S.cells 43 (0,0))):=(ht.block _ (fG HK.out) (fun hx=>Hno.out (HA.out.2.2.2.1 _ hx))).trans HK.out
 replace HT:Hid (Touch S.all w w4):=HT.out.trans (ht.mono HA.out.2.2.2.1)
 have c14:w4.cell? ⟨w.heap.size,14,none⟩=some (.slice S.aL S.nL S.cL):=fF HK.out 14
 clear HE3 HU3 HP3 HK3 hv ht hty
 go_wp2_with fail
 clear c14
 refine (xh S.aL S.nL S.cL (S.m4 1) base S.L _ HL0.out HS.out.l (by have:=HN.out;unfold Swg.m4 Swg.m3 Swg.m2 Swg.m1;omega) (by have:=HC.out;omega) HS.out.ls).mono ?_
 rintro e w5 ⟨rfl,hv,ht⟩
 rw [show S.m4 1+oG S.L S.nL=S.Bb 1 from rfl]
 have HF:Hid (xW w5 base 1 S∧Touch S.all w w5):=by
  have hne:∀ {t:TypeId} {a:Option Addr} {n:Nat} {f:Nat→Value},VT t w4 base a n f→t≠2→t≠99→VT t w5 base a n f:=fun hx h2 h3=>hx.fL ht (fun x hx1 hy=>by
   obtain ⟨cs,e1⟩:=hx.type x hx1
   rcases HL0.out with h0 | ⟨g,ea,hg,hl⟩
   ·
    rw [h0] at hy;simp [Br,ib] at hy
   ·
    rcases List.mem_append.1 hy with hy | hy
    ·
     rw [ea] at hy
     rw [j9 hy] at e1
     exact hl.C0 e1 (fun e=>h3 e.symm) rfl
    ·
     simp only [List.mem_flatMap,List.mem_range] at hy
     obtain ⟨i,hi,hy⟩:=hy
     obtain ⟨cs',e2⟩:=(hl.ls i hi).type2 x hy
     rw [e1] at e2
     simp at e2
     exact h2 e2.2)
  have hu:VT 2 w5 base S.N.aU S.N.nU fun i=>.int .i64 ((S.m1 1+i:Nat):Int):=HU4.out.fL ht (fun x hx hy=>by
   rcases List.mem_append.1 hy with hy | hy
   ·
    obtain ⟨cs,e1⟩:=HU4.out.type x hx
    rcases HL0.out with h0 | ⟨g,ea,hg,hl⟩
    ·
     rw [h0] at hy;simp [ib] at hy
    rw [ea] at hy
    rw [j9 hy] at e1
    exact hl.C0 e1 (by decide) rfl
   ·
    simp only [List.mem_flatMap,List.mem_range] at hy
    obtain ⟨i,hi,hy⟩:=hy
    exact HO.out.un i hi x hy hx)
  exact ⟨⟨hne HE4.out (by decide) (by decide),hu,hne HP4.out (by decide) (by decide),hne HK4.out (by decide) (by decide),hv⟩,HT.out.trans (ht.mono HA.out.2.2.2.2)⟩
 clear hv ht
 go_wp2_with fail
 go_ret
 exact ⟨rfl,HF.out⟩
theorem qj (S:Swg) (base:Nat) (w:World) (h:xW w base 1 S) (hs:S.Small) (ht:S.tot≤2000000) :
  Calls Tryz.prog 12 #[.agg S.cells,.int .i64 1] w fun e w'=>e=.returned (.int .i64 ((S.Bb 1:Nat):Int))∧Below w.heap.size w w':=by
 have HO:Hid (xW w base 1 S):=h
 have HS:Hid S.Small:=hs
 have HC:Hid (oG S.L S.nL≤6000000):=Bl ht
 have HN:Hid (S.nE+S.N.nU+S.N.nP+S.nK≤2000000):=by unfold Swg.tot at ht;rw [Hid];omega
 obtain ⟨W,eW⟩:∃ W,w.alloc (.cells S.cells 43)=W:=⟨_,rfl⟩
 have HB:Hid (Below (w.heap.size+1) (w.alloc (.cells S.cells 43)) W):=by rw [eW];exact Below.refl _ _
 have c9:W.cell? ⟨w.heap.size,9,none⟩=some (.slice S.aE S.nE S.cE):=boxed HB.out 9
 clear h hs ht
 go_enter Tryz.func12,Tryz.ntmps12
 go_wp2_with fail
 clear eW c9
 refine (xy S.aE S.nE S.cE 1 base _ (HO.out.e.up (under HB.out)) HS.out.e (by omega)).mono ?_
 rintro e w1 ⟨rfl,hb⟩
 rw [show 1+S.nE*3=S.m1 1 from rfl]
 replace HB:Hid (Below (w.heap.size+1) (w.alloc (.cells S.cells 43)) w1):=next HB.out hb
 have c10:w1.cell? ⟨w.heap.size,10,none⟩=some (.slice S.N.aU S.N.nU S.N.cU):=boxed HB.out 10
 have c11:w1.cell? ⟨w.heap.size,11,none⟩=some (.int .i64 S.N.lo):=boxed HB.out 11
 have c12:w1.cell? ⟨w.heap.size,12,none⟩=some (.slice S.N.aP S.N.nP S.N.cP):=boxed HB.out 12
 clear hb
 go_wp2_with fail
 clear c10 c11 c12
 refine (vk S.N (S.m1 1) base _ (HO.out.u.up (under HB.out)) (HO.out.p.up (under HB.out)) HS.out.n (by have:=HN.out;unfold Swg.m1;omega)).mono ?_
 rintro e w2 ⟨rfl,hb⟩
 rw [show S.m1 1+S.N.nU+S.N.nP=S.m3 1 from rfl]
 replace HB:Hid (Below (w.heap.size+1) (w.alloc (.cells S.cells 43)) w2):=next HB.out hb
 have c13:w2.cell? ⟨w.heap.size,13,none⟩=some (.slice S.aK S.nK S.cK):=boxed HB.out 13
 clear hb
 go_wp2_with fail
 clear c13
 refine (xx S.aK S.nK S.cK (S.m3 1) base _ (HO.out.k.up (under HB.out)) HS.out.k (by have:=HN.out;unfold Swg.m3 Swg.m2 Swg.m1;omega)).mono ?_
 rintro e w3 ⟨rfl,hb⟩
 rw [show S.m3 1+S.nK*8=S.m4 1 from rfl]
 replace HB:Hid (Below (w.heap.size+1) (w.alloc (.cells S.cells 43)) w3):=next HB.out hb
 have c14:w3.cell? ⟨w.heap.size,14,none⟩=some (.slice S.aL S.nL S.cL):=boxed HB.out 14
 clear hb
 go_wp2_with fail
 clear c14
 refine (xw S.aL S.nL S.cL (S.m4 1) base S.L _ ((HO.out.up (under HB.out)).l) HS.out.l (by have:=HN.out;unfold Swg.m4 Swg.m3 Swg.m2 Swg.m1;omega) (by have:=HC.out;omega) HS.out.ls).mono ?_
 rintro e w4 ⟨rfl,rfl⟩
 rw [show S.m4 1+oG S.L S.nL=S.Bb 1 from rfl]
 have B9:=under HB.out
 go_wp2_with fail
 go_ret
 exact ⟨rfl,B9⟩
theorem sF (x:Pkt) (left:Int) (w:World) (h0:0≤left) (h1:left≤1048576) (hf:x.b.size≤maxLen) :
  Calls Tryz.prog 43 #[.agg x.cells,.int .i64 left] w fun e w'=>(∃ r:Int,e=.returned (.int .i64 r)∧(r=-1∨0≤r∧x.b.size≤1048576∧r≤left))∧Below w.heap.size w w':=by
 obtain ⟨W,eW⟩:∃ W,w.alloc (.cells x.cells 81)=W:=⟨_,rfl⟩
 have hB:Below (w.heap.size+1) (w.alloc (.cells x.cells 81)) W:=by rw [eW];exact Below.refl _ _
 have hb0:=under hB
 have kS:=boxed hB
 have c3:W.cell? ⟨w.heap.size,3,none⟩=some (.int .i64 x.k):=kS 3
 have c4:W.cell? ⟨w.heap.size,4,none⟩=some (.int .i64 x.d):=kS 4
 have c5:W.cell? ⟨w.heap.size,5,none⟩=some (.int .i64 x.s):=kS 5
 have c6:W.cell? ⟨w.heap.size,6,none⟩=some (.int .i64 x.p):=kS 6
 have c7:W.cell? ⟨w.heap.size,7,none⟩=some (.string x.b):=kS 7
 have HB:Hid (Below w.heap.size w W):=hb0
 clear kS hB hb0
 go_enter Tryz.func43,Tryz.ntmps43
 go_wp2_with fail
 clear eW
 refine (oX x.k x.d x.s x.p left x.b _ hf h0 h1).mono ?_
 rintro e w1 ⟨rfl,hb1⟩
 have HB1:Hid (Below w.heap.size w w1):=HB.out.trans (hb1.mono HB.out.size)
 clear hb1 c3 c4 c5 c6 c7
 by_cases hl:left<x.b.size
 ·
  rw [if_pos hl]
  go_wp2_with fail
  go_ret
  exact ⟨⟨_,rfl,.inl rfl⟩,HB1.out⟩
 rw [if_neg hl]
 have hr0:¬ left-x.b.size<0:=by omega
 go_wp2_with fail
 go_ret
 exact ⟨⟨_,rfl,.inr ⟨by omega,by omega,by omega⟩⟩,HB1.out⟩
theorem qA (a:Option Addr) (n cap:Nat) (K:Nat→Pkt) (left:Int) (w:World) (h0:0≤left) (h1:left≤1048576) (hn:n≤maxLen) (hf:∀ i,i<n→(K i).b.size≤maxLen) (h:kK w a n K) :
  Calls Tryz.prog 15 #[.slice a n cap,.int .i64 left] w fun e w'=>(∃ r:Int,e=.returned (.int .i64 r)∧(r=-1∨0≤r∧n≤1048576∧(∀ i,i<n→(K i).b.size≤1048576)∧r+n≤left))∧Below w.heap.size w w':=by
 have hm:(n:Int)≤9223372036854775807:=by unfold maxLen at hn;omega
 have HR:Hid (kK w a n K):=h
 have HF:Hid (∀ i,i<n→(K i).b.size≤maxLen):=hf
 clear h hf
 by_cases h2:left-n<0
 ·
  go_enter Tryz.func15,Tryz.ntmps15
  go_wp2_with fail
  go_ret
  exact ⟨⟨_,rfl,.inl rfl⟩,Below.refl _ _⟩
 go_enter Tryz.func15,Tryz.ntmps15
 go_wp2_with fail
 go_loopw [1,5] (fun x i wr=>∃ (k:Nat) (r:Int),k≤n∧i=.int .i64 k∧x=.int .i64 r∧0≤r∧Hid (r+n≤left∧∀ j,j<k→(K j).b.size≤1048576)∧Below w.heap.size w wr) (fun _ i _=>n-(intOf i).toNat)
 case atStart=>exact ⟨0,left-n,Nat.zero_le _,rfl,rfl,by omega,⟨by omega,fun j hj=>by omega⟩,Below.refl _ _⟩
 obtain ⟨k,r,hk,rfl,rfl,r0,HS,hB⟩:=hrel
 by_cases hlt:k<n
 ·
  have hlt':(k:Int)<n:=by omega
  obtain ⟨g,o,ha,hc⟩:=(HR.out.up hB) k hlt
  subst ha
  have HC:Hid (∀ j,j<8→wr.cell? ⟨g,o+k*8+j,none⟩=(K k).cells[j]?):=hc
  clear hc
  go_wp2_with (refine fM rfl 81 8 _ Tryz.underlying81 rfl yW (.tmp 20) rfl g (o+k*8) rfl (K k).cells rfl HC.out ?_)
  refine (sF (K k) r _ r0 (by have:=HS.out.1;omega) (HF.out k hlt)).mono ?_
  rintro e w1 ⟨⟨r',rfl,hr⟩,hb1⟩
  have HB1:Hid (Below w.heap.size w w1):=hB.trans (hb1.mono hB.size)
  clear hb1 hB HC
  rcases hr with rfl | ⟨r0',hsm,hr9⟩
  ·
   go_wp2_with fail
   go_ret
   exact ⟨⟨_,rfl,.inl rfl⟩,HB1.out⟩
  have HN:Hid (r'+n≤left∧∀ j,j<k+1→(K j).b.size≤1048576):=⟨by have:=HS.out.1;omega,fun j hj=>by
    by_cases e:j=k
    ·
     subst e;exact hsm
    ·
     exact HS.out.2 j (by omega)⟩
  have hr0:¬ r'<0:=by omega
  clear hsm hr9 HS
  go_wp2_with fail
  go_roundw
  case rel=>exact ⟨k+1,r',by omega,by go_num,rfl,r0',HN,HB1.out⟩
  case measure=>simp [intOf];omega
 obtain rfl:k=n:=by omega
 go_wp2_with fail
 go_ret
 exact ⟨⟨_,rfl,.inr ⟨r0,by omega,HS.out.2,HS.out.1⟩⟩,hB⟩
theorem sC (S:Swg) (w:World) (hf:S.Fit) (h:jL w S) :
  Calls Tryz.prog 4 #[.agg S.cells,.int .i64 1048576] w fun e w'=>(∃ r:Int,e=.returned (.int .i64 r)∧(r=-1∨0≤r∧S.Small∧S.tot≤1048576∧r≤1048576))∧Below w.heap.size w w':=by
 have HR:Hid (jL w S):=h
 have HF:Hid S.Fit:=hf
 obtain ⟨W,eW⟩:∃ W,w.alloc (.cells S.cells 32)=W:=⟨_,rfl⟩
 have hB:Below (w.heap.size+1) (w.alloc (.cells S.cells 32)) W:=by rw [eW];exact Below.refl _ _
 have kS:=boxed hB
 have c9:W.cell? ⟨w.heap.size,9,none⟩=some (.slice S.aE S.nE S.cE):=kS 9
 have c10:W.cell? ⟨w.heap.size,10,none⟩=some (.slice S.N.aU S.N.nU S.N.cU):=kS 10
 have c11:W.cell? ⟨w.heap.size,11,none⟩=some (.int .i64 S.N.lo):=kS 11
 have c12:W.cell? ⟨w.heap.size,12,none⟩=some (.slice S.N.aP S.N.nP S.N.cP):=kS 12
 clear h hf kS
 go_enter Tryz.func4,Tryz.ntmps4
 go_wp2_with fail
 clear eW
 refine (uK S.aE S.nE S.cE 1048576 _ HF.out.e (by omega) (by omega)).mono ?_
 rintro e w1 ⟨⟨r,rfl,hr⟩,rfl⟩
 rcases hr with rfl | ⟨r0,hn1,hs1⟩
 ·
  have B9:=under hB
  exact fa
 have hr0:¬ r<0:=by omega
 go_wp2_with fail
 refine (qB S.N r _ r0 (by omega) HF.out.n).mono ?_
 rintro e w2 ⟨⟨r2,rfl,hr2⟩,hb2⟩
 replace hB:=next hB hb2
 clear hb2 c9 c10 c11 c12
 rcases hr2 with rfl | ⟨r20,hn2,hs2⟩
 ·
  have B9:=under hB
  exact fa
 have hr20:¬ r2<0:=by omega
 have c13:w2.cell? ⟨w.heap.size,13,none⟩=some (.slice S.aK S.nK S.cK):=boxed hB 13
 have HN2:Hid S.N.Small:=hn2
 clear hn2
 go_wp2_with fail
 refine (qA S.aK S.nK S.cK S.K r2 _ r20 (by omega) HF.out.k HF.out.b (HR.out.k.up (under hB))).mono ?_
 rintro e w3 ⟨⟨r3,rfl,hr3⟩,hb3⟩
 replace hB:=next hB hb3
 clear hb3 c13
 rcases hr3 with rfl | ⟨r30,hn3,hb3,hs3⟩
 ·
  have B9:=under hB
  exact fa
 have hr30:¬ r3<0:=by omega
 have c14:w3.cell? ⟨w.heap.size,14,none⟩=some (.slice S.aL S.nL S.cL):=boxed hB 14
 have HK:Hid (∀ i,i<S.nK→(S.K i).b.size≤1048576):=hb3
 clear hb3
 go_wp2_with fail
 refine (uJ S.aL S.nL S.cL S.L r3 _ r30 (by omega) HF.out.l HF.out.ls (HR.out.l.up (under hB)) (fun i hi=>(HR.out.ls i hi).up (under hB))).mono ?_
 rintro e w4 ⟨⟨r4,rfl,hr4⟩,hb4⟩
 replace hB:=next hB hb4
 clear hb4 c14
 have B9:=under hB
 rcases hr4 with rfl | ⟨r40,hn4,hl4,hs4⟩
 · exact fa
 have hr40:¬ r4<0:=by omega
 have HS:Hid (S.Small∧S.tot≤1048576∧r4≤1048576):=⟨⟨hn1,HN2.out,hn3,HK.out,hn4,hl4⟩,by
  show S.nE+(S.N.nU+S.N.nP)+S.nK+(S.nL+iy (fun i=>(S.L i).tot) S.nL)≤1048576
  omega,by omega⟩
 clear hl4 hs4 hs3 hs2 hs1 hB
 go_wp2_with fail
 go_ret
 exact ⟨⟨_,rfl,.inr ⟨r40,HS.out.1,HS.out.2⟩⟩,B9⟩
open Go.ChangeShapes Go.WideShapes Go.ChangeAt Go.RowKit
theorem vY:laidOutB Tryz.prog=true:=by kernel_rfl
theorem Cy:ownKnob Tryz.prog.godebug=none:=by kernel_rfl
theorem zO (b off i:Nat):(⟨b,off,none⟩:Addr).add i=⟨b,off+i,none⟩:=by unfold Addr.add;split <;> simp_all
theorem qN {H:Type} {enc:TypeId × Value→H} {W:World} {held:Bool} {fuel:Nat} {v:Value} {x:DataW H × List MemPlace}
  (h:DataW.trod enc Tryz.prog W 0 (fun _=>true) held fuel 26 [v]=some x):∃ (a:Option Addr) (n c:Nat) (f:Nat→Bool),v=.slice a n c∧n≤maxLen∧fW W a n (fun i=>.bool (f i)):=by
 rcases Go.Deep.open_bools Tryz.underlying26 Tryz.underlying4 (by kernel_rfl) h with ⟨hcs,_⟩ | ⟨x,l,c,B,hcs,_,hl,hm,_,hcell⟩
 ·
  simp at hcs
  exact ⟨_,_,_,fun _=>false,hcs,Nat.zero_le _,fW.nil _ _ _⟩
 simp at hcs
 refine ⟨_,_,_,B,hcs,by omega,fun i hi=>?_⟩
 have hci:=hcell i (by omega)
 obtain ⟨b,off,spot⟩:=x
 have hspot:spot=none:=by simpa [Addr.add] using World.cell?_spot (hcell 0 (by omega))
 subst hspot
 refine ⟨b,off,rfl,?_⟩
 rw [zO] at hci
 exact hci
theorem np (b off i:Nat):(⟨b,off,none⟩:Addr).add i=⟨b,off+i,none⟩:=by unfold Addr.add;split <;> simp_all
theorem kj {H:Type} {enc:TypeId × Value→H} {W:World} {held:Bool} {fuel:Nat} {v:Value} {x:DataW H × List MemPlace}
  (h:DataW.trod enc Tryz.prog W 0 (fun _=>true) held fuel 25 [v]=some x):∃ (a:Option Addr) (n c:Nat) (f:Nat→Int),v=.slice a n c∧n≤maxLen∧fW W a n (fun i=>.int .i64 (f i)):=by
 rcases open_ints Tryz.underlying25 Tryz.underlying2 (by kernel_rfl) h with ⟨hcs,_⟩ | ⟨x,l,c,zs,hcs,_,hl,hm,hz,_,hcell,hwz⟩
 ·
  simp at hcs
  exact ⟨_,_,_,fun _=>0,hcs,Nat.zero_le _,fW.nil _ _ _⟩
 simp at hcs
 refine ⟨_,_,_,fun i=>zs.getD i 0,hcs,by omega,fun i hi=>?_⟩
 have hz':zs.length=c:=by simpa using hz
 have hci:=hcell i (by omega)
 obtain ⟨b,off,spot⟩:=x
 have hspot:spot=none:=by simpa [Addr.add] using World.cell?_spot (hcell 0 (by omega))
 subst hspot
 refine ⟨b,off,rfl,?_⟩
 rw [np] at hci
 exact hci
theorem p8 {H:Type} {enc:TypeId × Value→H} {W:World} {held:Bool} {fuel:Nat} {v:Value} {x:DataW H × List MemPlace}
  (h:DataW.trod enc Tryz.prog W 0 (fun _=>true) held fuel 83 [v]=some x):∃ (a:Option Addr) (n c:Nat) (A:Nat→Option Addr) (L C:Nat→Nat) (z:Nat→Nat→Int),v=.slice a n c∧n≤maxLen∧fW W a n (fun i=>.slice (A i) (L i) (C i))∧(∀ i,i<n→L i≤maxLen)∧∀ i,i<n→fW W (A i) (L i) (fun j=>.int .i64 (z i j)):=by
 rcases Go.Deep.open_int_rows Tryz.underlying83 Tryz.underlying25 Tryz.underlying2 (by kernel_rfl) (by kernel_rfl) h with ⟨hcs,_⟩ | ⟨a,len,cap,A,L,C,Z,hcs,_,hl,hm,_,hx⟩
 ·
  simp at hcs
  exact ⟨_,_,_,fun _=>none,fun _=>0,fun _=>0,fun _ _=>0,hcs,Nat.zero_le _,fW.nil _ _ _,fun i hi=>by omega,fun i hi=>by omega⟩
 simp at hcs
 refine ⟨_,_,_,A,L,C,fun i j=>(Z i).getD j 0,hcs,by omega,fun i hi=>?_,fun i hi=>?_,fun i hi j hj=>?_⟩
 ·
  have hci:=(hx i (by omega)).1
  obtain ⟨b,off,spot⟩:=a
  have hspot:spot=none:=by simpa [Addr.add] using World.cell?_spot (hx 0 (by omega)).1
  subst hspot
  rw [np] at hci
  exact ⟨b,off,rfl,hci⟩
 ·
  have h1:=hx i (by omega)
  have:=h1.2.1
  have:=h1.2.2.1
  omega
 have h1:=hx i (by omega)
 have hLC:=h1.2.1
 cases hA:A i with
 | none =>
  have:=h1.2.2.2.2.2.1 hA
  omega
 | some a' =>
  have hc:=h1.2.2.2.2.2.2 a' hA
  have hci:=hc.2 j (by omega)
  obtain ⟨b,off,spot⟩:=a'
  have hspot:spot=none:=by simpa [Addr.add] using World.cell?_spot (hc.2 0 (by omega))
  subst hspot
  rw [np] at hci
  exact ⟨b,off,rfl,hci⟩
theorem zN (b off i:Nat):(⟨b,off,none⟩:Addr).add i=⟨b,off+i,none⟩:=by unfold Addr.add;split <;> simp_all
theorem uT {H:Type} {enc:TypeId × Value→H} {W:World} {held:Bool} {fuel:Nat} {v:Value} {x:DataW H × List MemPlace}
  (h:DataW.trod enc Tryz.prog W 0 (fun _=>true) held fuel 24 [v]=some x):∃ (a:Option Addr) (n c:Nat) (f:Nat→Ent),v=.slice a n c∧n≤maxLen∧iu W a n f:=by
 rcases Go.Deep.open_slice Tryz.underlying24 h with ⟨hcs,_⟩ | ⟨a,len,cap,m,n,D,Pl,hcs,hb,hl,hm,hmm,_,hx⟩
 ·
  simp at hcs
  exact ⟨_,_,_,fun _=>default,hcs,Nat.zero_le _,iu.nil _ _ _⟩
 simp at hcs hmm
 subst hmm
 have each:∀ i,i<m→∃ y:Ent,W.cell? (a.add (i*3))=some (.int .i64 y.m)∧W.cell? (a.add (i*3+1))=some (.int .i64 y.p)∧W.cell? (a.add (i*3+2))=some (.int .i64 y.t):=by
  intro i hi
  obtain ⟨cs',h1,h2⟩:=hx i hi
  rw [show Tryz.prog.cellsOf 108=3 by kernel_rfl] at h1
  obtain ⟨_,hlen,hcell⟩:=World.cells?_some h1
  obtain ⟨xs,k,hk,hxy,_,hxl,hf⟩:=DataW.trod_struct Tryz.underlying108 h2
  match xs,hxl,cs',hlen with
  | [y0,y1,y2],_,[v0,v1,v2],_ =>
   have g0:=hf 0 _ rfl
   have g1:=hf 1 _ rfl
   have g2:=hf 2 _ rfl
   simp [show Tryz.prog.cellsOf 2=1 by kernel_rfl] at g0 g1 g2
   obtain ⟨z0,q0,_,_⟩:=DataW.trod_int Tryz.underlying2 g0
   obtain ⟨z1,q1,_,_⟩:=DataW.trod_int Tryz.underlying2 g1
   obtain ⟨z2,q2,_,_⟩:=DataW.trod_int Tryz.underlying2 g2
   simp at q0 q1 q2
   subst q0 q1 q2
   have e0:=hcell 0 (by omega)
   have e1:=hcell 1 (by omega)
   have e2:=hcell 2 (by omega)
   rw [Go.Deep.add_add] at e0 e1 e2
   exact ⟨⟨z0,z1,z2⟩,by simpa using e0,by simpa using e1,by simpa using e2⟩
 obtain ⟨f,hf⟩:=Go.Deep.choose_lt each
 refine ⟨_,_,_,f,hcs,by omega,fun i hi=>?_⟩
 obtain ⟨q1,q2,q3⟩:=hf i (by omega)
 obtain ⟨b,off,spot⟩:=a
 have hspot:spot=none:=by simpa [Addr.add] using World.cell?_spot (hf 0 (by omega)).1
 subst hspot
 rw [zN] at q1 q2 q3
 exact ⟨b,off,rfl,q1,q2,q3⟩
end Go.Proofs.YtjaobmbcmjgjgaaGreatDoor
