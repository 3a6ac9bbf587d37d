import Derived.Test.YtjaobmbcmjgjgaaGreatDoorA04
import Derived.Test.YtjaobmbcmjgjgaaGreatDoorA05
import Derived.Deep.MidRow
import Derived.Lib.AppendZeros
import Derived.Maps.AppendAt
import Derived.Room.AppendFits
namespace Go.Proofs.YtjaobmbcmjgjgaaGreatDoor
set_option maxHeartbeats 2000000
open Go.RowKit
set_option linter.unusedVariables false
theorem b7 {p:Prop} (h:p:=by
 go_wp2_with fail
 go_ret
 exact ⟨⟨_,rfl,.inl rfl⟩,HA.out _⟩):p:=h
theorem b8 {p:Prop} (h:p:=by
 go_wp2_with fail
 go_ret
 exact ⟨⟨_,rfl,.inl rfl⟩,rfl⟩):p:=h
theorem b9 {p:Prop} (h:p:=by
 go_wp2_with fail
 go_ret
 exact ⟨⟨_,rfl,.inr (by omega)⟩,rfl⟩):p:=h
theorem cf {p:Prop} (h:p:=by
 go_enter Tryz.func5,Tryz.ntmps5
 go_wp2
 go_ret
 exact ⟨rfl,(Below.refl _ _).alloc (Nat.le_refl _) _⟩):p:=h
theorem cg {p:Prop} (h:p:=by
 rcases h with rfl | ⟨g,rfl,_,hr⟩
 ·
  exact fW.nil _ _ _
 exact hr.read):p:=h
theorem oX (k d s p left:Int) (b:ByteArray) (w:World) (hb:b.size≤maxLen) (h0:0≤left) (h1:left≤1048576) :
  Calls Tryz.prog 5 #[.agg #[.int .i64 k,.int .i64 d,.int .i64 s,.int .i64 p,.string b],.int .i64 left] w fun e w'=>e=.returned (.int .i64 (if left<b.size then -1 else left-b.size))∧Below w.heap.size w w':=by
 unfold maxLen at hb
 by_cases h:left<b.size
 · exact cf
 exact cf
theorem jf (k d s p:Int) (b:ByteArray) (w:World) :
  Calls Tryz.prog 8 #[.agg #[.int .i64 k,.int .i64 d,.int .i64 s,.int .i64 p,.string b]] w fun e w'=>e=.returned (.agg #[.int .i64 k,.int .i64 d,.int .i64 s,.int .i64 p,.string b])∧Below w.heap.size w w':=by
 go_enter Tryz.func8,Tryz.ntmps8
 go_wp2
 exact bodyPost_ret (v:=.agg #[.int .i64 k,.int .i64 d,.int .i64 s,.int .i64 p,.string b]) (by simp [results,Tryz.results8,go_sem]) rfl ⟨rfl,(((Below.refl _ _).alloc (Nat.le_refl _) _).alloc (by simp) _).alloc (by simp;omega) _⟩
set_option linter.unusedSimpArgs false
theorem BS:(Tryz.prog.info? 92).map (fun i=>(i.zero,i.size,i.bytes))=some (some (.agg #[.int .i64 0,.int .i64 0,.int .i64 0]),3,24):=by kernel_rfl
def z8 (n:Nat):Array Value:=madeCells #[.int .i64 0,.int .i64 0,.int .i64 0] (n*3)
theorem yE (n:Nat) (hn:n≤1048576) (w:World):(Instr.makeSlice 38 (.int .i64 (n:Int)) (.int .i64 (n:Int))).run Tryz.prog w=.ok (.slice (some ⟨w.heap.size,0,none⟩) n n) (w.alloc (.cells (z8 n) 92)):=by
 obtain ⟨i0,hi,hz0,hz1,hz2⟩:=info_parts BS
 have:=run_make (P:=Tryz.prog) w 38 92 i0 (.agg #[.int .i64 0,.int .i64 0,.int .i64 0]) Tryz.underlying38 hi hz0 .i64 .i64 (n:Int) (n:Int) (by omega) (by omega) (by rw [hz2];omega) (by omega)
 rw [this,hz1]
 simp [z8,Value.cells]
theorem xZ {w:World} {g n:Nat} (h:w.heap[g]?=some (.cells (z8 n) 92 (0,0))) (f:Nat→Ent):fU g 92 (n*3) (flat f) (0*3) w :=
 ⟨_,h,by simp [z8,size_madeCells],fun i hi=>by omega⟩
theorem sv (w:World) (A B C:Obj):(((w.alloc A).alloc B).alloc C).heap[w.heap.size]?=some A∧(((w.alloc A).alloc B).alloc C).heap[w.heap.size+1]?=some B∧(((w.alloc A).alloc B).alloc C).heap[w.heap.size+1+1]?=some C∧Below w.heap.size w (((w.alloc A).alloc B).alloc C):=by
 have e1:(w.alloc A).heap.size=w.heap.size+1:=by simp
 have e2:((w.alloc A).alloc B).heap.size=w.heap.size+1+1:=by simp
 refine ⟨?_,?_,?_,?_⟩
 ·
  rw [fY _ (by omega),fY _ (by omega),fK]
 ·
  rw [fY _ (by omega),←e1,fK]
 ·
  rw [←e2,fK]
 exact (((Below.refl _ _).alloc (Nat.le_refl _) _).alloc (by omega) _).alloc (by omega) _
theorem uH (m p t:Int) (w:World) :
  Calls Tryz.prog 57 #[.agg #[.int .i64 m,.int .i64 p,.int .i64 t]] w fun e w'=>e=.returned (.agg #[.int .i64 m,.int .i64 p,.int .i64 t])∧Below w.heap.size w w':=by
 go_enter Tryz.func57,Tryz.ntmps57
 have HB:Hid (∀ A B C,Below w.heap.size w (((w.alloc A).alloc B).alloc C)):=fun A B C=>(sv w A B C).2.2.2
 go_wp2_with fail
 have cB:=fF (sv w (.cells #[.int .i64 m,.int .i64 p,.int .i64 t] 108) (.cells #[.int .i64 m,.int .i64 p,.int .i64 t] 92) (.cells #[.int .i64 m,.int .i64 p,.int .i64 t] 92)).2.1
 exact bodyPost_ret (v:=.agg #[.int .i64 m,.int .i64 p,.int .i64 t]) (by simp [results,Tryz.results57,go_sem,cB]) rfl ⟨rfl,HB.out _ _ _⟩
theorem wK (a:Option Addr) (n cap:Nat) (f:Nat→Ent) (w:World) (hn:n≤1048576) (h:iu w a n f) :
  Calls Tryz.prog 20 #[.slice a n cap] w fun e w'=>e=.returned (.slice (some ⟨w.heap.size,0,none⟩) n n)∧fU w.heap.size 92 (n*3) (flat f) (n*3) w'∧Below w.heap.size w w':=by
 have mk:=yE n hn
 go_enter Tryz.func20,Tryz.ntmps20
 go_wp2_with fail
 clear mk
 have HR:Hid (iu w a n f):=h
 clear h
 go_loopw [4] (fun i wr=>∃ k:Nat,k≤n∧i=.int .i64 k∧fU w.heap.size 92 (n*3) (flat f) (k*3) wr∧Below w.heap.size w wr) (fun i _=>n-(intOf i).toNat)
 case atStart=>exact ⟨0,Nat.zero_le _,rfl,xZ (fK w _) f,(Below.refl _ _).alloc (Nat.le_refl _) _⟩
 obtain ⟨k,hk,rfl,hR,hB⟩:=hrel
 by_cases hlt:k<n
 ·
  have hlt':(k:Int)<n:=by omega
  obtain ⟨g,o,rfl,c1,c2,c3⟩:=(HR.out.up hB) k hlt
  go_wp2_with fail
  refine (uH _ _ _ _).mono ?_
  rintro e w1 ⟨rfl,hb1⟩
  have B1:Below w.heap.size w w1:=hB.trans (hb1.mono hB.size)
  have R1:=hR.iB (hb1.block _ hR.lt)
  obtain ⟨v0,q0⟩:=R1.there (k*3) (by omega)
  obtain ⟨v1,q1⟩:=R1.there (k*3+1) (by omega)
  obtain ⟨v2,q2⟩:=R1.there (k*3+2) (by omega)
  have f0:=R1.free (k*3)
  have f1:=R1.free (k*3+1)
  have f2:=R1.free (k*3+2)
  have HS:Hid (fU w.heap.size 92 (n*3) (flat f) ((k+1)*3) (((w1.setCell ⟨w.heap.size,k*3,none⟩ (.int .i64 (f k).m)).setCell ⟨w.heap.size,k*3+1,none⟩ (.int .i64 (f k).p)).setCell ⟨w.heap.size,k*3+2,none⟩ (.int .i64 (f k).t))):=R1.ent hlt
  have HB:Hid (Below w.heap.size w w1):=B1
  clear hb1 c1 c2 c3 R1 B1 hR hB
  go_wp2_with fail
  go_roundw
  case rel=>exact ⟨k+1,by omega,by go_num,HS.out,((HB.out.setCell (Nat.le_refl _) _).setCell (Nat.le_refl _) _).setCell (Nat.le_refl _) _⟩
  case measure=>simp [intOf];omega
 obtain rfl:k=n:=by omega
 go_wp2_with fail
 go_ret
 exact ⟨rfl,hR,hB⟩
theorem vu (m p t:Int) (w:World) :
  Calls Tryz.prog 77 #[.agg #[.int .i64 m,.int .i64 p,.int .i64 t],.agg #[.int .i64 m,.int .i64 p,.int .i64 t]] w fun e w'=>e=.returned (.bool true)∧Below w.heap.size w w':=by
 go_enter Tryz.func77,Tryz.ntmps77
 go_wp2_with fail
 go_ret
 exact ⟨rfl,((Below.refl _ _).alloc (Nat.le_refl _) _).alloc (by simp) _⟩
theorem xH (a1 a2:Option Addr) (n c1 c2:Nat) (f:Nat→Ent) (w:World) (hn:n≤1048576) (h1:iu w a1 n f) (h2:iu w a2 n f) :
  Calls Tryz.prog 29 #[.slice a1 n c1,.slice a2 n c2] w fun e w'=>e=.returned (.bool true)∧Below w.heap.size w w':=by
 have H1:Hid (iu w a1 n f):=h1
 have H2:Hid (iu w a2 n f):=h2
 clear h1 h2
 go_enter Tryz.func29,Tryz.ntmps29
 go_wp2_with fail
 go_loopw [5] (fun i wr=>∃ k:Nat,k≤n∧i=.int .i64 k∧Below w.heap.size w wr) (fun i _=>n-(intOf i).toNat)
 case atStart=>exact ⟨0,Nat.zero_le _,rfl,Below.refl _ _⟩
 obtain ⟨k,hk,rfl,hB⟩:=hrel
 by_cases hlt:k<n
 ·
  have hlt':(k:Int)<n:=by omega
  obtain ⟨g,o,rfl,c1,c2,c3⟩:=(H1.out.up hB) k hlt
  obtain ⟨g2,o2,rfl,d1,d2,d3⟩:=(H2.out.up hB) k hlt
  go_wp2_with fail
  refine wp_region_held_drew (S:=fun w'=>w'.cell? ⟨g,o+k*3,none⟩=some (.int .i64 (f k).m)∧w'.cell? ⟨g,o+k*3+1,none⟩=some (.int .i64 (f k).p)∧w'.cell? ⟨g,o+k*3+2,none⟩=some (.int .i64 (f k).t)∧w'.cell? ⟨g2,o2+k*3,none⟩=some (.int .i64 (f k).m)∧w'.cell? ⟨g2,o2+k*3+1,none⟩=some (.int .i64 (f k).p)∧w'.cell? ⟨g2,o2+k*3+2,none⟩=some (.int .i64 (f k).t)) (by kernel_rfl) ⟨c1,c2,c3,d1,d2,d3⟩ (fun hHeld=>?_)
  refine t0 ?_
  iterate 7 refine tN ?_
  refine rq1 8 (fun K hK=>?_)
  go_simp
  refine (vu _ _ _ _).mono ?_
  rintro e w1 ⟨rfl,hb1⟩
  have b1:Below wr.heap.size wr w1:=(Below.refl _ _).drew.trans hb1
  have c1:=(b1.cell (p:=⟨g,o+k*3,none⟩) (iI c1)).trans c1
  have c2:=(b1.cell (p:=⟨g,o+k*3+1,none⟩) (iI c2)).trans c2
  have c3:=(b1.cell (p:=⟨g,o+k*3+2,none⟩) (iI c3)).trans c3
  have d1:=(b1.cell (p:=⟨g2,o2+k*3,none⟩) (iI d1)).trans d1
  have d2:=(b1.cell (p:=⟨g2,o2+k*3+1,none⟩) (iI d2)).trans d2
  have d3:=(b1.cell (p:=⟨g2,o2+k*3+2,none⟩) (iI d3)).trans d3
  go_wp2_with fail
  refine hK.out _ _ ⟨c1,c2,c3,d1,d2,d3⟩ (fun hHeld=>?_)
  clear hK K
  try simp only [Act.put,PZ]
  refine tN ?_
  refine dnq ?_
  have HB:Hid (Below w.heap.size w w1):=hB.trans (b1.mono hB.size)
  clear b1 hb1 hB c1 c2 c3 d1 d2 d3 hHeld
  go_wp2_with fail
  go_roundw
  case rel=>exact ⟨k+1,by omega,by go_num,HB.out⟩
  case measure=>simp [intOf];omega
 obtain rfl:k=n:=by omega
 go_wp2_with fail
 go_ret
 exact ⟨rfl,hB⟩
theorem mu {w w1:World} {A B C:Obj} (h:Below (((w.alloc A).alloc B).alloc C).heap.size (((w.alloc A).alloc B).alloc C) w1) :
  w1.heap[w.heap.size]?=some A∧w1.heap[w.heap.size+1]?=some B∧w1.heap[w.heap.size+1+1]?=some C∧Below w.heap.size w w1∧w.heap.size+3≤w1.heap.size:=by
 have e1:(w.alloc A).heap.size=w.heap.size+1:=by simp
 have e2:((w.alloc A).alloc B).heap.size=w.heap.size+1+1:=by simp
 have e3:(((w.alloc A).alloc B).alloc C).heap.size=w.heap.size+1+1+1:=by simp
 rw [e3] at h
 have b1:=fK w A
 have b2:=fK (w.alloc A) B
 rw [e1] at b2
 have b3:=fK ((w.alloc A).alloc B) C
 rw [e2] at b3
 refine ⟨?_,?_,?_,?_,?_⟩
 ·
  rw [h.block _ (by omega),fY _ (by rw [e2];omega),fY _ (by rw [e1];omega)];exact b1
 ·
  rw [h.block _ (by omega),fY _ (by rw [e2];omega)];exact b2
 ·
  rw [h.block _ (by omega)];exact b3
 ·
  exact ((((Below.refl _ _).alloc (Nat.le_refl _) _).alloc (by rw [e1];omega) _).alloc (by rw [e2];omega) _).trans (h.mono (by omega))
 have:=h.size
 omega
def Rnd.copy (R:Rnd) (gQ gD gS:Nat) (G:Nat→Nat):Rnd :=
 ⟨some ⟨gQ,0,none⟩,R.nQ,R.nQ,R.q,some ⟨gD,0,none⟩,R.nD,R.nD,R.d,R.turn,R.fresh,some ⟨gS,0,none⟩,R.nS,R.nS,fun i=>some ⟨G i,0,none⟩,R.L,R.L,R.z⟩
structure ov (w:World) (R:Rnd) (gQ gD gS:Nat) (G:Nat→Nat):Prop where
 q:fU gQ 2 R.nQ (fun i=>.int .i64 (R.q i)) R.nQ w
 d:fU gD 2 R.nD (fun i=>.int .i64 (R.d i)) R.nD w
 s:pO w gS gS R.nS R.nS G R.L R.z
 lt:gQ<gD∧gD<gS
theorem ov.rd {w:World} {R:Rnd} {gQ gD gS:Nat} {G:Nat→Nat} (h:ov w R gQ gD gS G):jw w (R.copy gQ gD gS G) :=
 ⟨h.q.read,h.d.read,h.s.top.read,fun i hi=>(h.s.row i hi).read⟩
theorem ov.up {w w':World} {R:Rnd} {gQ gD gS:Nat} {G:Nat→Nat} (h:ov w R gQ gD gS G) (hb:Below w.heap.size w w'):ov w' R gQ gD gS G :=
 ⟨h.q.iB (hb.block _ h.q.lt),h.d.iB (hb.block _ h.d.lt),h.s.iB hb,h.lt⟩
theorem sI {R:Rnd} (h:R.Small):R.Fit:=⟨by have:=h.q;unfold maxLen;omega,by have:=h.d;unfold maxLen;omega,by have:=h.s;unfold maxLen;omega,fun i hi=>by have:=h.l i hi;unfold maxLen;omega⟩
theorem uF (R:Rnd) (w:World) (hs:R.Small) (h:jw w R) :
  Calls Tryz.prog 99 #[.agg R.cells] w fun e w'=>∃ gQ gD gS G,e=.returned (.agg (R.copy gQ gD gS G).cells)∧w.heap.size≤gQ∧ov w' R gQ gD gS G∧Below w.heap.size w w':=by
 obtain ⟨aQ,nQ,cQ,q,aD,nD,cD,d,turn,fresh,aS,nS,cS,A,L,C,z⟩:=R
 have HR:Hid (jw w ⟨aQ,nQ,cQ,q,aD,nD,cD,d,turn,fresh,aS,nS,cS,A,L,C,z⟩):=h
 have HS:Hid (Rnd.Small ⟨aQ,nQ,cQ,q,aD,nD,cD,d,turn,fresh,aS,nS,cS,A,L,C,z⟩):=hs
 clear h hs
 unfold Rnd.cells
 go_enter Tryz.func99,Tryz.ntmps99
 go_wp2_with fail
 have HA:Hid (∀ A B C,Below w.heap.size w (((w.alloc A).alloc B).alloc C)):=fun A B C=>(((Below.refl _ _).alloc (Nat.le_refl _) _).alloc (by simp) _).alloc (by simp;omega) _
 have e3:∀ A B C,(((w.alloc A).alloc B).alloc C).heap.size=w.heap.size+1+1+1:=fun A B C=>by simp
 refine (kQ aQ nQ cQ q _ HS.out.q (HR.out.q.up (HA.out _ _ _))).mono ?_
 rintro e w1 ⟨rfl,hN,hb1⟩
 obtain ⟨kA,kB,kC,B1,z1⟩:=mu hb1
 rw [e3] at hN
 have cA:=fF kA
 have cC:=fF kC
 have fC:=fZ kC
 have lN:=hN.lt
 clear hb1 HA
 go_wp2_with fail
 obtain ⟨v1,hv1⟩:∃ v1:Value,v1=.slice (some ⟨w.heap.size+1+1+1,0,none⟩) nQ nQ:=⟨_,rfl⟩
 have kA':=(fS (w:=w1) (g:=w.heap.size+1+1) (k:=w.heap.size) (i:=0) (by omega) v1).trans kA
 have kB':=(fS (w:=w1) (g:=w.heap.size+1+1) (k:=w.heap.size+1) (i:=0) (by omega) v1).trans kB
 have kC':(w1.setCell ⟨w.heap.size+1+1,0,none⟩ v1).heap[w.heap.size+1+1]?=some (.cells #[v1,.slice none 0 0,.int .i64 0,.bool false,.slice none 0 0] 97 (0,0)):=gv kC _
 have hN':=hN.iB (fS (w:=w1) (g:=w.heap.size+1+1) (k:=w.heap.size+1+1+1) (i:=0) (by omega) v1)
 have B1':=B1.setCell (p:=⟨w.heap.size+1+1,0,none⟩) (by show _≤_+1+1;omega) v1
 have hz3:(w1.setCell ⟨w.heap.size+1+1,0,none⟩ v1).heap.size=w1.heap.size:=by simp [World.setCell]
 rw [←hv1]
 generalize w1.setCell ⟨w.heap.size+1+1,0,none⟩ v1=W at *
 clear kA kB kC cA cC fC hN B1
 refine (kQ aD nD cD d _ HS.out.d (HR.out.d.up B1')).mono ?_
 rintro e w2 ⟨rfl,hD,hb2⟩
 rw [hz3] at hD hb2
 have kA2:=(hb2.block _ (by omega)).trans kA'
 have kB2:=(hb2.block _ (by omega)).trans kB'
 have kC2:=(hb2.block _ (by omega)).trans kC'
 have hN2:=hN'.iB (hb2.block _ (by omega))
 have B2:Below w.heap.size w w2:=B1'.trans (hb2.mono (by omega))
 have cA:=fF kA2
 have cC:=fF kC2
 have fC:=fZ kC2
 have lD:=hD.lt
 have hzW:w1.heap.size<w2.heap.size:=lD
 clear hb2 kA' kB' kC' hN' B1'
 go_wp2_with fail
 obtain ⟨v2,hv2⟩:∃ v2:Value,v2=.slice (some ⟨w1.heap.size,0,none⟩) nD nD:=⟨_,rfl⟩
 rw [←hv2]
 have t1:=gv (i:=1) kC2 v2
 have t2:=gv (i:=2) t1 (.int .i64 turn)
 have t3:=gv (i:=3) t2 (.bool fresh)
 have hne:∀ (k:Nat),k≠w.heap.size+1+1→(((w2.setCell ⟨w.heap.size+1+1,1,none⟩ v2).setCell ⟨w.heap.size+1+1,2,none⟩ (.int .i64 turn)).setCell ⟨w.heap.size+1+1,3,none⟩ (.bool fresh)).heap[k]?=w2.heap[k]?:=fun k hk=>by
  rw [fS hk,fS hk,fS hk]
 have kA3:=(hne w.heap.size (by omega)).trans kA2
 have kB3:=(hne (w.heap.size+1) (by omega)).trans kB2
 have hN3:=hN2.iB (hne (w.heap.size+1+1+1) (by omega))
 have hD3:=hD.iB (hne w1.heap.size (by omega))
 have B3:=((B2.setCell (p:=⟨w.heap.size+1+1,1,none⟩) (by show _≤_+1+1;omega) v2).setCell (p:=⟨w.heap.size+1+1,2,none⟩) (by show _≤_+1+1;omega) (.int .i64 turn)).setCell (p:=⟨w.heap.size+1+1,3,none⟩) (by show _≤_+1+1;omega) (.bool fresh)
 have hz4:(((w2.setCell ⟨w.heap.size+1+1,1,none⟩ v2).setCell ⟨w.heap.size+1+1,2,none⟩ (.int .i64 turn)).setCell ⟨w.heap.size+1+1,3,none⟩ (.bool fresh)).heap.size=w2.heap.size:=by simp [World.setCell]
 have t3':(((w2.setCell ⟨w.heap.size+1+1,1,none⟩ v2).setCell ⟨w.heap.size+1+1,2,none⟩ (.int .i64 turn)).setCell ⟨w.heap.size+1+1,3,none⟩ (.bool fresh)).heap[w.heap.size+1+1]?=some (.cells #[v1,v2,.int .i64 turn,.bool fresh,.slice none 0 0] 97 (0,0)):=t3
 clear t1 t2 t3 hne kA2 kB2 kC2 hN2 hD B2 cA cC fC
 generalize ((w2.setCell ⟨w.heap.size+1+1,1,none⟩ v2).setCell ⟨w.heap.size+1+1,2,none⟩ (.int .i64 turn)).setCell ⟨w.heap.size+1+1,3,none⟩ (.bool fresh)=W2 at *
 refine (oV aS nS cS A L C z _ HS.out.s (HR.out.s.up B3) (fun i hi=>(HR.out.z i hi).up B3) HS.out.l).mono ?_
 rintro e w3 ⟨G,rfl,hG,hb3⟩
 rw [hz4] at hG hb3
 have kA4:=(hb3.block _ (by omega)).trans kA3
 have kB4:=(hb3.block _ (by omega)).trans kB3
 have kC4:=(hb3.block _ (by omega)).trans t3'
 have hN4:=hN3.iB (hb3.block _ (by omega))
 have hD4:=hD3.iB (hb3.block _ (by omega))
 have B4:Below w.heap.size w w3:=B3.trans (hb3.mono (by omega))
 have cB:=fF kB4
 have cC:=fF kC4
 have fB:=fZ kB4
 have fC:=fZ kC4
 have hW0:w.heap.size+1+1+1<w1.heap.size:=lN
 subst hv1
 subst hv2
 clear hb3 kA3 kB3 t3' hN3 hD3 B3 kA4
 go_wp2_with fail
 refine bodyPost_ret (v:=.agg #[.slice (some ⟨w.heap.size+1+1+1,0,none⟩) nQ nQ,.slice (some ⟨w1.heap.size,0,none⟩) nD nD,.int .i64 turn,.bool fresh,.slice (some ⟨w2.heap.size,0,none⟩) nS nS]) (by simp [results,Tryz.results99,go_sem,cB]) rfl ⟨w.heap.size+1+1+1,w1.heap.size,w2.heap.size,G,rfl,by omega,?_,?_⟩
 ·
  have hk:∀ j,j≠w.heap.size+1→j≠w.heap.size+1+1→∀ (x0 x1 x2 x3 x4 x5:Value),(((((((w3.setCell ⟨w.heap.size+1+1,4,none⟩ x0).setCell ⟨w.heap.size+1,0,none⟩ x1).setCell ⟨w.heap.size+1,1,none⟩ x2).setCell ⟨w.heap.size+1,2,none⟩ x3).setCell ⟨w.heap.size+1,3,none⟩ x4).setCell ⟨w.heap.size+1,4,none⟩ x5)).heap[j]?=w3.heap[j]?:=fun j h1 h2 x0 x1 x2 x3 x4 x5=>by
   rw [fS h1,fS h1,fS h1,fS h1,fS h1,fS h2]
  refine ⟨hN4.iB (hk _ (by omega) (by omega) _ _ _ _ _ _),hD4.iB (hk _ (by omega) (by omega) _ _ _ _ _ _),⟨hG.top.iB (hk _ (by omega) (by omega) _ _ _ _ _ _),hG.low,fun i hi=>(hG.row i hi).iB (hk _ ?_ ?_ _ _ _ _ _ _),hG.inc⟩,⟨by omega,by omega⟩⟩
  ·
   have:=hG.low i hi;omega
  have:=hG.low i hi;omega
 exact (((((B4.setCell (by show _≤_+1+1;omega) _).setCell (by show _≤_+1;omega) _).setCell (by show _≤_+1;omega) _).setCell (by show _≤_+1;omega) _).setCell (by show _≤_+1;omega) _).setCell (by show _≤_+1;omega) _
theorem vq (R1 R2:Rnd) (w:World) (hs:R1.Small) (h1:jw w R1) (h2:jw w R2) (eQ:R2.nQ=R1.nQ) (eq:R2.q=R1.q) (eD:R2.nD=R1.nD) (ed:R2.d=R1.d) (et:R2.turn=R1.turn) (ef:R2.fresh=R1.fresh) (eS:R2.nS=R1.nS) (eL:R2.L=R1.L) (ez:R2.z=R1.z) :
  Calls Tryz.prog 124 #[.agg R1.cells,.agg R2.cells] w fun e w'=>e=.returned (.bool true)∧Below w.heap.size w w':=by
 obtain ⟨aQ,nQ,cQ,q,aD,nD,cD,d,turn,fresh,aS,nS,cS,A,L,C,z⟩:=R1
 obtain ⟨aQ2,nQ2,cQ2,q2,aD2,nD2,cD2,d2,turn2,fresh2,aS2,nS2,cS2,A2,L2,C2,z2⟩:=R2
 dsimp only at eQ eq eD ed et ef eS eL ez
 subst eQ eq eD ed et ef eS eL ez
 have H1:Hid (jw w ⟨aQ,_,cQ,_,aD,_,cD,_,_,_,aS,_,cS,A,_,C,_⟩):=h1
 have H2:Hid (jw w ⟨aQ2,_,cQ2,_,aD2,_,cD2,_,_,_,aS2,_,cS2,A2,_,C2,_⟩):=h2
 have HS:Hid (Rnd.Small ⟨aQ,_,cQ,_,aD,_,cD,_,_,_,aS,_,cS,A,_,C,_⟩):=hs
 clear h1 h2 hs
 have HA:Hid (∀ o1 o2,Below w.heap.size w ((w.alloc o1).alloc o2)):=fun o1 o2=>(((Below.refl _ _).alloc (Nat.le_refl _) _).alloc (by simp) _)
 unfold Rnd.cells
 go_enter Tryz.func124,Tryz.ntmps124
 go_wp2_with fail
 refine (lp _ _ _ _ _ _ _ HS.out.q (H1.out.q.up (HA.out _ _)) (H2.out.q.up (HA.out _ _))).mono ?_
 rintro e w1 ⟨rfl,hS1⟩
 have c1:=fun (b:Nat) (i:Nat)=>hS1.cell ⟨b,i,none⟩
 have b1:=(HA.out _ _).trans (hS1.below _)
 go_wp2_with fail
 refine (lp _ _ _ _ _ _ _ HS.out.d (H1.out.d.up b1) (H2.out.d.up b1)).mono ?_
 rintro e w2 ⟨rfl,hS2⟩
 have c2:=fun (b:Nat) (i:Nat)=>hS2.cell ⟨b,i,none⟩
 have b2:=b1.trans (hS2.below _)
 go_wp2_with fail
 refine (pw _ _ _ _ _ _ _ _ _ _ _ _ HS.out.s HS.out.l (H1.out.s.up b2) (H2.out.s.up b2) (fun i hi=>(H1.out.z i hi).up b2) (fun i hi=>(H2.out.z i hi).up b2)).mono ?_
 rintro e w3 ⟨rfl,hS3⟩
 have c3:=fun (b:Nat) (i:Nat)=>hS3.cell ⟨b,i,none⟩
 have b3:=b2.trans (hS3.below _)
 go_wp2_with fail
 go_ret
 exact ⟨rfl,b3⟩
def VI (w:World) (base:Nat) (a:Option Addr) (n:Nat) (f:Nat→Int):Prop:=n=0∨∃ g,a=some ⟨g,0,none⟩∧base≤g∧fU g 2 n (fun i=>.int .i64 (f i)) n w
def jO (a:Option Addr) (n:Nat):List Nat:=if n=0 then [] else (a.map (·.block)).toList
def jy (a:Option Addr) (n:Nat) (a':Option Addr) (n':Nat):Prop:=∀ x∈jO a n,x∉jO a' n'
theorem jy.symm {a a':Option Addr} {n n':Nat} (h:jy a n a' n'):jy a' n' a n:=fun x hx hy=>h x hy hx
theorem VI.read {w:World} {base:Nat} {a:Option Addr} {n:Nat} {f:Nat→Int} (h:VI w base a n f):fW w a n fun i=>.int .i64 (f i):=cg
theorem VI.up {w w':World} {base:Nat} {a:Option Addr} {n:Nat} {f:Nat→Int} (h:VI w base a n f) (hb:Below w.heap.size w w'):VI w' base a n f :=
 h.imp id (by rintro ⟨g,ha,hg,hr⟩;exact ⟨g,ha,hg,hr.iB (hb.block _ hr.lt)⟩)
theorem VI.mono {w:World} {base base':Nat} {a:Option Addr} {n:Nat} {f:Nat→Int} (h:VI w base a n f) (hb:base'≤base):VI w base' a n f :=
 h.imp id (by rintro ⟨g,ha,hg,hr⟩;exact ⟨g,ha,by omega,hr⟩)
theorem rW {g n:Nat} (h:n≠0):g∈jO (some ⟨g,0,none⟩) n:=by unfold jO;rw [if_neg h];simp
theorem VI.fL {w w':World} {base:Nat} {a:Option Addr} {n:Nat} {f:Nat→Int} {S:List Nat} (h:VI w base a n f) (ht:Touch S w w') (hp:∀ x∈jO a n,x∉S):VI w' base a n f:=by
 rcases h with h | ⟨g,rfl,hg,hr⟩
 ·
  exact .inl h
 by_cases h0:n=0
 ·
  exact .inl h0
 exact .inr ⟨g,rfl,hg,hr.iB (ht.block g hr.lt (hp g (rW h0)))⟩
theorem VI.blk {w:World} {base:Nat} {a:Option Addr} {n:Nat} {f:Nat→Int} (h:VI w base a n f):∀ x∈jO a n,base≤x∧x<w.heap.size:=by
 intro x hx
 unfold jO at hx
 split at hx
 ·
  simp at hx
 rcases h with h | ⟨g,rfl,hg,hr⟩
 ·
  contradiction
 simp at hx;subst hx;exact ⟨hg,hr.lt⟩
theorem qU (a:Option Addr) (cap m:Nat) (w:World):Calls Tryz.prog 82 #[.slice a 0 cap,.int .i64 m] w fun e w'=>e=.returned (.int .i64 m)∧w=w':=by
 go_enter Tryz.func82,Tryz.ntmps82
 exact aA
theorem rr (a:Option Addr) (cap m:Nat) (w:World):Calls Tryz.prog 86 #[.slice a 0 cap,.int .i64 m] w fun e w'=>e=.returned (.int .i64 m)∧w=w':=by
 go_enter Tryz.func86,Tryz.ntmps86
 exact aA
def iy (L:Nat→Nat):Nat→Nat
 | 0=>0
 | k+1=>iy L k+L k
theorem uM (L:Nat→Nat) {i k:Nat} (h:i≤k):iy L i≤iy L k:=by
 induction k with
 | zero =>
      obtain rfl:i=0:=by omega
      exact Nat.le_refl _
 | succ k ih =>
  by_cases e:i=k+1
  ·
   rw [e];exact Nat.le_refl _
  have:=ih (by omega)
  show iy L i≤iy L k+L k
  omega
def ke (n:Nat) (f:Nat→Int):List Value:=(List.range n).map fun i=>.int .i64 (f i)
theorem ti (n:Nat) (f:Nat→Int):(ke n f).length=n:=by simp [ke]
theorem yS {n:Nat} {f:Nat→Int} {j:Nat} {u:Value} (h:(ke n f)[j]?=some u):j<n∧u=.int .i64 (f j):=by
 have hj:j<n:=by
  have:=(List.getElem?_eq_some_iff.1 h).1
  rwa [ti] at this
 refine ⟨hj,?_⟩
 simp [ke,hj] at h
 exact h.symm
theorem AK {n:Nat} {f:Nat→Int} {j:Nat} (h:j<n):(ke n f)[j]?=some (.int .i64 (f j)):=by simp [ke,h]
theorem yl {w:World} {base n:Nat} {v:Value} {f:Nat→Int} (h:w.ownsRow base 2 1 v n (ke n f)):∃ a c,v=.slice a n c∧VI w base a n f:=by
 rcases h.2 with ⟨rfl,rfl⟩ | ⟨g,cap,cur,rfl,hb,hg,hnc,hcm,hcs,htake⟩
 ·
  exact ⟨none,0,rfl,.inl rfl⟩
 refine ⟨_,cap,rfl,.inr ⟨g,rfl,hb,cur,hg,by omega,fun i hi=>?_⟩⟩
 have e:(cur.toList.take (n*1))[i]?=some (.int .i64 (f i)):=by rw [htake];exact AK hi
 rw [List.getElem?_take_of_lt (by omega)] at e
 simpa using e
def VS (w:World) (base:Nat) (a:Option Addr) (n:Nat) (F:Nat→Value):Prop:=n=0∨∃ g,a=some ⟨g,0,none⟩∧base≤g∧fU g 25 n F n w
theorem VS.up {w w':World} {base:Nat} {a:Option Addr} {n:Nat} {F:Nat→Value} (h:VS w base a n F) (hb:Below w.heap.size w w'):VS w' base a n F :=
 h.imp id (by rintro ⟨g,ha,hg,hr⟩;exact ⟨g,ha,hg,hr.iB (hb.block _ hr.lt)⟩)
theorem VS.mono {w:World} {base base':Nat} {a:Option Addr} {n:Nat} {F:Nat→Value} (h:VS w base a n F) (hb:base'≤base):VS w base' a n F :=
 h.imp id (by rintro ⟨g,ha,hg,hr⟩;exact ⟨g,ha,by omega,hr⟩)
theorem VS.read {w:World} {base:Nat} {a:Option Addr} {n:Nat} {F:Nat→Value} (h:VS w base a n F):fW w a n F:=cg
def oJ:Array Value:=#[.slice none 0 0,.slice none 0 0,.int .i64 0,.bool false,.slice none 0 0]
structure Mk (n:Nat) (f:Nat→Int) (w W:World) (E:Option Nat) (Q:Option (Option Addr)) (D S B:Option Nat):Prop where
 below:Below w.heap.size w W
 e:∀ g,E=some g→w.heap.size≤g∧W.heap[g]?=some (.cells #[] 2 (0,0))
 q:∀ a,Q=some a→VI W w.heap.size a n f
 d:∀ g,D=some g→VI W w.heap.size (some ⟨g,0,none⟩) n (fun _=>0)
 s:∀ g,S=some g→VS W w.heap.size (some ⟨g,0,none⟩) n (fun _=>.slice none 0 0)
 b:∀ g,B=some g→w.heap.size≤g∧W.heap[g]?=some (.cells oJ 97 (0,0))
 qd:∀ a g,Q=some a→D=some g→jy a n (some ⟨g,0,none⟩) n
theorem Mk.start {n:Nat} {f:Nat→Int} {w W:World} (h:Below w.heap.size w W):Mk n f w W none none none none none :=
 ⟨h,fun _ e=>by simp at e,fun _ e=>by simp at e,fun _ e=>by simp at e,fun _ e=>by simp at e,fun _ e=>by simp at e,fun _ _ e=>by simp at e⟩
theorem Mk.up {n:Nat} {f:Nat→Int} {w W W':World} {E:Option Nat} {Q:Option (Option Addr)} {D S B:Option Nat} (h:Mk n f w W E Q D S B) (hb:Below W.heap.size W W'):Mk n f w W' E Q D S B where
 below:=h.below.trans (hb.mono h.below.size)
 e:=fun g e=>⟨(h.e g e).1,(hb.block _ (fG (h.e g e).2)).trans (h.e g e).2⟩
 q:=fun a e=>(h.q a e).up hb
 d:=fun g e=>(h.d g e).up hb
 s:=fun g e=>(h.s g e).up hb
 b:=fun g e=>⟨(h.b g e).1,(hb.block _ (fG (h.b g e).2)).trans (h.b g e).2⟩
 qd:=h.qd
theorem zM {W:World} {base:Nat} {a:Option Addr} {n g:Nat} {f:Nat→Int} (h:VI W base a n f) (hg:W.heap.size≤g):jy a n (some ⟨g,0,none⟩) n:=by
 intro x hx hy
 have h1:=(h.blk x hx).2
 unfold jO at hy
 split at hy
 ·
  simp at hy
 simp at hy;omega
theorem Mk.mkB {n:Nat} {f:Nat→Int} {w W:World} {E:Option Nat} {Q:Option (Option Addr)} {D S:Option Nat} (h:Mk n f w W E Q D S none):Mk n f w (W.alloc (.cells oJ 97)) E Q D S (some W.heap.size):=by
 have h':=h.up (W':=W.alloc (.cells oJ 97)) ((Below.refl _ _).alloc (Nat.le_refl _) _)
 exact ⟨h'.below,h'.e,h'.q,h'.d,h'.s,fun g e=>by cases e;exact ⟨h.below.size,fK _ _⟩,h'.qd⟩
theorem Mk.mkD {n:Nat} {f:Nat→Int} {w W:World} {E:Option Nat} {Q:Option (Option Addr)} {S B:Option Nat} (h:Mk n f w W E Q none S B):Mk n f w (W.alloc (.cells (jM n) 2)) E Q (some W.heap.size) S B:=by
 have h':=h.up (W':=W.alloc (.cells (jM n) 2)) ((Below.refl _ _).alloc (Nat.le_refl _) _)
 exact ⟨h'.below,h'.e,h'.q,fun g e=>by cases e;exact .inr ⟨_,rfl,h.below.size,mI (fK _ _)⟩,h'.s,h'.b,fun a g e1 e2=>by cases e2;exact zM (h.q a e1) (Nat.le_refl _)⟩
theorem j1 {o:Oper} {a:Act} {K:Act→World→Prop} {Q:Exit→Act→World→Prop} {W W':World} {c:Prop} [Decidable c] {E:Prop} (hc:c) (d:Option Tmp) (s x:Operand) (t:TypeId) (vs vx v:Value) (hd:o.dst=d)
  (ho:o.op=.call { callee:=.builtin .append,args:=#[s,x],argTypes:=#[t,t] }) (hty:o.type=t) (hs:a.eval s=vs) (hx:a.eval x=vx)
  (hr:(Builtin.append_ #[t,t] t #[vs,vx]).run Tryz.prog W=.ok v W') (h:K (a.put d v) W'):if c then o.wp Tryz.prog a W K Q else E:=by
 subst hd
 exact qo hc s x t vs vx v ho hty hs hx hr h
theorem Mk.Dd {n:Nat} {f:Nat→Int} {w W:World} {E:Option Nat} {Q:Option (Option Addr)} {S B:Option Nat} (h:Mk n f w W E Q none S B) (hn:n≤1048576) :
  ∃ gD W',(Instr.makeSlice 25 (.int .i64 (n:Int)) (.int .i64 (n:Int))).run Tryz.prog W=.ok (.slice (some ⟨gD,0,none⟩) n n) W'∧Mk n f w W' E Q (some gD) S B:=⟨_,_,mO n hn W,h.mkD⟩
theorem Mk.A6 {n:Nat} {f:Nat→Int} {w W:World} {E:Option Nat} {Q:Option (Option Addr)} {D S:Option Nat} (h:Mk n f w W E Q D S none) :
  ∃ gB W',gB=W.heap.size∧W'=W.alloc (.cells #[.slice none 0 0,.slice none 0 0,.int .i64 0,.bool false,.slice none 0 0] 97)∧Mk n f w W' E Q D S (some gB):=⟨_,_,rfl,rfl,h.mkB⟩
theorem o4 {W:World} {base g:Nat} (hb:base≤g) (h:W.heap[g]?=some (.cells #[] 2 (0,0))):W.ownsRow base 2 1 (.slice (some ⟨g,0,none⟩) 0 0) 0 [] :=
 ⟨rfl,.inr ⟨g,0,#[],rfl,hb,h,Nat.le_refl _,by unfold maxLen;omega,rfl,rfl⟩⟩
structure mj (w:World) (base:Nat) (R:Rnd):Prop where
 q:VI w base R.aQ R.nQ R.q
 d:VI w base R.aD R.nD R.d
 s:VS w base R.aS R.nS fun i=>.slice (R.A i) (R.L i) (R.C i)
 z:∀ i,i<R.nS→VI w base (R.A i) (R.L i) (R.z i)
 qd:jy R.aQ R.nQ R.aD R.nD
 qz:∀ i,i<R.nS→jy R.aQ R.nQ (R.A i) (R.L i)
 dz:∀ i,i<R.nS→jy R.aD R.nD (R.A i) (R.L i)
 zz:∀ i j,i<R.nS→j<R.nS→i≠j→jy (R.A i) (R.L i) (R.A j) (R.L j)
theorem mj.rd {w:World} {base:Nat} {R:Rnd} (h:mj w base R):jw w R:=⟨h.q.read,h.d.read,h.s.read,fun i hi=>(h.z i hi).read⟩
theorem mj.up {w w':World} {base:Nat} {R:Rnd} (h:mj w base R) (hb:Below w.heap.size w w'):mj w' base R :=
 ⟨h.q.up hb,h.d.up hb,h.s.up hb,fun i hi=>(h.z i hi).up hb,h.qd,h.qz,h.dz,h.zz⟩
theorem mj.mono {w:World} {base base':Nat} {R:Rnd} (h:mj w base R) (hb:base'≤base):mj w base' R :=
 ⟨h.q.mono hb,h.d.mono hb,h.s.mono hb,fun i hi=>(h.z i hi).mono hb,h.qd,h.qz,h.dz,h.zz⟩
theorem mj.kO {w w':World} {base:Nat} {R:Rnd} {S:List Nat} (h:mj w base R) (ht:Touch S w w') (hS:∀ x∈S,x<base):mj w' base R :=
 have key:∀ {a:Option Addr} {n:Nat} {f:Nat→Int},VI w base a n f→VI w' base a n f:=fun hv=>hv.fL ht (fun x hx hx2=>by
  have h1:=(hv.blk x hx).1
  have h2:=hS x hx2
  omega)
 ⟨key h.q,key h.d,h.s.imp id (by
  rintro ⟨g,ha,hg,hr⟩
  exact ⟨g,ha,hg,hr.iB (ht.block g hr.lt (fun hx=>by have:=hS g hx;omega))⟩),fun i hi=>key (h.z i hi),h.qd,h.qz,h.dz,h.zz⟩
def BN (n:Nat) (f:Nat→Int) (aQ:Option Addr) (cQ gD gS:Nat):Rnd :=
 ⟨aQ,n,cQ,f,some ⟨gD,0,none⟩,n,n,fun _=>0,0,true,some ⟨gS,0,none⟩,n,n,fun _=>none,fun _=>0,fun _=>0,fun _ _=>0⟩
def zR:Rnd:=⟨none,0,0,fun _=>0,none,0,0,fun _=>0,0,false,none,0,0,fun _=>none,fun _=>0,fun _=>0,fun _ _=>0⟩
theorem Cn (w:World) (base:Nat):mj w base zR :=
 ⟨.inl rfl,.inl rfl,.inl rfl,fun i hi=>.inl rfl,fun x hx=>by simp [jO,zR] at hx,fun i _ x hx=>by simp [jO,zR] at hx,fun i _ x hx=>by simp [jO,zR] at hx,fun i j _ _ _ x hx=>by simp [jO,zR] at hx⟩
structure Alike (R1 R2:Rnd):Prop where
 nQ:R2.nQ=R1.nQ
 q:R2.q=R1.q
 nD:R2.nD=R1.nD
 d:R2.d=R1.d
 t:R2.turn=R1.turn
 f:R2.fresh=R1.fresh
 nS:R2.nS=R1.nS
 l:R2.L=R1.L
 z:R2.z=R1.z
theorem Alike.refl (R:Rnd):Alike R R:=⟨rfl,rfl,rfl,rfl,rfl,rfl,rfl,rfl,rfl⟩
theorem Alike.symm {A B:Rnd} (h:Alike A B):Alike B A:=⟨h.nQ.symm,h.q.symm,h.nD.symm,h.d.symm,h.t.symm,h.f.symm,h.nS.symm,h.l.symm,h.z.symm⟩
theorem Alike.trans {A B C:Rnd} (h:Alike A B) (k:Alike B C):Alike A C:=⟨k.nQ.trans h.nQ,k.q.trans h.q,k.nD.trans h.nD,k.d.trans h.d,k.t.trans h.t,k.f.trans h.f,k.nS.trans h.nS,k.l.trans h.l,k.z.trans h.z⟩
def qJ (w:World) (g:Nat) (v0 v1 v2 v3 v4:Value):World:=((((w.setCell ⟨g,0,none⟩ v0).setCell ⟨g,1,none⟩ v1).setCell ⟨g,2,none⟩ v2).setCell ⟨g,3,none⟩ v3).setCell ⟨g,4,none⟩ v4
theorem iS (w:World) (g:Nat) (v0 v1 v2 v3 v4:Value):Touch [g] w (qJ w g v0 v1 v2 v3 v4) :=
 (((((Touch.refl [g] w).set (by simp) 0 v0).set (by simp) 1 v1).set (by simp) 2 v2).set (by simp) 3 v3).set (by simp) 4 v4
theorem kh {w:World} {g:Nat} {x0 x1 x2 x3 x4:Value} {t:TypeId} (h:w.heap[g]?=some (.cells #[x0,x1,x2,x3,x4] t (0,0))) (v0 v1 v2 v3 v4:Value):(qJ w g v0 v1 v2 v3 v4).heap[g]?=some (.cells #[v0,v1,v2,v3,v4] t (0,0)) :=
 gv (i:=4) (gv (i:=3) (gv (i:=2) (gv (i:=1) (gv (i:=0) h v0) v1) v2) v3) v4
structure Made (n:Nat) (f:Nat→Int) (w W:World) (aQ:Option Addr) (cQ gD gS gB:Nat):Prop where
 below:Below w.heap.size w W
 own:mj W w.heap.size (BN n f aQ cQ gD gS)
 lo:w.heap.size≤gB
 b:W.heap[gB]?=some (.cells #[.slice aQ n cQ,.slice (some ⟨gD,0,none⟩) n n,.int .i64 0,.bool true,.slice (some ⟨gS,0,none⟩) n n] 97 (0,0))
theorem Mk.made {n:Nat} {f:Nat→Int} {w W:World} {aQ:Option Addr} {gD gS gB:Nat} (cQ:Nat) (h:Mk n f w W none (some aQ) (some gD) (some gS) (some gB)) :
  Made n f w (qJ W gB (.slice aQ n cQ) (.slice (some ⟨gD,0,none⟩) n n) (.int .i64 0) (.bool true) (.slice (some ⟨gS,0,none⟩) n n)) aQ cQ gD gS gB:=by
 have hb:=h.b gB rfl
 have ht:=iS W gB (.slice aQ n cQ) (.slice (some ⟨gD,0,none⟩) n n) (.int .i64 0) (.bool true) (.slice (some ⟨gS,0,none⟩) n n)
 have key:∀ {a:Option Addr} {m:Nat} {z:Nat→Int},VI W w.heap.size a m z→∀ x∈jO a m,x∉[gB]:=by
  intro a m z hv x hx hx2
  simp at hx2
  subst hx2
  unfold jO at hx
  split at hx
  ·
   simp at hx
  rename_i h0
  rcases hv with h1 | ⟨g',rfl,_,arr,h2,_⟩
  ·
   exact h0 h1
  simp at hx
  subst hx
  rw [hb.2] at h2
  simp at h2
 refine ⟨h.below.trans (ht.below h.below.size (fun x hx=>by simp at hx;subst hx;exact hb.1)),⟨(h.q aQ rfl).fL ht (key (h.q aQ rfl)),(h.d gD rfl).fL ht (key (h.d gD rfl)),(h.s gS rfl).imp id ?_,fun i _=>.inl rfl,h.qd aQ gD rfl rfl,fun i _ x _ hx=>?_,fun i _ x _ hx=>?_,fun i j _ _ _ x hx=>?_⟩,hb.1,kh hb.2 _ _ _ _ _⟩
 ·
  rintro ⟨g,ha,hg,hr⟩
  refine ⟨g,ha,hg,hr.iB (ht.block g hr.lt ?_)⟩
  intro hx
  simp at hx
  subst hx
  obtain ⟨arr,h2,_⟩:=hr
  rw [hb.2] at h2
  simp at h2
 ·
  simp [jO,BN] at hx
 ·
  simp [jO,BN] at hx
 simp [jO,BN] at hx
theorem A8 {w:World} {base:Nat} {a:Option Addr} {n:Nat} {f:Nat→Int} (h:VI w base a n f) {g:Nat} {arr:Array Value} {t:TypeId} (ht:t≠2) (hg:w.heap[g]?=some (.cells arr t (0,0))):g∉jO a n:=by
 intro hx
 unfold jO at hx
 split at hx
 ·
  simp at hx
 rename_i h0
 rcases h with h1 | ⟨g',rfl,_,arr',h2,_⟩
 ·
  exact h0 h1
 simp at hx
 subst hx
 rw [hg] at h2
 simp at h2
 exact ht h2.2
theorem j4 (a:Option Addr) (n cap:Nat) (left:Int) (w:World) (hn:n≤maxLen) (h0:0≤left) (h1:left≤1048576) :
  Calls Tryz.prog 41 #[.slice a n cap,.int .i64 left] w fun e w'=>(∃ r:Int,e=.returned (.int .i64 r)∧(r=-1∨0≤r∧r≤left∧n≤1048576∧r+n≤left))∧w=w':=by
 have hm:(n:Int)≤9223372036854775807:=by unfold maxLen at hn;omega
 by_cases h:left-n<0
 ·
  go_enter Tryz.func41,Tryz.ntmps41
  exact b8
 go_enter Tryz.func41,Tryz.ntmps41
 exact b9
theorem nH (a:Option Addr) (n cap:Nat) (A:Nat→Option Addr) (L C:Nat→Nat) (left:Int) (w:World) (hn:n≤maxLen) (h0:0≤left) (h1:left≤1048576) (h:fW w a n fun i=>.slice (A i) (L i) (C i)) (hl:∀ i,i<n→L i≤maxLen) :
  Calls Tryz.prog 89 #[.slice a n cap,.int .i64 left] w fun e w'=>(∃ r:Int,e=.returned (.int .i64 r)∧(r=-1∨0≤r∧r≤left∧n≤1048576∧(∀ i,i<n→L i≤1048576)∧r+(iy L n:Nat)≤left))∧w=w':=by
 have hm:(n:Int)≤9223372036854775807:=by unfold maxLen at hn;omega
 have HR:Hid (fW w a n fun i=>.slice (A i) (L i) (C i)):=h
 have HL:Hid (∀ i,i<n→L i≤maxLen):=hl
 clear h hl
 by_cases h2:left-n<0
 ·
  go_enter Tryz.func89,Tryz.ntmps89
  exact b8
 go_enter Tryz.func89,Tryz.ntmps89
 go_wp2_with fail
 go_loop [1,5] (fun x i=>∃ (k:Nat) (r:Int),k≤n∧i=.int .i64 k∧x=.int .i64 r∧0≤r∧r≤left∧(∀ j,j<k→L j≤1048576)∧Hid (r+(iy L k:Nat)≤left)) (fun _ i=>n-(intOf i).toNat)
 case atStart=>exact ⟨0,left-n,Nat.zero_le _,rfl,rfl,by omega,by omega,fun j hj=>by omega,by show left-n+((0:Nat):Int)≤left;omega⟩
 obtain ⟨k,r,hk,rfl,rfl,r0,r1,hall,hsum⟩:=hrel
 have HA:Hid (∀ j,j<k→L j≤1048576):=hall
 clear hall
 by_cases hlt:k<n
 ·
  have hlt':(k:Int)<n:=by omega
  obtain ⟨g,o,rfl,hc⟩:=HR.out k hlt
  dsimp only at hc
  go_wp2_with fail
  refine (j4 (A k) (L k) (C k) r _ (HL.out k hlt) r0 (by omega)).mono ?_
  rintro e w1 ⟨⟨r',rfl,hr⟩,rfl⟩
  rcases hr with rfl | ⟨r0',r1',hn',hr9⟩
  · exact b8
  have HN:Hid (L k≤1048576):=hn'
  have HS9:Hid (r'+(iy L (k+1):Nat)≤left):=by
   show r'+((iy L k+L k:Nat):Int)≤left
   have:=hsum.out
   omega
  clear hr9 hsum
  have hr0:¬ r'<0:=by omega
  clear hn'
  go_wp2_with fail
  go_round
  case rel=>exact ⟨k+1,r',by omega,by go_num,rfl,r0',by omega,fun j hj=>by
   by_cases e:j=k
   ·
    subst e;exact HN.out
   ·
    exact HA.out j (by omega),HS9.out⟩
  case measure=>simp [intOf];omega
 obtain rfl:k=n:=by omega
 go_wp2_with fail
 go_ret
 exact ⟨⟨_,rfl,.inr ⟨r0,r1,by omega,HA.out,hsum.out⟩⟩,rfl⟩
theorem x7 {w:World} {base g n:Nat} {f:Nat→Int} (hb:base≤g) (h:fU g 2 n (fun i=>.int .i64 (f i)) n w):VI w base (some ⟨g,0,none⟩) n f:=.inr ⟨g,rfl,hb,h⟩
theorem oH {g g' n n':Nat} (h:g≠g'):jy (some ⟨g,0,none⟩) n (some ⟨g',0,none⟩) n':=by
 intro x hx hy
 unfold jO at hx hy
 split at hx
 ·
  simp at hx
 split at hy
 ·
  simp at hy
 simp at hx hy
 omega
theorem ov.own {w:World} {R:Rnd} {gQ gD gS:Nat} {G:Nat→Nat} {base:Nat} (h:ov w R gQ gD gS G) (hb:base≤gQ):mj w base (R.copy gQ gD gS G):=by
 have h1:=h.lt
 have hlo:∀ i,i<R.nS→gS<G i:=h.s.low
 refine ⟨x7 hb h.q,x7 (by omega) h.d,.inr ⟨gS,rfl,by omega,h.s.top⟩,fun i hi=>x7 (by have:=hlo i hi;omega) (h.s.row i hi),oH (by omega),fun i hi=>oH (by have:=hlo i hi;omega),fun i hi=>oH (by have:=hlo i hi;omega),fun i j hi hj hne=>oH ?_⟩
 rcases Nat.lt_or_gt_of_ne hne with h2 | h2
 ·
  have:=h.s.inc i j h2 hj
  omega
 have:=h.s.inc j i h2 hi
 omega
theorem fM {ops:Array Oper} {rest:List Oper} {o:Oper} {a:Act} {w:World} {Q:Exit→Act→World→Prop} (hg:o.guard=none) (ty:TypeId) (n:Nat) (d:TypeDesc) (hu:Tryz.prog.underlying ty=some d) (hd:d.isRow=true) (hi:(Tryz.prog.info? ty).map (·.size)=some n) (x:Operand) (ho:o.op=.load ty x) (b off:Nat) (hx:a.eval x=.pointer (some ⟨b,off,none⟩))
  (cs:Array Value) (hs:cs.size=n) (hc:∀ j,j<n→w.cell? ⟨b,off+j,none⟩=cs[j]?) (h:wpList Tryz.prog ops Q rest (a.put o.dst (.agg cs)) w):wpList Tryz.prog ops Q (o :: rest) a w :=
 wpList_load_mid hg ty x ho b off hx cs.toList d (fun j v hv=>by
  have hj:j<n:=by
   have:=(List.getElem?_eq_some_iff.1 hv).1
   rw [Array.length_toList] at this
   omega
  rw [hc j hj,←Array.getElem?_toList]
  exact hv) hu hd (by rw [hi,Array.length_toList,hs]) (by rw [Array.toArray_toList];exact h)
structure Lng.Fit (l:Lng):Prop where
 t:l.nT≤maxLen
 u:l.nU≤maxLen
 z:∀ i,i<l.nU→l.uL i≤maxLen
 r:l.R.Fit
structure Swg.Fit (S:Swg):Prop where
 e:S.nE≤maxLen
 n:S.N.Fit
 k:S.nK≤maxLen
 b:∀ i,i<S.nK→(S.K i).b.size≤maxLen
 l:S.nL≤maxLen
 ls:∀ i,i<S.nL→(S.L i).Fit
def Rnd.tot (R:Rnd):Nat:=R.nQ+R.nD+iy R.L R.nS
def Lng.tot (l:Lng):Nat:=l.nT+iy l.uL l.nU+l.R.tot
def Swg.tot (S:Swg):Nat:=S.nE+(S.N.nU+S.N.nP)+S.nK+(S.nL+iy (fun i=>(S.L i).tot) S.nL)
theorem sD (R:Rnd) (left:Int) (w:World) (h0:0≤left) (h1:left≤1048576) (hf:R.Fit) (h:jw w R) :
  Calls Tryz.prog 90 #[.agg R.cells,.int .i64 left] w fun e w'=>(∃ r:Int,e=.returned (.int .i64 r)∧(r=-1∨0≤r∧R.Small∧r+R.tot≤left))∧Below w.heap.size w w':=by
 have HA:Hid (∀ o,Below w.heap.size w (w.alloc o)):=fun o=>(Below.refl _ _).alloc (Nat.le_refl _) _
 have HR:Hid (jw w R):=h
 have HF:Hid R.Fit:=hf
 clear h hf
 unfold Rnd.cells
 go_enter Tryz.func90,Tryz.ntmps90
 go_wp2_with fail
 refine (j4 R.aQ R.nQ R.cQ left _ HF.out.q h0 h1).mono ?_
 rintro e w1 ⟨⟨r,rfl,hr⟩,rfl⟩
 rcases hr with rfl | ⟨r0,r1,hn1,hs1⟩
 · exact b7
 have hr0:¬ r<0:=by omega
 go_wp2_with fail
 refine (j4 R.aD R.nD R.cD r _ HF.out.d r0 (by omega)).mono ?_
 rintro e w2 ⟨⟨r2,rfl,hr2⟩,rfl⟩
 rcases hr2 with rfl | ⟨r20,r21,hn2,hs2⟩
 · exact b7
 have hr20:¬ r2<0:=by omega
 go_wp2_with fail
 refine (nH R.aS R.nS R.cS R.A R.L R.C r2 _ HF.out.s r20 (by omega) (HR.out.s.up (HA.out _)) HF.out.l).mono ?_
 rintro e w3 ⟨⟨r3,rfl,hr3⟩,rfl⟩
 rcases hr3 with rfl | ⟨r30,r31,hn3,hl3,hs3⟩
 · exact b7
 have hr30:¬ r3<0:=by omega
 have HS:Hid R.Small:=⟨hn1,hn2,hn3,hl3⟩
 have HSu:Hid (r3+R.tot≤left):=by show r3+((R.nQ+R.nD+iy R.L R.nS:Nat):Int)≤left;omega
 clear hl3 hs3 hs2 hs1
 go_wp2_with fail
 go_ret
 exact ⟨⟨_,rfl,.inr ⟨r30,HS.out,HSu.out⟩⟩,HA.out _⟩
theorem sH (a:Option Addr) (n cap:Nat) (left:Int) (w:World) (hn:n≤maxLen) (h0:0≤left) (h1:left≤1048576) :
  Calls Tryz.prog 42 #[.slice a n cap,.int .i64 left] w fun e w'=>(∃ r:Int,e=.returned (.int .i64 r)∧(r=-1∨0≤r∧n≤1048576∧r+n≤left))∧w=w':=by
 have hm:(n:Int)≤9223372036854775807:=by unfold maxLen at hn;omega
 by_cases h:left-n<0
 ·
  go_enter Tryz.func42,Tryz.ntmps42
  exact b8
 go_enter Tryz.func42,Tryz.ntmps42
 exact b9
theorem uK (a:Option Addr) (n cap:Nat) (left:Int) (w:World) (hn:n≤maxLen) (h0:0≤left) (h1:left≤1048576) :
  Calls Tryz.prog 13 #[.slice a n cap,.int .i64 left] w fun e w'=>(∃ r:Int,e=.returned (.int .i64 r)∧(r=-1∨0≤r∧n≤1048576∧r+n≤left))∧w=w':=by
 have hm:(n:Int)≤9223372036854775807:=by unfold maxLen at hn;omega
 by_cases h:left-n<0
 ·
  go_enter Tryz.func13,Tryz.ntmps13
  exact b8
 go_enter Tryz.func13,Tryz.ntmps13
 exact b9
theorem qB (N:Cnt) (left:Int) (w:World) (h0:0≤left) (h1:left≤1048576) (hf:N.Fit) :
  Calls Tryz.prog 14 #[.agg N.cells,.int .i64 left] w fun e w'=>(∃ r:Int,e=.returned (.int .i64 r)∧(r=-1∨0≤r∧N.Small∧r+N.nU+N.nP≤left))∧Below w.heap.size w w':=by
 have HA:Hid (∀ o,Below w.heap.size w (w.alloc o)):=fun o=>(Below.refl _ _).alloc (Nat.le_refl _) _
 have HF:Hid N.Fit:=hf
 clear hf
 unfold Cnt.cells
 go_enter Tryz.func14,Tryz.ntmps14
 go_wp2_with fail
 refine (j4 N.aU N.nU N.cU left _ HF.out.u h0 h1).mono ?_
 rintro e w1 ⟨⟨r,rfl,hr⟩,rfl⟩
 rcases hr with rfl | ⟨r0,r1,hn1,hs1⟩
 · exact b7
 have hr0:¬ r<0:=by omega
 go_wp2_with fail
 refine (sH N.aP N.nP N.cP r _ HF.out.p r0 (by omega)).mono ?_
 rintro e w2 ⟨⟨r2,rfl,hr2⟩,rfl⟩
 rcases hr2 with rfl | ⟨r20,hn2,hs2⟩
 · exact b7
 have hr20:¬ r2<0:=by omega
 have HS:Hid (N.Small∧r2+N.nU+N.nP≤left):=⟨⟨hn1,hn2⟩,by omega⟩
 clear hs1 hs2
 go_wp2_with fail
 go_ret
 exact ⟨⟨_,rfl,.inr ⟨r20,HS.out.1,HS.out.2⟩⟩,HA.out _⟩
theorem wL (l:Lng) (left:Int) (w:World) (h0:0≤left) (h1:left≤1048576) (hf:l.Fit) (h:mh w l) :
  Calls Tryz.prog 44 #[.agg l.cells,.int .i64 left] w fun e w'=>(∃ r:Int,e=.returned (.int .i64 r)∧(r=-1∨0≤r∧l.Small∧r+l.tot≤left))∧Below w.heap.size w w':=by
 have HR:Hid (mh w l):=h
 have HF:Hid l.Fit:=hf
 obtain ⟨W,eW⟩:∃ W,w.alloc (.cells l.cells 87)=W:=⟨_,rfl⟩
 have hB:Below (w.heap.size+1) (w.alloc (.cells l.cells 87)) W:=by rw [eW];exact Below.refl _ _
 have hb0:=under hB
 have kS:=boxed hB
 have c1:W.cell? ⟨w.heap.size,1,none⟩=some (.slice l.aT l.nT l.cT):=kS 1
 have c2:W.cell? ⟨w.heap.size,2,none⟩=some (.slice l.aU l.nU l.cU):=kS 2
 have c3:W.cell? ⟨w.heap.size,3,none⟩=some (.slice l.R.aQ l.R.nQ l.R.cQ):=kS 3
 have c4:W.cell? ⟨w.heap.size,4,none⟩=some (.slice l.R.aD l.R.nD l.R.cD):=kS 4
 have c5:W.cell? ⟨w.heap.size,5,none⟩=some (.int .i64 l.R.turn):=kS 5
 have c6:W.cell? ⟨w.heap.size,6,none⟩=some (.bool l.R.fresh):=kS 6
 have c7:W.cell? ⟨w.heap.size,7,none⟩=some (.slice l.R.aS l.R.nS l.R.cS):=kS 7
 have HB:Hid (Below w.heap.size w W):=hb0
 clear h hf kS hB hb0
 go_enter Tryz.func44,Tryz.ntmps44
 go_wp2_with fail
 clear eW
 refine (j4 l.aT l.nT l.cT left _ HF.out.t h0 h1).mono ?_
 rintro e w1 ⟨⟨r,rfl,hr⟩,rfl⟩
 rcases hr with rfl | ⟨r0,r1,hn1,hs1⟩
 ·
  go_wp2_with fail
  go_ret
  exact ⟨⟨_,rfl,.inl rfl⟩,HB.out⟩
 have hr0:¬ r<0:=by omega
 go_wp2_with fail
 refine (nH l.aU l.nU l.cU l.uA l.uL l.uC r _ HF.out.u r0 (by omega) (HR.out.u.up HB.out) HF.out.z).mono ?_
 rintro e w2 ⟨⟨r2,rfl,hr2⟩,rfl⟩
 rcases hr2 with rfl | ⟨r20,r21,hn2,hl2,hs2⟩
 ·
  go_wp2_with fail
  go_ret
  exact ⟨⟨_,rfl,.inl rfl⟩,HB.out⟩
 have hr20:¬ r2<0:=by omega
 have HL2:Hid (∀ i,i<l.nU→l.uL i≤1048576):=hl2
 clear hl2
 go_wp2_with fail
 refine (sD l.R r2 _ r20 (by omega) HF.out.r (HR.out.r.up HB.out)).mono ?_
 rintro e w3 ⟨⟨r3,rfl,hr3⟩,hb3⟩
 have HB3:Hid (Below w.heap.size w w3):=HB.out.trans (hb3.mono HB.out.size)
 clear hb3
 rcases hr3 with rfl | ⟨r30,hs,hs3⟩
 ·
  go_wp2_with fail
  go_ret
  exact ⟨⟨_,rfl,.inl rfl⟩,HB3.out⟩
 have hr30:¬ r3<0:=by omega
 have HS:Hid (l.Small∧r3+l.tot≤left):=⟨⟨hn1,hn2,HL2.out,hs⟩,by
  show r3+((l.nT+iy l.uL l.nU+l.R.tot:Nat):Int)≤left
  omega⟩
 clear hs hs3 hs2 hs1 c1 c2 c3 c4 c5 c6 c7
 go_wp2_with fail
 go_ret
 exact ⟨⟨_,rfl,.inr ⟨r30,HS.out.1,HS.out.2⟩⟩,HB3.out⟩
theorem yX:(Tryz.prog.info? 87).map (·.size)=some 8:=by kernel_rfl
theorem yW:(Tryz.prog.info? 81).map (·.size)=some 8:=by kernel_rfl
theorem ya (L:Nat→Nat) (k:Nat):iy L (k+1)=iy L k+L k:=rfl
theorem uJ (a:Option Addr) (n cap:Nat) (L:Nat→Lng) (left:Int) (w:World) (h0:0≤left) (h1:left≤1048576) (hn:n≤maxLen) (hf:∀ i,i<n→(L i).Fit) (h:pP w a n L) (hr:∀ i,i<n→mh w (L i)) :
  Calls Tryz.prog 16 #[.slice a n cap,.int .i64 left] w fun e w'=>(∃ r:Int,e=.returned (.int .i64 r)∧(r=-1∨0≤r∧n≤1048576∧(∀ i,i<n→(L i).Small)∧r+(n+iy (fun i=>(L i).tot) n:Nat)≤left))∧Below w.heap.size w w':=by
 have hm:(n:Int)≤9223372036854775807:=by unfold maxLen at hn;omega
 have HR:Hid (pP w a n L):=h
 have HL:Hid (∀ i,i<n→mh w (L i)):=hr
 have HF:Hid (∀ i,i<n→(L i).Fit):=hf
 clear h hr hf
 by_cases h2:left-n<0
 ·
  go_enter Tryz.func16,Tryz.ntmps16
  go_wp2_with fail
  go_ret
  exact ⟨⟨_,rfl,.inl rfl⟩,Below.refl _ _⟩
 go_enter Tryz.func16,Tryz.ntmps16
 go_wp2_with fail
 go_loopw [1,5] (fun x i wr=>∃ (k:Nat) (r:Int),k≤n∧i=.int .i64 k∧x=.int .i64 r∧0≤r∧r≤left∧Hid ((∀ j,j<k→(L j).Small)∧r+(n+iy (fun i=>(L i).tot) k:Nat)≤left)∧Below w.heap.size w wr) (fun _ i _=>n-(intOf i).toNat)
 case atStart=>exact ⟨0,left-n,Nat.zero_le _,rfl,rfl,by omega,by omega,⟨fun j hj=>by omega,by show left-n+((n+0:Nat):Int)≤left;omega⟩,Below.refl _ _⟩
 obtain ⟨k,r,hk,rfl,rfl,r0,r1,HS,hB⟩:=hrel
 by_cases hlt:k<n
 ·
  have hlt':(k:Int)<n:=by omega
  obtain ⟨g,o,ha,hc⟩:=(HR.out.up hB) k hlt
  subst ha
  have HC:Hid (∀ j,j<8→wr.cell? ⟨g,o+k*8+j,none⟩=(L k).cells[j]?):=hc
  clear hc
  go_wp2_with (refine fM rfl 87 8 _ Tryz.underlying87 rfl yX (.tmp 20) rfl g (o+k*8) rfl (L k).cells rfl HC.out ?_)
  refine (wL (L k) r _ r0 (by omega) (HF.out k hlt) ((HL.out k hlt).up hB)).mono ?_
  rintro e w1 ⟨⟨r',rfl,hr⟩,hb1⟩
  have HB1:Hid (Below w.heap.size w w1):=hB.trans (hb1.mono hB.size)
  clear hb1 hB HC
  rcases hr with rfl | ⟨r0',hsm,hr9⟩
  ·
   go_wp2_with fail
   go_ret
   exact ⟨⟨_,rfl,.inl rfl⟩,HB1.out⟩
  have HN:Hid ((∀ j,j<k+1→(L j).Small)∧r'+(n+iy (fun i=>(L i).tot) (k+1):Nat)≤left):=⟨fun j hj=>by
    by_cases e:j=k
    ·
     subst e;exact hsm
    ·
     exact HS.out.1 j (by omega),by
    rw [ya]
    have:=HS.out.2
    omega⟩
  have hr0:¬ r'<0:=by omega
  have hr1:r'≤left:=by omega
  clear hsm hr9 HS
  go_wp2_with fail
  go_roundw
  case rel=>exact ⟨k+1,r',by omega,by go_num,rfl,r0',hr1,HN,HB1.out⟩
  case measure=>simp [intOf];omega
 obtain rfl:k=n:=by omega
 go_wp2_with fail
 go_ret
 exact ⟨⟨_,rfl,.inr ⟨r0,by omega,HS.out.1,HS.out.2⟩⟩,hB⟩
def lay (cur:Array Value) (o:Nat) (cs:Array Value):Array Value:=(cur.toList.take o++cs.toList++cur.toList.drop (o+cs.size)).toArray
theorem jc {cur cs:Array Value} {o:Nat} (h:o+cs.size≤cur.size):(lay cur o cs).size=cur.size:=by
 unfold lay
 simp
 omega
theorem jx {cur cs:Array Value} {o:Nat} (h:o+cs.size≤cur.size) (j:Nat) (hj:j<cs.size):(lay cur o cs)[o+j]?=cs[j]?:=by
 unfold lay
 simp only [List.getElem?_toArray]
 rw [List.append_assoc,List.getElem?_append_right (by simp;omega),List.getElem?_append_left (by simp;omega)]
 simp only [List.length_take,Array.length_toList,Array.getElem?_toList]
 congr 1
 omega
theorem lg {cur cs:Array Value} {o:Nat} (h:o+cs.size≤cur.size) (j:Nat) (hj:j<o):(lay cur o cs)[j]?=cur[j]?:=by
 unfold lay
 simp only [List.getElem?_toArray]
 rw [List.append_assoc,List.getElem?_append_left (by simp;omega),List.getElem?_take,if_pos hj,Array.getElem?_toList]
structure Put (w W:World) (g:Nat) (cs:Array Value) (t:TypeId):Prop where
 blk:W.heap[g]?=some (.cells cs t (0,0))
 to:Touch [g] w W
 size:W.heap.size=w.heap.size
theorem Put.cast {w W:World} {g:Nat} {cs cs':Array Value} {t:TypeId} (h:Put w W g cs t) (e:cs=cs'):Put w W g cs' t:=e▸h
theorem pZ {w:World} {g:Nat} {cur:Array Value} {t:TypeId} (hg:w.heap[g]?=some (.cells cur t (0,0))) (cs:Array Value):Put w (w.setRow g cs) g cs t :=
 ⟨setRow_heap w g cur cs t (0,0) hg,⟨rfl,rfl,rfl,by simp,fun k _ hk=>setRow_other w g k cs (by simpa using hk)⟩,by simp⟩
theorem lS (w:World) (g off:Nat) (t ty:TypeId) (cur:Array Value) (v:Value) (hg:w.heap[g]?=some (.cells cur t (0,0))) (hi:(Tryz.prog.info? ty).map (·.size)=some v.cells.size) (hf:off+v.cells.size≤cur.size) (h1:v.cells.all (·.oneCell')=true) :
  (storeVar ty ⟨g,off,none⟩ v).run Tryz.prog w=.ok () (w.setRow g (lay cur off v.cells)):=by
 have:=run_storeCells_at (P:=Tryz.prog) g off t v.cells.toList 0 cur w hg (by simpa using hf) (fun x hx=>(Array.all_eq_true_iff_forall_mem.1 h1) x (by simpa using hx))
 simp only [Nat.add_zero,Array.length_toList] at this
 cases hq:Tryz.prog.info? ty with
 | none=>simp [hq] at hi
 | some i =>
  have hs:v.cells.size=i.size:=by simp [hq] at hi;omega
  simp [storeVar,sizeOf,typeInfo,hq,hs,this,lay]
theorem fJ {ops:Array Oper} {rest:List Oper} {o:Oper} {a:Act} {w:World} {Q:Exit→Act→World→Prop} (hgd:o.guard=none) (ty:TypeId) (x y:Operand) (ho:o.op=.store ty x y) (g off:Nat) (hx:a.eval x=.pointer (some ⟨g,off,none⟩))
  (v:Value) (hy:a.eval y=v) (n:Nat) (hn:v.cells.size=n) (t:TypeId) (cur:Array Value) (hg:w.heap[g]?=some (.cells cur t (0,0))) (hi:(Tryz.prog.info? ty).map (·.size)=some n) (hf:off+n≤cur.size) (h1:v.cells.all (·.oneCell')=true)
  (h:∀ W,Put w W g (lay cur off v.cells) t→wpList Tryz.prog ops Q rest (a.put o.dst undef) W):wpList Tryz.prog ops Q (o :: rest) a w:=by
 subst hn
 refine wpList_plain hgd fun _ hK=>?_
 unfold Oper.wp execOp
 simp only [ho,hx,hy,Instr.storeAt,Instr.sureAddr,Sem.run_bind,Sem.run_pure,Result.andThen_ok,lS w g off t ty cur v hg hi hf h1]
 exact hK _ _ (h _ (pZ hg _))
def z7 (t:TypeId) (g o n:Nat) (f:Nat→Value) (w:World):Prop:=∃ arr:Array Value,w.heap[g]?=some (.cells arr t (0,0))∧o+n≤arr.size∧∀ i,i<n→arr[o+i]?=some (f i)
theorem z7.lt {t:TypeId} {g o n:Nat} {f:Nat→Value} {w:World} (h:z7 t g o n f w):g<w.heap.size:=by
 obtain ⟨arr,h1,_⟩:=h
 exact fG h1
theorem z7.iB {t:TypeId} {g o n:Nat} {f:Nat→Value} {w w':World} (h:z7 t g o n f w) (hb:w'.heap[g]?=w.heap[g]?):z7 t g o n f w':=by
 obtain ⟨arr,h1,h2⟩:=h
 exact ⟨arr,hb.trans h1,h2⟩
theorem z7.read {t:TypeId} {g o n:Nat} {f:Nat→Value} {w:World} (h:z7 t g o n f w):fW w (some ⟨g,o,none⟩) n f:=fun i hi=>by
 obtain ⟨arr,h1,h2,h3⟩:=h
 exact ⟨g,o,rfl,(fF h1 _).trans (h3 i hi)⟩
theorem fU.g {g n:Nat} {t:TypeId} {f:Nat→Value} {w:World} (h:fU g t n f n w):z7 t g 0 n f w:=by
 obtain ⟨arr,h1,h2,h3⟩:=h
 exact ⟨arr,h1,by omega,fun i hi=>by rw [Nat.zero_add];exact h3 i hi⟩
def VG (t:TypeId) (w:World) (base:Nat) (a:Option Addr) (n:Nat) (f:Nat→Value):Prop:=n=0∨∃ g o,a=some ⟨g,o,none⟩∧base≤g∧z7 t g o n f w
section
variable {t : TypeId} {w w' : World} {base base' : Nat} {a : Option Addr} {n : Nat} {f : Nat → Value} {S : List Nat}
theorem VG.read (h:VG t w base a n f):fW w a n f:=by
 rcases h with rfl | ⟨g,o,rfl,_,hr⟩
 ·
  exact fW.nil _ _ _
 exact hr.read
theorem VG.up (h:VG t w base a n f) (hb:Below w.heap.size w w'):VG t w' base a n f :=
 h.imp id (by rintro ⟨g,o,ha,hg,hr⟩;exact ⟨g,o,ha,hg,hr.iB (hb.block _ hr.lt)⟩)
theorem VG.mono (h:VG t w base a n f) (hb:base'≤base):VG t w base' a n f :=
 h.imp id (by rintro ⟨g,o,ha,hg,hr⟩;exact ⟨g,o,ha,by omega,hr⟩)
theorem AZ {g o n:Nat} (h:n≠0):g∈ib (some ⟨g,o,none⟩) n:=by unfold ib;rw [if_neg h];simp
theorem VG.fL (h:VG t w base a n f) (ht:Touch S w w') (hp:∀ x∈ib a n,x∉S):VG t w' base a n f:=by
 rcases h with h | ⟨g,o,rfl,hg,hr⟩
 ·
  exact .inl h
 by_cases h0:n=0
 ·
  exact .inl h0
 exact .inr ⟨g,o,rfl,hg,hr.iB (ht.block g hr.lt (hp g (AZ h0)))⟩
theorem VG.blk (h:VG t w base a n f):∀ x∈ib a n,base≤x∧x<w.heap.size:=by
 intro x hx
 unfold ib at hx
 split at hx
 ·
  simp at hx
 rcases h with h | ⟨g,o,rfl,hg,hr⟩
 ·
  contradiction
 simp at hx;subst hx;exact ⟨hg,hr.lt⟩
theorem VG.type (h:VG t w base a n f):∀ x∈ib a n,∃ cs,w.heap[x]?=some (.cells cs t (0,0)):=by
 intro x hx
 unfold ib at hx
 split at hx
 ·
  simp at hx
 rcases h with h | ⟨g,o,rfl,hg,hr⟩
 ·
  contradiction
 simp at hx
 subst hx
 obtain ⟨cs,hc,_⟩:=hr
 exact ⟨cs,hc⟩
theorem VG.ext {f':Nat→Value} (h:VG t w base a n f) (e:∀ i,i<n→f i=f' i):VG t w base a n f' :=
 h.imp id (by rintro ⟨g,o,ha,hg,arr,h1,h2,h3⟩;exact ⟨g,o,ha,hg,arr,h1,h2,fun i hi=>by rw [←e i hi];exact h3 i hi⟩)
theorem VG.low (h:VG t w base a n f) (ht:Touch S w w') (hS:∀ x∈S,x<base):VG t w' base a n f :=
 h.fL ht (fun x hx hy=>by have:=(h.blk x hx).1;have:=hS x hy;omega)
end
theorem VG.apart {t t':TypeId} {w:World} {base base':Nat} {a a':Option Addr} {n n':Nat} {f f':Nat→Value} (h:VG t w base a n f) (k:VG t' w base' a' n' f') (hne:t≠t'):∀ x∈ib a n,x∉ib a' n':=by
 intro x hx hy
 obtain ⟨cs,h1⟩:=h.type x hx
 obtain ⟨cs',h2⟩:=k.type x hy
 rw [h1] at h2
 simp at h2
 exact hne h2.2
theorem VT.g {t:TypeId} {w:World} {base:Nat} {a:Option Addr} {n:Nat} {f:Nat→Value} (h:VT t w base a n f):VG t w base a n f :=
 h.imp id (by rintro ⟨g,ha,hg,hr⟩;exact ⟨g,0,ha,hg,hr.g⟩)
theorem VI.g {w:World} {base:Nat} {a:Option Addr} {n:Nat} {f:Nat→Int} (h:VI w base a n f):VG 2 w base a n fun i=>.int .i64 (f i) :=
 h.imp id (by rintro ⟨g,ha,hg,hr⟩;exact ⟨g,0,ha,hg,hr.g⟩)
theorem VS.g {w:World} {base:Nat} {a:Option Addr} {n:Nat} {f:Nat→Value} (h:VS w base a n f):VG 25 w base a n f :=
 h.imp id (by rintro ⟨g,ha,hg,hr⟩;exact ⟨g,0,ha,hg,hr.g⟩)
theorem fU.vg {t:TypeId} {w:World} {base g n:Nat} {f:Nat→Value} (h:fU g t n f n w) (hb:base≤g):VG t w base (some ⟨g,0,none⟩) n f:=.inr ⟨g,0,rfl,hb,h.g⟩
def pv (K:Nat→Pkt) (j:Nat):Value:=((K (j / 8)).cells[j % 8]?).getD (.bool false)
theorem rB (K:Nat→Pkt) (i j:Nat) (h:j<8):some (pv K (i*8+j))=(K i).cells[j]?:=by
 unfold pv
 rw [show (i*8+j) / 8=i by omega,show (i*8+j) % 8=j by omega]
 rw [Array.getElem?_eq_getElem (by rw [Pkt.gJ];exact h)]
 rfl
def l3 (L:Nat→Lng) (j:Nat):Value:=((L (j / 8)).cells[j % 8]?).getD (.bool false)
theorem jU (L:Nat→Lng) (i j:Nat) (h:j<8):some (l3 L (i*8+j))=(L i).cells[j]?:=by
 unfold l3
 rw [show (i*8+j) / 8=i by omega,show (i*8+j) % 8=j by omega]
 rw [Array.getElem?_eq_getElem (by rw [Lng.gJ];exact h)]
 rfl
theorem VG.Ca {t:TypeId} {w:World} {base:Nat} {a:Option Addr} {n:Nat} {f:Nat→Ent} (h:VG t w base a (n*3) (flat f)):iu w a n f:=by
 intro i hi
 obtain ⟨g,o,ha,h0⟩:=h.read (i*3) (by omega)
 obtain ⟨g1,o1,ha1,h1⟩:=h.read (i*3+1) (by omega)
 obtain ⟨g2,o2,ha2,h2⟩:=h.read (i*3+2) (by omega)
 rw [ha] at ha1 ha2
 cases ha1
 cases ha2
 rw [vp] at h0
 rw [zr] at h1
 rw [vo] at h2
 exact ⟨g,o,ha,h0,h1,h2⟩
theorem VG.pks {t:TypeId} {w:World} {base:Nat} {a:Option Addr} {n:Nat} {K:Nat→Pkt} (h:VG t w base a (n*8) (pv K)):kK w a n K:=by
 intro i hi
 obtain ⟨g,o,ha,h0⟩:=h.read (i*8) (by omega)
 refine ⟨g,o,ha,fun j hj=>?_⟩
 obtain ⟨g1,o1,ha1,h1⟩:=h.read (i*8+j) (by omega)
 rw [ha] at ha1
 cases ha1
 rw [rB K i j hj] at h1
 rw [Nat.add_assoc]
 exact h1
theorem VG.lns {t:TypeId} {w:World} {base:Nat} {a:Option Addr} {n:Nat} {L:Nat→Lng} (h:VG t w base a (n*8) (l3 L)):pP w a n L:=by
 intro i hi
 obtain ⟨g,o,ha,h0⟩:=h.read (i*8) (by omega)
 refine ⟨g,o,ha,fun j hj=>?_⟩
 obtain ⟨g1,o1,ha1,h1⟩:=h.read (i*8+j) (by omega)
 rw [ha] at ha1
 cases ha1
 rw [jU L i j hj] at h1
 rw [Nat.add_assoc]
 exact h1
def l7 (n:Nat) (A:Nat→Option Addr) (L:Nat→Nat):List Nat:=(List.range n).flatMap fun i=>ib (A i) (L i)
theorem ig {n:Nat} {A:Nat→Option Addr} {L:Nat→Nat} {x:Nat}:x∈l7 n A L↔∃ i,i<n∧x∈ib (A i) (L i):=by
 unfold l7
 simp
def Lng.kH (l:Lng):List Nat:=ib l.aT l.nT++(l7 l.nU l.uA l.uL++(ib l.R.aQ l.R.nQ++(ib l.R.aD l.R.nD++l7 l.R.nS l.R.A l.R.L)))
structure gZ (w:World) (base:Nat) (l:Lng):Prop where
 t:VG 2 w base l.aT l.nT fun i=>.int .i64 (l.t i)
 u:VG 25 w base l.aU l.nU fun i=>.slice (l.uA i) (l.uL i) (l.uC i)
 z:∀ i,i<l.nU→VG 2 w base (l.uA i) (l.uL i) fun j=>.int .i64 (l.uz i j)
 q:VG 2 w base l.R.aQ l.R.nQ fun i=>.int .i64 (l.R.q i)
 d:VG 2 w base l.R.aD l.R.nD fun i=>.int .i64 (l.R.d i)
 s:VG 25 w base l.R.aS l.R.nS fun i=>.slice (l.R.A i) (l.R.L i) (l.R.C i)
 y:∀ i,i<l.R.nS→VG 2 w base (l.R.A i) (l.R.L i) fun j=>.int .i64 (l.R.z i j)
 nd:l.kH.Nodup
theorem gZ.rd {w:World} {base:Nat} {l:Lng} (h:gZ w base l):mh w l:=⟨h.t.read,h.u.read,fun i hi=>(h.z i hi).read,⟨h.q.read,h.d.read,h.s.read,fun i hi=>(h.y i hi).read⟩⟩
theorem gZ.up {w w':World} {base:Nat} {l:Lng} (h:gZ w base l) (hb:Below w.heap.size w w'):gZ w' base l :=
 ⟨h.t.up hb,h.u.up hb,fun i hi=>(h.z i hi).up hb,h.q.up hb,h.d.up hb,h.s.up hb,fun i hi=>(h.y i hi).up hb,h.nd⟩
theorem gZ.mono {w:World} {base base':Nat} {l:Lng} (h:gZ w base l) (hb:base'≤base):gZ w base' l :=
 ⟨h.t.mono hb,h.u.mono hb,fun i hi=>(h.z i hi).mono hb,h.q.mono hb,h.d.mono hb,h.s.mono hb,fun i hi=>(h.y i hi).mono hb,h.nd⟩
theorem gZ.low {w w':World} {base:Nat} {l:Lng} {S:List Nat} (h:gZ w base l) (ht:Touch S w w') (hS:∀ x∈S,x<base):gZ w' base l :=
 ⟨h.t.low ht hS,h.u.low ht hS,fun i hi=>(h.z i hi).low ht hS,h.q.low ht hS,h.d.low ht hS,h.s.low ht hS,fun i hi=>(h.y i hi).low ht hS,h.nd⟩
theorem gZ.blk {w:World} {base:Nat} {l:Lng} (h:gZ w base l):∀ x∈l.kH,base≤x∧x<w.heap.size:=by
 intro x hx
 unfold Lng.kH at hx
 simp only [List.mem_append,ig] at hx
 rcases hx with hx | ⟨i,hi,hx⟩ | hx | hx | ⟨i,hi,hx⟩
 ·
  exact h.t.blk x hx
 ·
  exact (h.z i hi).blk x hx
 ·
  exact h.q.blk x hx
 ·
  exact h.d.blk x hx
 exact (h.y i hi).blk x hx
structure gk (a b:Lng):Prop where
 st:b.st=a.st
 nT:b.nT=a.nT
 t:b.t=a.t
 nU:b.nU=a.nU
 l:b.uL=a.uL
 z:b.uz=a.uz
 r:Alike a.R b.R
theorem gk.refl (a:Lng):gk a a:=⟨rfl,rfl,rfl,rfl,rfl,rfl,Alike.refl _⟩
theorem gk.symm {a b:Lng} (h:gk a b):gk b a:=⟨h.st.symm,h.nT.symm,h.t.symm,h.nU.symm,h.l.symm,h.z.symm,h.r.symm⟩
theorem gk.trans {a b c:Lng} (h:gk a b) (k:gk b c):gk a c:=⟨k.st.trans h.st,k.nT.trans h.nT,k.t.trans h.t,k.nU.trans h.nU,k.l.trans h.l,k.z.trans h.z,h.r.trans k.r⟩
structure fP (A B:Swg):Prop where
 c:B.C=A.C
 now:B.now=A.now
 nx:B.nx=A.nx
 nE:B.nE=A.nE
 e:B.e=A.e
 n:gw A.N B.N
 nK:B.nK=A.nK
 k:B.K=A.K
 nL:B.nL=A.nL
 l:∀ i,i<A.nL→gk (A.L i) (B.L i)
 dr:B.dr=A.dr
 lst:B.lst=A.lst
theorem fP.symm {A B:Swg} (h:fP A B):fP B A:=⟨h.c.symm,h.now.symm,h.nx.symm,h.nE.symm,h.e.symm,h.n.symm,h.nK.symm,h.k.symm,h.nL.symm,fun i hi=>(h.l i (by rw [←h.nL];exact hi)).symm,h.dr.symm,h.lst.symm⟩
theorem fP.trans {A B C:Swg} (h:fP A B) (k:fP B C):fP A C:=⟨k.c.trans h.c,k.now.trans h.now,k.nx.trans h.nx,k.nE.trans h.nE,k.e.trans h.e,h.n.trans k.n,k.nK.trans h.nK,k.k.trans h.k,k.nL.trans h.nL,fun i hi=>(h.l i hi).trans (k.l i (by rw [h.nL];exact hi)),k.dr.trans h.dr,k.lst.trans h.lst⟩
theorem gk.small {a b:Lng} (h:gk a b) (hs:a.Small):b.Small :=
 ⟨by rw [h.nT];exact hs.t,by rw [h.nU];exact hs.u,by rw [h.nU,h.l];exact hs.z,⟨by rw [h.r.nQ];exact hs.r.q,by rw [h.r.nD];exact hs.r.d,by rw [h.r.nS];exact hs.r.s,by rw [h.r.nS,h.r.l];exact hs.r.l⟩⟩
theorem fP.small {A B:Swg} (h:fP A B) (hs:A.Small):B.Small :=
 ⟨by rw [h.nE];exact hs.e,h.n.small hs.n,by rw [h.nK];exact hs.k,by rw [h.nK,h.k];exact hs.b,by rw [h.nL];exact hs.l,fun i hi=>by rw [h.nL] at hi;exact (h.l i hi).small (hs.ls i hi)⟩
theorem Alike.ok1 {a b:Rnd} (h:Alike a b) (k:a.Ok):b.Ok:=by
 obtain ⟨aQ,nQ,cQ,q,aD,nD,cD,d,turn,fresh,aS,nS,cS,A,L,C,z⟩:=a
 obtain ⟨aQ',nQ',cQ',q',aD',nD',cD',d',turn',fresh',aS',nS',cS',A',L',C',z'⟩:=b
 obtain ⟨h1,h2,h3,h4,h5,h6,h7,h8,h9⟩:=h
 dsimp only at h1 h2 h3 h4 h5 h6 h7 h8 h9
 subst h1 h2 h3 h4 h5 h6 h7 h8 h9
 exact ⟨k.n,k.d,k.s,k.t,k.c⟩
theorem gk.ok1 {a b:Lng} {m:Nat} {K:Nat→Pkt} (h:gk a b) (k:oo m K a):oo m K b :=
 ⟨h.r.ok1 k.r,by rw [h.r.nQ];exact k.n,by rw [h.r.q];exact k.q0,by rw [h.r.q];exact k.q1,by rw [h.nU];exact k.u,fun c hc=>by
  rw [h.l,h.z,h.r.l,h.r.z];exact k.z c hc,by rw [h.nT,h.t];exact k.t⟩
theorem xd {a b:Lng} (h:gk a b) (x:Int):∀ c,um b x c=um a x c:=by
 intro c
 induction c with
 | zero=>rfl
 | succ c ih =>
  show um b x c+occ (b.uz c) x (b.uL c)=um a x c+occ (a.uz c) x (a.uL c)
  rw [ih,h.z,h.l]
theorem xe {A B:Nat→Lng} {n:Nat} (h:∀ i,i<n→gk (A i) (B i)) (x:Int):∀ i,i≤n→nO B x i=nO A x i:=by
 intro i
 induction i with
 | zero=>intro _;rfl
 | succ i ih =>
  intro hi
  have hl:=h i (by omega)
  show nO B x i+(occ (B i).t x (B i).nT+um (B i) x (B i).nU)=nO A x i+(occ (A i).t x (A i).nT+um (A i) x (A i).nU)
  rw [ih (by omega),hl.t,hl.nT,hl.nU,xd hl]
theorem fP.ok1 {A B:Swg} (h:fP A B) (k:A.Ok):B.Ok:=by
 refine ⟨by rw [h.c];exact h.n.ok.2 k.n,⟨by rw [h.now];exact k.oy.now,by rw [h.nx];exact k.oy.nx,by rw [h.dr];exact k.oy.dr,by rw [h.lst];exact k.oy.lst⟩,?_,by rw [h.nx,h.c,h.nK,h.k];exact k.k,by rw [h.nL,h.c];exact k.nl,fun i hi=>?_,fun j hj=>?_,?_⟩
 ·
  unfold Swg.seen
  rw [h.nE,h.e,h.c,h.now]
  exact k.seen
 ·
  rw [h.nL] at hi
  rw [h.nK,h.k]
  exact (h.l i hi).ok1 (k.l i hi)
 ·
  rw [h.nK] at hj
  rw [h.k,h.nL,xe h.l _ _ (Nat.le_refl _)]
  exact k.refs j hj
 unfold Swg.xz
 rw [h.n.lo,h.k,h.nK,h.n.nU,h.n.u]
 exact k.held
theorem fP.ok {A B:Swg} (h:fP A B):B.Ok↔A.Ok:=⟨h.symm.ok1,h.ok1⟩
theorem VT.low {t:TypeId} {w w':World} {base:Nat} {a:Option Addr} {n:Nat} {f:Nat→Value} {S:List Nat} (h:VT t w base a n f) (ht:Touch S w w') (hS:∀ x∈S,x<base):VT t w' base a n f :=
 h.fL ht (fun x hx hy=>by have:=(h.blk x hx).1;have:=hS x hy;omega)
structure iD (w:World) (base:Nat) (S:Swg):Prop where
 e:VT 92 w base S.aE (S.nE*3) (flat S.e)
 u:VT 2 w base S.N.aU S.N.nU fun i=>.int .i64 (S.N.u i)
 p:VT 4 w base S.N.aP S.N.nP fun i=>.bool (S.N.p i)
 k:VT 94 w base S.aK (S.nK*8) (pv S.K)
 l:VT 99 w base S.aL (S.nL*8) (l3 S.L)
 ls:∀ i,i<S.nL→gZ w base (S.L i)
 nd:(ib S.N.aU S.N.nU++(List.range S.nL).flatMap fun i=>(S.L i).kH).Nodup
theorem iD.rd {w:World} {base:Nat} {S:Swg} (h:iD w base S):jL w S:=⟨h.e.g.Ca,⟨h.u.read,h.p.read⟩,h.k.g.pks,h.l.g.lns,fun i hi=>(h.ls i hi).rd⟩
theorem iD.up {w w':World} {base:Nat} {S:Swg} (h:iD w base S) (hb:Below w.heap.size w w'):iD w' base S :=
 ⟨h.e.up hb,h.u.up hb,h.p.up hb,h.k.up hb,h.l.up hb,fun i hi=>(h.ls i hi).up hb,h.nd⟩
theorem iD.mono {w:World} {base base':Nat} {S:Swg} (h:iD w base S) (hb:base'≤base):iD w base' S :=
 ⟨h.e.mono hb,h.u.mono hb,h.p.mono hb,h.k.mono hb,h.l.mono hb,fun i hi=>(h.ls i hi).mono hb,h.nd⟩
theorem iD.low {w w':World} {base:Nat} {S:Swg} {T:List Nat} (h:iD w base S) (ht:Touch T w w') (hS:∀ x∈T,x<base):iD w' base S :=
 ⟨h.e.low ht hS,h.u.low ht hS,h.p.low ht hS,h.k.low ht hS,h.l.low ht hS,fun i hi=>(h.ls i hi).low ht hS,h.nd⟩
theorem iY {a b:List Nat} (ha:a.Nodup) (hb:b.Nodup) (m:Nat) (h1:∀ x∈a,x<m) (h2:∀ x∈b,m≤x):(a++b).Nodup :=
 List.nodup_append.2 ⟨ha,hb,fun x hx y hy e=>by have:=h1 x hx;have:=h2 y hy;omega⟩
theorem jZ (a:Option Addr) (n:Nat):(ib a n).Nodup:=by
 unfold ib
 split
 ·
  exact List.nodup_nil
 cases a <;> simp
section
variable {P : Program} {ops : Array Oper} {Q : Exit → Act → World → Prop} {md : Region.Mode} {T : World → Prop} {d : Nat}
def jP (P:Program) (md:Region.Mode) (ops:Array Oper) (Q:Exit→Act→World→Prop) (T:World→Prop) (d:Nat):Nat→Array Bool→Act→World→Prop
 | 0,listed,a,w=>Region.ready md ops listed=[]∧Q .normal a w
 | fuel+1,listed,a,w =>
  (Region.ready md ops listed=[]→Q .normal a w) ∧
  ∀ i∈Region.ready md ops listed,wpOp P ops Q i (fun a' w'=>(i=d∨T w')∧jP P md ops Q T d fuel (listed.setIfInBounds i true) a' w') a w
theorem pS:∀ (fuel:Nat) (listed:Array Bool) (a:Act) (w:World),jP P md ops Q T d fuel listed a w→wpAny P md ops Q fuel listed a w
 | 0,_,_,_,h=>h
 | fuel+1,_,_,_,h=>⟨h.1,fun i hi=>wpOp_mono (fun a' w' h'=>pS fuel _ a' w' h'.2) (h.2 i hi)⟩
def jq (md:Region.Mode) (ops:Array Oper) (d i:Nat):Bool:=match ops[d]? with
 | some o=>o.after.any fun e=>Region.binds md e && e.on == i
 | none=>false
theorem qq {i:Nat} (h:jq md ops d i=true):∃ o,ops[d]?=some o∧∃ e∈o.after,Region.binds md e=true∧e.on=i:=by
 unfold jq at h
 cases ho:ops[d]? with
 | none=>rw [ho] at h;cases h
 | some o =>
  rw [ho] at h
  obtain ⟨e,he,h2⟩:=Array.any_eq_true'.1 h
  simp only [Bool.and_eq_true,beq_iff_eq] at h2
  exact ⟨o,rfl,e,he,h2.1,h2.2⟩
theorem o5 {i:Nat} {listed:Array Bool} (h:jq md ops d i=true) (hr:i∈Region.ready md ops listed):d∉Region.ready md ops listed:=by
 intro hd
 obtain ⟨o,ho,e,he,hb,hon⟩:=qq h
 obtain ⟨hjun,oj,hoj,hall⟩:=mem_ready.1 hd
 rw [ho] at hoj
 cases hoj
 have h1:=hall e he hb
 have h0:=(mem_ready.1 hr).1
 rw [hon] at h1
 rcases Nat.lt_or_ge i listed.size with h' | h'
 ·
  simp [h'] at h0 h1;rw [h0] at h1;cases h1
 simp [Array.getElem?_eq_none h'] at h1
theorem si {i:Nat} {oi:Oper} {v:Value} (hi:ops[i]?=some oi) (hsel:∀ (j:Nat) (o:Oper) cs b,ops[j]?=some o→o.op≠.select cs b)
  (hQ:∀ c a w,Q (.panic c) (a.put oi.dst v) w→Q (.panic c) a w) (hd:jq md ops d i=true) :
  ∀ (fuel:Nat) (listed:Array Bool) (a:Act) (w:World),
   (∀ j oj,ops[j]?=some oj→j≠i→listed.getD j true=false→(∀ e∈oj.after,Region.binds md e=true→e.on≠i)→oi.apart ops oj=true) →
   i∈Region.ready md ops listed→YieldsIf P ops T oi v a→T w →
   jP P md ops Q T d fuel (listed.setIfInBounds i true) (a.put oi.dst v) w→jP P md ops Q T d (fuel+1) listed a w:=by
 intro fuel
 induction fuel with
 | zero =>
  intro listed a w _ hr hy hS H
  refine ⟨fun h=>(by rw [h] at hr;cases hr),fun j hj=>?_⟩
  by_cases hji:j=i
  ·
   subst hji;exact hy.wpOp hi hS ⟨.inr hS,H⟩
  have:=ready_mono hj hji
  rw [H.1] at this
  cases this
 | succ fuel ih =>
  intro listed a w hfree hr hy hS H
  refine ⟨fun h=>(by rw [h] at hr;cases hr),fun j hj=>?_⟩
  by_cases hji:j=i
  ·
   subst hji;exact hy.wpOp hi hS ⟨.inr hS,H⟩
  have h1:=H.2 j (ready_mono hj hji)
  have hjd:j≠d:=fun e=>o5 hd hr (e▸hj)
  obtain ⟨hjun,oj,hoj,hall⟩:=mem_ready.1 hj
  have hnot:∀ e∈oj.after,Region.binds md e=true→e.on≠i:=fun e he hb heq=>by
   have h1:=hall e he hb
   have h0:=(mem_ready.1 hr).1
   rw [heq] at h1
   rcases Nat.lt_or_ge i listed.size with h' | h'
   ·
    simp [h'] at h0 h1;rw [h0] at h1;cases h1
   simp [Array.getElem?_eq_none h'] at h1
  have h2:=wpOp_putIf hoj (hfree j oj hoj hji hjun hnot) (fun cs b=>hsel i oi cs b hi) (fun cs b=>hsel j oj cs b hoj) hQ hy h1
  have hfree':∀ k ok,ops[k]?=some ok→k≠i→(listed.setIfInBounds j true).getD k true=false →
    (∀ e∈ok.after,Region.binds md e=true→e.on≠i)→oi.apart ops ok=true:=fun k ok hk hki hun hno=>by
   refine hfree k ok hk hki ?_ hno
   by_cases hjk:j=k
   ·
    subst hjk;exact hjun
   rw [getD_set_ne true hjk] at hun;exact hun
  refine wpOp_mono (fun a' w' h3=>?_) h2
  have hT:T w':=h3.2.1.resolve_left hjd
  refine ⟨.inr hT,ih (listed.setIfInBounds j true) a' w' hfree' (ready_mono hr (Ne.symm hji)) h3.1 hT ?_⟩
  rw [Array.setIfInBounds_comm _ _ hji]
  exact h3.2.2
theorem j3 {i:Nat} (dd:Option Tmp) {oi:Oper} {v:Value} {fuel:Nat} {listed:Array Bool} {a:Act} {w:World} (hy:∀ w,T w→(execOp a.eval oi).run P w=.ok (.value v) w) (hS:T w)
  (h:jP P md ops Q T d fuel (listed.setIfInBounds i true) (a.put dd v) w) (hi:ops[i]?=some oi:=by rfl) (hd:oi.dst=dd:=by rfl) (hwt:jq md ops d i=true:=by kernel_rfl)
  (hs:Region.noSelect ops=true:=by kernel_rfl) (hf:Region.free md ops listed i=true:=by kernel_rfl) (hr:(Region.ready md ops listed).contains i=true:=by kernel_rfl)
  (hQ:∀ c a w,Q (.panic c) (a.put dd v) w→Q (.panic c) a w:=by exact fun _ _ _ h=>h) (hw:Region.wanted oi (yielded ops a.tmps)=true:=by kernel_rfl):jP P md ops Q T d (fuel+1) listed a w:=by
 subst hd
 exact si hi (Region.noSelect_spec hs) hQ hwt fuel listed a w (Region.free_spec hi hf) (by simpa using hr) (Or.inl ⟨hw,hy⟩) hS h
theorem tE (i k:Nat) {oi:Oper} {v:Value} {fuel:Nat} {listed:Array Bool} {a a':Act} {w:World} (hS:T w)
  (h:jP P md ops Q T d fuel (listed.setIfInBounds i true) a' w) (hi:ops[i]?=some oi:=by rfl) (hd:oi.dst=some k:=by rfl)
  (hy:∀ w,T w→(execOp a.eval oi).run P w=.ok (.value v) w:=by intro wx hSw;go_simp;try with_reducible rfl)
  (ha:a.put (some k) v=a':=by (try simp only [Act.put,PZ]);try exact rfl) (hwt:jq md ops d i=true:=by kernel_rfl)
  (hs:Region.noSelect ops=true:=by kernel_rfl) (hf:Region.free md ops listed i=true:=by kernel_rfl) (hr:(Region.ready md ops listed).contains i=true:=by kernel_rfl)
  (hQ:∀ c a w,Q (.panic c) (a.put (some k) v) w→Q (.panic c) a w:=by exact fun _ _ _ h=>h) (hw:Region.wanted oi (yielded ops a.tmps)=true:=by kernel_rfl):jP P md ops Q T d (fuel+1) listed a w :=
 j3 (some k) hy hS (by rw [ha];exact h) hi hd hwt hs hf hr hQ hw
def fH (P:Program) (md:Region.Mode) (ops:Array Oper) (Q:Exit→Act→World→Prop) (T:World→Prop) (d fuel:Nat) (listed:Array Bool) (a:Act) (w:World) (rs:List Nat):Prop :=
 ∀ i∈rs,wpOp P ops Q i (fun a' w'=>(i=d∨T w')∧jP P md ops Q T d fuel (listed.setIfInBounds i true) a' w') a w
theorem fH.nil {fuel:Nat} {listed:Array Bool} {a:Act} {w:World}:fH P md ops Q T d fuel listed a w []:=fun _ h=>by cases h
theorem fH.cons {fuel:Nat} {listed:Array Bool} {a:Act} {w:World} {i:Nat} {o:Oper} {rs:List Nat} (ho:ops[i]?=some o)
  (h:∀ K':Act→World→Prop,Shut (∀ a w,T w→jP P md ops Q T d fuel (listed.setIfInBounds i true) a w→K' a w)→if Region.wanted o (yielded ops a.tmps)=true then Oper.wp P o a w K' Q else K' (a.put o.dst undef) w)
  (hs:fH P md ops Q T d fuel listed a w rs):fH P md ops Q T d fuel listed a w (i :: rs):=fun j hj=>by
 rcases List.mem_cons.1 hj with rfl | hj
 ·
  exact wpOp_step ho (fun K' hK=>h K' (fun a w hS hW=>hK a w ⟨.inr hS,hW⟩))
 exact hs j hj
theorem fH.last {fuel:Nat} {listed:Array Bool} {a:Act} {w:World} {o:Oper} (ho:ops[d]?=some o)
  (h:∀ K':Act→World→Prop,Shut (∀ a w,jP P md ops Q T d fuel (listed.setIfInBounds d true) a w→K' a w)→if Region.wanted o (yielded ops a.tmps)=true then Oper.wp P o a w K' Q else K' (a.put o.dst undef) w):fH P md ops Q T d fuel listed a w [d]:=fun j hj=>by
 obtain rfl:=List.mem_singleton.1 hj
 exact wpOp_step ho (fun K' hK=>h K' (fun a w hW=>hK a w ⟨.inl rfl,hW⟩))
theorem fI {rs:List Nat} {fuel:Nat} {listed:Array Bool} {a:Act} {w:World} (hr:Region.ready md ops listed=rs) (hne:rs≠[])
  (h:fH P md ops Q T d fuel listed a w rs):jP P md ops Q T d (fuel+1) listed a w :=
 ⟨fun h0=>absurd (hr▸h0) hne,hr▸h⟩
theorem gx {listed:Array Bool} {a:Act} {w:World} (hr:Region.ready md ops listed=[]) (h:Q .normal a w) :
  ∀ fuel,jP P md ops Q T d fuel listed a w
 | 0=>⟨hr,h⟩
 | _+1=>⟨fun _=>h,by rw [hr];simp⟩
theorem ia {id:Nat} {a:Act} {w:World} (T:World→Prop) (d:Nat) (hm:P.follows .mixedOrders=true)
  (h:jP P .any ops Q T d ops.size (Array.replicate ops.size false) a w.drew):(Code.region id ops true).wp P Q a w :=
 wp_region_any hm (pS _ _ _ _ h)
end
theorem iz {o:Oper} {a:Act} {K:Act→World→Prop} {Q:Exit→Act→World→Prop} {w:World} {c:Prop} [Decidable c] {E:Prop} (hc:c) (dd:Option Tmp) (hd:o.dst=dd) (ty:TypeId) (x y:Operand) (ho:o.op=.store ty x y) (g off:Nat) (hx:a.eval x=.pointer (some ⟨g,off,none⟩))
  (v:Value) (hy:a.eval y=v) (n:Nat) (hn:v.cells.size=n) (t:TypeId) (cur:Array Value) (hg:w.heap[g]?=some (.cells cur t (0,0))) (hi:(Tryz.prog.info? ty).map (·.size)=some n) (hf:off+n≤cur.size) (h1:v.cells.all (·.oneCell')=true)
  (h:∀ W,Put w W g (lay cur off v.cells) t→K (a.put dd undef) W):if c then o.wp Tryz.prog a w K Q else E:=by
 subst hd
 subst hn
 rw [if_pos hc]
 unfold Oper.wp execOp
 simp only [ho,hx,hy,Instr.storeAt,Instr.sureAddr,Sem.run_bind,Sem.run_pure,Result.andThen_ok,lS w g off t ty cur v hg hi hf h1]
 exact h _ (pZ hg _)
theorem jz {o:Oper} {a:Act} {K:Act→World→Prop} {Q:Exit→Act→World→Prop} {W W':World} {c:Prop} [Decidable c] {E:Prop} (hc:c) (dd:Option Tmp) (hd:o.dst=dd) (s x:Operand) (t:TypeId) (vs vx v:Value)
  (ho:o.op=.call { callee:=.builtin .append,args:=#[s,x],argTypes:=#[t,t] }) (hty:o.type=t) (hs:a.eval s=vs) (hx:a.eval x=vx)
  (hr:(Builtin.append_ #[t,t] t #[vs,vx]).run Tryz.prog W=.ok v W') (h:K (a.put dd v) W'):if c then o.wp Tryz.prog a W K Q else E:=by
 subst hd
 exact qo hc s x t vs vx v ho hty hs hx hr h
end Go.Proofs.YtjaobmbcmjgjgaaGreatDoor
