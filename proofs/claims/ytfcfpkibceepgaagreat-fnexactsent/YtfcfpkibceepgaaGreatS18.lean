import Derived.Test.YtfcfpkibceepgaaGreatS01
import Derived.Test.YtfcfpkibceepgaaGreatS02
import Derived.Laws.Rows
import Derived.Laws.Tables
import Derived.Lib.AppendZeros
import Derived.Maps.AppendAt
import Derived.Room.AppendFits
namespace Go.Proofs.YtfcfpkibceepgaaGreat
set_option maxHeartbeats 2000000
open Go.RowKit
set_option linter.unusedVariables false
set_option linter.unusedSimpArgs false
theorem bX {p:Prop} (h:p:=by
 show (5-(fS R).d c).toNat*(fS R).nQ+wX (gv (fS R)) c<(5-R.d c).toNat*R.nQ+wX R c
 rw [iC]
 by_cases e:R.now=c
 ·
  rw [if_pos e] at hf
  subst e
  have hd:=uj R
  unfold wX at *
  rw [if_pos rfl]
  by_cases hfr:R.fresh=true
  ·
   rw [if_pos hfr] at hd ⊢
   obtain ⟨a,ha⟩:∃ a,(5-R.d R.now).toNat=(5-(fS R).d R.now).toNat+1+a:=⟨(5-R.d R.now).toNat-((5-(fS R).d R.now).toNat+1),by omega⟩
   rw [ha,Nat.add_mul,Nat.add_mul,Nat.one_mul]
   omega
  rw [if_neg hfr] at hd ⊢
  rw [hd]
  omega
 rw [if_neg e] at hf
 have hfe:wX (fS R) c=wX R c:=by
  unfold wX
  rw [iB,iC,if_neg e,if_neg e]
 rw [hfe] at hf
 rw [zP (fun e2=>e e2.symm)]
 omega):p:=h
theorem bY {p:Prop} (h:p:=by
 go_wp2_with fail
 go_loop [1,5] (fun x i=>x=.int .i64 m∧i=.int .i64 0) (fun _ _=>0)
 case atStart=>exact ⟨rfl,rfl⟩
 obtain ⟨rfl,rfl⟩:=hrel
 go_wp2_with fail
 go_ret
 exact ⟨rfl,rfl⟩):p:=h
theorem bZ {p:Prop} (h:p:=by
 intro x hx hy
 have h1:=(h.blk x hx).2
 have h2:=(h'.blk x hy).1
 omega):p:=h
theorem b8 {p:Prop} (h:p:=by
 show (((R.now+1) % R.nQ:Nat):Int)<R.nQ
 have:=Nat.mod_lt (R.now+1) (show R.nQ > 0 by omega)
 omega):p:=h
theorem b9 {p:Prop} (h:p:=by
 show (5-R.d c).toNat*R.nQ+wX (gv R) c<(5-R.d c).toNat*R.nQ+wX R c
 omega):p:=h
theorem ca {p:Prop} (h:p:=by
 rcases h with rfl | ⟨g,rfl,_,hr⟩
 ·
  exact fY.nil _ _ _
 exact hr.read):p:=h
def nF (f:Nat→Int) (c:Nat) (x:Int) (i:Nat):Int:=if i=c then x else f i
def jT (f:Nat→Nat) (c:Nat) (x:Nat) (i:Nat):Nat:=if i=c then x else f i
def pS (z:Nat→Nat→Int) (c:Nat) (y:Nat→Int) (i:Nat):Nat→Int:=if i=c then y else z i
theorem kI (f:Nat→Int) (c:Nat) (x:Int):nF f c x c=x:=if_pos rfl
theorem nC {f:Nat→Int} {c:Nat} {x:Int} {i:Nat} (h:i≠c):nF f c x i=f i:=if_neg h
theorem iH (f:Nat→Nat) (c:Nat) (x:Nat):jT f c x c=x:=if_pos rfl
theorem im {f:Nat→Nat} {c:Nat} {x:Nat} {i:Nat} (h:i≠c):jT f c x i=f i:=if_neg h
theorem na (z:Nat→Nat→Int) (c:Nat) (y:Nat→Int):pS z c y c=y:=if_pos rfl
theorem qM {z:Nat→Nat→Int} {c:Nat} {y:Nat→Int} {i:Nat} (h:i≠c):pS z c y i=z i:=if_neg h
def Rnd.now (R:Rnd):Nat:=R.turn.toNat
def gv (R:Rnd):Rnd:={ R with turn:=(((R.now+1) % R.nQ:Nat):Int),fresh:=true }
def fS (R:Rnd):Rnd:=if R.fresh=true then { R with d:=nF R.d R.now (R.d R.now+R.q R.now),fresh:=false } else R
def AA (R:Rnd):Rnd:={ R with d:=nF R.d R.now (R.d R.now-R.z R.now 0),L:=jT R.L R.now (R.L R.now-1),z:=pS R.z R.now (fun j=>R.z R.now (j+1)) }
def jG (R:Rnd):Rnd:=if R.L R.now=1 then gv { AA R with d:=nF R.d R.now 0 } else AA R
inductive iP:Nat→Rnd→Rnd→Nat→Int→Prop
 | skip {k:Nat} {R R':Rnd} {c:Nat} {s:Int}:R.L R.now=0→iP k (gv R) R' c s→iP (k+1) R R' c s
 | short {k:Nat} {R R':Rnd} {c:Nat} {s:Int}:R.L R.now≠0→(fS R).d R.now<R.z R.now 0→iP k (gv (fS R)) R' c s→iP (k+1) R R' c s
 | take {R:Rnd}:R.L R.now≠0→R.z R.now 0≤(fS R).d R.now→iP 0 R (jG (fS R)) R.now (R.z R.now 0)
theorem lx (R:Rnd):(fS R).L=R.L:=by unfold fS;split <;> rfl
theorem oV (R:Rnd):(fS R).z=R.z:=by unfold fS;split <;> rfl
theorem wV (R:Rnd):(fS R).q=R.q:=by unfold fS;split <;> rfl
theorem iC (R:Rnd):(fS R).nQ=R.nQ:=by unfold fS;split <;> rfl
theorem m5 (R:Rnd):(fS R).turn=R.turn:=by unfold fS;split <;> rfl
theorem iB (R:Rnd):(fS R).now=R.now:=by unfold Rnd.now;rw [m5]
theorem zP {R:Rnd} {i:Nat} (h:i≠R.now):(fS R).d i=R.d i:=by
 unfold fS
 split
 ·
  exact nC h
 rfl
theorem oB (R:Rnd):(fS R).fresh=false:=by
 unfold fS
 split
 ·
  rfl
 rename_i h;simpa using h
theorem uj (R:Rnd):(fS R).d R.now=if R.fresh=true then R.d R.now+R.q R.now else R.d R.now:=by
 unfold fS
 split
 ·
  exact kI _ _ _
 rfl
theorem Rnd.Ok.lM {R:Rnd} (h:R.Ok):R.now<R.nQ:=by
 unfold Rnd.now
 have:=h.t
 omega
theorem yu (R:Rnd):(gv R).now=(R.now+1) % R.nQ:=by
 show (((((R.now+1) % R.nQ:Nat):Int))).toNat=_
 exact Int.toNat_natCast _
theorem oY {R:Rnd} (h:R.Ok) (i:Nat):R.begun i=true↔i=R.now∧R.fresh=false:=by
 unfold Rnd.begun Rnd.now
 have:=h.t
 simp only [Bool.and_eq_true,decide_eq_true_eq,Bool.not_eq_true']
 constructor
 ·
  rintro ⟨a,b⟩;exact ⟨by omega,b⟩
 rintro ⟨a,b⟩;exact ⟨by omega,b⟩
theorem lG {R:Rnd} (h:R.fresh=true) (i:Nat):R.begun i=false:=by simp [Rnd.begun,h]
theorem lZ {R:Rnd} (h:R.Ok) (hl:R.L R.now≠0→R.d R.now<5):(gv R).Ok:=by
 have hn:=h.n
 refine ⟨h.n,h.d,h.s,⟨by show (0:Int)≤(((R.now+1) % R.nQ:Nat):Int);exact Int.natCast_nonneg _,?_⟩,fun i hi=>?_⟩
 · exact b8
 obtain ⟨h1,h2,h3⟩:=h.c i hi
 refine ⟨h1,h2,?_⟩
 rw [lG (R:=gv R) rfl]
 show n7 (R.q i) (R.d i) (R.L i) false
 unfold n7 at h3 ⊢
 by_cases e:R.L i=0
 ·
  rw [if_pos e] at h3 ⊢;exact h3
 rw [if_neg e] at h3 ⊢
 by_cases e2:i=R.now
 ·
  subst e2
  have:=hl e
  simp
  exact ⟨h3.1,by omega⟩
 have:R.begun i=false:=by
  cases hb:R.begun i
  ·
   rfl
  exact absurd ((oY h i).1 hb).1 e2
 rw [this] at h3
 exact h3
theorem lv {R:Rnd} (h:R.Ok) (hl:R.L R.now≠0):(fS R).Ok:=by
 have hn:=h.lM
 by_cases hf:R.fresh=true
 ·
  have e:fS R={ R with d:=nF R.d R.now (R.d R.now+R.q R.now),fresh:=false }:=by unfold fS;rw [if_pos hf]
  rw [e]
  refine ⟨h.n,h.d,h.s,h.t,fun i hi=>?_⟩
  obtain ⟨h1,h2,h3⟩:=h.c i hi
  refine ⟨h1,h2,?_⟩
  rw [lG hf] at h3
  show n7 (R.q i) (nF R.d R.now (R.d R.now+R.q R.now) i) (R.L i) _
  unfold n7 at h3 ⊢
  by_cases e0:R.L i=0
  ·
   rw [if_pos e0] at h3 ⊢
   have:i≠R.now:=fun e=>hl (by rw [←e];exact e0)
   rw [nC this];exact h3
  rw [if_neg e0] at h3 ⊢
  by_cases e2:i=R.now
  ·
   subst e2
   rw [kI]
   have hb:Rnd.begun { R with d:=nF R.d R.now (R.d R.now+R.q R.now),fresh:=false } R.now=true:=by
    unfold Rnd.begun Rnd.now
    have:=h.t
    simp
    omega
   rw [hb]
   simp at h3 ⊢
   omega
  rw [nC e2]
  have hb:Rnd.begun { R with d:=nF R.d R.now (R.d R.now+R.q R.now),fresh:=false } i=false:=by
   unfold Rnd.begun
   have h9:=h.t
   have:¬ ((i:Int)=R.turn):=by unfold Rnd.now at e2;omega
   simp [this]
  rw [hb]
  exact h3
 have e:fS R=R:=by unfold fS;rw [if_neg hf]
 rw [e];exact h
theorem BH {R:Rnd} (h:R.Ok) (hf:R.fresh=false) (hl:R.L R.now≠0) (hd:R.z R.now 0≤R.d R.now):(jG R).Ok:=by
 have hn:=h.lM
 obtain ⟨hq,hz,hdef⟩:=h.c R.now hn
 have hz0:=hz.2 0 (by omega)
 have hd5:0≤R.d R.now∧R.d R.now<5+R.q R.now:=by
  have hb:R.begun R.now=true:=(oY h R.now).2 ⟨rfl,hf⟩
  unfold n7 at hdef
  rw [if_neg hl,hb] at hdef
  simpa using hdef
 have hsz:∀ i,i<R.nQ→kO (jT R.L R.now (R.L R.now-1) i) (pS R.z R.now (fun j=>R.z R.now (j+1)) i):=fun i hi=>by
  by_cases e:i=R.now
  ·
   subst e
   rw [iH,na]
   exact ⟨by have:=hz.1;omega,fun j hj=>hz.2 (j+1) (by omega)⟩
  rw [im e,qM e]
  exact (h.c i hi).2.1
 have hbn:∀ i,i≠R.now→R.begun i=false:=fun i e=>by
  cases hb:R.begun i
  ·
   rfl
  exact absurd ((oY h i).1 hb).1 e
 unfold jG
 by_cases h1:R.L R.now=1
 ·
  rw [if_pos h1]
  refine ⟨h.n,h.d,h.s,⟨by show (0:Int)≤(((R.now+1) % R.nQ:Nat):Int);exact Int.natCast_nonneg _,?_⟩,fun i hi=>⟨(h.c i hi).1,hsz i hi,?_⟩⟩
  · exact b8
  rw [lG (by rfl)]
  show n7 (R.q i) (nF R.d R.now 0 i) (jT R.L R.now (R.L R.now-1) i) false
  by_cases e:i=R.now
  ·
   subst e
   rw [kI,iH]
   unfold n7
   rw [if_pos (by omega)]
  rw [nC e,im e]
  have:=(h.c i hi).2.2
  rw [hbn i e] at this
  exact this
 rw [if_neg h1]
 refine ⟨h.n,h.d,h.s,h.t,fun i hi=>⟨(h.c i hi).1,hsz i hi,?_⟩⟩
 show n7 (R.q i) (nF R.d R.now (R.d R.now-R.z R.now 0) i) (jT R.L R.now (R.L R.now-1) i) (R.begun i)
 by_cases e:i=R.now
 ·
  subst e
  rw [kI,iH,(oY h R.now).2 ⟨rfl,hf⟩]
  unfold n7
  rw [if_neg (by omega)]
  simp
  omega
 rw [nC e,im e]
 exact (h.c i hi).2.2
theorem iP.ok {k:Nat} {R R':Rnd} {c:Nat} {s:Int} (h:iP k R R' c s):R.Ok→R'.Ok∧R'.nQ=R.nQ∧c<R.nQ∧1≤s∧s≤5:=by
 induction h with
 | skip h0 _ ih =>
  intro ho
  exact ih (lZ ho (fun e=>absurd h0 e))
 | short h0 h1 _ ih =>
  rename_i R0 _ _ _ _
  intro ho
  have hg:=lv ho h0
  have hz:=((ho.c R0.now ho.lM).2.1).2 0 (by omega)
  have h2:=ih (lZ hg (fun _=>by rw [iB];omega))
  have e:(gv (fS R0)).nQ=R0.nQ:=iC R0
  rw [e] at h2
  exact h2
 | take h0 h1 =>
  rename_i R0
  intro ho
  have hg:=lv ho h0
  have hz:=((ho.c R0.now ho.lM).2.1).2 0 (by omega)
  refine ⟨BH hg (oB R0) (by rw [lx,iB];exact h0) (by rw [oV,iB];exact h1),?_,ho.lM,hz.1,hz.2⟩
  unfold jG
  split <;> exact iC R0
def wX (R:Rnd) (c:Nat):Nat:=if R.now=c then (if R.fresh=true then 0 else R.nQ) else (c+R.nQ-R.now) % R.nQ
def l9 (R:Rnd) (c:Nat):Nat:=(5-R.d c).toNat*R.nQ+wX R c
theorem oW {R:Rnd} {c:Nat} (hn:R.now<R.nQ) (hc:c<R.nQ):wX (gv R) c+1≤(if R.now=c then R.nQ else wX R c):=by
 have e1:(gv R).now=(R.now+1) % R.nQ:=yu R
 have e2:(gv R).fresh=true:=rfl
 have e3:(gv R).nQ=R.nQ:=rfl
 unfold wX
 rw [e1,e2,e3]
 by_cases hw:R.now+1=R.nQ
 ·
  rw [hw,Nat.mod_self]
  by_cases ec:R.now=c
  ·
   rw [if_pos ec]
   by_cases e0:0=c
   ·
    rw [if_pos e0];simp;omega
   rw [if_neg e0,Nat.mod_eq_sub_mod (by omega),show c+R.nQ-0-R.nQ=c by omega,Nat.mod_eq_of_lt hc];omega
  rw [if_neg ec,if_neg ec]
  by_cases e0:0=c
  ·
   rw [if_pos e0]
   simp
   rw [show c+R.nQ-R.now=1 by omega,Nat.mod_eq_of_lt (by omega)]
   exact Nat.le_refl _
  rw [if_neg e0,Nat.mod_eq_sub_mod (by omega),show c+R.nQ-0-R.nQ=c by omega,Nat.mod_eq_of_lt hc,show c+R.nQ-R.now=c+1 by omega,Nat.mod_eq_of_lt (by omega)]
  exact Nat.le_refl _
 have hm:(R.now+1) % R.nQ=R.now+1:=Nat.mod_eq_of_lt (by omega)
 rw [hm]
 by_cases ec:R.now=c
 ·
  rw [if_pos ec,if_neg (by omega),show c+R.nQ-(R.now+1)=R.nQ-1 by omega,Nat.mod_eq_of_lt (by omega)]
  omega
 rw [if_neg ec,if_neg ec]
 by_cases e1:R.now+1=c
 ·
  rw [if_pos e1]
  simp
  rw [show c+R.nQ-R.now=1+R.nQ by omega,Nat.add_mod_right,Nat.mod_eq_of_lt (by omega)]
  exact Nat.le_refl _
 rw [if_neg e1]
 by_cases hlt:c<R.now
 ·
  rw [Nat.mod_eq_of_lt (by omega),Nat.mod_eq_of_lt (by omega)]
  omega
 rw [Nat.mod_eq_sub_mod (by omega),Nat.mod_eq_of_lt (by omega),Nat.mod_eq_sub_mod (a:=c+R.nQ-R.now) (by omega),Nat.mod_eq_of_lt (by omega)]
 omega
theorem AN (c:Nat):∀ (m:Nat) (R:Rnd),l9 R c=m→R.Ok→c<R.nQ→R.L c≠0→∃ k R' x s,iP k R R' x s:=by
 intro m
 induction m using Nat.strongRecOn with
 | ind m ih =>
  intro R hm ho hc hl
  have hn:=ho.lM
  by_cases h0:R.L R.now=0
  ·
   have hne:R.now≠c:=fun e=>hl (by rw [←e];exact h0)
   have hf:=oW hn hc
   rw [if_neg hne] at hf
   have hlt:l9 (gv R) c<m:=by
    rw [←hm]
    exact b9
   obtain ⟨k,R',x,s,hp⟩:=ih _ hlt (gv R) rfl (lZ ho (fun e=>absurd h0 e)) hc hl
   exact ⟨k+1,R',x,s,.skip h0 hp⟩
  by_cases h1:R.z R.now 0≤(fS R).d R.now
  ·
   exact ⟨0,_,_,_,.take h0 h1⟩
  have hg:=lv ho h0
  have hz:=((ho.c R.now hn).2.1).2 0 (by omega)
  have hq:=(ho.c R.now hn).1
  have hgn:(fS R).now<(fS R).nQ:=hg.lM
  have hf:=oW (R:=fS R) (c:=c) hgn (by rw [iC];exact hc)
  rw [iB,iC] at hf
  have hlt:l9 (gv (fS R)) c<m:=by
   rw [←hm]
   exact bX
  obtain ⟨k,R',x,s,hp⟩:=ih _ hlt (gv (fS R)) rfl (lZ hg (fun _=>by rw [iB];omega)) (by show c<(fS R).nQ;rw [iC];exact hc) (by show (fS R).L c≠0;rw [lx];exact hl)
  exact ⟨k+1,R',x,s,.short h0 (by omega) hp⟩
theorem tt {R:Rnd} {c:Nat} (ho:R.Ok) (hc:c<R.nQ) (hl:R.L c≠0) (h0:R.L R.now=0):l9 (gv R) c<l9 R c:=by
 have hne:R.now≠c:=fun e=>hl (by rw [←e];exact h0)
 have hf:=oW ho.lM hc
 rw [if_neg hne] at hf
 exact b9
theorem qD {R:Rnd} {c:Nat} (ho:R.Ok) (hc:c<R.nQ) (h0:R.L R.now≠0) (h1:(fS R).d R.now<R.z R.now 0):l9 (gv (fS R)) c<l9 R c:=by
 have hn:=ho.lM
 have hg:=lv ho h0
 have hz:=((ho.c R.now hn).2.1).2 0 (by omega)
 have hq:=(ho.c R.now hn).1
 have hf:=oW (R:=fS R) (c:=c) hg.lM (by rw [iC];exact hc)
 rw [iB,iC] at hf
 exact bX
theorem wN {R:Rnd} (ht:0≤R.turn∧R.turn<R.nQ):(R.turn+1).tmod (R.nQ:Int)=(((R.now+1) % R.nQ:Nat):Int):=by
 have e:R.turn+1=((R.now+1:Nat):Int):=by unfold Rnd.now;omega
 rw [e,Int.tmod_eq_emod_of_nonneg (by omega)]
 rfl
theorem wQ (R:Rnd) (w:World) (hn:1≤R.nQ∧R.nQ≤4) (ht:0≤R.turn∧R.turn<R.nQ) :
  Calls Tryz.prog 100 #[.agg R.cells] w fun e w'=>e=.returned (.agg (gv R).cells)∧Below w.heap.size w w':=by
 have hrt:=wN ht
 have hnz:((R.nQ:Int) == 0)=false:=by simp;omega
 have HT:Hid ((R.turn+1).tmod (R.nQ:Int)=(((R.now+1) % R.nQ:Nat):Int)):=hrt
 have ht2:R.turn≤4:=by omega
 have ht1:0≤R.turn:=ht.1
 have hnz2:¬ R.nQ=0:=by omega
 clear hn ht
 unfold Rnd.cells
 go_enter Tryz.func100,Tryz.ntmps100
 go_wp2_with fail
 exact bodyPost_ret (v:=.agg #[.slice R.aQ R.nQ R.cQ,.slice R.aD R.nD R.cD,.int .i64 (((R.now:Int)+1) % (R.nQ:Int)),.bool true,.slice R.aS R.nS R.cS]) (by simp [results,Tryz.results100,go_sem]) rfl ⟨rfl,((Below.refl _ _).alloc (Nat.le_refl _) _).alloc (by simp) _⟩
theorem n5 (R:Rnd) (w:World) (h:R.Ok) :
  Calls Tryz.prog 100 #[.agg R.cells] w fun e w'=>e=.returned (.agg (gv R).cells)∧Below w.heap.size w w':=wQ R w h.n h.t
theorem mR {w w1:World} {A B C:Obj} (h:Below (((w.alloc A).alloc B).alloc C).heap.size (((w.alloc A).alloc B).alloc C) w1) :
  w1.heap[w.heap.size]?=some A∧w1.heap[w.heap.size+1]?=some B∧w1.heap[w.heap.size+1+1]?=some C∧Below w.heap.size w w1∧w.heap.size+3≤w1.heap.size:=by
 have e1:(w.alloc A).heap.size=w.heap.size+1:=by simp
 have e2:((w.alloc A).alloc B).heap.size=w.heap.size+1+1:=by simp
 have e3:(((w.alloc A).alloc B).alloc C).heap.size=w.heap.size+1+1+1:=by simp
 rw [e3] at h
 have b1:=fL w A
 have b2:=fL (w.alloc A) B
 rw [e1] at b2
 have b3:=fL ((w.alloc A).alloc B) C
 rw [e2] at b3
 refine ⟨?_,?_,?_,?_,?_⟩
 ·
  rw [h.block _ (by omega),gg _ (by rw [e2];omega),gg _ (by rw [e1];omega)];exact b1
 ·
  rw [h.block _ (by omega),gg _ (by rw [e2];omega)];exact b2
 ·
  rw [h.block _ (by omega)];exact b3
 ·
  exact ((((Below.refl _ _).alloc (Nat.le_refl _) _).alloc (by rw [e1];omega) _).alloc (by rw [e2];omega) _).trans (h.mono (by omega))
 have:=h.size
 omega
def Rnd.copy (R:Rnd) (gQ gD gS:Nat) (G:Nat→Nat):Rnd :=
 ⟨some ⟨gQ,0,none⟩,R.nQ,R.nQ,R.q,some ⟨gD,0,none⟩,R.nD,R.nD,R.d,R.turn,R.fresh,some ⟨gS,0,none⟩,R.nS,R.nS,fun i=>some ⟨G i,0,none⟩,R.L,R.L,R.z⟩
structure oI (w:World) (R:Rnd) (gQ gD gS:Nat) (G:Nat→Nat):Prop where
 q:fV gQ 2 R.nQ (fun i=>.int .i64 (R.q i)) R.nQ w
 d:fV gD 2 R.nD (fun i=>.int .i64 (R.d i)) R.nD w
 s:qg w gS gS R.nS R.nS G R.L R.z
 lt:gQ<gD∧gD<gS
theorem oI.rd {w:World} {R:Rnd} {gQ gD gS:Nat} {G:Nat→Nat} (h:oI w R gQ gD gS G):iY w (R.copy gQ gD gS G) :=
 ⟨h.q.read,h.d.read,h.s.top.read,fun i hi=>(h.s.row i hi).read⟩
theorem oI.up {w w':World} {R:Rnd} {gQ gD gS:Nat} {G:Nat→Nat} (h:oI w R gQ gD gS G) (hb:Below w.heap.size w w'):oI w' R gQ gD gS G :=
 ⟨h.q.ir (hb.block _ h.q.lt),h.d.ir (hb.block _ h.d.lt),h.s.ir hb,h.lt⟩
theorem uS (R:Rnd) (w:World) (hs:R.Small) (h:iY w R) :
  Calls Tryz.prog 103 #[.agg R.cells] w fun e w'=>∃ gQ gD gS G,e=.returned (.agg (R.copy gQ gD gS G).cells)∧w.heap.size≤gQ∧oI w' R gQ gD gS G∧Below w.heap.size w w':=by
 obtain ⟨aQ,nQ,cQ,q,aD,nD,cD,d,turn,fresh,aS,nS,cS,A,L,C,z⟩:=R
 have HR:Hid (iY w ⟨aQ,nQ,cQ,q,aD,nD,cD,d,turn,fresh,aS,nS,cS,A,L,C,z⟩):=h
 have HS:Hid (Rnd.Small ⟨aQ,nQ,cQ,q,aD,nD,cD,d,turn,fresh,aS,nS,cS,A,L,C,z⟩):=hs
 clear h hs
 unfold Rnd.cells
 go_enter Tryz.func103,Tryz.ntmps103
 go_wp2_with fail
 have HA:Hid (∀ A B C,Below w.heap.size w (((w.alloc A).alloc B).alloc C)):=fun A B C=>(((Below.refl _ _).alloc (Nat.le_refl _) _).alloc (by simp) _).alloc (by simp;omega) _
 have e3:∀ A B C,(((w.alloc A).alloc B).alloc C).heap.size=w.heap.size+1+1+1:=fun A B C=>by simp
 refine (kM aQ nQ cQ q _ HS.out.q (HR.out.q.up (HA.out _ _ _))).mono ?_
 rintro e w1 ⟨rfl,hN,hb1⟩
 obtain ⟨kA,kB,kC,B1,z1⟩:=mR hb1
 rw [e3] at hN
 have cA:=fG kA
 have cC:=fG kC
 have fC:=fX kC
 have lN:=hN.lt
 clear hb1 HA
 go_wp2_with fail
 obtain ⟨v1,hv1⟩:∃ v1:Value,v1=.slice (some ⟨w.heap.size+1+1+1,0,none⟩) nQ nQ:=⟨_,rfl⟩
 have kA':=(fO (w:=w1) (g:=w.heap.size+1+1) (k:=w.heap.size) (i:=0) (by omega) v1).trans kA
 have kB':=(fO (w:=w1) (g:=w.heap.size+1+1) (k:=w.heap.size+1) (i:=0) (by omega) v1).trans kB
 have kC':(w1.setCell ⟨w.heap.size+1+1,0,none⟩ v1).heap[w.heap.size+1+1]?=some (.cells #[v1,.slice none 0 0,.int .i64 0,.bool false,.slice none 0 0] 100 (0,0)):=gj kC _
 have hN':=hN.ir (fO (w:=w1) (g:=w.heap.size+1+1) (k:=w.heap.size+1+1+1) (i:=0) (by omega) v1)
 have B1':=B1.setCell (p:=⟨w.heap.size+1+1,0,none⟩) (by show _≤_+1+1;omega) v1
 have hz3:(w1.setCell ⟨w.heap.size+1+1,0,none⟩ v1).heap.size=w1.heap.size:=by simp [World.setCell]
 rw [←hv1]
 generalize w1.setCell ⟨w.heap.size+1+1,0,none⟩ v1=W at *
 clear kA kB kC cA cC fC hN B1
 refine (kM aD nD cD d _ HS.out.d (HR.out.d.up B1')).mono ?_
 rintro e w2 ⟨rfl,hD,hb2⟩
 rw [hz3] at hD hb2
 have kA2:=(hb2.block _ (by omega)).trans kA'
 have kB2:=(hb2.block _ (by omega)).trans kB'
 have kC2:=(hb2.block _ (by omega)).trans kC'
 have hN2:=hN'.ir (hb2.block _ (by omega))
 have B2:Below w.heap.size w w2:=B1'.trans (hb2.mono (by omega))
 have cA:=fG kA2
 have cC:=fG kC2
 have fC:=fX kC2
 have lD:=hD.lt
 have hzW:w1.heap.size<w2.heap.size:=lD
 clear hb2 kA' kB' kC' hN' B1'
 go_wp2_with fail
 obtain ⟨v2,hv2⟩:∃ v2:Value,v2=.slice (some ⟨w1.heap.size,0,none⟩) nD nD:=⟨_,rfl⟩
 rw [←hv2]
 have t1:=gj (i:=1) kC2 v2
 have t2:=gj (i:=2) t1 (.int .i64 turn)
 have t3:=gj (i:=3) t2 (.bool fresh)
 have hne:∀ (k:Nat),k≠w.heap.size+1+1→(((w2.setCell ⟨w.heap.size+1+1,1,none⟩ v2).setCell ⟨w.heap.size+1+1,2,none⟩ (.int .i64 turn)).setCell ⟨w.heap.size+1+1,3,none⟩ (.bool fresh)).heap[k]?=w2.heap[k]?:=fun k hk=>by
  rw [fO hk,fO hk,fO hk]
 have kA3:=(hne w.heap.size (by omega)).trans kA2
 have kB3:=(hne (w.heap.size+1) (by omega)).trans kB2
 have hN3:=hN2.ir (hne (w.heap.size+1+1+1) (by omega))
 have hD3:=hD.ir (hne w1.heap.size (by omega))
 have B3:=((B2.setCell (p:=⟨w.heap.size+1+1,1,none⟩) (by show _≤_+1+1;omega) v2).setCell (p:=⟨w.heap.size+1+1,2,none⟩) (by show _≤_+1+1;omega) (.int .i64 turn)).setCell (p:=⟨w.heap.size+1+1,3,none⟩) (by show _≤_+1+1;omega) (.bool fresh)
 have hz4:(((w2.setCell ⟨w.heap.size+1+1,1,none⟩ v2).setCell ⟨w.heap.size+1+1,2,none⟩ (.int .i64 turn)).setCell ⟨w.heap.size+1+1,3,none⟩ (.bool fresh)).heap.size=w2.heap.size:=by simp [World.setCell]
 have t3':(((w2.setCell ⟨w.heap.size+1+1,1,none⟩ v2).setCell ⟨w.heap.size+1+1,2,none⟩ (.int .i64 turn)).setCell ⟨w.heap.size+1+1,3,none⟩ (.bool fresh)).heap[w.heap.size+1+1]?=some (.cells #[v1,v2,.int .i64 turn,.bool fresh,.slice none 0 0] 100 (0,0)):=t3
 clear t1 t2 t3 hne kA2 kB2 kC2 hN2 hD B2 cA cC fC
 generalize ((w2.setCell ⟨w.heap.size+1+1,1,none⟩ v2).setCell ⟨w.heap.size+1+1,2,none⟩ (.int .i64 turn)).setCell ⟨w.heap.size+1+1,3,none⟩ (.bool fresh)=W2 at *
 refine (pg aS nS cS A L C z _ HS.out.s (HR.out.s.up B3) (fun i hi=>(HR.out.z i hi).up B3) HS.out.l).mono ?_
 rintro e w3 ⟨G,rfl,hG,hb3⟩
 rw [hz4] at hG hb3
 have kA4:=(hb3.block _ (by omega)).trans kA3
 have kB4:=(hb3.block _ (by omega)).trans kB3
 have kC4:=(hb3.block _ (by omega)).trans t3'
 have hN4:=hN3.ir (hb3.block _ (by omega))
 have hD4:=hD3.ir (hb3.block _ (by omega))
 have B4:Below w.heap.size w w3:=B3.trans (hb3.mono (by omega))
 have cB:=fG kB4
 have cC:=fG kC4
 have fB:=fX kB4
 have fC:=fX kC4
 have hW0:w.heap.size+1+1+1<w1.heap.size:=lN
 subst hv1
 subst hv2
 clear hb3 kA3 kB3 t3' hN3 hD3 B3 kA4
 go_wp2_with fail
 refine bodyPost_ret (v:=.agg #[.slice (some ⟨w.heap.size+1+1+1,0,none⟩) nQ nQ,.slice (some ⟨w1.heap.size,0,none⟩) nD nD,.int .i64 turn,.bool fresh,.slice (some ⟨w2.heap.size,0,none⟩) nS nS]) (by simp [results,Tryz.results103,go_sem,cB]) rfl ⟨w.heap.size+1+1+1,w1.heap.size,w2.heap.size,G,rfl,by omega,?_,?_⟩
 ·
  have hk:∀ j,j≠w.heap.size+1→j≠w.heap.size+1+1→∀ (x0 x1 x2 x3 x4 x5:Value),(((((((w3.setCell ⟨w.heap.size+1+1,4,none⟩ x0).setCell ⟨w.heap.size+1,0,none⟩ x1).setCell ⟨w.heap.size+1,1,none⟩ x2).setCell ⟨w.heap.size+1,2,none⟩ x3).setCell ⟨w.heap.size+1,3,none⟩ x4).setCell ⟨w.heap.size+1,4,none⟩ x5)).heap[j]?=w3.heap[j]?:=fun j h1 h2 x0 x1 x2 x3 x4 x5=>by
   rw [fO h1,fO h1,fO h1,fO h1,fO h1,fO h2]
  refine ⟨hN4.ir (hk _ (by omega) (by omega) _ _ _ _ _ _),hD4.ir (hk _ (by omega) (by omega) _ _ _ _ _ _),⟨hG.top.ir (hk _ (by omega) (by omega) _ _ _ _ _ _),hG.low,fun i hi=>(hG.row i hi).ir (hk _ ?_ ?_ _ _ _ _ _ _),hG.inc⟩,⟨by omega,by omega⟩⟩
  ·
   have:=hG.low i hi;omega
  have:=hG.low i hi;omega
 exact (((((B4.setCell (by show _≤_+1+1;omega) _).setCell (by show _≤_+1;omega) _).setCell (by show _≤_+1;omega) _).setCell (by show _≤_+1;omega) _).setCell (by show _≤_+1;omega) _).setCell (by show _≤_+1;omega) _
theorem vT (R1 R2:Rnd) (w:World) (hs:R1.Small) (h1:iY w R1) (h2:iY w R2) (eQ:R2.nQ=R1.nQ) (eq:R2.q=R1.q) (eD:R2.nD=R1.nD) (ed:R2.d=R1.d) (et:R2.turn=R1.turn) (ef:R2.fresh=R1.fresh) (eS:R2.nS=R1.nS) (eL:R2.L=R1.L) (ez:R2.z=R1.z) :
  Calls Tryz.prog 122 #[.agg R1.cells,.agg R2.cells] w fun e w'=>e=.returned (.bool true)∧Below w.heap.size w w':=by
 obtain ⟨aQ,nQ,cQ,q,aD,nD,cD,d,turn,fresh,aS,nS,cS,A,L,C,z⟩:=R1
 obtain ⟨aQ2,nQ2,cQ2,q2,aD2,nD2,cD2,d2,turn2,fresh2,aS2,nS2,cS2,A2,L2,C2,z2⟩:=R2
 dsimp only at eQ eq eD ed et ef eS eL ez
 subst eQ eq eD ed et ef eS eL ez
 have H1:Hid (iY w ⟨aQ,_,cQ,_,aD,_,cD,_,_,_,aS,_,cS,A,_,C,_⟩):=h1
 have H2:Hid (iY w ⟨aQ2,_,cQ2,_,aD2,_,cD2,_,_,_,aS2,_,cS2,A2,_,C2,_⟩):=h2
 have HS:Hid (Rnd.Small ⟨aQ,_,cQ,_,aD,_,cD,_,_,_,aS,_,cS,A,_,C,_⟩):=hs
 clear h1 h2 hs
 have HA:Hid (∀ o1 o2,Below w.heap.size w ((w.alloc o1).alloc o2)):=fun o1 o2=>(((Below.refl _ _).alloc (Nat.le_refl _) _).alloc (by simp) _)
 unfold Rnd.cells
 go_enter Tryz.func122,Tryz.ntmps122
 go_wp2_with fail
 refine (k9 _ _ _ _ _ _ _ HS.out.q (H1.out.q.up (HA.out _ _)) (H2.out.q.up (HA.out _ _))).mono ?_
 rintro e w1 ⟨rfl,hS1⟩
 have c1:=fun (b:Nat) (i:Nat)=>hS1.cell ⟨b,i,none⟩
 have b1:=(HA.out _ _).trans (hS1.below _)
 go_wp2_with fail
 refine (k9 _ _ _ _ _ _ _ HS.out.d (H1.out.d.up b1) (H2.out.d.up b1)).mono ?_
 rintro e w2 ⟨rfl,hS2⟩
 have c2:=fun (b:Nat) (i:Nat)=>hS2.cell ⟨b,i,none⟩
 have b2:=b1.trans (hS2.below _)
 go_wp2_with fail
 refine (pJ _ _ _ _ _ _ _ _ _ _ _ _ HS.out.s HS.out.l (H1.out.s.up b2) (H2.out.s.up b2) (fun i hi=>(H1.out.z i hi).up b2) (fun i hi=>(H2.out.z i hi).up b2)).mono ?_
 rintro e w3 ⟨rfl,hS3⟩
 have c3:=fun (b:Nat) (i:Nat)=>hS3.cell ⟨b,i,none⟩
 have b3:=b2.trans (hS3.below _)
 go_wp2_with fail
 go_ret
 exact ⟨rfl,b3⟩
def VI (w:World) (base:Nat) (a:Option Addr) (n:Nat) (f:Nat→Int):Prop:=n=0∨∃ g,a=some ⟨g,0,none⟩∧base≤g∧fV g 2 n (fun i=>.int .i64 (f i)) n w
def iS (a:Option Addr) (n:Nat):List Nat:=if n=0 then [] else (a.map (·.block)).toList
def iI (a:Option Addr) (n:Nat) (a':Option Addr) (n':Nat):Prop:=∀ x∈iS a n,x∉iS a' n'
theorem iI.symm {a a':Option Addr} {n n':Nat} (h:iI a n a' n'):iI a' n' a n:=fun x hx hy=>h x hy hx
theorem VI.read {w:World} {base:Nat} {a:Option Addr} {n:Nat} {f:Nat→Int} (h:VI w base a n f):fY w a n fun i=>.int .i64 (f i):=ca
theorem VI.up {w w':World} {base:Nat} {a:Option Addr} {n:Nat} {f:Nat→Int} (h:VI w base a n f) (hb:Below w.heap.size w w'):VI w' base a n f :=
 h.imp id (by rintro ⟨g,ha,hg,hr⟩;exact ⟨g,ha,hg,hr.ir (hb.block _ hr.lt)⟩)
theorem VI.mono {w:World} {base base':Nat} {a:Option Addr} {n:Nat} {f:Nat→Int} (h:VI w base a n f) (hb:base'≤base):VI w base' a n f :=
 h.imp id (by rintro ⟨g,ha,hg,hr⟩;exact ⟨g,ha,by omega,hr⟩)
theorem lF {g n:Nat} (h:n≠0):g∈iS (some ⟨g,0,none⟩) n:=by unfold iS;rw [if_neg h];simp
theorem VI.fK {w w':World} {base:Nat} {a:Option Addr} {n:Nat} {f:Nat→Int} {S:List Nat} (h:VI w base a n f) (ht:Touch S w w') (hp:∀ x∈iS a n,x∉S):VI w' base a n f:=by
 rcases h with h | ⟨g,rfl,hg,hr⟩
 ·
  exact .inl h
 by_cases h0:n=0
 ·
  exact .inl h0
 exact .inr ⟨g,rfl,hg,hr.ir (ht.block g hr.lt (hp g (lF h0)))⟩
theorem VI.blk {w:World} {base:Nat} {a:Option Addr} {n:Nat} {f:Nat→Int} (h:VI w base a n f):∀ x∈iS a n,base≤x∧x<w.heap.size:=by
 intro x hx
 unfold iS at hx
 split at hx
 ·
  simp at hx
 rcases h with h | ⟨g,rfl,hg,hr⟩
 ·
  contradiction
 simp at hx;subst hx;exact ⟨hg,hr.lt⟩
theorem rr (a:Option Addr) (cap m:Nat) (w:World):Calls Tryz.prog 85 #[.slice a 0 cap,.int .i64 m] w fun e w'=>e=.returned (.int .i64 m)∧w=w':=by
 go_enter Tryz.func85,Tryz.ntmps85
 exact bY
theorem rY (a:Option Addr) (cap m:Nat) (w:World):Calls Tryz.prog 88 #[.slice a 0 cap,.int .i64 m] w fun e w'=>e=.returned (.int .i64 m)∧w=w':=by
 go_enter Tryz.func88,Tryz.ntmps88
 exact bY
def iD (L:Nat→Nat):Nat→Nat
 | 0=>0
 | k+1=>iD L k+L k
theorem u5 (L:Nat→Nat) {i k:Nat} (h:i≤k):iD L i≤iD L k:=by
 induction k with
 | zero =>
      obtain rfl:i=0:=by omega
      exact Nat.le_refl _
 | succ k ih =>
  by_cases e:i=k+1
  ·
   rw [e];exact Nat.le_refl _
  have:=ih (by omega)
  show iD L i≤iD L k+L k
  omega
def j9 (n:Nat) (f:Nat→Int):List Value:=(List.range n).map fun i=>.int .i64 (f i)
theorem pF (n:Nat) (f:Nat→Int):(j9 n f).length=n:=by simp [j9]
theorem tJ {n:Nat} {f:Nat→Int} {j:Nat} {u:Value} (h:(j9 n f)[j]?=some u):j<n∧u=.int .i64 (f j):=by
 have hj:j<n:=by
  have:=(List.getElem?_eq_some_iff.1 h).1
  rwa [pF] at this
 refine ⟨hj,?_⟩
 simp [j9,hj] at h
 exact h.symm
theorem Bb {n:Nat} {f:Nat→Int} {j:Nat} (h:j<n):(j9 n f)[j]?=some (.int .i64 (f j)):=by simp [j9,h]
theorem yK {w:World} {base n:Nat} {v:Value} {f:Nat→Int} (h:w.ownsRow base 2 1 v n (j9 n f)):∃ a c,v=.slice a n c∧VI w base a n f:=by
 rcases h.2 with ⟨rfl,rfl⟩ | ⟨g,cap,cur,rfl,hb,hg,hnc,hcm,hcs,htake⟩
 ·
  exact ⟨none,0,rfl,.inl rfl⟩
 refine ⟨_,cap,rfl,.inr ⟨g,rfl,hb,cur,hg,by omega,fun i hi=>?_⟩⟩
 have e:(cur.toList.take (n*1))[i]?=some (.int .i64 (f i)):=by rw [htake];exact Bb hi
 rw [List.getElem?_take_of_lt (by omega)] at e
 simpa using e
def VS (w:World) (base:Nat) (a:Option Addr) (n:Nat) (F:Nat→Value):Prop:=n=0∨∃ g,a=some ⟨g,0,none⟩∧base≤g∧fV g 25 n F n w
theorem VS.up {w w':World} {base:Nat} {a:Option Addr} {n:Nat} {F:Nat→Value} (h:VS w base a n F) (hb:Below w.heap.size w w'):VS w' base a n F :=
 h.imp id (by rintro ⟨g,ha,hg,hr⟩;exact ⟨g,ha,hg,hr.ir (hb.block _ hr.lt)⟩)
theorem VS.mono {w:World} {base base':Nat} {a:Option Addr} {n:Nat} {F:Nat→Value} (h:VS w base a n F) (hb:base'≤base):VS w base' a n F :=
 h.imp id (by rintro ⟨g,ha,hg,hr⟩;exact ⟨g,ha,by omega,hr⟩)
theorem VS.read {w:World} {base:Nat} {a:Option Addr} {n:Nat} {F:Nat→Value} (h:VS w base a n F):fY w a n F:=ca
def o7:Array Value:=#[.slice none 0 0,.slice none 0 0,.int .i64 0,.bool false,.slice none 0 0]
structure Mk (n:Nat) (f:Nat→Int) (w W:World) (E:Option Nat) (Q:Option (Option Addr)) (D S B:Option Nat):Prop where
 below:Below w.heap.size w W
 e:∀ g,E=some g→w.heap.size≤g∧W.heap[g]?=some (.cells #[] 2 (0,0))
 q:∀ a,Q=some a→VI W w.heap.size a n f
 d:∀ g,D=some g→VI W w.heap.size (some ⟨g,0,none⟩) n (fun _=>0)
 s:∀ g,S=some g→VS W w.heap.size (some ⟨g,0,none⟩) n (fun _=>.slice none 0 0)
 b:∀ g,B=some g→w.heap.size≤g∧W.heap[g]?=some (.cells o7 100 (0,0))
 qd:∀ a g,Q=some a→D=some g→iI a n (some ⟨g,0,none⟩) n
theorem Mk.start {n:Nat} {f:Nat→Int} {w W:World} (h:Below w.heap.size w W):Mk n f w W none none none none none :=
 ⟨h,fun _ e=>by simp at e,fun _ e=>by simp at e,fun _ e=>by simp at e,fun _ e=>by simp at e,fun _ e=>by simp at e,fun _ _ e=>by simp at e⟩
theorem Mk.up {n:Nat} {f:Nat→Int} {w W W':World} {E:Option Nat} {Q:Option (Option Addr)} {D S B:Option Nat} (h:Mk n f w W E Q D S B) (hb:Below W.heap.size W W'):Mk n f w W' E Q D S B where
 below:=h.below.trans (hb.mono h.below.size)
 e:=fun g e=>⟨(h.e g e).1,(hb.block _ (fH (h.e g e).2)).trans (h.e g e).2⟩
 q:=fun a e=>(h.q a e).up hb
 d:=fun g e=>(h.d g e).up hb
 s:=fun g e=>(h.s g e).up hb
 b:=fun g e=>⟨(h.b g e).1,(hb.block _ (fH (h.b g e).2)).trans (h.b g e).2⟩
 qd:=h.qd
theorem Al {W:World} {base:Nat} {a:Option Addr} {n g:Nat} {f:Nat→Int} (h:VI W base a n f) (hg:W.heap.size≤g):iI a n (some ⟨g,0,none⟩) n:=by
 intro x hx hy
 have h1:=(h.blk x hx).2
 unfold iS at hy
 split at hy
 ·
  simp at hy
 simp at hy;omega
theorem Mk.mkB {n:Nat} {f:Nat→Int} {w W:World} {E:Option Nat} {Q:Option (Option Addr)} {D S:Option Nat} (h:Mk n f w W E Q D S none):Mk n f w (W.alloc (.cells o7 100)) E Q D S (some W.heap.size):=by
 have h':=h.up (W':=W.alloc (.cells o7 100)) ((Below.refl _ _).alloc (Nat.le_refl _) _)
 exact ⟨h'.below,h'.e,h'.q,h'.d,h'.s,fun g e=>by cases e;exact ⟨h.below.size,fL _ _⟩,h'.qd⟩
theorem Mk.mkD {n:Nat} {f:Nat→Int} {w W:World} {E:Option Nat} {Q:Option (Option Addr)} {S B:Option Nat} (h:Mk n f w W E Q none S B):Mk n f w (W.alloc (.cells (jL n) 2)) E Q (some W.heap.size) S B:=by
 have h':=h.up (W':=W.alloc (.cells (jL n) 2)) ((Below.refl _ _).alloc (Nat.le_refl _) _)
 exact ⟨h'.below,h'.e,h'.q,fun g e=>by cases e;exact .inr ⟨_,rfl,h.below.size,m9 (fL _ _)⟩,h'.s,h'.b,fun a g e1 e2=>by cases e2;exact Al (h.q a e1) (Nat.le_refl _)⟩
theorem kx {o:Oper} {a:Act} {K:Act→World→Prop} {Q:Exit→Act→World→Prop} {W W':World} {c:Prop} [Decidable c] {E:Prop} (hc:c) (d:Option Tmp) (s x:Operand) (t:TypeId) (vs vx v:Value) (hd:o.dst=d)
  (ho:o.op=.call { callee:=.builtin .append,args:=#[s,x],argTypes:=#[t,t] }) (hty:o.type=t) (hs:a.eval s=vs) (hx:a.eval x=vx)
  (hr:(Builtin.append_ #[t,t] t #[vs,vx]).run Tryz.prog W=.ok v W') (h:K (a.put d v) W'):if c then o.wp Tryz.prog a W K Q else E:=by
 subst hd
 exact uK hc s x t vs vx v ho hty hs hx hr h
theorem Mk.Dh {n:Nat} {f:Nat→Int} {w W:World} {E:Option Nat} {Q:Option (Option Addr)} {S B:Option Nat} (h:Mk n f w W E Q none S B) (hn:n≤1048576) :
  ∃ gD W',(Instr.makeSlice 25 (.int .i64 (n:Int)) (.int .i64 (n:Int))).run Tryz.prog W=.ok (.slice (some ⟨gD,0,none⟩) n n) W'∧Mk n f w W' E Q (some gD) S B:=⟨_,_,nh n hn W,h.mkD⟩
theorem Mk.Bq {n:Nat} {f:Nat→Int} {w W:World} {E:Option Nat} {Q:Option (Option Addr)} {D S:Option Nat} (h:Mk n f w W E Q D S none) :
  ∃ gB W',gB=W.heap.size∧W'=W.alloc (.cells #[.slice none 0 0,.slice none 0 0,.int .i64 0,.bool false,.slice none 0 0] 100)∧Mk n f w W' E Q D S (some gB):=⟨_,_,rfl,rfl,h.mkB⟩
theorem ng {W:World} {base g:Nat} (hb:base≤g) (h:W.heap[g]?=some (.cells #[] 2 (0,0))):W.ownsRow base 2 1 (.slice (some ⟨g,0,none⟩) 0 0) 0 [] :=
 ⟨rfl,.inr ⟨g,0,#[],rfl,hb,h,Nat.le_refl _,by unfold maxLen;omega,rfl,rfl⟩⟩
structure iQ (w:World) (base:Nat) (R:Rnd):Prop where
 q:VI w base R.aQ R.nQ R.q
 d:VI w base R.aD R.nD R.d
 s:VS w base R.aS R.nS fun i=>.slice (R.A i) (R.L i) (R.C i)
 z:∀ i,i<R.nS→VI w base (R.A i) (R.L i) (R.z i)
 qd:iI R.aQ R.nQ R.aD R.nD
 qz:∀ i,i<R.nS→iI R.aQ R.nQ (R.A i) (R.L i)
 dz:∀ i,i<R.nS→iI R.aD R.nD (R.A i) (R.L i)
 zz:∀ i j,i<R.nS→j<R.nS→i≠j→iI (R.A i) (R.L i) (R.A j) (R.L j)
theorem iQ.rd {w:World} {base:Nat} {R:Rnd} (h:iQ w base R):iY w R:=⟨h.q.read,h.d.read,h.s.read,fun i hi=>(h.z i hi).read⟩
theorem iQ.up {w w':World} {base:Nat} {R:Rnd} (h:iQ w base R) (hb:Below w.heap.size w w'):iQ w' base R :=
 ⟨h.q.up hb,h.d.up hb,h.s.up hb,fun i hi=>(h.z i hi).up hb,h.qd,h.qz,h.dz,h.zz⟩
theorem iQ.mono {w:World} {base base':Nat} {R:Rnd} (h:iQ w base R) (hb:base'≤base):iQ w base' R :=
 ⟨h.q.mono hb,h.d.mono hb,h.s.mono hb,fun i hi=>(h.z i hi).mono hb,h.qd,h.qz,h.dz,h.zz⟩
theorem iQ.iU {w w':World} {base:Nat} {R:Rnd} {S:List Nat} (h:iQ w base R) (ht:Touch S w w') (hS:∀ x∈S,x<base):iQ w' base R :=
 have key:∀ {a:Option Addr} {n:Nat} {f:Nat→Int},VI w base a n f→VI w' base a n f:=fun hv=>hv.fK ht (fun x hx hx2=>by
  have h1:=(hv.blk x hx).1
  have h2:=hS x hx2
  omega)
 ⟨key h.q,key h.d,h.s.imp id (by
  rintro ⟨g,ha,hg,hr⟩
  exact ⟨g,ha,hg,hr.ir (ht.block g hr.lt (fun hx=>by have:=hS g hx;omega))⟩),fun i hi=>key (h.z i hi),h.qd,h.qz,h.dz,h.zz⟩
def Cy (n:Nat) (f:Nat→Int) (aQ:Option Addr) (cQ gD gS:Nat):Rnd :=
 ⟨aQ,n,cQ,f,some ⟨gD,0,none⟩,n,n,fun _=>0,0,true,some ⟨gS,0,none⟩,n,n,fun _=>none,fun _=>0,fun _=>0,fun _ _=>0⟩
def zR:Rnd:=⟨none,0,0,fun _=>0,none,0,0,fun _=>0,0,false,none,0,0,fun _=>none,fun _=>0,fun _=>0,fun _ _=>0⟩
structure Alike (R1 R2:Rnd):Prop where
 nQ:R2.nQ=R1.nQ
 q:R2.q=R1.q
 nD:R2.nD=R1.nD
 d:R2.d=R1.d
 t:R2.turn=R1.turn
 f:R2.fresh=R1.fresh
 nS:R2.nS=R1.nS
 l:R2.L=R1.L
 z:R2.z=R1.z
theorem Alike.refl (R:Rnd):Alike R R:=⟨rfl,rfl,rfl,rfl,rfl,rfl,rfl,rfl,rfl⟩
theorem Alike.symm {A B:Rnd} (h:Alike A B):Alike B A:=⟨h.nQ.symm,h.q.symm,h.nD.symm,h.d.symm,h.t.symm,h.f.symm,h.nS.symm,h.l.symm,h.z.symm⟩
theorem Alike.trans {A B C:Rnd} (h:Alike A B) (k:Alike B C):Alike A C:=⟨k.nQ.trans h.nQ,k.q.trans h.q,k.nD.trans h.nD,k.d.trans h.d,k.t.trans h.t,k.f.trans h.f,k.nS.trans h.nS,k.l.trans h.l,k.z.trans h.z⟩
def sZ (w:World) (g:Nat) (v0 v1 v2 v3 v4:Value):World:=((((w.setCell ⟨g,0,none⟩ v0).setCell ⟨g,1,none⟩ v1).setCell ⟨g,2,none⟩ v2).setCell ⟨g,3,none⟩ v3).setCell ⟨g,4,none⟩ v4
theorem jU (w:World) (g:Nat) (v0 v1 v2 v3 v4:Value):Touch [g] w (sZ w g v0 v1 v2 v3 v4) :=
 (((((Touch.refl [g] w).set (by simp) 0 v0).set (by simp) 1 v1).set (by simp) 2 v2).set (by simp) 3 v3).set (by simp) 4 v4
theorem nf {w:World} {g:Nat} {x0 x1 x2 x3 x4:Value} {t:TypeId} (h:w.heap[g]?=some (.cells #[x0,x1,x2,x3,x4] t (0,0))) (v0 v1 v2 v3 v4:Value):(sZ w g v0 v1 v2 v3 v4).heap[g]?=some (.cells #[v0,v1,v2,v3,v4] t (0,0)) :=
 gj (i:=4) (gj (i:=3) (gj (i:=2) (gj (i:=1) (gj (i:=0) h v0) v1) v2) v3) v4
structure Made (n:Nat) (f:Nat→Int) (w W:World) (aQ:Option Addr) (cQ gD gS gB:Nat):Prop where
 below:Below w.heap.size w W
 own:iQ W w.heap.size (Cy n f aQ cQ gD gS)
 lo:w.heap.size≤gB
 b:W.heap[gB]?=some (.cells #[.slice aQ n cQ,.slice (some ⟨gD,0,none⟩) n n,.int .i64 0,.bool true,.slice (some ⟨gS,0,none⟩) n n] 100 (0,0))
theorem Mk.made {n:Nat} {f:Nat→Int} {w W:World} {aQ:Option Addr} {gD gS gB:Nat} (cQ:Nat) (h:Mk n f w W none (some aQ) (some gD) (some gS) (some gB)) :
  Made n f w (sZ W gB (.slice aQ n cQ) (.slice (some ⟨gD,0,none⟩) n n) (.int .i64 0) (.bool true) (.slice (some ⟨gS,0,none⟩) n n)) aQ cQ gD gS gB:=by
 have hb:=h.b gB rfl
 have ht:=jU W gB (.slice aQ n cQ) (.slice (some ⟨gD,0,none⟩) n n) (.int .i64 0) (.bool true) (.slice (some ⟨gS,0,none⟩) n n)
 have key:∀ {a:Option Addr} {m:Nat} {z:Nat→Int},VI W w.heap.size a m z→∀ x∈iS a m,x∉[gB]:=by
  intro a m z hv x hx hx2
  simp at hx2
  subst hx2
  unfold iS at hx
  split at hx
  ·
   simp at hx
  rename_i h0
  rcases hv with h1 | ⟨g',rfl,_,arr,h2,_⟩
  ·
   exact h0 h1
  simp at hx
  subst hx
  rw [hb.2] at h2
  simp at h2
 refine ⟨h.below.trans (ht.below h.below.size (fun x hx=>by simp at hx;subst hx;exact hb.1)),⟨(h.q aQ rfl).fK ht (key (h.q aQ rfl)),(h.d gD rfl).fK ht (key (h.d gD rfl)),(h.s gS rfl).imp id ?_,fun i _=>.inl rfl,h.qd aQ gD rfl rfl,fun i _ x _ hx=>?_,fun i _ x _ hx=>?_,fun i j _ _ _ x hx=>?_⟩,hb.1,nf hb.2 _ _ _ _ _⟩
 ·
  rintro ⟨g,ha,hg,hr⟩
  refine ⟨g,ha,hg,hr.ir (ht.block g hr.lt ?_)⟩
  intro hx
  simp at hx
  subst hx
  obtain ⟨arr,h2,_⟩:=hr
  rw [hb.2] at h2
  simp at h2
 ·
  simp [iS,Cy] at hx
 ·
  simp [iS,Cy] at hx
 simp [iS,Cy] at hx
theorem yP {w:World} {base:Nat} {a:Option Addr} {n:Nat} {f:Nat→Int} (h:VI w base a n f) {g:Nat} {arr:Array Value} {t:TypeId} (ht:t≠2) (hg:w.heap[g]?=some (.cells arr t (0,0))):g∉iS a n:=by
 intro hx
 unfold iS at hx
 split at hx
 ·
  simp at hx
 rename_i h0
 rcases h with h1 | ⟨g',rfl,_,arr',h2,_⟩
 ·
  exact h0 h1
 simp at hx
 subst hx
 rw [hg] at h2
 simp at h2
 exact ht h2.2
theorem yb {W:World} {v:Value} {c:Nat} {base:Nat} (h:W.ownsRow base 2 1 v 0 []) :
  (Builtin.append_ #[25,25] 25 #[v,.slice none 0 c]).run Tryz.prog W=.ok v W:=by
 obtain ⟨i0,hi,hz0,hz1,hz2⟩:=info_parts rJ
 rcases h.2 with ⟨rfl,_⟩ | ⟨g,cap,cur,rfl,_⟩
 ·
  simp [Builtin.append_,run_underlying Tryz.underlying25,sizeOf,typeInfo,hi,Builtin.lenOf,Builtin.firstCells,loadCells,loadCellsFrom]
 simp [Builtin.append_,run_underlying Tryz.underlying25,sizeOf,typeInfo,hi,Builtin.lenOf,Builtin.firstCells,loadCells,loadCellsFrom,storeCells]
def OI (w:World) (base:Nat) (a:Option Addr) (n c:Nat) (f:Nat→Int):Prop:=w.ownsRow base 2 1 (.slice a n c) n (j9 n f)
theorem CJ {w:World} {base n c:Nat} {a:Option Addr} {f:Nat→Int} (h:OI w base a n c f):n≤c:=by
 rcases h.2 with ⟨_,e0⟩ | ⟨g9,cap9,cur9,e9,_,_,h9,_⟩
 ·
  omega
 cases e9
 exact h9
def ij (a:Option Addr):List Nat:=(a.map (·.block)).toList
theorem jy {a:Option Addr} {n x:Nat} (h:x∈iS a n):x∈ij a:=by
 unfold iS at h
 split at h
 ·
  simp at h
 exact h
theorem OI.vi {w:World} {base:Nat} {a:Option Addr} {n c:Nat} {f:Nat→Int} (h:OI w base a n c f):VI w base a n f:=by
 obtain ⟨a',c',e,hv⟩:=yK h
 cases e
 exact hv
theorem OI.up {w w':World} {base:Nat} {a:Option Addr} {n c:Nat} {f:Nat→Int} (h:OI w base a n c f) (hb:Below w.heap.size w w'):OI w' base a n c f:=by
 refine ⟨h.1,h.2.imp id ?_⟩
 rintro ⟨g,cap,cur,e,hg,hbk,hr⟩
 exact ⟨g,cap,cur,e,hg,(hb.block g (fH hbk)).trans hbk,hr⟩
theorem OI.wF {w w':World} {base:Nat} {a:Option Addr} {n c:Nat} {f:Nat→Int} {S:List Nat} (h:OI w base a n c f) (ht:Touch S w w') (hS:∀ g arr,w.heap[g]?=some (.cells arr 2 (0,0))→g∉S):OI w' base a n c f:=by
 refine ⟨h.1,h.2.imp id ?_⟩
 rintro ⟨g,cap,cur,e,hg,hbk,hr⟩
 exact ⟨g,cap,cur,e,hg,(ht.block g (fH hbk) (hS g cur hbk)).trans hbk,hr⟩
theorem OI.blk {w:World} {base:Nat} {a:Option Addr} {n c:Nat} {f:Nat→Int} (h:OI w base a n c f):∀ x∈ij a,base≤x∧x<w.heap.size:=by
 intro x hx
 rcases h.2 with ⟨e,_⟩ | ⟨g,cap,cur,e,hg,hbk,_⟩
 ·
  cases e
  simp [ij] at hx
 cases e
 simp [ij] at hx
 subst hx
 exact ⟨hg,fH hbk⟩
theorem OI.mono {w:World} {base base':Nat} {a:Option Addr} {n c:Nat} {f:Nat→Int} (h:OI w base a n c f) (hb:base'≤base):OI w base' a n c f:=by
 refine ⟨h.1,h.2.imp id ?_⟩
 rintro ⟨g,cap,cur,e,hg,hr⟩
 exact ⟨g,cap,cur,e,by omega,hr⟩
theorem mj {W:World} {base:Nat} {v:Value} {a:Option Addr} {n c:Nat} {f:Nat→Int} (h:W.ownsRow base 2 1 v 0 []) (hb:base≤W.heap.size) (hn:n≤1048576) (hr:fY W a n fun i=>.int .i64 (f i)) :
  ∃ a' c' W',(Builtin.append_ #[25,25] 25 #[v,.slice a n c]).run Tryz.prog W=.ok (.slice a' n c') W'∧OI W' base a' n c' f∧W.grownBy W' v.ownBlock∧(∀ x∈ij a',some x=v.ownBlock∨x=W.heap.size):=by
 have fin:∀ (v':Value) (W':World),W'.ownsRow base 2 1 v' n (j9 n f)→(v'.ownBlock=v.ownBlock∨v'.ownBlock=some W.heap.size)→∃ a' c',v'=.slice a' n c'∧OI W' base a' n c' f∧(∀ x∈ij a',some x=v.ownBlock∨x=W.heap.size):=by
  intro v' W' h2 h5
  obtain ⟨a',c',rfl,hv⟩:=yK h2
  refine ⟨a',c',rfl,h2,fun x hx=>?_⟩
  cases a' with
  | none=>simp [ij] at hx
  | some ad =>
   simp [ij] at hx
   subst hx
   rcases h5 with h5 | h5
   ·
    exact .inl (by rw [←h5];rfl)
   right
   simpa [Value.ownBlock] using h5
 by_cases h0:n=0
 ·
  subst h0
  cases a with
  | none =>
   obtain ⟨a',c',rfl,hv,hx⟩:=fin v W (by simpa [j9] using h) (.inl rfl)
   exact ⟨a',c',W,yb h,hv,⟨rfl,rfl,rfl,Nat.le_refl _,fun _ _ _=>rfl⟩,hx⟩
  | some ad =>
   obtain ⟨i0,hi,hz0,hz1,hz2⟩:=info_parts rJ
   obtain ⟨v',w',hr',h2,h3,h4,h5⟩:=run_append_own_at (P:=Tryz.prog) W base 25 25 2 i0 (.int .i64 0) 1 8 Tryz.underlying25 hi hz0 hz1 hz2 rfl (by decide) v 0 [] h ad 0 c [] rfl (fun j u hj=>by simp at hj) (fun u hu=>by simp at hu) (by unfold maxLen;omega) (by omega) hb
   obtain ⟨a',c',rfl,hv,hx⟩:=fin v' w' (by simpa [j9] using h2) h5
   exact ⟨a',c',w',hr',hv,h3,hx⟩
 obtain ⟨g,q,rfl,_⟩:=hr 0 (by omega)
 obtain ⟨i0,hi,hz0,hz1,hz2⟩:=info_parts rJ
 obtain ⟨v',w',hr',h2,h3,h4,h5⟩:=run_append_own_at (P:=Tryz.prog) W base 25 25 2 i0 (.int .i64 0) 1 8 Tryz.underlying25 hi hz0 hz1 hz2 rfl (by decide) v 0 [] h ⟨g,q,none⟩ n c (j9 n f) (by rw [pF];omega) (fun j u hj=>by
  obtain ⟨hjn,rfl⟩:=tJ hj
  have e:(⟨g,q,none⟩:Addr).add j=⟨g,q+j,none⟩:=by unfold Addr.add;split <;> simp_all
  rw [e]
  obtain ⟨g',o',e,hc⟩:=hr j hjn
  cases e
  exact hc) (fun u hu=>by
  obtain ⟨j,_,rfl⟩:=List.mem_map.1 hu
  rfl) (by unfold maxLen;omega) (by omega) hb
 rw [Nat.zero_add,List.nil_append] at h2
 obtain ⟨a',c',rfl,hv,hx⟩:=fin v' w' h2 h5
 exact ⟨a',c',w',hr',hv,h3,hx⟩
theorem jD (a:Option Addr) (n cap:Nat) (f:Nat→Int) (w:World) (hn:n≤1048576) (h:fY w a n fun i=>.int .i64 (f i)) :
  Calls Tryz.prog 113 #[.slice a n cap] w fun e w'=>∃ a' c',e=.returned (.slice a' n c')∧OI w' w.heap.size a' n c' f∧Below w.heap.size w w':=by
 obtain ⟨a',c',W',hr,hv,hg,hp⟩:=mj (W:=w) (base:=w.heap.size) (v:=.slice none 0 0) (c:=cap) (World.ownsRow_nil _ _ _ _) (Nat.le_refl _) hn h
 have hB:Below w.heap.size w W':=(Below.refl _ _).grown hg (Nat.le_refl _) (fun k e=>by simp [Value.ownBlock] at e)
 have HV:Hid (OI W' w.heap.size a' n c' f):=hv
 clear hv hg hp h
 go_enter Tryz.func113,Tryz.ntmps113
 go_wp2_with (at_builtin;refine Lib.wpList_append_run _ rfl _ _ _ _ rfl _ _ rfl rfl _ _ hr ?_)
 go_ret
 exact ⟨_,_,rfl,HV.out,hB⟩
theorem Ak {W W':World} {base b2:Nat} {a a':Option Addr} {n n':Nat} {f f':Nat→Int} (h:VI W base a n f) (h':VI W' b2 a' n' f') (hb:W.heap.size≤b2):iI a n a' n':=bZ
theorem mq {W W':World} {base b2:Nat} {a a':Option Addr} {n n' c':Nat} {f f':Nat→Int} (h:VI W base a n f) (h':OI W' b2 a' n' c' f') (hb:W.heap.size≤b2):∀ x∈iS a n,x∉ij a':=bZ
theorem lH {W W':World} {base b2:Nat} {a a':Option Addr} {n c n' c':Nat} {f f':Nat→Int} (h:OI W base a n c f) (h':OI W' b2 a' n' c' f') (hb:W.heap.size≤b2):∀ x∈ij a,x∉ij a':=bZ
structure Cp (R:Rnd) (base:Nat) (W:World) (aQ:Option Addr) (aD:Option Addr) (gS:Nat) (A:Nat→Option Addr) (C:Nat→Nat) (k:Nat):Prop where
 q:VI W base aQ R.nQ R.q
 d:VI W base aD R.nD R.d
 s:VS W base (some ⟨gS,0,none⟩) R.nS fun i=>if i<k then .slice (A i) (R.L i) (C i) else .slice none 0 0
 z:∀ i,i<k→OI W base (A i) (R.L i) (C i) (R.z i)
 qd:iI aQ R.nQ aD R.nD
 qz:∀ i,i<k→∀ x∈iS aQ R.nQ,x∉ij (A i)
 dz:∀ i,i<k→∀ x∈iS aD R.nD,x∉ij (A i)
 zz:∀ i j,i<k→j<k→i≠j→∀ x∈ij (A i),x∉ij (A j)
theorem Cp.up {R:Rnd} {base:Nat} {W W':World} {aQ aD:Option Addr} {gS:Nat} {A:Nat→Option Addr} {C:Nat→Nat} {k:Nat} (h:Cp R base W aQ aD gS A C k) (hb:Below W.heap.size W W'):Cp R base W' aQ aD gS A C k :=
 ⟨h.q.up hb,h.d.up hb,h.s.up hb,fun i hi=>(h.z i hi).up hb,h.qd,h.qz,h.dz,h.zz⟩
theorem Cp.next {R:Rnd} {base:Nat} {W W':World} {aQ aD:Option Addr} {gS:Nat} {A:Nat→Option Addr} {C:Nat→Nat} {k:Nat} {a':Option Addr} {c':Nat} (h:Cp R base W aQ aD gS A C k) (hk:k<R.nS) (hb:Below W.heap.size W W') (hB:base≤W.heap.size)
  (hv:OI W' W.heap.size a' (R.L k) c' (R.z k)):Cp R base (W'.setCell ⟨gS,k,none⟩ (.slice a' (R.L k) c')) aQ aD gS (fun i=>if i=k then a' else A i) (fun i=>if i=k then c' else C i) (k+1):=by
 have h1:=h.up hb
 rcases h1.s with h0 | ⟨g,hg,hbg,hr⟩
 ·
  omega
 cases hg
 have ht:Touch [gS] W' (W'.setCell ⟨gS,k,none⟩ (.slice a' (R.L k) c')):=(Touch.refl _ _).set (by simp) k _
 have key:∀ {a:Option Addr} {n b2:Nat} {f:Nat→Int},VI W' b2 a n f→VI (W'.setCell ⟨gS,k,none⟩ (.slice a' (R.L k) c')) b2 a n f:=fun hv=>hv.fK ht (fun x hx hx2=>by
  simp at hx2
  subst hx2
  obtain ⟨arr,h2,_⟩:=hr
  exact yP hv (by decide) h2 hx)
 have keyO:∀ {a:Option Addr} {n c b2:Nat} {f:Nat→Int},OI W' b2 a n c f→OI (W'.setCell ⟨gS,k,none⟩ (.slice a' (R.L k) c')) b2 a n c f:=fun hv=>hv.wF ht (fun g arr hg hx2=>by
  simp at hx2
  subst hx2
  obtain ⟨arr',h2,_⟩:=hr
  rw [hg] at h2
  simp at h2)
 refine ⟨key h1.q,key h1.d,.inr ⟨gS,rfl,hbg,?_⟩,fun i hi=>?_,h.qd,fun i hi=>?_,fun i hi=>?_,fun i j hi hj hne=>?_⟩
 ·
  obtain ⟨arr,h2,h3,h4⟩:=hr
  refine ⟨_,gj h2 _,by simpa using h3,fun i hi=>?_⟩
  by_cases e:i=k
  ·
   subst e
   dsimp only
   rw [if_pos (show i<i+1 by omega),if_pos rfl,if_pos rfl]
   exact Array.getElem?_setIfInBounds_self_of_lt (by omega)
  rw [Array.getElem?_setIfInBounds_ne (by omega),h4 i hi]
  show some (if i<k then _ else _)=some (if i<k+1 then _ else _)
  by_cases h5:i<k
  ·
   rw [if_pos h5,if_pos (by omega),if_neg e,if_neg e]
  rw [if_neg h5,if_neg (by omega)]
 ·
  by_cases e:i=k
  ·
   subst e
   simp only [if_true]
   exact (keyO hv).mono hB
  simp only [if_neg e]
  exact keyO (h1.z i (by omega))
 ·
  by_cases e:i=k
  ·
   subst e
   simp only [if_true]
   exact mq h.q hv (Nat.le_refl _)
  simp only [if_neg e]
  exact h.qz i (by omega)
 ·
  by_cases e:i=k
  ·
   subst e
   simp only [if_true]
   exact mq h.d hv (Nat.le_refl _)
  simp only [if_neg e]
  exact h.dz i (by omega)
 by_cases e:i=k
 ·
  subst e
  simp only [if_true,if_neg (Ne.symm hne)]
  exact fun x hx hy=>lH (h.z j (by omega)) hv (Nat.le_refl _) x hy hx
 by_cases e2:j=k
 ·
  subst e2
  simp only [if_true,if_neg e]
  exact lH (h.z i (by omega)) hv (Nat.le_refl _)
 simp only [if_neg e,if_neg e2]
 exact h.zz i j (by omega) (by omega) hne
def Rnd.cp (R:Rnd) (aQ:Option Addr) (cQ:Nat) (aD:Option Addr) (cD gS:Nat) (A:Nat→Option Addr) (C:Nat→Nat):Rnd :=
 ⟨aQ,R.nQ,cQ,R.q,aD,R.nD,cD,R.d,R.turn,R.fresh,some ⟨gS,0,none⟩,R.nS,R.nS,A,R.L,C,R.z⟩
structure jc (w:World) (base:Nat) (R:Rnd):Prop where
 own:iQ w base R
 z:∀ i,i<R.nS→OI w base (R.A i) (R.L i) (R.C i) (R.z i)
 qz:∀ i,i<R.nS→∀ x∈iS R.aQ R.nQ,x∉ij (R.A i)
 dz:∀ i,i<R.nS→∀ x∈iS R.aD R.nD,x∉ij (R.A i)
 zz:∀ i j,i<R.nS→j<R.nS→i≠j→∀ x∈ij (R.A i),x∉ij (R.A j)
theorem Cp.own {R:Rnd} {base:Nat} {W:World} {aQ aD:Option Addr} {gS:Nat} {A:Nat→Option Addr} {C:Nat→Nat} (h:Cp R base W aQ aD gS A C R.nS) (cQ cD:Nat):jc W base (R.cp aQ cQ aD cD gS A C) :=
 ⟨⟨h.q,h.d,h.s.imp id (by
  rintro ⟨g,ha,hg,hr⟩
  exact ⟨g,ha,hg,hr.ext (fun i hi=>by rw [if_pos hi];rfl)⟩),fun i hi=>(h.z i hi).vi,h.qd,fun i hi x hx hy=>h.qz i hi x hx (jy hy),fun i hi x hx hy=>h.dz i hi x hx (jy hy),fun i j hi hj hne x hx hy=>h.zz i j hi hj hne x (jy hx) (jy hy)⟩,h.z,h.qz,h.dz,h.zz⟩
theorem jc.iU {w w':World} {base:Nat} {R:Rnd} {S:List Nat} (h:jc w base R) (ht:Touch S w w') (hS:∀ x∈S,x<base):jc w' base R :=
 ⟨h.own.iU ht hS,fun i hi=>by
  refine ⟨(h.z i hi).1,(h.z i hi).2.imp id ?_⟩
  rintro ⟨g,cap,cur,e,hg,hbk,hr⟩
  exact ⟨g,cap,cur,e,hg,(ht.block g (fH hbk) (fun hx=>by have:=hS g hx;omega)).trans hbk,hr⟩,h.qz,h.dz,h.zz⟩
theorem jc.mono {w:World} {base base':Nat} {R:Rnd} (h:jc w base R) (hb:base'≤base):jc w base' R:=⟨h.own.mono hb,fun i hi=>(h.z i hi).mono hb,h.qz,h.dz,h.zz⟩
theorem jc.up {w w':World} {base:Nat} {R:Rnd} (h:jc w base R) (hb:Below w.heap.size w w'):jc w' base R:=⟨h.own.up hb,fun i hi=>(h.z i hi).up hb,h.qz,h.dz,h.zz⟩
def Dm (n:Nat) (s:Int) (z:Nat→Int) (j:Nat):Int:=if j=n then s else z j
def Rnd.push (R:Rnd) (c:Nat) (s:Int) (a':Option Addr) (c':Nat):Rnd :=
 { R with A:=fun i=>if i=c then a' else R.A i,L:=fun i=>if i=c then R.L c+1 else R.L i,C:=fun i=>if i=c then c' else R.C i,z:=fun i j=>if i=c then Dm (R.L c) s (R.z c) j else R.z i j }
theorem VI.CQ {W W2:World} {base:Nat} {a:Option Addr} {n:Nat} {f:Nat→Int} (h:VI W base a n f) (hk:∀ x∈iS a n,x<W.heap.size→W2.heap[x]?=W.heap[x]?):VI W2 base a n f:=by
 by_cases h0:n=0
 ·
  exact .inl h0
 rcases h with h1 | ⟨g,rfl,hg,hr⟩
 ·
  exact absurd h1 h0
 exact .inr ⟨g,rfl,hg,hr.ir (hk g (lF h0) hr.lt)⟩
structure Mk2 (R:Rnd) (w W:World) (E1 E2:Option Nat) (Q D:Option (Option Addr)) (B:Option Nat):Prop where
 below:Below w.heap.size w W
 e1:∀ g,E1=some g→w.heap.size≤g∧W.heap[g]?=some (.cells #[] 2 (0,0))
 e2:∀ g,E2=some g→w.heap.size≤g∧W.heap[g]?=some (.cells #[] 2 (0,0))
 ee:∀ g g',E1=some g→E2=some g'→g≠g'
 q:∀ a,Q=some a→VI W w.heap.size a R.nQ R.q
 d:∀ a,D=some a→VI W w.heap.size a R.nD R.d
 qe:∀ a g,Q=some a→E2=some g→g∉iS a R.nQ
 qd:∀ a a',Q=some a→D=some a'→iI a R.nQ a' R.nD
 b:∀ g,B=some g→w.heap.size≤g∧W.heap[g]?=some (.cells o7 100 (0,0))
theorem Mk2.start {R:Rnd} {w W:World} (h:Below w.heap.size w W):Mk2 R w W none none none none none :=
 ⟨h,fun _ e=>by simp at e,fun _ e=>by simp at e,fun _ _ e=>by simp at e,fun _ e=>by simp at e,fun _ e=>by simp at e,fun _ _ e=>by simp at e,fun _ _ e=>by simp at e,fun _ e=>by simp at e⟩
theorem Mk2.up {R:Rnd} {w W W':World} {E1 E2:Option Nat} {Q D:Option (Option Addr)} {B:Option Nat} (h:Mk2 R w W E1 E2 Q D B) (hb:Below W.heap.size W W'):Mk2 R w W' E1 E2 Q D B :=
 ⟨h.below.trans (hb.mono h.below.size),fun g e=>⟨(h.e1 g e).1,(hb.block _ (fH (h.e1 g e).2)).trans (h.e1 g e).2⟩,fun g e=>⟨(h.e2 g e).1,(hb.block _ (fH (h.e2 g e).2)).trans (h.e2 g e).2⟩,h.ee,fun a e=>(h.q a e).up hb,fun a e=>(h.d a e).up hb,h.qe,h.qd,
  fun g e=>⟨(h.b g e).1,(hb.block _ (fH (h.b g e).2)).trans (h.b g e).2⟩⟩
theorem Mk2.AL {R:Rnd} {w W:World} {E2:Option Nat} {Q D:Option (Option Addr)} {B:Option Nat} (h:Mk2 R w W none E2 Q D B) :
  ∃ g W',g=W.heap.size∧W'=W.alloc (.cells #[] 2)∧Mk2 R w W' (some g) E2 Q D B:=by
 have h':=h.up (W':=W.alloc (.cells #[] 2)) ((Below.refl _ _).alloc (Nat.le_refl _) _)
 exact ⟨_,_,rfl,rfl,h'.below,fun g e=>by cases e;exact ⟨h.below.size,fL _ _⟩,h'.e2,fun g g' e e'=>by cases e;have:=fH (h.e2 g' e').2;omega,h'.q,h'.d,h'.qe,h'.qd,h'.b⟩
theorem Mk2.xl {R:Rnd} {w W:World} {E1:Option Nat} {Q D:Option (Option Addr)} {B:Option Nat} (h:Mk2 R w W E1 none Q D B) :
  ∃ g W',g=W.heap.size∧W'=W.alloc (.cells #[] 2)∧Mk2 R w W' E1 (some g) Q D B:=by
 have h':=h.up (W':=W.alloc (.cells #[] 2)) ((Below.refl _ _).alloc (Nat.le_refl _) _)
 exact ⟨_,_,rfl,rfl,h'.below,h'.e1,fun g e=>by cases e;exact ⟨h.below.size,fL _ _⟩,fun g g' e e'=>by cases e';have:=fH (h.e1 g e).2;omega,h'.q,h'.d,fun a g e e' hx=>by cases e';have:=((h.q a e).blk _ hx).2;omega,h'.qd,h'.b⟩
theorem Mk2.Bq {R:Rnd} {w W:World} {E1 E2:Option Nat} {Q D:Option (Option Addr)} (h:Mk2 R w W E1 E2 Q D none) :
  ∃ g W',g=W.heap.size∧W'=W.alloc (.cells #[.slice none 0 0,.slice none 0 0,.int .i64 0,.bool false,.slice none 0 0] 100)∧Mk2 R w W' E1 E2 Q D (some g):=by
 have h':=h.up (W':=W.alloc (.cells o7 100)) ((Below.refl _ _).alloc (Nat.le_refl _) _)
 exact ⟨_,_,rfl,rfl,h'.below,h'.e1,h'.e2,h'.ee,h'.q,h'.d,h'.qe,h'.qd,fun g e=>by cases e;exact ⟨h.below.size,fL _ _⟩⟩
theorem BC {W:World} {g gE:Nat} {arr:Array Value} {t:TypeId} (ht:t≠2) (h:W.heap[g]?=some (.cells arr t (0,0))) (hE:W.heap[gE]?=some (.cells #[] 2 (0,0))):g≠gE:=by
 rintro rfl
 rw [h] at hE
 simp at hE
 exact ht hE.2
theorem Mk2.C3 {R:Rnd} {w W:World} {E2:Option Nat} {B:Option Nat} {g1:Nat} {a:Option Addr} (c:Nat) (h:Mk2 R w W (some g1) E2 none none B) (hn:R.nQ≤1048576) (hr:fY W a R.nQ fun i=>.int .i64 (R.q i)) :
  ∃ aq cq W',(Builtin.append_ #[25,25] 25 #[.slice (some ⟨g1,0,none⟩) 0 0,.slice a R.nQ c]).run Tryz.prog W=.ok (.slice aq R.nQ cq) W'∧Mk2 R w W' none E2 (some aq) none B:=by
 have hE:=h.e1 g1 rfl
 obtain ⟨a',c',W',hrun,ho,hg,hp⟩:=mj (c:=c) (ng hE.1 hE.2) h.below.size hn hr
 have hk:∀ k,k<W.heap.size→k≠g1→W'.heap[k]?=W.heap[k]?:=fun k hk hne=>hg.block k hk (by simpa [Value.ownBlock] using hne)
 refine ⟨a',c',W',hrun,h.below.grown hg h.below.size (fun k e=>by simp [Value.ownBlock] at e;rw [←e];exact hE.1),fun _ e=>by simp at e,fun g e=>⟨(h.e2 g e).1,(hk g (fH (h.e2 g e).2) (h.ee g1 g rfl e).symm).trans (h.e2 g e).2⟩,fun _ _ e=>by simp at e,fun a e=>by cases e;exact ho.vi,fun _ e=>by simp at e,fun a g e e' hx=>?_,fun _ _ _ e=>by simp at e,fun g e=>⟨(h.b g e).1,(hk g (fH (h.b g e).2) (BC (by decide) (h.b g e).2 hE.2)).trans (h.b g e).2⟩⟩
 cases e
 rcases hp g (jy hx) with h6 | h6
 ·
  simp [Value.ownBlock] at h6
  exact h.ee g1 g rfl e' h6.symm
 have:=fH (h.e2 g e').2
 omega
theorem Mk2.Dh {R:Rnd} {w W:World} {B:Option Nat} {g2:Nat} {a aq:Option Addr} (c:Nat) (h:Mk2 R w W none (some g2) (some aq) none B) (hn:R.nD≤1048576) (hr:fY W a R.nD fun i=>.int .i64 (R.d i)) :
  ∃ ad cd W',(Builtin.append_ #[25,25] 25 #[.slice (some ⟨g2,0,none⟩) 0 0,.slice a R.nD c]).run Tryz.prog W=.ok (.slice ad R.nD cd) W'∧Mk2 R w W' none none (some aq) (some ad) B:=by
 have hE:=h.e2 g2 rfl
 obtain ⟨a',c',W',hrun,ho,hg,hp⟩:=mj (c:=c) (ng hE.1 hE.2) h.below.size hn hr
 have hk:∀ k,k<W.heap.size→k≠g2→W'.heap[k]?=W.heap[k]?:=fun k hk hne=>hg.block k hk (by simpa [Value.ownBlock] using hne)
 refine ⟨a',c',W',hrun,h.below.grown hg h.below.size (fun k e=>by simp [Value.ownBlock] at e;rw [←e];exact hE.1),fun _ e=>by simp at e,fun _ e=>by simp at e,fun _ _ e=>by simp at e,fun a e=>by cases e;exact (h.q aq rfl).CQ (fun x hx hlt=>hk x hlt (fun e=>h.qe aq g2 rfl rfl (e▸hx))),fun a e=>by cases e;exact ho.vi,fun _ _ _ e=>by simp at e,fun a a2 e e' x hx hy=>?_,fun g e=>⟨(h.b g e).1,(hk g (fH (h.b g e).2) (BC (by decide) (h.b g e).2 hE.2)).trans (h.b g e).2⟩⟩
 cases e
 cases e'
 rcases hp x (jy hy) with h6 | h6
 ·
  simp [Value.ownBlock] at h6
  exact h.qe aq g2 rfl rfl (h6▸hx)
 have:=((h.q aq rfl).blk x hx).2
 omega
def slV (k:Nat) (A:Nat→Option Addr) (L C:Nat→Nat):List Value:=(List.range k).map fun i=>.slice (A i) (L i) (C i)
theorem AF (k:Nat) (A:Nat→Option Addr) (L C:Nat→Nat) (a:Option Addr) (c:Nat):slV k A L C++[.slice a (L k) c]=slV (k+1) (fun i=>if i=k then a else A i) L (fun i=>if i=k then c else C i):=by
 unfold slV
 rw [List.range_succ,List.map_append]
 congr 1
 ·
  refine List.map_congr_left fun j hj=>?_
  have:j<k:=List.mem_range.1 hj
  dsimp only
  rw [if_neg (show ¬ j=k by omega),if_neg (show ¬ j=k by omega)]
 simp
theorem VI.mw {W W':World} {base:Nat} {a:Option Addr} {n:Nat} {f:Nat→Int} (h:VI W base a n f) (hk:∀ (g:Nat) (arr:Array Value),W.heap[g]?=some (.cells arr 2 (0,0))→W'.heap[g]?=some (.cells arr 2 (0,0))):VI W' base a n f :=
 h.imp id (by
  rintro ⟨g,ha,hg,arr,hb,hr⟩
  exact ⟨g,ha,hg,arr,hk g arr hb,hr⟩)
theorem OI.mw {W W':World} {base:Nat} {a:Option Addr} {n c:Nat} {f:Nat→Int} (h:OI W base a n c f) (hk:∀ (g:Nat) (arr:Array Value),W.heap[g]?=some (.cells arr 2 (0,0))→W'.heap[g]?=some (.cells arr 2 (0,0))):OI W' base a n c f:=by
 refine ⟨h.1,h.2.imp id ?_⟩
 rintro ⟨g,cap,cur,e,hg,hbk,hr⟩
 exact ⟨g,cap,cur,e,hg,hk g cur hbk,hr⟩
structure Cp2 (R:Rnd) (base:Nat) (W:World) (aQ aD av:Option Addr) (cv:Nat) (A:Nat→Option Addr) (C:Nat→Nat) (k:Nat):Prop where
 q:VI W base aQ R.nQ R.q
 d:VI W base aD R.nD R.d
 s:W.ownsRow base 25 1 (.slice av k cv) k (slV k A R.L C)
 z:∀ i,i<k→OI W base (A i) (R.L i) (C i) (R.z i)
 qd:iI aQ R.nQ aD R.nD
 qz:∀ i,i<k→∀ x∈iS aQ R.nQ,x∉ij (A i)
 dz:∀ i,i<k→∀ x∈iS aD R.nD,x∉ij (A i)
 zz:∀ i j,i<k→j<k→i≠j→∀ x∈ij (A i),x∉ij (A j)
theorem AQ {w:World} {base n:Nat} {e:TypeId} {sz:Nat} {v:Value} {xs:List Value} (h:w.ownsRow base e sz v n xs):∃ a c,v=.slice a n c:=by
 rcases h.2 with ⟨e,h0⟩ | ⟨g,cap,cur,e,_⟩
 ·
  subst h0
  exact ⟨_,_,e⟩
 exact ⟨_,_,e⟩
theorem Cp2.step {R:Rnd} {base:Nat} {W:World} {aQ aD av:Option Addr} {cv:Nat} {A:Nat→Option Addr} {C:Nat→Nat} {k:Nat} (h:Cp2 R base W aQ aD av cv A C k) (hk:k<1048576) (hl:R.L k≤1048576) (hb:base≤W.heap.size) (hr:fY (W.alloc (.cells #[] 2)) (R.A k) (R.L k) fun j=>.int .i64 (R.z k j)) (cc:Nat) :
  ∃ a' c' W2 av' cv' W4,(Builtin.append_ #[25,25] 25 #[.slice (some ⟨W.heap.size,0,none⟩) 0 0,.slice (R.A k) (R.L k) cc]).run Tryz.prog (W.alloc (.cells #[] 2))=.ok (.slice a' (R.L k) c') W2 ∧
   (Builtin.append_ #[87,87] 87 #[.slice av k cv,.slice (some ⟨W2.heap.size,0,none⟩) 1 1]).run Tryz.prog (W2.alloc (.cells #[.slice a' (R.L k) c'] 25))=.ok (.slice av' (k+1) cv') W4 ∧
   Cp2 R base W4 aQ aD av' cv' (fun i=>if i=k then a' else A i) (fun i=>if i=k then c' else C i) (k+1)∧Below base W W4∧Below W.heap.size W W2 ∧
   (∀ (g:Nat) (arr:Array Value) (t:TypeId),t≠25→W.heap[g]?=some (.cells arr t (0,0))→W4.heap[g]?=some (.cells arr t (0,0))):=by
 have hA:Below W.heap.size W (W.alloc (.cells #[] 2)):=(Below.refl _ _).alloc (Nat.le_refl _) _
 have e1:(W.alloc (.cells #[] 2)).heap.size=W.heap.size+1:=by simp
 obtain ⟨a',c',W2,r1,ho,hg,hp⟩:=mj (W:=W.alloc (.cells #[] 2)) (base:=W.heap.size) (c:=cc) (ng (Nat.le_refl _) (fL W _)) (by omega) hl hr
 have B2:Below W.heap.size W W2:=hA.grown hg (by omega) (fun x e=>by simp [Value.ownBlock] at e;omega)
 have hA3:Below W2.heap.size W2 (W2.alloc (.cells #[.slice a' (R.L k) c'] 25)):=(Below.refl _ _).alloc (Nat.le_refl _) _
 have e3:(W2.alloc (.cells #[.slice a' (R.L k) c'] 25)).heap.size=W2.heap.size+1:=by simp
 have B3:Below W.heap.size W (W2.alloc (.cells #[.slice a' (R.L k) c'] 25)):=B2.trans (hA3.mono B2.size)
 obtain ⟨i0,hi,hz0,hz1,hz2⟩:=info_parts ub
 have hnew:=fG (fL W2 (.cells #[.slice a' (R.L k) c'] 25))
 obtain ⟨v',W4,r2,h2,h3,h4,h5⟩:=run_append_own_at (P:=Tryz.prog) (W2.alloc (.cells #[.slice a' (R.L k) c'] 25)) base 87 87 25 i0 (.slice none 0 0) 1 24 Tryz.underlying87 hi hz0 hz1 hz2 rfl (by decide) (.slice av k cv) k (slV k A R.L C) (kT h.s B3 (Nat.le_refl _)) ⟨W2.heap.size,0,none⟩ 1 1 [.slice a' (R.L k) c'] rfl (fun j u hj=>by
  have hj0:j=0:=by
   have:=(List.getElem?_eq_some_iff.1 hj).1
   simp at this
   exact this
  subst hj0
  have e:(⟨W2.heap.size,0,none⟩:Addr).add 0=⟨W2.heap.size,0,none⟩:=by unfold Addr.add;split <;> simp_all
  rw [e,hnew 0]
  simpa using hj) (fun u hu=>by
  simp at hu
  subst hu
  rfl) (by unfold maxLen;omega) (by omega) (by have:=B2.size;omega)
 rw [AF] at h2
 obtain ⟨av',cv',rfl⟩:=AQ h2
 have hty:∀ x,(Value.slice av k cv).ownBlock=some x→base≤x∧∃ arr,W.heap[x]?=some (.cells arr 25 (0,0)):=fun x hx=>by
  rcases h.s.2 with ⟨e,_⟩ | ⟨g,cap,cur,e,hg,hbk,_⟩
  ·
   rw [e] at hx
   simp [Value.ownBlock] at hx
  rw [e] at hx
  simp [Value.ownBlock] at hx
  subst hx
  exact ⟨hg,cur,hbk⟩
 have hkeep:∀ (g:Nat) (arr:Array Value) (t:TypeId),t≠25→(W2.alloc (.cells #[.slice a' (R.L k) c'] 25)).heap[g]?=some (.cells arr t (0,0))→W4.heap[g]?=some (.cells arr t (0,0)):=fun g arr t ht hgg=>by
  refine (h3.block g (fH hgg) (fun e=>?_)).trans hgg
  obtain ⟨_,arr',h'⟩:=hty g e.symm
  have h6:=(B3.block g (fH h')).trans h'
  rw [hgg] at h6
  simp at h6
  exact ht h6.2
 have k2:∀ (g:Nat) (arr:Array Value),W.heap[g]?=some (.cells arr 2 (0,0))→W4.heap[g]?=some (.cells arr 2 (0,0)):=fun g arr hgg=>hkeep g arr 2 (by decide) ((B3.block g (fH hgg)).trans hgg)
 have hoW:OI W4 W.heap.size a' (R.L k) c' (R.z k):=(ho.up hA3).mw (fun g arr hgg=>hkeep g arr 2 (by decide) hgg)
 refine ⟨a',c',W2,av',cv',W4,r1,r2,⟨h.q.mw k2,h.d.mw k2,h2,fun i hi=>?_,h.qd,fun i hi=>?_,fun i hi=>?_,fun i j hi hj hne=>?_⟩,?_,B2,fun g arr t ht hgg=>hkeep g arr t ht ((B3.block g (fH hgg)).trans hgg)⟩
 ·
  by_cases e:i=k
  ·
   subst e
   simp only [if_true]
   exact hoW.mono hb
  simp only [if_neg e]
  exact (h.z i (by omega)).mw k2
 ·
  by_cases e:i=k
  ·
   subst e
   simp only [if_true]
   exact mq h.q hoW (Nat.le_refl _)
  simp only [if_neg e]
  exact h.qz i (by omega)
 ·
  by_cases e:i=k
  ·
   subst e
   simp only [if_true]
   exact mq h.d hoW (Nat.le_refl _)
  simp only [if_neg e]
  exact h.dz i (by omega)
 ·
  by_cases e:i=k
  ·
   subst e
   simp only [if_true,if_neg (Ne.symm hne)]
   exact fun x hx hy=>lH (h.z j (by omega)) hoW (Nat.le_refl _) x hy hx
  by_cases e2:j=k
  ·
   subst e2
   simp only [if_true,if_neg e]
   exact lH (h.z i (by omega)) hoW (Nat.le_refl _)
  simp only [if_neg e,if_neg e2]
  exact h.zz i j (by omega) (by omega) hne
 exact (B3.mono hb).grown h3 (by have:=B2.size;omega) (fun x e=>(hty x e).1)
theorem Cp2.up {R:Rnd} {base:Nat} {W W':World} {aQ aD av:Option Addr} {cv:Nat} {A:Nat→Option Addr} {C:Nat→Nat} {k:Nat} (h:Cp2 R base W aQ aD av cv A C k) (hb:Below W.heap.size W W'):Cp2 R base W' aQ aD av cv A C k :=
 ⟨h.q.up hb,h.d.up hb,kT h.s hb (Nat.le_refl _),fun i hi=>(h.z i hi).up hb,h.qd,h.qz,h.dz,h.zz⟩
theorem Cp2.mw {R:Rnd} {base:Nat} {W W':World} {aQ aD av:Option Addr} {cv:Nat} {A:Nat→Option Addr} {C:Nat→Nat} {k:Nat} (h:Cp2 R base W aQ aD av cv A C k) (h2:∀ (g:Nat) (arr:Array Value),W.heap[g]?=some (.cells arr 2 (0,0))→W'.heap[g]?=some (.cells arr 2 (0,0))) (h3:∀ (g:Nat) (arr:Array Value),W.heap[g]?=some (.cells arr 25 (0,0))→W'.heap[g]?=some (.cells arr 25 (0,0))):Cp2 R base W' aQ aD av cv A C k:=by
 refine ⟨h.q.mw h2,h.d.mw h2,⟨h.s.1,h.s.2.imp id ?_⟩,fun i hi=>(h.z i hi).mw h2,h.qd,h.qz,h.dz,h.zz⟩
 rintro ⟨g,cap,cur,e,hg,hbk,hr⟩
 exact ⟨g,cap,cur,e,hg,h3 g cur hbk,hr⟩
def Rnd.cp2 (R:Rnd) (aQ:Option Addr) (cQ:Nat) (aD:Option Addr) (cD:Nat) (av:Option Addr) (cv:Nat) (A:Nat→Option Addr) (C:Nat→Nat):Rnd :=
 ⟨aQ,R.nQ,cQ,R.q,aD,R.nD,cD,R.d,R.turn,R.fresh,av,R.nS,cv,A,R.L,C,R.z⟩
theorem Cp2.own {R:Rnd} {base:Nat} {W:World} {aQ aD av:Option Addr} {cv:Nat} {A:Nat→Option Addr} {C:Nat→Nat} (h:Cp2 R base W aQ aD av cv A C R.nS) (cQ cD:Nat):jc W base (R.cp2 aQ cQ aD cD av cv A C):=by
 refine ⟨⟨h.q,h.d,?_,fun i hi=>(h.z i hi).vi,h.qd,fun i hi x hx hy=>h.qz i hi x hx (jy hy),fun i hi x hx hy=>h.dz i hi x hx (jy hy),fun i j hi hj hne x hx hy=>h.zz i j hi hj hne x (jy hx) (jy hy)⟩,h.z,h.qz,h.dz,h.zz⟩
 rcases h.s.2 with ⟨_,h0⟩ | ⟨g,cap,cur,e,hg,hbk,hnc,hcm,hcs,htake⟩
 ·
  exact .inl h0
 injection e with e2
 refine .inr ⟨g,e2,hg,cur,hbk,by show R.nS≤_;omega,fun i hi=>?_⟩
 have hi':i<R.nS:=hi
 have e3:(cur.toList.take (R.nS*1))[i]?=some (.slice (A i) (R.L i) (C i)):=by rw [htake];simp [slV,hi']
 rw [List.getElem?_take_of_lt (by omega)] at e3
 have e4:cur[i]?=some (Value.slice (A i) (R.L i) (C i)):=by simpa using e3
 exact e4
end Go.Proofs.YtfcfpkibceepgaaGreat
