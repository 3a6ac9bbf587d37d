import Derived.Test.YtjaobmbcmjgjgaaGreatDoorA02
import Derived.Handy
import Derived.Maps.AppendAt
import Derived.OwnWalk
namespace Go.Proofs.YtjaobmbcmjgjgaaGreatDoor
set_option maxHeartbeats 1000000
open Go.RowKit
set_option linter.unusedVariables false
theorem ae {p:Prop} (h:p:=by
 obtain ⟨k,hk,rfl,hR,hB⟩:=hrel
 by_cases hlt:k<n
 ·
  have hlt':(k:Int)<n:=by omega
  obtain ⟨g,o,rfl,hc⟩:=h k hlt
  have p1:=(hB.cell (p:=⟨g,o+k,none⟩) (iI hc)).trans hc
  dsimp only at p1
  obtain ⟨v0,hv0⟩:=hR.there k hlt
  have hf:=hR.free k
  clear h hc
  go_wp2_with fail
  go_roundw
  case rel=>exact ⟨k+1,by omega,by go_num,hR.step hlt,hB.setCell (Nat.le_refl _) _⟩
  case measure=>simp [intOf];omega
 obtain rfl:k=n:=by omega
 clear h
 go_wp2_with fail
 go_ret
 exact ⟨rfl,hR,hB⟩):p:=h
theorem af {p:Prop} (h:p:=by
 go_wp2_with fail
 go_ret
 exact ⟨fO HF.out.symm,HA.out _⟩):p:=h
theorem ag {p:Prop} (h:p:=by
 clear hok h0
 go_enter Tryz.func164,Tryz.ntmps164
 go_wp2_with fail
 go_ret
 exact ⟨fO HE.out,HA.out _⟩):p:=h
theorem ah {p:Prop} (h:p:=by
 clear h1 h2
 have hlt':(k:Int)<n:=by omega
 go_wp2_with fail
 go_quiet (fail)
 go_wp2_with fail
 go_roundw
 case rel=>exact ⟨k+1,by omega,by go_num,hS.drewN _⟩
 case measure=>simp [intOf];omega):p:=h
theorem aj {p:Prop} (h:p:=by
 rw [Array.getElem?_eq_getElem h3] at h2
 exact ((hb.cell (p:=⟨g,o+i*8+j,none⟩) (iI h2)).trans h2).trans (Array.getElem?_eq_getElem h3).symm):p:=h
theorem ak {p:Prop} (h:p:=by
 obtain rfl:k=n:=by omega
 go_wp2_with fail
 go_ret
 exact ⟨rfl,hS⟩):p:=h
theorem an {p:Prop} (h:p:=by
 go_wp2_with fail
 go_round
 case rel=>exact ⟨k+1,by omega,by go_num,by go_num⟩
 case measure=>simp [intOf];omega):p:=h
theorem ao {p:Prop} (h:p:=by
 rw [Hid,Bool.eq_iff_iff,hok];simp [wC,h0,hd]):p:=h
def fW (w:World) (a:Option Addr) (n:Nat) (v:Nat→Value):Prop:=∀ i,i<n→∃ g o,a=some ⟨g,o,none⟩∧w.cell? ⟨g,o+i,none⟩=some (v i)
theorem fW.up {w w2:World} {a:Option Addr} {n:Nat} {v:Nat→Value} (h:fW w a n v) (hb:Below w.heap.size w w2):fW w2 a n v:=by
 intro i hi
 obtain ⟨g,o,ha,hc⟩:=h i hi
 exact ⟨g,o,ha,(hb.cell (p:=⟨g,o+i,none⟩) (iI hc)).trans hc⟩
theorem fW.kO {w w2:World} {S:List Nat} {a:Option Addr} {n:Nat} {v:Nat→Value} (h:fW w a n v) (hb:Touch S w w2) (hS:∀ b,a=some b→b.block∉S):fW w2 a n v:=by
 intro i hi
 obtain ⟨g,o,ha,hc⟩:=h i hi
 refine ⟨g,o,ha,?_⟩
 rw [World.cell?_of_block (w:=w) (a:=⟨g,o+i,none⟩) (hb.block g (iI hc) (hS _ ha))]
 exact hc
theorem fU.read {g n:Nat} {t:TypeId} {f:Nat→Value} {w:World} (h:fU g t n f n w):fW w (some ⟨g,0,none⟩) n f :=
 fun i hi=>⟨g,0,rfl,by rw [Nat.zero_add];exact h.at i hi⟩
theorem fW.nil (w:World) (a:Option Addr) (v:Nat→Value):fW w a 0 v:=fun i hi=>by omega
set_option linter.unusedSimpArgs false
theorem j0 (x:Int) (h0:-9223372036854775808≤x) (h1:x≤9223372036854775807):IntKind.i64.wrap x=x:=by
 rw [IntKind.wrap_i64];omega
structure Ent where
 m:Int
 p:Int
 t:Int
deriving Inhabited,DecidableEq
def Ent.v (x:Ent):Value:=.agg #[.int .i64 x.m,.int .i64 x.p,.int .i64 x.t]
def flat (f:Nat→Ent) (j:Nat):Value:=.int .i64 (if j % 3=0 then (f (j / 3)).m else if j % 3=1 then (f (j / 3)).p else (f (j / 3)).t)
theorem vp (f:Nat→Ent) (i:Nat):flat f (i*3)=.int .i64 (f i).m:=by
 unfold flat
 rw [show i*3 % 3=0 by omega,show i*3 / 3=i by omega];rfl
theorem zr (f:Nat→Ent) (i:Nat):flat f (i*3+1)=.int .i64 (f i).p:=by
 unfold flat
 rw [show (i*3+1) % 3=1 by omega,show (i*3+1) / 3=i by omega];rfl
theorem vo (f:Nat→Ent) (i:Nat):flat f (i*3+2)=.int .i64 (f i).t:=by
 unfold flat
 rw [show (i*3+2) % 3=2 by omega,show (i*3+2) / 3=i by omega];rfl
def iu (w:World) (a:Option Addr) (n:Nat) (f:Nat→Ent):Prop :=
 ∀ i,i<n→∃ g o,a=some ⟨g,o,none⟩∧w.cell? ⟨g,o+i*3,none⟩=some (.int .i64 (f i).m)∧w.cell? ⟨g,o+i*3+1,none⟩=some (.int .i64 (f i).p)∧w.cell? ⟨g,o+i*3+2,none⟩=some (.int .i64 (f i).t)
theorem iu.up {w w2:World} {a:Option Addr} {n:Nat} {f:Nat→Ent} (h:iu w a n f) (hb:Below w.heap.size w w2):iu w2 a n f:=by
 intro i hi
 obtain ⟨g,o,ha,h1,h2,h3⟩:=h i hi
 exact ⟨g,o,ha,(hb.cell (p:=⟨g,o+i*3,none⟩) (iI h1)).trans h1,(hb.cell (p:=⟨g,o+i*3+1,none⟩) (iI h2)).trans h2,(hb.cell (p:=⟨g,o+i*3+2,none⟩) (iI h3)).trans h3⟩
theorem iu.nil (w:World) (a:Option Addr) (f:Nat→Ent):iu w a 0 f:=fun i hi=>by omega
theorem iu.ext {w:World} {a:Option Addr} {n:Nat} {f f':Nat→Ent} (h:iu w a n f) (e:∀ i,i<n→f i=f' i):iu w a n f':=by
 intro i hi
 rw [←e i hi]
 exact h i hi
theorem iu.kO {w w2:World} {S:List Nat} {a:Option Addr} {n:Nat} {f:Nat→Ent} (h:iu w a n f) (hb:Touch S w w2) (hS:∀ b,a=some b→b.block∉S):iu w2 a n f:=by
 intro i hi
 obtain ⟨g,o,ha,h1,h2,h3⟩:=h i hi
 have e:=hb.block g (iI h1) (hS _ ha)
 exact ⟨g,o,ha,(World.cell?_of_block (w:=w) (a:=⟨g,o+i*3,none⟩) e).trans h1,(World.cell?_of_block (w:=w) (a:=⟨g,o+i*3+1,none⟩) e).trans h2,(World.cell?_of_block (w:=w) (a:=⟨g,o+i*3+2,none⟩) e).trans h3⟩
theorem fU.Ca {g n:Nat} {t:TypeId} {f:Nat→Ent} {w:World} (h:fU g t (n*3) (flat f) (n*3) w):iu w (some ⟨g,0,none⟩) n f:=by
 intro i hi
 refine ⟨g,0,rfl,?_,?_,?_⟩
 ·
  rw [Nat.zero_add,h.at _ (by omega),vp]
 ·
  rw [Nat.zero_add,h.at _ (by omega),zr]
 rw [Nat.zero_add,h.at _ (by omega),vo]
theorem fU.ent {g n k:Nat} {t:TypeId} {f:Nat→Ent} {w:World} (h:fU g t (n*3) (flat f) (k*3) w) (hk:k<n):fU g t (n*3) (flat f) ((k+1)*3) (((w.setCell ⟨g,k*3,none⟩ (.int .i64 (f k).m)).setCell ⟨g,k*3+1,none⟩ (.int .i64 (f k).p)).setCell ⟨g,k*3+2,none⟩ (.int .i64 (f k).t)):=by
 have s1:=h.step (by omega)
 have s2:=s1.step (by omega)
 have s3:=s2.step (by omega)
 rw [vp,zr,vo,show k*3+2+1=(k+1)*3 by omega] at s3
 exact s3
def jK (x:Ent):Prop:=(1≤x.m∧x.m≤20)∧(0≤x.p∧x.p≤3)∧(0≤x.t∧x.t≤1000000000)
instance (x:Ent):Decidable (jK x):=by unfold jK;exact inferInstance
def iE (n:Nat) (f:Nat→Ent):Prop:=∀ i,i<n→jK (f i)∧(0<i→(f (i-1)).m<(f i).m)
def jr (n:Nat) (f:Nat→Ent):Prop:=n≤8∧iE n f
theorem iE.step {k:Nat} {f:Nat→Ent} (h:iE k f) (h1:jK (f k)) (h2:0<k→(f (k-1)).m<(f k).m):iE (k+1) f:=by
 intro i hi
 by_cases e:i=k
 ·
  subst e;exact ⟨h1,h2⟩
 exact h i (by omega)
theorem oW (n:Nat) (f:Nat→Ent):∃ ok:Bool,ok=true↔jr n f:=by
 by_cases h:jr n f
 ·
  exact ⟨true,by simp [h]⟩
 exact ⟨false,by simp [h]⟩
theorem mr (x:Int) (h0:-9223372036854775808≤x) (h1:x≤9223372036854775807):IntKind.i64.wrap x=x:=by
 rw [IntKind.wrap_i64];omega
structure Cfg where
 p:Int
 c:Int
 xo:Int
 xn:Int
 hd:Int
 lo:Int
 dl:Int
def Cfg.cells (C:Cfg):Array Value:=#[.int .i64 C.p,.int .i64 C.c,.int .i64 C.xo,.int .i64 C.xn,.int .i64 C.hd,.int .i64 C.lo,.int .i64 C.dl]
structure Cfg.Num (C:Cfg):Prop where
 p:2≤C.p∧C.p≤4
 c:1≤C.c∧C.c≤1000
 xo:1≤C.xo∧C.xo≤1000
 xn:0≤C.xn∧C.xn≤C.xo-1
 hd:0≤C.hd∧C.hd≤1000
 lo:0≤C.lo∧C.lo≤1000
 dl:1≤C.dl∧C.dl≤3
structure Cfg.Ok (C:Cfg):Prop where
 num:C.Num
 head:C.hd≥5*(2*C.dl+1)
 sum:C.p*(C.xo+C.hd)+C.lo≤C.c
open Classical in
theorem mx (p:Prop):∃ ok:Bool,ok=true↔p:=⟨decide p,by simp⟩
theorem gm (n lo hi:Int) (w:World) :
  Calls Tryz.prog 102 #[.int .i64 n,.int .i64 lo,.int .i64 hi] w fun e w'=>e=.returned (.bool (decide (lo≤n∧n≤hi)))∧w'=w:=by
 by_cases h1:lo≤n
 ·
  by_cases h2:n≤hi
  ·
   go_enter Tryz.func102,Tryz.ntmps102
   go_wp2
   go_ret
   exact ⟨by simp [h1,h2],rfl⟩
  go_enter Tryz.func102,Tryz.ntmps102
  exact aa
 go_enter Tryz.func102,Tryz.ntmps102
 exact aa
theorem rh (C:Cfg) (w:World) (ok:Bool) (hok:ok=true↔C.Num) :
  Calls Tryz.prog 126 #[.agg C.cells] w fun e w'=>e=.returned (.bool ok)∧Below w.heap.size w w':=by
 have HO:Hid (ok=true↔C.Num):=hok
 have HA:Hid (∀ o,Below w.heap.size w (w.alloc o)):=fun o=>(Below.refl _ _).alloc (Nat.le_refl _) _
 clear hok
 unfold Cfg.cells
 go_enter Tryz.func126,Tryz.ntmps126
 go_wp2_with fail
 refine (gm _ _ _ _).mono ?_
 rintro e w' ⟨rfl,hw⟩
 rw [hw]
 clear hw w'
 by_cases h_p:2≤C.p∧C.p≤4
 rotate_left
 ·
  have HF:Hid (ok=false):=by
   show ok=false
   rw [Bool.eq_false_iff]
   intro e
   exact h_p (HO.out.1 e).p
  rw [decide_eq_false h_p]
  clear h_p
  exact af
 rw [decide_eq_true h_p]
 have H_p:Hid (2≤C.p∧C.p≤4):=h_p
 clear h_p
 go_wp2_with fail
 refine (gm _ _ _ _).mono ?_
 rintro e w' ⟨rfl,hw⟩
 rw [hw]
 clear hw w'
 by_cases h_c:1≤C.c∧C.c≤1000
 rotate_left
 ·
  have HF:Hid (ok=false):=by
   show ok=false
   rw [Bool.eq_false_iff]
   intro e
   exact h_c (HO.out.1 e).c
  rw [decide_eq_false h_c]
  clear h_c
  exact af
 rw [decide_eq_true h_c]
 have H_c:Hid (1≤C.c∧C.c≤1000):=h_c
 clear h_c
 go_wp2_with fail
 refine (gm _ _ _ _).mono ?_
 rintro e w' ⟨rfl,hw⟩
 rw [hw]
 clear hw w'
 by_cases h_xo:1≤C.xo∧C.xo≤1000
 rotate_left
 ·
  have HF:Hid (ok=false):=by
   show ok=false
   rw [Bool.eq_false_iff]
   intro e
   exact h_xo (HO.out.1 e).xo
  rw [decide_eq_false h_xo]
  clear h_xo
  exact af
 rw [decide_eq_true h_xo]
 have H_xo:Hid (1≤C.xo∧C.xo≤1000):=h_xo
 have h_xo1:=h_xo.1
 have h_xo2:=h_xo.2
 clear h_xo
 go_wp2_with fail
 refine (gm _ _ _ _).mono ?_
 rintro e w' ⟨rfl,hw⟩
 rw [hw]
 clear hw w'
 by_cases h_xn:0≤C.xn∧C.xn≤C.xo-1
 rotate_left
 ·
  have HF:Hid (ok=false):=by
   show ok=false
   rw [Bool.eq_false_iff]
   intro e
   exact h_xn (HO.out.1 e).xn
  rw [decide_eq_false h_xn]
  clear h_xn
  exact af
 rw [decide_eq_true h_xn]
 have H_xn:Hid (0≤C.xn∧C.xn≤C.xo-1):=h_xn
 clear h_xn
 go_wp2_with fail
 refine (gm _ _ _ _).mono ?_
 rintro e w' ⟨rfl,hw⟩
 rw [hw]
 clear hw w'
 by_cases h_hd:0≤C.hd∧C.hd≤1000
 rotate_left
 ·
  have HF:Hid (ok=false):=by
   show ok=false
   rw [Bool.eq_false_iff]
   intro e
   exact h_hd (HO.out.1 e).hd
  rw [decide_eq_false h_hd]
  clear h_hd
  exact af
 rw [decide_eq_true h_hd]
 have H_hd:Hid (0≤C.hd∧C.hd≤1000):=h_hd
 clear h_hd
 go_wp2_with fail
 refine (gm _ _ _ _).mono ?_
 rintro e w' ⟨rfl,hw⟩
 rw [hw]
 clear hw w'
 by_cases h_lo:0≤C.lo∧C.lo≤1000
 rotate_left
 ·
  have HF:Hid (ok=false):=by
   show ok=false
   rw [Bool.eq_false_iff]
   intro e
   exact h_lo (HO.out.1 e).lo
  rw [decide_eq_false h_lo]
  clear h_lo
  exact af
 rw [decide_eq_true h_lo]
 have H_lo:Hid (0≤C.lo∧C.lo≤1000):=h_lo
 clear h_lo
 go_wp2_with fail
 refine (gm _ _ _ _).mono ?_
 rintro e w' ⟨rfl,hw⟩
 rw [hw]
 clear hw w'
 by_cases h_dl:1≤C.dl∧C.dl≤3
 rotate_left
 ·
  have HF:Hid (ok=false):=by
   show ok=false
   rw [Bool.eq_false_iff]
   intro e
   exact h_dl (HO.out.1 e).dl
  rw [decide_eq_false h_dl]
  clear h_dl
  exact af
 rw [decide_eq_true h_dl]
 have H_dl:Hid (1≤C.dl∧C.dl≤3):=h_dl
 clear h_dl
 have HT:Hid (ok=true):=HO.out.2 ⟨H_p.out,H_c.out,H_xo.out,H_xn.out,H_hd.out,H_lo.out,H_dl.out⟩
 go_wp2_with fail
 go_ret
 exact ⟨fO HT.out.symm,HA.out _⟩
theorem mo (C:Cfg) (w:World) (h1:1≤C.dl) (h2:C.dl≤3) :
  Calls Tryz.prog 127 #[.agg C.cells] w fun e w'=>e=.returned (.int .i64 (5*(2*C.dl+1)))∧Below w.heap.size w w':=by
 have HA:Hid (∀ o,Below w.heap.size w (w.alloc o)):=fun o=>(Below.refl _ _).alloc (Nat.le_refl _) _
 have e1:IntKind.i64.wrap (2*C.dl)=2*C.dl:=mr _ (by omega) (by omega)
 have e2:IntKind.i64.wrap (2*C.dl+1)=2*C.dl+1:=mr _ (by omega) (by omega)
 have e3:IntKind.i64.wrap (5*(2*C.dl+1))=5*(2*C.dl+1):=mr _ (by omega) (by omega)
 unfold Cfg.cells
 go_enter Tryz.func127,Tryz.ntmps127
 go_wp2_with fail
 go_ret
 exact ⟨iM (by first | rfl | omega),HA.out _⟩
def pa:Value:=.iface 173 (.agg #[])
def qK (i:Nat):Value:=.iface 175 (.agg #[.int .i64 i])
def zY (n:Nat):List Value:=pa :: (List.range n).map qK
theorem yI (n:Nat):zY (n+1)=zY n++[qK n]:=by simp [zY,List.range_succ]
theorem yH (n:Nat):(zY n)[0]?=some pa:=rfl
theorem BP (n i:Nat) (h:i<n):(zY n)[i+1]?=some (qK i):=by simp [zY,h]
theorem Dk:(Tryz.prog.info? 138).map (fun i=>(i.zero,i.size,i.bytes))=some (some .nilIface,1,16):=by kernel_rfl
theorem BJ (i:Nat):∀ u∈([qK i]:List Value),u.oneCell'=true:=by simp [qK,Value.oneCell']
theorem nv {w:World} {base size n:Nat} {e:TypeId} {v:Value} {xs:List Value} (h:w.ownsRow base e size v n xs):(v=.slice none 0 0∧n=0)∨∃ g cap,v=.slice (some ⟨g,0,none⟩) n cap:=by
 rcases h.2 with h0 | ⟨g,cap,_,hv,_⟩
 ·
  exact Or.inl h0
 exact Or.inr ⟨g,cap,hv⟩
theorem yo {B:Nat} {e:TypeId} {w wr w':World} {k:Nat} {xs ys:List Value} {v v':Value} {o:Obj} (hz:B≤wr.heap.size) (hB:Below B w wr) (hown:wr.ownsRow B e 1 v k xs) (hown':w'.ownsRow B e 1 v' (k+1) ys) (hg:(wr.alloc o).grownBy w' v.ownBlock) :
  ∃ g2 cap2,v'=.slice (some ⟨g2,0,none⟩) (k+1) cap2∧w'.ownsRow B e 1 v' (k+1) ys∧Below B w w':=by
 rcases nv hown' with ⟨_,h0⟩ | ⟨g2,cap2,rfl⟩
 ·
  omega
 refine ⟨g2,cap2,rfl,hown',(hB.alloc hz o).grown hg (by simp;omega) (fun j hj=>?_)⟩
 rcases hown.2 with ⟨rfl,_⟩ | ⟨g,cap,cur,rfl,hge,_⟩
 ·
  cases hj
 simp only [Value.ownBlock,Option.some.injEq] at hj
 omega
def BQ:Nat→Value
 | 0=>pa
 | i+1=>qK i
theorem s7 {w:World} {base g n cap:Nat} {e:TypeId} (h:w.ownsRow base e 1 (.slice (some ⟨g,0,none⟩) (n+1) cap) (n+1) (zY n)):fW w (some ⟨g,0,none⟩) (n+1) BQ:=by
 intro i hi
 refine ⟨g,0,rfl,?_⟩
 rw [Nat.zero_add,vV h i hi]
 cases i with
 | zero=>exact yH n
 | succ i=>exact BP n i (by omega)
theorem nV (C:Cfg) (n:Nat) (w:World) (hn:n≤4) (hp:C.p=(n:Int)) :
  Calls Tryz.prog 101 #[.agg C.cells] w fun e w'=>(∃ g cap,e=.returned (.slice (some ⟨g,0,none⟩) (n+1) cap)∧w'.ownsRow w.heap.size 138 1 (.slice (some ⟨g,0,none⟩) (n+1) cap) (n+1) (zY n))∧Below w.heap.size w w':=by
 obtain ⟨i0,hi,hz0,hz1,hz2⟩:=info_parts Dk
 obtain ⟨p,c,xo,xn,hd,lo,dl⟩:=C
 dsimp only at hp
 subst hp
 unfold Cfg.cells
 dsimp only
 go_enter Tryz.func101,Tryz.ntmps101
 go_wp2_with fail
 go_loopw [3,10] (fun v i wr=>∃ (k g cap:Nat),k≤n∧i=.int .i64 k∧v=.slice (some ⟨g,0,none⟩) (k+1) cap∧wr.ownsRow w.heap.size 138 1 (.slice (some ⟨g,0,none⟩) (k+1) cap) (k+1) (zY k)∧Below w.heap.size w wr) (fun _ i _=>n-(intOf i).toNat)
 case atStart=>exact ⟨0,w.heap.size+1,1,Nat.zero_le _,rfl,by simp,⟨rfl,.inr ⟨w.heap.size+1,1,#[pa],rfl,by omega,by have:=fK (w.alloc (.cells #[.int .i64 n,.int .i64 c,.int .i64 xo,.int .i64 xn,.int .i64 hd,.int .i64 lo,.int .i64 dl] 37)) (.cells #[pa] 138);rw [show (w.alloc (.cells #[.int .i64 n,.int .i64 c,.int .i64 xo,.int .i64 xn,.int .i64 hd,.int .i64 lo,.int .i64 dl] 37)).heap.size=w.heap.size+1 by simp] at this;exact this,by simp,by first | (unfold maxLen;omega) | simp,by first | simp | (unfold maxLen;omega),by simp [zY]⟩⟩,((Below.refl _ _).alloc (Nat.le_refl _) _).alloc (by simp) _⟩
 obtain ⟨k,g,cap,hk,rfl,rfl,hown,hB⟩:=hrel
 have zB:=hB.size
 by_cases hlt:k<n
 ·
  have hlt':(k:Int)<n:=by omega
  go_wp2_with (at_builtin;refine wpList_append_own _ rfl (.tmp 13) (.tmp 17) 135 rfl w.heap.size 138 i0 .nilIface 1 16 Tryz.underlying135 hi hz0 hz1 hz2 rfl (by decide) _ (k+1) _ rfl (hown.alloc _) ⟨wr.heap.size,0,none⟩ 1 1 [qK k] rfl rfl (cell_one_new _ _ _) (BJ _) (by unfold maxLen;omega) (by omega) (by simp;omega) ?_;intro v' w' hown' hgrow' hnil';obtain ⟨g2,cap2,rfl,o2,B2⟩:=yo zB hB hown hown' hgrow')
  go_roundw
  case rel=>exact ⟨k+1,g2,cap2,by omega,by go_num,rfl,by rw [yI];exact o2,B2⟩
  case measure=>simp [intOf];omega
 obtain rfl:k=n:=by omega
 go_wp2_with fail
 go_ret
 exact ⟨⟨g,cap,rfl,hown⟩,hB⟩
theorem pH:(Tryz.prog.info? 2).map (fun i=>(i.zero,i.size,i.bytes))=some (some (.int .i64 0),1,8):=by kernel_rfl
def jM (n:Nat):Array Value:=madeCells #[.int .i64 0] n
theorem u6 (v:Value) (n i:Nat) (h:i<n):(madeCells #[v] n)[i]?=some v:=by
 unfold madeCells
 simp [h]
 rw [Nat.mod_one];rfl
theorem mO (n:Nat) (hn:n≤1048576) (w:World):(Instr.makeSlice 25 (.int .i64 (n:Int)) (.int .i64 (n:Int))).run Tryz.prog w=.ok (.slice (some ⟨w.heap.size,0,none⟩) n n) (w.alloc (.cells (jM n) 2)):=by
 obtain ⟨i0,hi,hz0,hz1,hz2⟩:=info_parts pH
 have:=run_make (P:=Tryz.prog) w 25 2 i0 (.int .i64 0) Tryz.underlying25 hi hz0 .i64 .i64 (n:Int) (n:Int) (by omega) (by omega) (by rw [hz2];omega) (by omega)
 rw [this,hz1]
 simp [jM,Value.cells]
theorem mI {w:World} {g n:Nat} (h:w.heap[g]?=some (.cells (jM n) 2 (0,0))):fU g 2 n (fun _=>.int .i64 0) n w :=
 ⟨_,h,by simp [jM,size_madeCells],fun i hi=>u6 _ n i hi⟩
theorem kQ (a:Option Addr) (n cap:Nat) (f:Nat→Int) (w:World) (hn:n≤1048576) (h:fW w a n fun i=>.int .i64 (f i)) :
  Calls Tryz.prog 58 #[.slice a n cap] w fun e w'=>e=.returned (.slice (some ⟨w.heap.size,0,none⟩) n n)∧fU w.heap.size 2 n (fun i=>.int .i64 (f i)) n w'∧Below w.heap.size w w':=by
 have mk:=mO n hn
 go_enter Tryz.func58,Tryz.ntmps58
 go_wp2_with fail
 clear mk
 go_loopw [4] (fun i wr=>∃ k:Nat,k≤n∧i=.int .i64 k∧fU w.heap.size 2 n (fun i=>.int .i64 (f i)) k wr∧Below w.heap.size w wr) (fun i _=>n-(intOf i).toNat)
 case atStart=>exact ⟨0,Nat.zero_le _,rfl,(mI (fK w _)).Bq,(Below.refl _ _).alloc (Nat.le_refl _) _⟩
 exact ae
theorem sZ (g n cap m:Nat) (f:Nat→Value) (w:World) (h:fU g 2 n f n w) (hn:n≤1048576) (hm:m≤100000000) :
  Calls Tryz.prog 82 #[.slice (some ⟨g,0,none⟩) n cap,.int .i64 m] w fun e w'=>e=.returned (.int .i64 (m+n:Nat))∧fU g 2 n (fun i=>.int .i64 (m+i:Nat)) n w'∧Touch [g] w w':=by
 go_enter Tryz.func82,Tryz.ntmps82
 go_wp2_with fail
 go_loopw [1,5] (fun x i wr=>∃ k:Nat,k≤n∧i=.int .i64 k∧x=.int .i64 (m+k:Nat)∧fU g 2 n (fun i=>.int .i64 (m+i:Nat)) k wr∧Touch [g] w wr) (fun _ i _=>n-(intOf i).toNat)
 case atStart=>exact ⟨0,Nat.zero_le _,rfl,rfl,h.Bq,Touch.refl _ _⟩
 obtain ⟨k,hk,rfl,rfl,hR,hT⟩:=hrel
 by_cases hlt:k<n
 ·
  obtain ⟨v,hv⟩:=hR.there k hlt
  have hf:=hR.free k
  have hlt':(k:Int)<n:=by omega
  go_wp2_with fail
  go_roundw
  case rel=>exact ⟨k+1,by omega,by go_num,by go_num,hR.step hlt,hT.set (by simp) k _⟩
  case measure=>simp [intOf];omega
 obtain rfl:k=n:=by omega
 go_wp2_with fail
 go_ret
 exact ⟨rfl,hR,hT⟩
theorem tv (g n cap m:Nat) (w:World) (h:fU g 2 n (fun i=>.int .i64 (m+i:Nat)) n w) (hn:n≤1048576) (hm:m≤100000000) :
  Calls Tryz.prog 86 #[.slice (some ⟨g,0,none⟩) n cap,.int .i64 m] w fun e w'=>e=.returned (.int .i64 (m+n:Nat))∧w=w':=by
 go_enter Tryz.func86,Tryz.ntmps86
 go_wp2_with fail
 go_loop [1,5] (fun x i=>∃ k:Nat,k≤n∧i=.int .i64 k∧x=.int .i64 (m+k:Nat)) (fun _ i=>n-(intOf i).toNat)
 case atStart=>exact ⟨0,Nat.zero_le _,rfl,rfl⟩
 obtain ⟨k,hk,rfl,rfl⟩:=hrel
 by_cases hlt:k<n
 ·
  have hc:=h.at k hlt
  have hlt':(k:Int)<n:=by omega
  exact an
 obtain rfl:k=n:=by omega
 go_wp2_with fail
 go_ret
 exact ⟨rfl,rfl⟩
theorem lp (a1 a2:Option Addr) (n c1 c2:Nat) (f:Nat→Int) (w:World) (hn:n≤1048576) (h1:∀ i,i<n→∃ g o,a1=some ⟨g,o,none⟩∧w.cell? ⟨g,o+i,none⟩=some (.int .i64 (f i))) (h2:∀ i,i<n→∃ g o,a2=some ⟨g,o,none⟩∧w.cell? ⟨g,o+i,none⟩=some (.int .i64 (f i))) :
  Calls Tryz.prog 78 #[.slice a1 n c1,.slice a2 n c2] w fun e w'=>e=.returned (.bool true)∧kJ w w':=by
 go_enter Tryz.func78,Tryz.ntmps78
 go_wp2_with fail
 go_loopw [5] (fun i wr=>∃ k:Nat,k≤n∧i=.int .i64 k∧kJ w wr) (fun i _=>n-(intOf i).toNat)
 case atStart=>exact ⟨0,Nat.zero_le _,rfl,kJ.refl _⟩
 obtain ⟨k,hk,rfl,hS⟩:=hrel
 by_cases hlt:k<n
 ·
  obtain ⟨g1,o1,rfl,e1⟩:=h1 k hlt
  obtain ⟨g2,o2,rfl,e2⟩:=h2 k hlt
  rw [←hS.cell] at e1 e2
  exact ah
 exact ak
theorem BV:(Tryz.prog.info? 4).map (fun i=>(i.zero,i.size,i.bytes))=some (some (.bool false),1,1):=by kernel_rfl
def vJ (n:Nat):Array Value:=madeCells #[.bool false] n
theorem xl (n:Nat) (hn:n≤1048576) (w:World):(Instr.makeSlice 26 (.int .i64 (n:Int)) (.int .i64 (n:Int))).run Tryz.prog w=.ok (.slice (some ⟨w.heap.size,0,none⟩) n n) (w.alloc (.cells (vJ n) 4)):=by
 obtain ⟨i0,hi,hz0,hz1,hz2⟩:=info_parts BV
 have:=run_make (P:=Tryz.prog) w 26 4 i0 (.bool false) Tryz.underlying26 hi hz0 .i64 .i64 (n:Int) (n:Int) (by omega) (by omega) (by rw [hz2];omega) (by omega)
 rw [this,hz1]
 simp [vJ,Value.cells]
theorem wH {w:World} {g n:Nat} (h:w.heap[g]?=some (.cells (vJ n) 4 (0,0))):fU g 4 n (fun _=>.bool false) n w :=
 ⟨_,h,by simp [vJ,size_madeCells],fun i hi=>u6 _ n i hi⟩
theorem uI (a:Option Addr) (n cap:Nat) (f:Nat→Bool) (w:World) (hn:n≤1048576) (h:fW w a n fun i=>.bool (f i)) :
  Calls Tryz.prog 59 #[.slice a n cap] w fun e w'=>e=.returned (.slice (some ⟨w.heap.size,0,none⟩) n n)∧fU w.heap.size 4 n (fun i=>.bool (f i)) n w'∧Below w.heap.size w w':=by
 have mk:=xl n hn
 go_enter Tryz.func59,Tryz.ntmps59
 go_wp2_with fail
 clear mk
 go_loopw [4] (fun i wr=>∃ k:Nat,k≤n∧i=.int .i64 k∧fU w.heap.size 4 n (fun i=>.bool (f i)) k wr∧Below w.heap.size w wr) (fun i _=>n-(intOf i).toNat)
 case atStart=>exact ⟨0,Nat.zero_le _,rfl,(wH (fK w _)).Bq,(Below.refl _ _).alloc (Nat.le_refl _) _⟩
 exact ae
def mb (x:Nat):Bool:=decide (x % 3=0)
theorem Dh (x:Nat):(((x:Int).tmod 3) == 0)=mb x:=by
 rw [Bool.eq_iff_iff]
 have:((x:Int).tmod 3)=((x % 3:Nat):Int):=by rw [Int.tmod_eq_emod_of_nonneg (by omega)];rfl
 simp only [this,mb,beq_iff_eq,decide_eq_true_eq]
 omega
theorem CA (m k:Nat):(((m:Int)+(k:Int)) % 3 == 0)=mb (m+k):=by
 rw [Bool.eq_iff_iff]
 simp only [mb,beq_iff_eq,decide_eq_true_eq]
 omega
theorem qV (g n cap m:Nat) (f:Nat→Value) (w:World) (h:fU g 4 n f n w) (hn:n≤1048576) (hm:m≤100000000) :
  Calls Tryz.prog 83 #[.slice (some ⟨g,0,none⟩) n cap,.int .i64 m] w fun e w'=>e=.returned (.int .i64 (m+n:Nat))∧fU g 4 n (fun i=>.bool (mb (m+i))) n w'∧Touch [g] w w':=by
 go_enter Tryz.func83,Tryz.ntmps83
 go_wp2_with fail
 go_loopw [1,5] (fun x i wr=>∃ k:Nat,k≤n∧i=.int .i64 k∧x=.int .i64 (m+k:Nat)∧fU g 4 n (fun i=>.bool (mb (m+i))) k wr∧Touch [g] w wr) (fun _ i _=>n-(intOf i).toNat)
 case atStart=>exact ⟨0,Nat.zero_le _,rfl,rfl,h.Bq,Touch.refl _ _⟩
 obtain ⟨k,hk,rfl,rfl,hR,hT⟩:=hrel
 by_cases hlt:k<n
 ·
  obtain ⟨v,hv⟩:=hR.there k hlt
  have hf:=hR.free k
  have hlt':(k:Int)<n:=by omega
  have HS:Hid (fU g 4 n (fun i=>.bool (mb (m+i))) (k+1) (wr.setCell ⟨g,k,none⟩ (.bool (mb (m+k))))):=hR.step hlt
  go_wp2_with fail
  go_roundw
  case rel=>exact ⟨k+1,by omega,by go_num,by go_num,by rw [CA];exact HS.out,hT.set (by simp) k _⟩
  case measure=>simp [intOf];omega
 obtain rfl:k=n:=by omega
 go_wp2_with fail
 go_ret
 exact ⟨rfl,hR,hT⟩
theorem rv (g n cap m:Nat) (w:World) (h:fU g 4 n (fun i=>.bool (mb (m+i))) n w) (hn:n≤1048576) (hm:m≤100000000) :
  Calls Tryz.prog 87 #[.slice (some ⟨g,0,none⟩) n cap,.int .i64 m] w fun e w'=>e=.returned (.int .i64 (m+n:Nat))∧w=w':=by
 go_enter Tryz.func87,Tryz.ntmps87
 go_wp2_with fail
 go_loop [1,5] (fun x i=>∃ k:Nat,k≤n∧i=.int .i64 k∧x=.int .i64 (m+k:Nat)) (fun _ i=>n-(intOf i).toNat)
 case atStart=>exact ⟨0,Nat.zero_le _,rfl,rfl⟩
 obtain ⟨k,hk,rfl,rfl⟩:=hrel
 by_cases hlt:k<n
 ·
  have hc:=h.at k hlt
  have hlt':(k:Int)<n:=by omega
  rw [←Dh] at hc
  have hbb:((((m+k:Nat):Int).tmod 3 == 0) != (((m+k:Nat):Int).tmod 3 == 0))=false:=by simp
  exact an
 obtain rfl:k=n:=by omega
 go_wp2_with fail
 go_ret
 exact ⟨rfl,rfl⟩
theorem vv (a1 a2:Option Addr) (n c1 c2:Nat) (f:Nat→Bool) (w:World) (hn:n≤1048576) (h1:fW w a1 n fun i=>.bool (f i)) (h2:fW w a2 n fun i=>.bool (f i)) :
  Calls Tryz.prog 79 #[.slice a1 n c1,.slice a2 n c2] w fun e w'=>e=.returned (.bool true)∧kJ w w':=by
 go_enter Tryz.func79,Tryz.ntmps79
 go_wp2_with fail
 go_loopw [5] (fun i wr=>∃ k:Nat,k≤n∧i=.int .i64 k∧kJ w wr) (fun i _=>n-(intOf i).toNat)
 case atStart=>exact ⟨0,Nat.zero_le _,rfl,kJ.refl _⟩
 obtain ⟨k,hk,rfl,hS⟩:=hrel
 by_cases hlt:k<n
 ·
  obtain ⟨g1,o1,rfl,e1⟩:=h1 k hlt
  obtain ⟨g2,o2,rfl,e2⟩:=h2 k hlt
  rw [←hS.cell] at e1 e2
  dsimp only at e1 e2
  have hbb:(f k != f k)=false:=by simp
  exact ah
 exact ak
structure Cnt where
 aU:Option Addr
 nU:Nat
 cU:Nat
 u:Nat→Int
 lo:Int
 aP:Option Addr
 nP:Nat
 cP:Nat
 p:Nat→Bool
def Cnt.cells (N:Cnt):Array Value:=#[.slice N.aU N.nU N.cU,.int .i64 N.lo,.slice N.aP N.nP N.cP]
structure jo (w:World) (N:Cnt):Prop where
 u:fW w N.aU N.nU fun i=>.int .i64 (N.u i)
 p:fW w N.aP N.nP fun i=>.bool (N.p i)
theorem jo.up {w w2:World} {N:Cnt} (h:jo w N) (hb:Below w.heap.size w w2):jo w2 N:=⟨h.u.up hb,h.p.up hb⟩
structure Cnt.Fit (N:Cnt):Prop where
 u:N.nU≤maxLen
 p:N.nP≤maxLen
structure Cnt.Small (N:Cnt):Prop where
 u:N.nU≤1048576
 p:N.nP≤1048576
theorem Cnt.Small.fit {N:Cnt} (h:N.Small):N.Fit:=⟨by have:=h.u;unfold maxLen;omega,by have:=h.p;unfold maxLen;omega⟩
structure gw (A B:Cnt):Prop where
 nU:B.nU=A.nU
 u:B.u=A.u
 lo:B.lo=A.lo
 nP:B.nP=A.nP
 p:B.p=A.p
theorem gw.refl (A:Cnt):gw A A:=⟨rfl,rfl,rfl,rfl,rfl⟩
theorem gw.symm {A B:Cnt} (h:gw A B):gw B A:=⟨h.nU.symm,h.u.symm,h.lo.symm,h.nP.symm,h.p.symm⟩
theorem gw.trans {A B C:Cnt} (h:gw A B) (k:gw B C):gw A C:=⟨k.nU.trans h.nU,k.u.trans h.u,k.lo.trans h.lo,k.nP.trans h.nP,k.p.trans h.p⟩
theorem gw.small {A B:Cnt} (h:gw A B) (hs:A.Small):B.Small:=⟨by rw [h.nU];exact hs.u,by rw [h.nP];exact hs.p⟩
structure Cnt.Ok (C:Cfg) (N:Cnt):Prop where
 c:C.Ok
 nU:(N.nU:Int)=C.p
 nP:(N.nP:Int)=C.p
 lo:0≤N.lo∧N.lo≤C.lo
 u:∀ i,i<N.nU→0≤N.u i∧N.u i≤C.xo+C.hd
theorem gw.ok {C:Cfg} {A B:Cnt} (h:gw A B):Cnt.Ok C B↔Cnt.Ok C A :=
 ⟨fun k=>⟨k.c,by rw [←h.nU];exact k.nU,by rw [←h.nP];exact k.nP,by rw [←h.lo];exact k.lo,by rw [←h.u,←h.nU];exact k.u⟩,
  fun k=>⟨k.c,by rw [h.nU];exact k.nU,by rw [h.nP];exact k.nP,by rw [h.lo];exact k.lo,by rw [h.u,h.nU];exact k.u⟩⟩
theorem sr (C:Cfg) (w:World) :
  Calls Tryz.prog 19 #[.agg C.cells] w fun e w'=>e=.returned (.agg C.cells)∧Below w.heap.size w w':=by
 unfold Cfg.cells
 go_enter Tryz.func19,Tryz.ntmps19
 go_wp2_with fail
 refine bodyPost_ret (v:=.agg #[.int .i64 C.p,.int .i64 C.c,.int .i64 C.xo,.int .i64 C.xn,.int .i64 C.hd,.int .i64 C.lo,.int .i64 C.dl]) (by simp [results,Tryz.results19,go_sem]) rfl ⟨rfl,?_⟩
 go_grown
def VT (t:TypeId) (w:World) (base:Nat) (a:Option Addr) (n:Nat) (F:Nat→Value):Prop:=n=0∨∃ g,a=some ⟨g,0,none⟩∧base≤g∧fU g t n F n w
def ib (a:Option Addr) (n:Nat):List Nat:=if n=0 then [] else (a.map (·.block)).toList
theorem VT.read {t:TypeId} {w:World} {base:Nat} {a:Option Addr} {n:Nat} {f:Nat→Value} (h:VT t w base a n f):fW w a n f:=by
 rcases h with rfl | ⟨g,rfl,_,hr⟩
 ·
  exact fW.nil _ _ _
 exact hr.read
theorem VT.up {t:TypeId} {w w':World} {base:Nat} {a:Option Addr} {n:Nat} {f:Nat→Value} (h:VT t w base a n f) (hb:Below w.heap.size w w'):VT t w' base a n f :=
 h.imp id (by rintro ⟨g,ha,hg,hr⟩;exact ⟨g,ha,hg,hr.iB (hb.block _ hr.lt)⟩)
theorem VT.mono {t:TypeId} {w:World} {base base':Nat} {a:Option Addr} {n:Nat} {f:Nat→Value} (h:VT t w base a n f) (hb:base'≤base):VT t w base' a n f :=
 h.imp id (by rintro ⟨g,ha,hg,hr⟩;exact ⟨g,ha,by omega,hr⟩)
theorem AY {g n:Nat} (h:n≠0):g∈ib (some ⟨g,0,none⟩) n:=by unfold ib;rw [if_neg h];simp
theorem VT.fL {t:TypeId} {w w':World} {base:Nat} {a:Option Addr} {n:Nat} {f:Nat→Value} {S:List Nat} (h:VT t w base a n f) (ht:Touch S w w') (hp:∀ x∈ib a n,x∉S):VT t w' base a n f:=by
 rcases h with h | ⟨g,rfl,hg,hr⟩
 ·
  exact .inl h
 by_cases h0:n=0
 ·
  exact .inl h0
 exact .inr ⟨g,rfl,hg,hr.iB (ht.block g hr.lt (hp g (AY h0)))⟩
theorem VT.blk {t:TypeId} {w:World} {base:Nat} {a:Option Addr} {n:Nat} {f:Nat→Value} (h:VT t w base a n f):∀ x∈ib a n,base≤x∧x<w.heap.size:=by
 intro x hx
 unfold ib at hx
 split at hx
 ·
  simp at hx
 rcases h with h | ⟨g,rfl,hg,hr⟩
 ·
  contradiction
 simp at hx;subst hx;exact ⟨hg,hr.lt⟩
theorem VT.type {t:TypeId} {w:World} {base:Nat} {a:Option Addr} {n:Nat} {f:Nat→Value} (h:VT t w base a n f):∀ x∈ib a n,∃ cs,w.heap[x]?=some (.cells cs t (0,0)):=by
 intro x hx
 unfold ib at hx
 split at hx
 ·
  simp at hx
 rcases h with h | ⟨g,rfl,hg,hr⟩
 ·
  contradiction
 simp at hx
 subst hx
 obtain ⟨cs,hc,_⟩:=hr
 exact ⟨cs,hc⟩
theorem VT.apart {t t':TypeId} {w:World} {base base':Nat} {a a':Option Addr} {n n':Nat} {f f':Nat→Value} (h:VT t w base a n f) (k:VT t' w base' a' n' f') (hne:t≠t'):∀ x∈ib a n,x∉ib a' n':=by
 intro x hx hy
 obtain ⟨cs,h1⟩:=h.type x hx
 obtain ⟨cs',h2⟩:=k.type x hy
 rw [h1] at h2
 simp at h2
 exact hne h2.2
theorem VT.of {t:TypeId} {w:World} {base g n:Nat} {f:Nat→Value} (hb:base≤g) (h:fU g t n f n w):VT t w base (some ⟨g,0,none⟩) n f:=.inr ⟨g,rfl,hb,h⟩
theorem VT.mq {t t':TypeId} {w:World} {base:Nat} {a:Option Addr} {n g:Nat} {f:Nat→Value} {cs:Array Value} (h:VT t w base a n f) (hne:t≠t') (hg:w.heap[g]?=some (.cells cs t' (0,0))):g∉ib a n:=by
 intro hx
 obtain ⟨cs',h1⟩:=h.type g hx
 rw [hg] at h1
 simp at h1
 exact hne h1.2.symm
structure gV (w:World) (base:Nat) (N:Cnt):Prop where
 u:VT 2 w base N.aU N.nU fun i=>.int .i64 (N.u i)
 p:VT 4 w base N.aP N.nP fun i=>.bool (N.p i)
theorem gV.rd {w:World} {base:Nat} {N:Cnt} (h:gV w base N):jo w N:=⟨h.u.read,h.p.read⟩
theorem gV.up {w w':World} {base:Nat} {N:Cnt} (h:gV w base N) (hb:Below w.heap.size w w'):gV w' base N:=⟨h.u.up hb,h.p.up hb⟩
theorem gV.mono {w:World} {base base':Nat} {N:Cnt} (h:gV w base N) (hb:base'≤base):gV w base' N:=⟨h.u.mono hb,h.p.mono hb⟩
theorem gV.kO {w w':World} {base:Nat} {N:Cnt} {S:List Nat} (h:gV w base N) (ht:Touch S w w') (hS:∀ x∈S,x<base):gV w' base N :=
 ⟨h.u.fL ht (fun x hx hy=>by have:=(h.u.blk x hx).1;have:=hS x hy;omega),h.p.fL ht (fun x hx hy=>by have:=(h.p.blk x hx).1;have:=hS x hy;omega)⟩
def Cnt.copy (N:Cnt) (gU gP:Nat):Cnt:={ N with aU:=some ⟨gU,0,none⟩,cU:=N.nU,aP:=some ⟨gP,0,none⟩,cP:=N.nP }
theorem xL (N:Cnt) (gU gP:Nat):gw N (N.copy gU gP):=⟨rfl,rfl,rfl,rfl,rfl⟩
theorem sq (N:Cnt) (w:World) (hs:N.Small) (h:jo w N) :
  Calls Tryz.prog 21 #[.agg N.cells] w fun e w'=>∃ gU gP,e=.returned (.agg (N.copy gU gP).cells)∧gV w' w.heap.size (N.copy gU gP)∧Below w.heap.size w w':=by
 obtain ⟨aU,nU,cU,u,lo,aP,nP,cP,p⟩:=N
 have HU:Hid (fW w aU nU fun i=>.int .i64 (u i)):=h.u
 have HP:Hid (fW w aP nP fun i=>.bool (p i)):=h.p
 have hs1:nU≤1048576:=hs.u
 have hs2:nP≤1048576:=hs.p
 clear h hs
 obtain ⟨w3,hw3⟩:∃ w3,w3=((w.alloc (.cells #[.slice aU nU cU,.int .i64 lo,.slice aP nP cP] 28)).alloc (.cells #[.slice none 0 0,.int .i64 0,.slice none 0 0] 39)).alloc (.cells #[.slice none 0 0,.int .i64 0,.slice none 0 0] 39):=⟨_,rfl⟩
 have k1:w3.heap[w.heap.size]?=some (.cells #[.slice aU nU cU,.int .i64 lo,.slice aP nP cP] 28 (0,0)):=by
  rw [hw3];exact (fY _ (by simp;omega)).trans ((fY _ (by simp)).trans (fK _ _))
 have k2:w3.heap[w.heap.size+1]?=some (.cells #[.slice none 0 0,.int .i64 0,.slice none 0 0] 39 (0,0)):=by
  rw [hw3]
  refine (fY _ (by simp)).trans ?_
  have:=fK (w.alloc (.cells #[.slice aU nU cU,.int .i64 lo,.slice aP nP cP] 28)) (.cells #[.slice none 0 0,.int .i64 0,.slice none 0 0] 39)
  simpa using this
 have k3:w3.heap[w.heap.size+1+1]?=some (.cells #[.slice none 0 0,.int .i64 0,.slice none 0 0] 39 (0,0)):=by
  rw [hw3]
  have:=fK ((w.alloc (.cells #[.slice aU nU cU,.int .i64 lo,.slice aP nP cP] 28)).alloc (.cells #[.slice none 0 0,.int .i64 0,.slice none 0 0] 39)) (.cells #[.slice none 0 0,.int .i64 0,.slice none 0 0] 39)
  simpa using this
 have B3:Below w.heap.size w w3:=by rw [hw3];go_grown
 have z3:w.heap.size+3=w3.heap.size:=by rw [hw3];simp
 have HZ3:Hid (w.heap.size+3=w3.heap.size):=z3
 clear z3
 have c1:=fF k1
 unfold Cnt.cells Cnt.copy
 dsimp only
 go_enter Tryz.func21,Tryz.ntmps21
 go_wp2_with fail
 rw [←hw3]
 clear hw3
 refine (kQ aU nU cU u _ hs1 (HU.out.up B3)).mono ?_
 rintro e w4 ⟨rfl,hr4,hb4⟩
 have k14:=(hb4.block _ (fG k1)).trans k1
 have k24:=(hb4.block _ (fG k2)).trans k2
 have k34:=(hb4.block _ (fG k3)).trans k3
 have B4:=B3.trans (hb4.mono B3.size)
 clear k1 k2 k3 hb4 B3 c1
 have c1:=fF k14
 have c3:=fF k34
 have f3:=fZ k34
 obtain ⟨w5,hw5⟩:∃ w5,w5=(w4.setCell ⟨w.heap.size+1+1,0,none⟩ (.slice (some ⟨w3.heap.size,0,none⟩) nU nU)).setCell ⟨w.heap.size+1+1,1,none⟩ (.int .i64 lo):=⟨_,rfl⟩
 have hz3:=HZ3.out
 have k15:w5.heap[w.heap.size]?=some (.cells #[.slice aU nU cU,.int .i64 lo,.slice aP nP cP] 28 (0,0)):=by rw [hw5];exact (fS (by omega) _).trans ((fS (by omega) _).trans k14)
 have k25:w5.heap[w.heap.size+1]?=some (.cells #[.slice none 0 0,.int .i64 0,.slice none 0 0] 39 (0,0)):=by rw [hw5];exact (fS (by omega) _).trans ((fS (by omega) _).trans k24)
 have k35:w5.heap[w.heap.size+1+1]?=some (.cells #[.slice (some ⟨w3.heap.size,0,none⟩) nU nU,.int .i64 lo,.slice none 0 0] 39 (0,0)):=by rw [hw5];exact gv (gv k34 _) _
 have r5:fU w3.heap.size 2 nU (fun i=>.int .i64 (u i)) nU w5:=by rw [hw5];exact hr4.iB ((fS (by omega) _).trans (fS (by omega) _))
 have B5:Below w.heap.size w w5:=by rw [hw5];exact (B4.setCell (by show _≤w.heap.size+1+1;omega) _).setCell (by show _≤w.heap.size+1+1;omega) _
 have cc:∀ o,(w4.setCell ⟨w.heap.size+1+1,0,none⟩ (.slice (some ⟨w3.heap.size,0,none⟩) nU nU)).cell? ⟨w.heap.size,o,none⟩=(#[.slice aU nU cU,.int .i64 lo,.slice aP nP cP]:Array Value)[o]?:=fun o=>fF ((fS (by omega) _).trans k14) o
 have cd:=fF (gv (i:=0) k34 (.slice (some ⟨w3.heap.size,0,none⟩) nU nU))
 have fd:=fZ (gv (i:=0) k34 (.slice (some ⟨w3.heap.size,0,none⟩) nU nU))
 have c15:=fF k15
 rw [hw5] at c15
 clear hz3 k14 k24 k34 hr4 B4
 go_wp2_with fail
 rw [←hw5]
 clear hw5 cc cd fd c1 c3 f3 c15
 refine (uI aP nP cP p _ hs2 (HP.out.up B5)).mono ?_
 rintro e w6 ⟨rfl,hr6,hb6⟩
 have k26:=(hb6.block _ (fG k25)).trans k25
 have k36:=(hb6.block _ (fG k35)).trans k35
 have r6:=r5.iB (hb6.block _ r5.lt)
 have B6:=B5.trans (hb6.mono B5.size)
 have l5:=r5.lt
 have l52:=fG k35
 clear k15 k25 k35 r5 hb6 B5
 have c3:=fF k36
 have f3:=fZ k36
 have hz3:=HZ3.out
 obtain ⟨w7,hw7⟩:∃ w7,w7=w6.setCell ⟨w.heap.size+1+1,2,none⟩ (.slice (some ⟨w5.heap.size,0,none⟩) nP nP):=⟨_,rfl⟩
 have k37:w7.heap[w.heap.size+1+1]?=some (.cells #[.slice (some ⟨w3.heap.size,0,none⟩) nU nU,.int .i64 lo,.slice (some ⟨w5.heap.size,0,none⟩) nP nP] 39 (0,0)):=by rw [hw7];exact gv k36 _
 have k27:w7.heap[w.heap.size+1]?=some (.cells #[.slice none 0 0,.int .i64 0,.slice none 0 0] 39 (0,0)):=by rw [hw7];exact (fS (by omega) _).trans k26
 have rU:fU w3.heap.size 2 nU (fun i=>.int .i64 (u i)) nU w7:=by rw [hw7];exact r6.iB (fS (by omega) _)
 have rP:fU w5.heap.size 4 nP (fun i=>.bool (p i)) nP w7:=by rw [hw7];exact hr6.iB (fS (by omega) _)
 have B7:Below w.heap.size w w7:=by rw [hw7];exact B6.setCell (by show _≤w.heap.size+1+1;omega) _
 have c37:=fF k37
 have f27:=fZ k27
 have c27:=fF k27
 rw [hw7] at c37 f27 c27
 have HL:Hid (w.heap.size≤w3.heap.size∧w.heap.size≤w5.heap.size∧w.heap.size+1<w3.heap.size∧w.heap.size+1<w5.heap.size):=⟨by omega,by omega,by omega,by omega⟩
 clear hz3 l5 l52 k26 k36 r6 hr6 B6
 go_wp2_with fail
 have hl:=HL.out
 have kB:((((w6.setCell ⟨w.heap.size+1+1,2,none⟩ (.slice (some ⟨w5.heap.size,0,none⟩) nP nP)).setCell ⟨w.heap.size+1,0,none⟩ (.slice (some ⟨w3.heap.size,0,none⟩) nU nU)).setCell ⟨w.heap.size+1,1,none⟩ (.int .i64 lo)).setCell ⟨w.heap.size+1,2,none⟩ (.slice (some ⟨w5.heap.size,0,none⟩) nP nP)).heap[w.heap.size+1]?=some (.cells #[.slice (some ⟨w3.heap.size,0,none⟩) nU nU,.int .i64 lo,.slice (some ⟨w5.heap.size,0,none⟩) nP nP] 39 (0,0)):=by
  rw [←hw7]
  exact gv (gv (gv k27 _) _) _
 have cB:=fF kB
 refine bodyPost_ret (v:=.agg #[.slice (some ⟨w3.heap.size,0,none⟩) nU nU,.int .i64 lo,.slice (some ⟨w5.heap.size,0,none⟩) nP nP]) (by simp [results,Tryz.results21,go_sem,cB]) rfl ⟨w3.heap.size,w5.heap.size,rfl,?_⟩
 rw [←hw7]
 have iB:∀ x y z,(((w7.setCell ⟨w.heap.size+1,0,none⟩ x).setCell ⟨w.heap.size+1,1,none⟩ y).setCell ⟨w.heap.size+1,2,none⟩ z).heap[w3.heap.size]?=w7.heap[w3.heap.size]?∧(((w7.setCell ⟨w.heap.size+1,0,none⟩ x).setCell ⟨w.heap.size+1,1,none⟩ y).setCell ⟨w.heap.size+1,2,none⟩ z).heap[w5.heap.size]?=w7.heap[w5.heap.size]?:=fun x y z =>
  ⟨(fS (by omega) _).trans ((fS (by omega) _).trans (fS (by omega) _)),(fS (by omega) _).trans ((fS (by omega) _).trans (fS (by omega) _))⟩
 refine ⟨⟨VT.of hl.1 (rU.iB (iB _ _ _).1),VT.of hl.2.1 (rP.iB (iB _ _ _).2)⟩,((B7.setCell (by show _≤w.heap.size+1;omega) _).setCell (by show _≤w.heap.size+1;omega) _).setCell (by show _≤w.heap.size+1;omega) _⟩
theorem wI (x:Int) (h0:-9223372036854775808≤x) (h1:x≤9223372036854775807):IntKind.i64.wrap x=x:=by
 rw [IntKind.wrap_i64];omega
structure Rnd where
 aQ:Option Addr
 nQ:Nat
 cQ:Nat
 q:Nat→Int
 aD:Option Addr
 nD:Nat
 cD:Nat
 d:Nat→Int
 turn:Int
 fresh:Bool
 aS:Option Addr
 nS:Nat
 cS:Nat
 A:Nat→Option Addr
 L:Nat→Nat
 C:Nat→Nat
 z:Nat→Nat→Int
def Rnd.cells (R:Rnd):Array Value:=#[.slice R.aQ R.nQ R.cQ,.slice R.aD R.nD R.cD,.int .i64 R.turn,.bool R.fresh,.slice R.aS R.nS R.cS]
structure jw (w:World) (R:Rnd):Prop where
 q:fW w R.aQ R.nQ fun i=>.int .i64 (R.q i)
 d:fW w R.aD R.nD fun i=>.int .i64 (R.d i)
 s:fW w R.aS R.nS fun i=>.slice (R.A i) (R.L i) (R.C i)
 z:∀ i,i<R.nS→fW w (R.A i) (R.L i) fun j=>.int .i64 (R.z i j)
theorem jw.up {w w2:World} {R:Rnd} (h:jw w R) (hb:Below w.heap.size w w2):jw w2 R :=
 ⟨h.q.up hb,h.d.up hb,h.s.up hb,fun i hi=>(h.z i hi).up hb⟩
structure Rnd.Fit (R:Rnd):Prop where
 q:R.nQ≤maxLen
 d:R.nD≤maxLen
 s:R.nS≤maxLen
 l:∀ i,i<R.nS→R.L i≤maxLen
def lK (n:Nat) (z:Nat→Int):Prop:=n≤1000∧∀ j,j<n→1≤z j∧z j≤5
def wC (q d:Int) (n:Nat) (begun:Bool):Prop:=if n=0 then d=0 else 0≤d∧d<5+(if begun then q else 0)
def pM (q d:Int) (n:Nat) (z:Nat→Int) (begun:Bool):Prop:=(1≤q∧q≤10)∧lK n z∧wC q d n begun
def Rnd.begun (R:Rnd) (i:Nat):Bool:=decide ((i:Int)=R.turn) && !R.fresh
structure Rnd.Ok (R:Rnd):Prop where
 n:1≤R.nQ∧R.nQ≤4
 d:R.nD=R.nQ
 s:R.nS=R.nQ
 t:0≤R.turn∧R.turn<R.nQ
 c:∀ i,i<R.nQ→pM (R.q i) (R.d i) (R.L i) (R.z i) (R.begun i)
open Classical in
theorem qP (p:Prop):∃ ok:Bool,ok=true↔p:=⟨decide p,by simp⟩
theorem qg (n:Int) (w:World) :
  Calls Tryz.prog 170 #[.int .i64 n] w fun e w'=>e=.returned (.bool (decide (1≤n∧n≤5)))∧w'=w:=by
 by_cases h1:1≤n
 ·
  go_enter Tryz.func170,Tryz.ntmps170
  go_wp2
  go_ret
  exact ⟨by simp [h1],rfl⟩
 go_enter Tryz.func170,Tryz.ntmps170
 exact aa
theorem uN (a:Option Addr) (n cap:Nat) (z:Nat→Int) (w:World) (hn:n≤maxLen) (h:fW w a n fun j=>.int .i64 (z j)) (ok:Bool) (hok:ok=true↔lK n z) :
  Calls Tryz.prog 163 #[.slice a n cap] w fun e w'=>e=.returned (.bool ok)∧kJ w w':=by
 have HO:Hid (ok=true↔lK n z):=hok
 have HR:Hid (fW w a n fun j=>.int .i64 (z j)):=h
 have hm:(n:Int)≤9223372036854775807:=by unfold maxLen at hn;omega
 clear h hok
 by_cases h8:1000<n
 ·
  have h8':(1000:Int)<n:=by omega
  have HF:Hid (ok=false):=by
   show ok=false
   rw [Bool.eq_false_iff]
   intro e
   have:=(HO.out.1 e).1
   omega
  go_enter Tryz.func163,Tryz.ntmps163
  go_wp2_with fail
  go_ret
  exact ⟨fO HF.out.symm,kJ.refl _⟩
 have h8':¬ (1000:Int)<n:=by omega
 go_enter Tryz.func163,Tryz.ntmps163
 go_wp2_with fail
 go_loopw [10] (fun i wr=>∃ k:Nat,k≤n∧i=.int .i64 k∧(∀ j,j<k→1≤z j∧z j≤5)∧kJ w wr) (fun i _=>n-(intOf i).toNat)
 case atStart=>exact ⟨0,Nat.zero_le _,rfl,fun i hi=>by omega,kJ.refl _⟩
 obtain ⟨k,hk,rfl,hall,hS⟩:=hrel
 have HA:Hid (∀ j,j<k→1≤z j∧z j≤5):=hall
 clear hall
 by_cases hlt:k<n
 ·
  have hlt':(k:Int)<n:=by omega
  obtain ⟨g,o,rfl,c0⟩:=HR.out k hlt
  have c1:=(hS.cell ⟨g,o+k,none⟩).trans c0
  dsimp only at c1
  clear c0
  go_wp2_with fail
  refine (qg _ _).mono ?_
  rintro e w' ⟨rfl,rfl⟩
  by_cases hz:1≤z k∧z k≤5
  ·
   have HZ:Hid (1≤z k∧z k≤5):=hz
   rw [decide_eq_true hz]
   clear hz
   go_wp2_with fail
   go_roundw
   case rel=>exact ⟨k+1,by omega,by go_num,fun j hj=>by
    by_cases e:j=k
    ·
     subst e;exact HZ.out
    ·
     exact HA.out j (by omega),hS⟩
   case measure=>simp [intOf];omega
  have HF:Hid (ok=false):=by
   show ok=false
   rw [Bool.eq_false_iff]
   intro e
   exact hz ((HO.out.1 e).2 k hlt)
  rw [decide_eq_false hz]
  clear hz
  go_wp2_with fail
  go_ret
  exact ⟨fO HF.out.symm,hS⟩
 obtain rfl:k=n:=by omega
 have HT:Hid (ok=true):=HO.out.2 ⟨by omega,HA.out⟩
 go_wp2_with fail
 go_ret
 exact ⟨fO HT.out.symm,hS⟩
theorem rI (q d:Int) (a:Option Addr) (n cap:Nat) (b:Bool) (w:World) (hn:n≤maxLen) (h1:1≤q) (h2:q≤10) (ok:Bool) (hok:ok=true↔wC q d n b) :
  Calls Tryz.prog 164 #[.agg #[.int .i64 q,.int .i64 d,.slice a n cap],.bool b] w fun e w'=>e=.returned (.bool ok)∧Below w.heap.size w w':=by
 have hm:(n:Int)≤9223372036854775807:=by unfold maxLen at hn;omega
 have HA:Hid (∀ ob,Below w.heap.size w (w.alloc ob)):=fun ob=>(Below.refl _ _).alloc (Nat.le_refl _) _
 have hw:IntKind.i64.wrap (5+q)=5+q:=wI _ (by omega) (by omega)
 by_cases h0:n=0
 ·
  subst h0
  have HE:Hid (decide (d=0)=ok):=by
   rw [Hid,Bool.eq_iff_iff,hok];simp [wC]
  clear hok
  go_enter Tryz.func164,Tryz.ntmps164
  go_wp2_with fail
  go_ret
  exact ⟨fO (by rw [←HE.out];rfl),HA.out _⟩
 have h0':((n:Int) == 0)=false:=by simp;omega
 cases b
 ·
  by_cases hd:0≤d
  ·
   have HE:Hid (decide (d<5)=ok):=ao
   exact ag
  have HE:Hid (false=ok):=ao
  exact ag
 by_cases hd:0≤d
 ·
  have HE:Hid (decide (d<5+q)=ok):=ao
  exact ag
 have HE:Hid (false=ok):=ao
 exact ag
section
variable {P : Program} {ops : Array Oper} {Q : Exit → Act → World → Prop} {md : Region.Mode} {S : World → Prop}
theorem t0 {d:Nat} {oi:Oper} {v:Value} {fuel:Nat} {l:Array Bool} {a a':Act} {w:World}
  (h:wpAnyH P md ops Q S fuel ((l).setIfInBounds 0 true) a' w) (hi:ops[0]?=some oi:=by rfl) (hd:oi.dst=some d:=by rfl)
  (hy:∀ w,S w→(execOp a.eval oi).run P w=.ok (.value v) w:=by intro wx hSw;(repeat (have hL:=And.left hSw;replace hSw:=And.right hSw));go_simp;try (with_reducible rfl))
  (ha:a.put (some d) v=a':=by (try simp only [Act.put,PZ]);try exact rfl) (hs:Region.noSelect ops=true:=by kernel_rfl) (hf:Region.free md ops (l) 0=true:=by kernel_rfl) (hr:(Region.ready md ops (l)).contains 0=true:=by kernel_rfl)
  (hQ:∀ c a w,Q (.panic c) (a.put (some d) v) w→Q (.panic c) a w:=by exact fun _ _ _ h=>h) (hw:Region.wanted oi (yielded ops a.tmps)=true:=by kernel_rfl) (hS:S w:=by assumption) :
  wpAnyH P md ops Q S (fuel+1) (l) a w :=
 ka (some d) hi hd hs hf hr hQ hw hy hS (by rw [ha];exact h)
theorem tN {i d:Nat} {oi:Oper} {v:Value} {fuel:Nat} {l:Array Bool} {a a':Act} {w:World}
  (h:wpAnyH P md ops Q S fuel ((l.setIfInBounds i true).setIfInBounds (i+1) true) a' w) (hi:ops[(i+1)]?=some oi:=by rfl) (hd:oi.dst=some d:=by rfl)
  (hy:∀ w,S w→(execOp a.eval oi).run P w=.ok (.value v) w:=by intro wx hSw;(repeat (have hL:=And.left hSw;replace hSw:=And.right hSw));go_simp;try (with_reducible rfl))
  (ha:a.put (some d) v=a':=by (try simp only [Act.put,PZ]);try exact rfl) (hs:Region.noSelect ops=true:=by kernel_rfl) (hf:Region.free md ops (l.setIfInBounds i true) (i+1)=true:=by kernel_rfl) (hr:(Region.ready md ops (l.setIfInBounds i true)).contains (i+1)=true:=by kernel_rfl)
  (hQ:∀ c a w,Q (.panic c) (a.put (some d) v) w→Q (.panic c) a w:=by exact fun _ _ _ h=>h) (hw:Region.wanted oi (yielded ops a.tmps)=true:=by kernel_rfl) (hS:S w:=by assumption) :
  wpAnyH P md ops Q S (fuel+1) (l.setIfInBounds i true) a w :=
 ka (some d) hi hd hs hf hr hQ hw hy hS (by rw [ha];exact h)
theorem sN {i d:Nat} {oi:Oper} {fuel:Nat} {l:Array Bool} {a a':Act} {w:World}
  (h:wpAnyH P md ops Q S fuel ((l.setIfInBounds i true).setIfInBounds (i+1) true) a' w) (hi:ops[(i+1)]?=some oi:=by rfl) (hd:oi.dst=some d:=by rfl)
  (ha:a.put (some d) undef=a':=by (try simp only [Act.put,PZ]);try exact rfl) (hs:Region.noSelect ops=true:=by kernel_rfl) (hf:Region.free md ops (l.setIfInBounds i true) (i+1)=true:=by kernel_rfl) (hr:(Region.ready md ops (l.setIfInBounds i true)).contains (i+1)=true:=by kernel_rfl)
  (hQ:∀ c a w,Q (.panic c) (a.put (some d) undef) w→Q (.panic c) a w:=by exact fun _ _ _ h=>h) (hw:Region.wanted oi (yielded ops a.tmps)=false:=by kernel_rfl) (hS:S w:=by assumption) :
  wpAnyH P md ops Q S (fuel+1) (l.setIfInBounds i true) a w :=
 Cu (some d) hi hd hs hf hr hQ hw hS (by rw [ha];exact h)
theorem tT {i d:Nat} {oi:Oper} {fuel:Nat} {l:Array Bool} {a a':Act} {w:World}
  (h:wpAnyH P md ops Q S fuel ((l.setIfInBounds i true).setIfInBounds (i+1) true) a' w) (hi:ops[(i+1)]?=some oi:=by rfl) (hd:oi.dst=some d:=by rfl)
  (hy:∀ w,S w→(execOp a.eval oi).run P w=.ok (.value (.bool true)) w:=by intro wx hSw;(repeat (have hL:=And.left hSw;replace hSw:=And.right hSw));go_simp;try (first | (with_reducible rfl) | omega | (simp;done) | (simp;omega)))
  (ha:a.put (some d) (.bool true)=a':=by (try simp only [Act.put,PZ]);try exact rfl) (hs:Region.noSelect ops=true:=by kernel_rfl) (hf:Region.free md ops (l.setIfInBounds i true) (i+1)=true:=by kernel_rfl) (hr:(Region.ready md ops (l.setIfInBounds i true)).contains (i+1)=true:=by kernel_rfl)
  (hQ:∀ c a w,Q (.panic c) (a.put (some d) (.bool true)) w→Q (.panic c) a w:=by exact fun _ _ _ h=>h) (hw:Region.wanted oi (yielded ops a.tmps)=true:=by kernel_rfl) (hS:S w:=by assumption) :
  wpAnyH P md ops Q S (fuel+1) (l.setIfInBounds i true) a w :=
 ka (some d) hi hd hs hf hr hQ hw hy hS (by rw [ha];exact h)
theorem tF {i d:Nat} {oi:Oper} {fuel:Nat} {l:Array Bool} {a a':Act} {w:World}
  (h:wpAnyH P md ops Q S fuel ((l.setIfInBounds i true).setIfInBounds (i+1) true) a' w) (hi:ops[(i+1)]?=some oi:=by rfl) (hd:oi.dst=some d:=by rfl)
  (hy:∀ w,S w→(execOp a.eval oi).run P w=.ok (.value (.bool false)) w:=by intro wx hSw;(repeat (have hL:=And.left hSw;replace hSw:=And.right hSw));go_simp;try (first | (with_reducible rfl) | omega | (simp;done) | (simp;omega)))
  (ha:a.put (some d) (.bool false)=a':=by (try simp only [Act.put,PZ]);try exact rfl) (hs:Region.noSelect ops=true:=by kernel_rfl) (hf:Region.free md ops (l.setIfInBounds i true) (i+1)=true:=by kernel_rfl) (hr:(Region.ready md ops (l.setIfInBounds i true)).contains (i+1)=true:=by kernel_rfl)
  (hQ:∀ c a w,Q (.panic c) (a.put (some d) (.bool false)) w→Q (.panic c) a w:=by exact fun _ _ _ h=>h) (hw:Region.wanted oi (yielded ops a.tmps)=true:=by kernel_rfl) (hS:S w:=by assumption) :
  wpAnyH P md ops Q S (fuel+1) (l.setIfInBounds i true) a w :=
 ka (some d) hi hd hs hf hr hQ hw hy hS (by rw [ha];exact h)
theorem tX {i d:Nat} {oi:Oper} {v:Value} {fuel:Nat} {l:Array Bool} {a a':Act} {w:World}
  (h:wpAnyH P md ops Q S fuel ((l.setIfInBounds i true).setIfInBounds (i+1) true) a' w) (hi:ops[(i+1)]?=some oi:=by rfl) (hd:oi.dst=some d:=by rfl)
  (hy:∀ w,S w→(execOp a.eval oi).run P w=.ok (.value v) w:=by intro wx hSw;have hCw:=Hcs.out wx hSw;(repeat (have hL:=And.left hSw;replace hSw:=And.right hSw));(repeat (have hL:=And.left hCw;replace hCw:=And.right hCw));go_simp;try (with_reducible rfl))
  (ha:a.put (some d) v=a':=by (try simp only [Act.put,PZ]);try exact rfl) (hs:Region.noSelect ops=true:=by kernel_rfl) (hf:Region.free md ops (l.setIfInBounds i true) (i+1)=true:=by kernel_rfl) (hr:(Region.ready md ops (l.setIfInBounds i true)).contains (i+1)=true:=by kernel_rfl)
  (hQ:∀ c a w,Q (.panic c) (a.put (some d) v) w→Q (.panic c) a w:=by exact fun _ _ _ h=>h) (hw:Region.wanted oi (yielded ops a.tmps)=true:=by kernel_rfl) (hS:S w:=by assumption) :
  wpAnyH P md ops Q S (fuel+1) (l.setIfInBounds i true) a w :=
 ka (some d) hi hd hs hf hr hQ hw hy hS (by rw [ha];exact h)
theorem tX0 {d:Nat} {oi:Oper} {v:Value} {fuel:Nat} {l:Array Bool} {a a':Act} {w:World}
  (h:wpAnyH P md ops Q S fuel ((l).setIfInBounds 0 true) a' w) (hi:ops[0]?=some oi:=by rfl) (hd:oi.dst=some d:=by rfl)
  (hy:∀ w,S w→(execOp a.eval oi).run P w=.ok (.value v) w:=by intro wx hSw;have hCw:=Hcs.out wx hSw;(repeat (have hL:=And.left hSw;replace hSw:=And.right hSw));(repeat (have hL:=And.left hCw;replace hCw:=And.right hCw));go_simp;try (with_reducible rfl))
  (ha:a.put (some d) v=a':=by (try simp only [Act.put,PZ]);try exact rfl) (hs:Region.noSelect ops=true:=by kernel_rfl) (hf:Region.free md ops (l) 0=true:=by kernel_rfl) (hr:(Region.ready md ops (l)).contains 0=true:=by kernel_rfl)
  (hQ:∀ c a w,Q (.panic c) (a.put (some d) v) w→Q (.panic c) a w:=by exact fun _ _ _ h=>h) (hw:Region.wanted oi (yielded ops a.tmps)=true:=by kernel_rfl) (hS:S w:=by assumption) :
  wpAnyH P md ops Q S (fuel+1) (l) a w :=
 ka (some d) hi hd hs hf hr hQ hw hy hS (by rw [ha];exact h)
theorem tY {i d:Nat} {oi:Oper} {v:Value} {fuel:Nat} {l:Array Bool} {a a':Act} {w:World}
  (h:wpAnyH P md ops Q S fuel ((l.setIfInBounds i true).setIfInBounds (i+1) true) a' w) (hi:ops[(i+1)]?=some oi:=by rfl) (hd:oi.dst=some d:=by rfl)
  (hy:∀ w,S w→(execOp a.eval oi).run P w=.ok (.value v) w:=by intro wx hSw;have hCw:=Hcs.out wx hSw;clear hSw;(repeat (have hL:=And.left hCw;replace hCw:=And.right hCw));go_simp;try (with_reducible rfl))
  (ha:a.put (some d) v=a':=by (try simp only [Act.put,PZ]);try exact rfl) (hs:Region.noSelect ops=true:=by kernel_rfl) (hf:Region.free md ops (l.setIfInBounds i true) (i+1)=true:=by kernel_rfl) (hr:(Region.ready md ops (l.setIfInBounds i true)).contains (i+1)=true:=by kernel_rfl)
  (hQ:∀ c a w,Q (.panic c) (a.put (some d) v) w→Q (.panic c) a w:=by exact fun _ _ _ h=>h) (hw:Region.wanted oi (yielded ops a.tmps)=true:=by kernel_rfl) (hS:S w:=by assumption) :
  wpAnyH P md ops Q S (fuel+1) (l.setIfInBounds i true) a w :=
 ka (some d) hi hd hs hf hr hQ hw hy hS (by rw [ha];exact h)
theorem tQ (i d:Nat) {oi:Oper} {v:Value} {fuel:Nat} {l:Array Bool} {a a':Act} {w:World}
  (h:wpAnyH P md ops Q S fuel (l.setIfInBounds i true) a' w) (hi:ops[i]?=some oi:=by rfl) (hd:oi.dst=some d:=by rfl)
  (hy:∀ w,S w→(execOp a.eval oi).run P w=.ok (.value v) w:=by intro wx hSw;(repeat (have hL:=And.left hSw;replace hSw:=And.right hSw));go_simp;try (with_reducible rfl))
  (ha:a.put (some d) v=a':=by (try simp only [Act.put,PZ]);try exact rfl) (hs:Region.noSelect ops=true:=by kernel_rfl) (hf:Region.free md ops l i=true:=by kernel_rfl) (hr:(Region.ready md ops l).contains i=true:=by kernel_rfl)
  (hQ:∀ c a w,Q (.panic c) (a.put (some d) v) w→Q (.panic c) a w:=by exact fun _ _ _ h=>h) (hw:Region.wanted oi (yielded ops a.tmps)=true:=by kernel_rfl) (hS:S w:=by assumption) :
  wpAnyH P md ops Q S (fuel+1) l a w :=
 ka (some d) hi hd hs hf hr hQ hw hy hS (by rw [ha];exact h)
theorem tXq (i d:Nat) {oi:Oper} {v:Value} {fuel:Nat} {l:Array Bool} {a a':Act} {w:World}
  (h:wpAnyH P md ops Q S fuel (l.setIfInBounds i true) a' w) (hi:ops[i]?=some oi:=by rfl) (hd:oi.dst=some d:=by rfl)
  (hy:∀ w,S w→(execOp a.eval oi).run P w=.ok (.value v) w:=by intro wx hSw;have hCw:=Hcs.out wx hSw;(repeat (have hL:=And.left hSw;replace hSw:=And.right hSw));(repeat (have hL:=And.left hCw;replace hCw:=And.right hCw));go_simp;try (with_reducible rfl))
  (ha:a.put (some d) v=a':=by (try simp only [Act.put,PZ]);try exact rfl) (hs:Region.noSelect ops=true:=by kernel_rfl) (hf:Region.free md ops l i=true:=by kernel_rfl) (hr:(Region.ready md ops l).contains i=true:=by kernel_rfl)
  (hQ:∀ c a w,Q (.panic c) (a.put (some d) v) w→Q (.panic c) a w:=by exact fun _ _ _ h=>h) (hw:Region.wanted oi (yielded ops a.tmps)=true:=by kernel_rfl) (hS:S w:=by assumption) :
  wpAnyH P md ops Q S (fuel+1) l a w :=
 ka (some d) hi hd hs hf hr hQ hw hy hS (by rw [ha];exact h)
end
structure Rnd.Small (R:Rnd):Prop where
 q:R.nQ≤1048576
 d:R.nD≤1048576
 s:R.nS≤1048576
 l:∀ i,i<R.nS→R.L i≤1048576
theorem tm:(Tryz.prog.info? 25).map (fun i=>(i.zero,i.size,i.bytes))=some (some (.slice none 0 0),1,24):=by kernel_rfl
def xY (n:Nat):Array Value:=madeCells #[.slice none 0 0] n
theorem vX (n:Nat) (hn:n≤1048576) (w:World):(Instr.makeSlice 83 (.int .i64 (n:Int)) (.int .i64 (n:Int))).run Tryz.prog w=.ok (.slice (some ⟨w.heap.size,0,none⟩) n n) (w.alloc (.cells (xY n) 25)):=by
 obtain ⟨i0,hi,hz0,hz1,hz2⟩:=info_parts tm
 have:=run_make (P:=Tryz.prog) w 83 25 i0 (.slice none 0 0) Tryz.underlying83 hi hz0 .i64 .i64 (n:Int) (n:Int) (by omega) (by omega) (by rw [hz2];omega) (by omega)
 rw [this,hz1]
 simp [xY,Value.cells]
theorem vI {w:World} {g n:Nat} (h:w.heap[g]?=some (.cells (xY n) 25 (0,0))):fU g 25 n (fun _=>.slice none 0 0) n w :=
 ⟨_,h,by simp [xY,size_madeCells],fun i hi=>u6 _ n i hi⟩
theorem fU.ext {g n k:Nat} {t:TypeId} {f f':Nat→Value} {w:World} (h:fU g t n f k w) (e:∀ i,i<k→f i=f' i):fU g t n f' k w:=by
 obtain ⟨arr,h1,h2,h3⟩:=h
 exact ⟨arr,h1,h2,fun i hi=>by rw [←e i hi];exact h3 i hi⟩
structure pO (w:World) (lo g n k:Nat) (G:Nat→Nat) (L:Nat→Nat) (z:Nat→Nat→Int):Prop where
 top:fU g 25 n (fun i=>.slice (some ⟨G i,0,none⟩) (L i) (L i)) k w
 low:∀ i,i<k→lo<G i
 row:∀ i,i<k→fU (G i) 2 (L i) (fun j=>.int .i64 (z i j)) (L i) w
 inc:∀ i j,i<j→j<k→G i<G j
theorem pO.iB {w w':World} {lo g n k:Nat} {G:Nat→Nat} {L:Nat→Nat} {z:Nat→Nat→Int} (h:pO w lo g n k G L z) (hb:Below w.heap.size w w'):pO w' lo g n k G L z :=
 ⟨h.top.iB (hb.block _ h.top.lt),h.low,fun i hi=>(h.row i hi).iB (hb.block _ (h.row i hi).lt),h.inc⟩
theorem pO.step {w w1:World} {lo g n k:Nat} {G:Nat→Nat} {L:Nat→Nat} {z:Nat→Nat→Int} (h:pO w lo g n k G L z) (hk:k<n) (hlo:lo<w.heap.size) (hg:g≤lo) (hb:Below w.heap.size w w1) (hr:fU w.heap.size 2 (L k) (fun j=>.int .i64 (z k j)) (L k) w1) :
  pO (w1.setCell ⟨g,k,none⟩ (.slice (some ⟨w.heap.size,0,none⟩) (L k) (L k))) lo g n (k+1) (fun i=>if i=k then w.heap.size else G i) L z:=by
 have h1:=h.iB hb
 have hgl:∀ i,i<k→G i<w.heap.size:=fun i hi=>(h.row i hi).lt
 refine ⟨?_,fun i hi=>?_,fun i hi=>?_,fun i j hij hj=>?_⟩
 ·
  have e:fU g 25 n (fun i=>.slice (some ⟨if i=k then w.heap.size else G i,0,none⟩) (L i) (L i)) k w1:=h1.top.ext (fun i hi=>by rw [if_neg (by omega)])
  have s:=e.step hk
  simp only [if_true] at s
  exact s
 ·
  by_cases e:i=k
  ·
   simp only [e,if_true];exact hlo
  simp only [if_neg e];exact h.low i (by omega)
 ·
  by_cases e:i=k
  ·
   subst e
   simp only [if_true]
   exact hr.iB (fS (by omega) _)
  simp only [if_neg e]
  have:=h.low i (by omega)
  exact (h1.row i (by omega)).iB (fS (by omega) _)
 by_cases e:j=k
 ·
  have e2:¬ i=k:=by omega
  simp only [e,if_true,if_neg e2]
  exact hgl i (by omega)
 have e2:¬ i=k:=by omega
 simp only [if_neg e,if_neg e2]
 exact h.inc i j hij (by omega)
theorem oV (a:Option Addr) (n cap:Nat) (A:Nat→Option Addr) (L C:Nat→Nat) (z:Nat→Nat→Int) (w:World) (hn:n≤1048576) (h:fW w a n fun i=>.slice (A i) (L i) (C i)) (hz:∀ i,i<n→fW w (A i) (L i) fun j=>.int .i64 (z i j)) (hl:∀ i,i<n→L i≤1048576) :
  Calls Tryz.prog 98 #[.slice a n cap] w fun e w'=>∃ G,e=.returned (.slice (some ⟨w.heap.size,0,none⟩) n n)∧pO w' w.heap.size w.heap.size n n G L z∧Below w.heap.size w w':=by
 have HR:Hid (fW w a n fun i=>.slice (A i) (L i) (C i)):=h
 have HZ:Hid (∀ i,i<n→fW w (A i) (L i) fun j=>.int .i64 (z i j)):=hz
 have HL:Hid (∀ i,i<n→L i≤1048576):=hl
 have mk:=vX n hn
 clear h hz hl
 go_enter Tryz.func98,Tryz.ntmps98
 go_wp2_with fail
 clear mk
 go_loopw [4] (fun i wr=>∃ (k:Nat) (G:Nat→Nat),k≤n∧i=.int .i64 k∧pO wr w.heap.size w.heap.size n k G L z∧w.heap.size<wr.heap.size∧Below w.heap.size w wr) (fun i _=>n-(intOf i).toNat)
 case atStart=>exact ⟨0,fun _=>0,Nat.zero_le _,rfl,⟨(vI (fK w _)).Bq,fun i hi=>by omega,fun i hi=>by omega,fun i j _ hj=>by omega⟩,by simp,(Below.refl _ _).alloc (Nat.le_refl _) _⟩
 obtain ⟨k,G,hk,rfl,hR,hlt0,hB⟩:=hrel
 by_cases hlt:k<n
 ·
  have hlt':(k:Int)<n:=by omega
  obtain ⟨g,o,rfl,hc⟩:=(HR.out.up hB) k hlt
  dsimp only at hc
  go_wp2_with fail
  refine (kQ (A k) (L k) (C k) (z k) _ (HL.out k hlt) ((HZ.out k hlt).up hB)).mono ?_
  rintro e w1 ⟨rfl,hr1,hb1⟩
  have HS:Hid (pO (w1.setCell ⟨w.heap.size,k,none⟩ (.slice (some ⟨wr.heap.size,0,none⟩) (L k) (L k))) w.heap.size w.heap.size n (k+1) (fun i=>if i=k then wr.heap.size else G i) L z):=hR.step hlt hlt0 (Nat.le_refl _) hb1 hr1
  have t1:=(hR.iB hb1).top
  obtain ⟨v0,q0⟩:=t1.there k hlt
  have f0:=t1.free k
  have HB1:Hid (Below w.heap.size w w1):=hB.trans (hb1.mono hB.size)
  have hsz:=hb1.size
  clear hr1 hb1 hR hc t1 hB
  go_wp2_with fail
  go_roundw
  case rel=>exact ⟨k+1,_,by omega,by go_num,HS.out,by simp [World.setCell];omega,HB1.out.setCell (Nat.le_refl _) _⟩
  case measure=>simp [intOf];omega
 obtain rfl:k=n:=by omega
 go_wp2_with fail
 go_ret
 exact ⟨G,rfl,hR,hB⟩
theorem pw (a1 a2:Option Addr) (n c1 c2:Nat) (A1 A2:Nat→Option Addr) (L C1 C2:Nat→Nat) (z:Nat→Nat→Int) (w:World) (hn:n≤1048576) (hl:∀ i,i<n→L i≤1048576)
  (h1:fW w a1 n fun i=>.slice (A1 i) (L i) (C1 i)) (h2:fW w a2 n fun i=>.slice (A2 i) (L i) (C2 i)) (z1:∀ i,i<n→fW w (A1 i) (L i) fun j=>.int .i64 (z i j)) (z2:∀ i,i<n→fW w (A2 i) (L i) fun j=>.int .i64 (z i j)) :
  Calls Tryz.prog 123 #[.slice a1 n c1,.slice a2 n c2] w fun e w'=>e=.returned (.bool true)∧kJ w w':=by
 have H1:Hid (fW w a1 n fun i=>.slice (A1 i) (L i) (C1 i)):=h1
 have H2:Hid (fW w a2 n fun i=>.slice (A2 i) (L i) (C2 i)):=h2
 have HZ1:Hid (∀ i,i<n→fW w (A1 i) (L i) fun j=>.int .i64 (z i j)):=z1
 have HZ2:Hid (∀ i,i<n→fW w (A2 i) (L i) fun j=>.int .i64 (z i j)):=z2
 have HL:Hid (∀ i,i<n→L i≤1048576):=hl
 clear h1 h2 z1 z2 hl
 go_enter Tryz.func123,Tryz.ntmps123
 go_wp2_with fail
 go_loopw [5] (fun i wr=>∃ k:Nat,k≤n∧i=.int .i64 k∧kJ w wr) (fun i _=>n-(intOf i).toNat)
 case atStart=>exact ⟨0,Nat.zero_le _,rfl,kJ.refl _⟩
 obtain ⟨k,hk,rfl,hS⟩:=hrel
 by_cases hlt:k<n
 ·
  have hlt':(k:Int)<n:=by omega
  have bd:Below w.heap.size w wr.drew:=(hS.below _).drew
  obtain ⟨g,o,rfl,c1⟩:=(H1.out.up (hS.below _)) k hlt
  obtain ⟨g2,o2,rfl,c2⟩:=(H2.out.up (hS.below _)) k hlt
  dsimp only at c1 c2
  go_wp2_with fail
  refine wp_region_held_drew (S:=fun w'=>w'.cell? ⟨g,o+k,none⟩=some (.slice (A1 k) (L k) (C1 k))∧w'.cell? ⟨g2,o2+k,none⟩=some (.slice (A2 k) (L k) (C2 k))) (by kernel_rfl) ⟨c1,c2⟩ (fun hHeld=>?_)
  refine t0 ?_
  iterate 7 refine tN ?_
  refine rq1 8 (fun K hK=>?_)
  go_simp
  refine (lp _ _ _ _ _ (z k) _ (HL.out k hlt) ((HZ1.out k hlt).up bd) ((HZ2.out k hlt).up bd)).mono ?_
  rintro e w1 ⟨rfl,hS1⟩
  have c1:=(hS1.cell ⟨g,o+k,none⟩).trans c1
  have c2:=(hS1.cell ⟨g2,o2+k,none⟩).trans c2
  go_wp2_with fail
  refine hK.out _ _ ⟨c1,c2⟩ (fun hHeld=>?_)
  clear hK K
  try simp only [Act.put,PZ]
  refine tN ?_
  refine dnq ?_
  have HSm:Hid (kJ w w1):=⟨hS1.os.trans hS.os,hS1.tape.trans hS.tape,hS1.output.trans hS.output,hS1.heap.trans hS.heap⟩
  clear hS1 hS c1 c2 hHeld bd
  go_wp2_with fail
  go_roundw
  case rel=>exact ⟨k+1,by omega,by go_num,HSm.out⟩
  case measure=>simp [intOf];omega
 exact ak
structure Pkt where
 id:Int
 inn:Int
 refs:Int
 k:Int
 d:Int
 s:Int
 p:Int
 b:ByteArray
def Pkt.cells (x:Pkt):Array Value:=#[.int .i64 x.id,.int .i64 x.inn,.int .i64 x.refs,.int .i64 x.k,.int .i64 x.d,.int .i64 x.s,.int .i64 x.p,.string x.b]
theorem Pkt.gJ (x:Pkt):x.cells.size=8:=rfl
def kK (w:World) (a:Option Addr) (n:Nat) (K:Nat→Pkt):Prop:=∀ i,i<n→∃ g o,a=some ⟨g,o,none⟩∧∀ j,j<8→w.cell? ⟨g,o+i*8+j,none⟩=(K i).cells[j]?
theorem kK.nil (w:World) (a:Option Addr) (K:Nat→Pkt):kK w a 0 K:=fun i hi=>by omega
theorem kK.up {w w2:World} {a:Option Addr} {n:Nat} {K:Nat→Pkt} (h:kK w a n K) (hb:Below w.heap.size w w2):kK w2 a n K:=by
 intro i hi
 obtain ⟨g,o,ha,hc⟩:=h i hi
 refine ⟨g,o,ha,fun j hj=>?_⟩
 have h2:=hc j hj
 have h3:j<(K i).cells.size:=by rw [Pkt.gJ];exact hj
 exact aj
theorem kK.cell {w:World} {g o n:Nat} {K:Nat→Pkt} (h:kK w (some ⟨g,o,none⟩) n K) {i:Nat} (hi:i<n):∀ j,j<8→w.cell? ⟨g,o+i*8+j,none⟩=(K i).cells[j]?:=by
 obtain ⟨g',o',ha,hc⟩:=h i hi
 cases ha
 exact hc
structure Lng where
 st:Bool
 aT:Option Addr
 nT:Nat
 cT:Nat
 t:Nat→Int
 aU:Option Addr
 nU:Nat
 cU:Nat
 uA:Nat→Option Addr
 uL:Nat→Nat
 uC:Nat→Nat
 uz:Nat→Nat→Int
 R:Rnd
def Lng.cells (l:Lng):Array Value:=#[.bool l.st,.slice l.aT l.nT l.cT,.slice l.aU l.nU l.cU,.slice l.R.aQ l.R.nQ l.R.cQ,.slice l.R.aD l.R.nD l.R.cD,.int .i64 l.R.turn,.bool l.R.fresh,.slice l.R.aS l.R.nS l.R.cS]
theorem Lng.gJ (l:Lng):l.cells.size=8:=rfl
structure mh (w:World) (l:Lng):Prop where
 t:fW w l.aT l.nT fun i=>.int .i64 (l.t i)
 u:fW w l.aU l.nU fun i=>.slice (l.uA i) (l.uL i) (l.uC i)
 z:∀ i,i<l.nU→fW w (l.uA i) (l.uL i) fun j=>.int .i64 (l.uz i j)
 r:jw w l.R
theorem mh.up {w w2:World} {l:Lng} (h:mh w l) (hb:Below w.heap.size w w2):mh w2 l:=⟨h.t.up hb,h.u.up hb,fun i hi=>(h.z i hi).up hb,h.r.up hb⟩
def pP (w:World) (a:Option Addr) (n:Nat) (L:Nat→Lng):Prop:=∀ i,i<n→∃ g o,a=some ⟨g,o,none⟩∧∀ j,j<8→w.cell? ⟨g,o+i*8+j,none⟩=(L i).cells[j]?
theorem pP.nil (w:World) (a:Option Addr) (L:Nat→Lng):pP w a 0 L:=fun i hi=>by omega
theorem pP.up {w w2:World} {a:Option Addr} {n:Nat} {L:Nat→Lng} (h:pP w a n L) (hb:Below w.heap.size w w2):pP w2 a n L:=by
 intro i hi
 obtain ⟨g,o,ha,hc⟩:=h i hi
 refine ⟨g,o,ha,fun j hj=>?_⟩
 have h2:=hc j hj
 have h3:j<(L i).cells.size:=by rw [Lng.gJ];exact hj
 exact aj
structure Lng.Small (l:Lng):Prop where
 t:l.nT≤1048576
 u:l.nU≤1048576
 z:∀ i,i<l.nU→l.uL i≤1048576
 r:l.R.Small
structure Swg where
 C:Cfg
 now:Int
 nx:Int
 aE:Option Addr
 nE:Nat
 cE:Nat
 e:Nat→Ent
 N:Cnt
 aK:Option Addr
 nK:Nat
 cK:Nat
 K:Nat→Pkt
 aL:Option Addr
 nL:Nat
 cL:Nat
 L:Nat→Lng
 dr:Int
 lst:Int
def Swg.cells (S:Swg):Array Value:=#[.int .i64 S.C.p,.int .i64 S.C.c,.int .i64 S.C.xo,.int .i64 S.C.xn,.int .i64 S.C.hd,.int .i64 S.C.lo,.int .i64 S.C.dl,.int .i64 S.now,.int .i64 S.nx,.slice S.aE S.nE S.cE,.slice S.N.aU S.N.nU S.N.cU,.int .i64 S.N.lo,.slice S.N.aP S.N.nP S.N.cP,.slice S.aK S.nK S.cK,.slice S.aL S.nL S.cL,.int .i64 S.dr,.int .i64 S.lst]
structure jL (w:World) (S:Swg):Prop where
 e:iu w S.aE S.nE S.e
 n:jo w S.N
 k:kK w S.aK S.nK S.K
 l:pP w S.aL S.nL S.L
 ls:∀ i,i<S.nL→mh w (S.L i)
theorem jL.up {w w2:World} {S:Swg} (h:jL w S) (hb:Below w.heap.size w w2):jL w2 S:=⟨h.e.up hb,h.n.up hb,h.k.up hb,h.l.up hb,fun i hi=>(h.ls i hi).up hb⟩
structure Swg.Small (S:Swg):Prop where
 e:S.nE≤1048576
 n:S.N.Small
 k:S.nK≤1048576
 b:∀ i,i<S.nK→(S.K i).b.size≤1048576
 l:S.nL≤1048576
 ls:∀ i,i<S.nL→(S.L i).Small
def Pkt.cl (x:Pkt):Int:=(x.b.size+9+9) / 10
def Pkt.nr (x:Pkt):Prop:=x.k=1∧jT x.k x.d x.s x.p x.b.size=true
theorem Pkt.nr.le {x:Pkt} (h:x.nr):x.b.size≤40:=zp h.2
theorem Pkt.nr.pr {x:Pkt} (h:x.nr):0≤x.p∧x.p≤2:=by
 have h2:=h.2
 have h1:=h.1
 unfold jT at h2
 simp only [decide_eq_true_eq] at h2
 omega
theorem Pkt.nr.cl {x:Pkt} (h:x.nr):1≤x.cl∧x.cl≤5:=by
 have:=h.le
 unfold Pkt.cl
 omega
structure jE (nx p:Int) (n:Nat) (K:Nat→Pkt):Prop where
 le:n≤1000
 one:∀ i,i<n→(1≤(K i).id∧(K i).id≤nx-1)∧(0≤(K i).inn∧(K i).inn≤p-1)∧(K i).nr
 up:∀ i,i<n→0<i→(K (i-1)).id<(K i).id
theorem mv {n:Nat} {f:Nat→Int} (h:∀ i,i<n→0<i→f (i-1)<f i):∀ j i,i<j→j<n→f i<f j:=by
 intro j
 induction j with
 | zero=>intro i hi;omega
 | succ j ih =>
  intro i hi hj
  have h1:=h (j+1) hj (by omega)
  rw [Nat.add_sub_cancel] at h1
  by_cases e:i=j
  ·
   subst e;exact h1
  have:=ih i (by omega) (by omega)
  omega
theorem ma {n:Nat} {f:Nat→Int} (h:∀ i,i<n→0<i→f (i-1)<f i) {i j:Nat} (hi:i<n) (hj:j<n) (e:f i=f j):i=j:=by
 have a:=mv h j i
 have b:=mv h i j
 omega
def pq (n:Nat) (z:Nat→Int) (prio:Int) (m:Nat) (K:Nat→Pkt):Prop :=
 ∀ i,i<n→(∃ j,j<m∧(K j).id=z i∧(K j).p=prio)∧(0<i→z (i-1)<z i)
theorem pq.le {n:Nat} {z:Nat→Int} {prio nx p:Int} {m:Nat} {K:Nat→Pkt} (h:pq n z prio m K) (hK:jE nx p m K):n≤m:=by
 have up:=fun i hi h0=>(h i hi).2 h0
 have key:∀ k,k≤n→∀ j,j<m→(0<k→(K j).id=z (k-1))→k≤j+1:=by
  intro k
  induction k with
  | zero=>intro _ j hj _;omega
  | succ k ih =>
   intro hk j hj e
   have e1:=e (by omega)
   rw [Nat.add_sub_cancel] at e1
   by_cases h0:k=0
   ·
    omega
   obtain ⟨⟨j',hj',e2,_⟩,hr⟩:=h (k-1) (by omega)
   have hlt:=(h k (by omega)).2 (by omega)
   have:=ih (by omega) j' hj' (fun _=>e2)
   have hjj:j'<j:=by
    have hu:=mv hK.up j' j
    by_cases c:j'<j
    ·
     exact c
    by_cases c2:j=j'
    ·
     subst c2;omega
    have:=hu (by omega) hj'
    omega
   omega
 by_cases h0:n=0
 ·
  omega
 obtain ⟨⟨j,hj,e,_⟩,_⟩:=h (n-1) (by omega)
 have:=key n (Nat.le_refl _) j hj (fun _=>e)
 omega
structure oo (m:Nat) (K:Nat→Pkt) (l:Lng):Prop where
 r:l.R.Ok
 n:l.R.nQ=2
 q0:l.R.q 0=2
 q1:l.R.q 1=4
 u:l.nU=2
 z:∀ c,c<2→pq (l.uL c) (l.uz c) (c:Int) m K∧l.uL c=l.R.L c∧∀ i,i<l.uL c→∀ j,j<m→(K j).id=l.uz c i→l.R.z c i=(K j).cl
 t:pq l.nT l.t 2 m K
def occ (z:Nat→Int) (x:Int):Nat→Nat
 | 0=>0
 | n+1=>occ z x n+if z n=x then 1 else 0
def um (l:Lng) (x:Int):Nat→Nat
 | 0=>0
 | c+1=>um l x c+occ (l.uz c) x (l.uL c)
def nO (L:Nat→Lng) (x:Int):Nat→Nat
 | 0=>0
 | i+1=>nO L x i+(occ (L i).t x (L i).nT+um (L i) x (L i).nU)
def jF (K:Nat→Pkt) (p:Int):Nat→Int
 | 0=>0
 | n+1=>jF K p n+if (K n).p=2∧(K n).inn=p then (K n).cl else 0
def gM (K:Nat→Pkt):Nat→Int
 | 0=>0
 | n+1=>gM K n+if (K n).p=2 then 0 else (K n).cl
structure Swg.Bu (S:Swg):Prop where
 now:0≤S.now∧S.now≤1000000000
 nx:1≤S.nx∧S.nx≤1000000000
 dr:0≤S.dr∧S.dr≤1000000000
 lst:0≤S.lst∧S.lst≤1000000000
def Swg.seen (S:Swg):Prop:=jr S.nE S.e∧∀ i,i<S.nE→(S.e i).p<S.C.p∧(S.e i).t≤S.now
def Swg.wS (S:Swg):Prop:=∀ j,j<S.nK→1≤(S.K j).refs∧(S.K j).refs=nO S.L (S.K j).id S.nL
def Swg.xz (S:Swg):Prop:=S.N.lo=gM S.K S.nK∧∀ i,i<S.N.nU→S.N.u i=jF S.K i S.nK
structure Swg.Ok (S:Swg):Prop where
 n:Cnt.Ok S.C S.N
 oy:S.Bu
 seen:S.seen
 k:jE S.nx S.C.p S.nK S.K
 nl:(S.nL:Int)=S.C.p
 l:∀ i,i<S.nL→oo S.nK S.K (S.L i)
 refs:S.wS
 held:S.xz
open Classical in
theorem iw (p:Prop):∃ ok:Bool,ok=true↔p:=⟨decide p,by simp⟩
theorem x9 {nx p:Int} {K:Nat→Pkt} {q:Int} {m:Nat} (h:jE nx p m K):∀ n,n≤m→0≤jF K q n∧jF K q n≤5*(n:Int):=by
 intro n
 induction n with
 | zero=>intro _;exact ⟨Int.le_refl _,Int.le_refl _⟩
 | succ n ih =>
  intro hn
  have:=ih (by omega)
  have hc:=(h.one n (by omega)).2.2.cl
  show 0≤jF K q n+_∧jF K q n+_≤_
  split <;> omega
theorem mM {nx p:Int} {K:Nat→Pkt} {m:Nat} (h:jE nx p m K):∀ n,n≤m→0≤gM K n∧gM K n≤5*(n:Int):=by
 intro n
 induction n with
 | zero=>intro _;exact ⟨Int.le_refl _,Int.le_refl _⟩
 | succ n ih =>
  intro hn
  have:=ih (by omega)
  have hc:=(h.one n (by omega)).2.2.cl
  show 0≤gM K n+_∧gM K n+_≤_
  split <;> omega
theorem sX (z:Nat→Int) (x:Int):∀ n,occ z x n≤n:=by
 intro n
 induction n with
 | zero=>exact Nat.le_refl _
 | succ n ih =>
  show occ z x n+_≤_
  split <;> omega
theorem uY {z:Nat→Int} {x:Int}:∀ {n},0<occ z x n↔∃ i,i<n∧z i=x:=by
 intro n
 induction n with
 | zero =>
  constructor
  ·
   intro h;exact absurd h (Nat.lt_irrefl 0)
  rintro ⟨i,hi,_⟩;omega
 | succ n ih =>
  show 0<occ z x n+_↔_
  by_cases e:z n=x
  ·
   rw [if_pos e]
   constructor
   ·
    intro _;exact ⟨n,by omega,e⟩
   intro _;omega
  rw [if_neg e,Nat.add_zero,ih]
  constructor
  ·
   rintro ⟨i,hi,h⟩;exact ⟨i,by omega,h⟩
  rintro ⟨i,hi,h⟩
  refine ⟨i,?_,h⟩
  by_cases e2:i=n
  ·
   subst e2;exact absurd h e
  omega
theorem As {z:Nat→Int} {x:Int} {n:Nat} (h:∀ i,i<n→0<i→z (i-1)<z i):∀ k,k≤n→occ z x k≤1:=by
 intro k
 induction k with
 | zero=>intro _;exact Nat.zero_le _
 | succ k ih =>
  intro hk
  show occ z x k+_≤1
  by_cases e:z k=x
  ·
   rw [if_pos e]
   have:occ z x k=0:=by
    by_cases c:0<occ z x k
    ·
     obtain ⟨i,hi,e2⟩:=uY.1 c
     have:=mv h k i hi (by omega)
     omega
    omega
   omega
  rw [if_neg e]
  exact ih (by omega)
end Go.Proofs.YtjaobmbcmjgjgaaGreatDoor
