import Derived.Test.YtfcfpkibceepgaaGreatS04
import Derived.Handy
import Derived.Maps.AppendAt
import Derived.OwnWalk
namespace Go.Proofs.YtfcfpkibceepgaaGreat
set_option maxHeartbeats 4000000
open Go.RowKit
set_option linter.unusedVariables false
set_option linter.unusedSimpArgs false
theorem aV {p:Prop} (h:p:=by
 go_wp2_with fail
 go_ret
 exact ⟨fQ HF.out.symm,HA.out _⟩):p:=h
theorem aW {p:Prop} (h:p:=by
 go_wp2_with fail
 go_loop [1,5] (fun x i=>x=.int .i64 m∧i=.int .i64 0) (fun _ _=>0)
 case atStart=>exact ⟨rfl,rfl⟩
 obtain ⟨rfl,rfl⟩:=hrel
 go_wp2_with fail
 go_ret
 exact ⟨rfl,rfl⟩):p:=h
theorem aX {p:Prop} (h:p:=by
 refine sN ?_
 refine sA 12 15 ?_
 refine sA 13 16 ?_
 refine sA 11 14 ?_
 refine sA 14 17 ?_
 refine tQ 15 18 ?_
 refine rq1 16 (fun K hK=>?_)
 go_simp
 refine hK.out _ _ cb (fun hHeld=>?_)
 clear hK K
 try simp only [Act.put,PZ]
 refine dnq ?_
 have B:=under hB
 go_wp2_with fail
 go_ret
 exact ⟨fQ HF.out.symm,B⟩):p:=h
theorem aY {p:Prop} (h:p:=by
 go_wp2_with fail
 go_ret
 exact ⟨fQ HE.out.symm,B⟩):p:=h
theorem aZ {p:Prop} (h:p:=by
 rw [Array.getElem?_eq_getElem h3] at h2
 exact ((hb.cell (p:=⟨g,o+i*8+j,none⟩) (iu h2)).trans h2).trans (Array.getElem?_eq_getElem h3).symm):p:=h
theorem a6 {p:Prop} (h:p:=by
 rintro e w' ⟨rfl,h1,h2⟩
 refine ⟨rfl,.inr ⟨g,rfl,hg,h1⟩,?_⟩
 unfold gF
 rw [if_neg h0]
 exact h2):p:=h
theorem a7 {p:Prop} (h:p:=by
 go_wp2_with fail
 go_ret
 exact ⟨rfl,HA.out _ _⟩):p:=h
theorem a8 {p:Prop} (h:p:=by
 rcases hp3 with h | h | h <;> rw [h] <;> exact mv _ (by omega) (by omega)):p:=h
theorem mM (x:Int) (h0:-9223372036854775808≤x) (h1:x≤9223372036854775807):IntKind.i64.wrap x=x:=by
 rw [IntKind.wrap_i64];omega
structure Ent where
 m:Int
 p:Int
 t:Int
deriving Inhabited,DecidableEq
def Ent.v (x:Ent):Value:=.agg #[.int .i64 x.m,.int .i64 x.p,.int .i64 x.t]
def flat (f:Nat→Ent) (j:Nat):Value:=.int .i64 (if j % 3=0 then (f (j / 3)).m else if j % 3=1 then (f (j / 3)).p else (f (j / 3)).t)
theorem zY (f:Nat→Ent) (i:Nat):flat f (i*3)=.int .i64 (f i).m:=by
 unfold flat
 rw [show i*3 % 3=0 by omega,show i*3 / 3=i by omega];rfl
theorem zX (f:Nat→Ent) (i:Nat):flat f (i*3+1)=.int .i64 (f i).p:=by
 unfold flat
 rw [show (i*3+1) % 3=1 by omega,show (i*3+1) / 3=i by omega];rfl
theorem zU (f:Nat→Ent) (i:Nat):flat f (i*3+2)=.int .i64 (f i).t:=by
 unfold flat
 rw [show (i*3+2) % 3=2 by omega,show (i*3+2) / 3=i by omega];rfl
def iZ (w:World) (a:Option Addr) (n:Nat) (f:Nat→Ent):Prop :=
 ∀ i,i<n→∃ g o,a=some ⟨g,o,none⟩∧w.cell? ⟨g,o+i*3,none⟩=some (.int .i64 (f i).m)∧w.cell? ⟨g,o+i*3+1,none⟩=some (.int .i64 (f i).p)∧w.cell? ⟨g,o+i*3+2,none⟩=some (.int .i64 (f i).t)
theorem iZ.up {w w2:World} {a:Option Addr} {n:Nat} {f:Nat→Ent} (h:iZ w a n f) (hb:Below w.heap.size w w2):iZ w2 a n f:=by
 intro i hi
 obtain ⟨g,o,ha,h1,h2,h3⟩:=h i hi
 exact ⟨g,o,ha,(hb.cell (p:=⟨g,o+i*3,none⟩) (iu h1)).trans h1,(hb.cell (p:=⟨g,o+i*3+1,none⟩) (iu h2)).trans h2,(hb.cell (p:=⟨g,o+i*3+2,none⟩) (iu h3)).trans h3⟩
theorem iZ.nil (w:World) (a:Option Addr) (f:Nat→Ent):iZ w a 0 f:=fun i hi=>by omega
theorem iZ.ext {w:World} {a:Option Addr} {n:Nat} {f f':Nat→Ent} (h:iZ w a n f) (e:∀ i,i<n→f i=f' i):iZ w a n f':=by
 intro i hi
 rw [←e i hi]
 exact h i hi
theorem iZ.iU {w w2:World} {S:List Nat} {a:Option Addr} {n:Nat} {f:Nat→Ent} (h:iZ w a n f) (hb:Touch S w w2) (hS:∀ b,a=some b→b.block∉S):iZ w2 a n f:=by
 intro i hi
 obtain ⟨g,o,ha,h1,h2,h3⟩:=h i hi
 have e:=hb.block g (iu h1) (hS _ ha)
 exact ⟨g,o,ha,(World.cell?_of_block (w:=w) (a:=⟨g,o+i*3,none⟩) e).trans h1,(World.cell?_of_block (w:=w) (a:=⟨g,o+i*3+1,none⟩) e).trans h2,(World.cell?_of_block (w:=w) (a:=⟨g,o+i*3+2,none⟩) e).trans h3⟩
theorem fV.C8 {g n:Nat} {t:TypeId} {f:Nat→Ent} {w:World} (h:fV g t (n*3) (flat f) (n*3) w):iZ w (some ⟨g,0,none⟩) n f:=by
 intro i hi
 refine ⟨g,0,rfl,?_,?_,?_⟩
 ·
  rw [Nat.zero_add,h.at _ (by omega),zY]
 ·
  rw [Nat.zero_add,h.at _ (by omega),zX]
 rw [Nat.zero_add,h.at _ (by omega),zU]
theorem fV.ent {g n k:Nat} {t:TypeId} {f:Nat→Ent} {w:World} (h:fV g t (n*3) (flat f) (k*3) w) (hk:k<n):fV g t (n*3) (flat f) ((k+1)*3) (((w.setCell ⟨g,k*3,none⟩ (.int .i64 (f k).m)).setCell ⟨g,k*3+1,none⟩ (.int .i64 (f k).p)).setCell ⟨g,k*3+2,none⟩ (.int .i64 (f k).t)):=by
 have s1:=h.step (by omega)
 have s2:=s1.step (by omega)
 have s3:=s2.step (by omega)
 rw [zY,zX,zU,show k*3+2+1=(k+1)*3 by omega] at s3
 exact s3
def n6 (x:Ent):Prop:=(1≤x.m∧x.m≤20)∧(0≤x.p∧x.p≤3)∧(0≤x.t∧x.t≤1000000000)
instance (x:Ent):Decidable (n6 x):=by unfold n6;exact inferInstance
def jK (n:Nat) (f:Nat→Ent):Prop:=∀ i,i<n→n6 (f i)∧(0<i→(f (i-1)).m<(f i).m)
def oJ (n:Nat) (f:Nat→Ent):Prop:=n≤8∧jK n f
theorem jK.step {k:Nat} {f:Nat→Ent} (h:jK k f) (h1:n6 (f k)) (h2:0<k→(f (k-1)).m<(f k).m):jK (k+1) f:=by
 intro i hi
 by_cases e:i=k
 ·
  subst e;exact ⟨h1,h2⟩
 exact h i (by omega)
theorem yx (n:Nat) (f:Nat→Ent):∃ ok:Bool,ok=true↔oJ n f:=by
 by_cases h:oJ n f
 ·
  exact ⟨true,by simp [h]⟩
 exact ⟨false,by simp [h]⟩
theorem mv (x:Int) (h0:-9223372036854775808≤x) (h1:x≤9223372036854775807):IntKind.i64.wrap x=x:=by
 rw [IntKind.wrap_i64];omega
structure Cfg where
 p:Int
 c:Int
 xo:Int
 xn:Int
 hd:Int
 lo:Int
 dl:Int
def Cfg.cells (C:Cfg):Array Value:=#[.int .i64 C.p,.int .i64 C.c,.int .i64 C.xo,.int .i64 C.xn,.int .i64 C.hd,.int .i64 C.lo,.int .i64 C.dl]
structure Cfg.Num (C:Cfg):Prop where
 p:2≤C.p∧C.p≤4
 c:1≤C.c∧C.c≤1000
 xo:1≤C.xo∧C.xo≤1000
 xn:0≤C.xn∧C.xn≤C.xo-1
 hd:0≤C.hd∧C.hd≤1000
 lo:0≤C.lo∧C.lo≤1000
 dl:1≤C.dl∧C.dl≤3
structure Cfg.Ok (C:Cfg):Prop where
 num:C.Num
 head:C.hd≥5*(2*C.dl+1)
 sum:C.p*(C.xo+C.hd)+C.lo≤C.c
open Classical in
theorem pt (p:Prop):∃ ok:Bool,ok=true↔p:=⟨decide p,by simp⟩
theorem gM (n lo hi:Int) (w:World) :
  Calls Tryz.prog 72 #[.int .i64 n,.int .i64 lo,.int .i64 hi] w fun e w'=>e=.returned (.bool (decide (lo≤n∧n≤hi)))∧w'=w:=by
 by_cases h1:lo≤n
 ·
  by_cases h2:n≤hi
  ·
   go_enter Tryz.func72,Tryz.ntmps72
   go_wp2
   go_ret
   exact ⟨by simp [h1,h2],rfl⟩
  go_enter Tryz.func72,Tryz.ntmps72
  exact aA
 go_enter Tryz.func72,Tryz.ntmps72
 exact aA
theorem rQ (C:Cfg) (w:World) (ok:Bool) (hok:ok=true↔C.Num) :
  Calls Tryz.prog 124 #[.agg C.cells] w fun e w'=>e=.returned (.bool ok)∧Below w.heap.size w w':=by
 have HO:Hid (ok=true↔C.Num):=hok
 have HA:Hid (∀ o,Below w.heap.size w (w.alloc o)):=fun o=>(Below.refl _ _).alloc (Nat.le_refl _) _
 clear hok
 unfold Cfg.cells
 go_enter Tryz.func124,Tryz.ntmps124
 go_wp2_with fail
 refine (gM _ _ _ _).mono ?_
 rintro e w' ⟨rfl,hw⟩
 rw [hw]
 clear hw w'
 by_cases h_p:2≤C.p∧C.p≤4
 rotate_left
 ·
  have HF:Hid (ok=false):=by
   show ok=false
   rw [Bool.eq_false_iff]
   intro e
   exact h_p (HO.out.1 e).p
  rw [decide_eq_false h_p]
  clear h_p
  exact aV
 rw [decide_eq_true h_p]
 have H_p:Hid (2≤C.p∧C.p≤4):=h_p
 clear h_p
 go_wp2_with fail
 refine (gM _ _ _ _).mono ?_
 rintro e w' ⟨rfl,hw⟩
 rw [hw]
 clear hw w'
 by_cases h_c:1≤C.c∧C.c≤1000
 rotate_left
 ·
  have HF:Hid (ok=false):=by
   show ok=false
   rw [Bool.eq_false_iff]
   intro e
   exact h_c (HO.out.1 e).c
  rw [decide_eq_false h_c]
  clear h_c
  exact aV
 rw [decide_eq_true h_c]
 have H_c:Hid (1≤C.c∧C.c≤1000):=h_c
 clear h_c
 go_wp2_with fail
 refine (gM _ _ _ _).mono ?_
 rintro e w' ⟨rfl,hw⟩
 rw [hw]
 clear hw w'
 by_cases h_xo:1≤C.xo∧C.xo≤1000
 rotate_left
 ·
  have HF:Hid (ok=false):=by
   show ok=false
   rw [Bool.eq_false_iff]
   intro e
   exact h_xo (HO.out.1 e).xo
  rw [decide_eq_false h_xo]
  clear h_xo
  exact aV
 rw [decide_eq_true h_xo]
 have H_xo:Hid (1≤C.xo∧C.xo≤1000):=h_xo
 have h_xo1:=h_xo.1
 have h_xo2:=h_xo.2
 clear h_xo
 go_wp2_with fail
 refine (gM _ _ _ _).mono ?_
 rintro e w' ⟨rfl,hw⟩
 rw [hw]
 clear hw w'
 by_cases h_xn:0≤C.xn∧C.xn≤C.xo-1
 rotate_left
 ·
  have HF:Hid (ok=false):=by
   show ok=false
   rw [Bool.eq_false_iff]
   intro e
   exact h_xn (HO.out.1 e).xn
  rw [decide_eq_false h_xn]
  clear h_xn
  exact aV
 rw [decide_eq_true h_xn]
 have H_xn:Hid (0≤C.xn∧C.xn≤C.xo-1):=h_xn
 clear h_xn
 go_wp2_with fail
 refine (gM _ _ _ _).mono ?_
 rintro e w' ⟨rfl,hw⟩
 rw [hw]
 clear hw w'
 by_cases h_hd:0≤C.hd∧C.hd≤1000
 rotate_left
 ·
  have HF:Hid (ok=false):=by
   show ok=false
   rw [Bool.eq_false_iff]
   intro e
   exact h_hd (HO.out.1 e).hd
  rw [decide_eq_false h_hd]
  clear h_hd
  exact aV
 rw [decide_eq_true h_hd]
 have H_hd:Hid (0≤C.hd∧C.hd≤1000):=h_hd
 clear h_hd
 go_wp2_with fail
 refine (gM _ _ _ _).mono ?_
 rintro e w' ⟨rfl,hw⟩
 rw [hw]
 clear hw w'
 by_cases h_lo:0≤C.lo∧C.lo≤1000
 rotate_left
 ·
  have HF:Hid (ok=false):=by
   show ok=false
   rw [Bool.eq_false_iff]
   intro e
   exact h_lo (HO.out.1 e).lo
  rw [decide_eq_false h_lo]
  clear h_lo
  exact aV
 rw [decide_eq_true h_lo]
 have H_lo:Hid (0≤C.lo∧C.lo≤1000):=h_lo
 clear h_lo
 go_wp2_with fail
 refine (gM _ _ _ _).mono ?_
 rintro e w' ⟨rfl,hw⟩
 rw [hw]
 clear hw w'
 by_cases h_dl:1≤C.dl∧C.dl≤3
 rotate_left
 ·
  have HF:Hid (ok=false):=by
   show ok=false
   rw [Bool.eq_false_iff]
   intro e
   exact h_dl (HO.out.1 e).dl
  rw [decide_eq_false h_dl]
  clear h_dl
  exact aV
 rw [decide_eq_true h_dl]
 have H_dl:Hid (1≤C.dl∧C.dl≤3):=h_dl
 clear h_dl
 have HT:Hid (ok=true):=HO.out.2 ⟨H_p.out,H_c.out,H_xo.out,H_xn.out,H_hd.out,H_lo.out,H_dl.out⟩
 go_wp2_with fail
 go_ret
 exact ⟨fQ HT.out.symm,HA.out _⟩
theorem mJ (C:Cfg) (w:World) (h1:1≤C.dl) (h2:C.dl≤3) :
  Calls Tryz.prog 125 #[.agg C.cells] w fun e w'=>e=.returned (.int .i64 (5*(2*C.dl+1)))∧Below w.heap.size w w':=by
 have HA:Hid (∀ o,Below w.heap.size w (w.alloc o)):=fun o=>(Below.refl _ _).alloc (Nat.le_refl _) _
 have e1:IntKind.i64.wrap (2*C.dl)=2*C.dl:=mv _ (by omega) (by omega)
 have e2:IntKind.i64.wrap (2*C.dl+1)=2*C.dl+1:=mv _ (by omega) (by omega)
 have e3:IntKind.i64.wrap (5*(2*C.dl+1))=5*(2*C.dl+1):=mv _ (by omega) (by omega)
 unfold Cfg.cells
 go_enter Tryz.func125,Tryz.ntmps125
 go_wp2_with fail
 go_ret
 exact ⟨jM (by first | rfl | omega),HA.out _⟩
def pz:Value:=.iface 171 (.agg #[])
def rb (i:Nat):Value:=.iface 173 (.agg #[.int .i64 i])
def Aq (n:Nat):List Value:=pz :: (List.range n).map rb
theorem zh (n:Nat):Aq (n+1)=Aq n++[rb n]:=by simp [Aq,List.range_succ]
theorem zg (n:Nat):(Aq n)[0]?=some pz:=rfl
theorem BZ (n i:Nat) (h:i<n):(Aq n)[i+1]?=some (rb i):=by simp [Aq,h]
theorem Dv:(Tryz.prog.info? 146).map (fun i=>(i.zero,i.size,i.bytes))=some (some .nilIface,1,16):=by kernel_rfl
theorem BS (i:Nat):∀ u∈([rb i]:List Value),u.oneCell'=true:=by simp [rb,Value.oneCell']
theorem nR {w:World} {base size n:Nat} {e:TypeId} {v:Value} {xs:List Value} (h:w.ownsRow base e size v n xs):(v=.slice none 0 0∧n=0)∨∃ g cap,v=.slice (some ⟨g,0,none⟩) n cap:=by
 rcases h.2 with h0 | ⟨g,cap,_,hv,_⟩
 ·
  exact Or.inl h0
 exact Or.inr ⟨g,cap,hv⟩
theorem yM {B:Nat} {e:TypeId} {w wr w':World} {k:Nat} {xs ys:List Value} {v v':Value} {o:Obj} (hz:B≤wr.heap.size) (hB:Below B w wr) (hown:wr.ownsRow B e 1 v k xs) (hown':w'.ownsRow B e 1 v' (k+1) ys) (hg:(wr.alloc o).grownBy w' v.ownBlock) :
  ∃ g2 cap2,v'=.slice (some ⟨g2,0,none⟩) (k+1) cap2∧w'.ownsRow B e 1 v' (k+1) ys∧Below B w w':=by
 rcases nR hown' with ⟨_,h0⟩ | ⟨g2,cap2,rfl⟩
 ·
  omega
 refine ⟨g2,cap2,rfl,hown',(hB.alloc hz o).grown hg (by simp;omega) (fun j hj=>?_)⟩
 rcases hown.2 with ⟨rfl,_⟩ | ⟨g,cap,cur,rfl,hge,_⟩
 ·
  cases hj
 simp only [Value.ownBlock,Option.some.injEq] at hj
 omega
def B8:Nat→Value
 | 0=>pz
 | i+1=>rb i
theorem tr {w:World} {base g n cap:Nat} {e:TypeId} (h:w.ownsRow base e 1 (.slice (some ⟨g,0,none⟩) (n+1) cap) (n+1) (Aq n)):fY w (some ⟨g,0,none⟩) (n+1) B8:=by
 intro i hi
 refine ⟨g,0,rfl,?_⟩
 rw [Nat.zero_add,AR h i hi]
 cases i with
 | zero=>exact zg n
 | succ i=>exact BZ n i (by omega)
theorem oy (C:Cfg) (n:Nat) (w:World) (hn:n≤4) (hp:C.p=(n:Int)) :
  Calls Tryz.prog 105 #[.agg C.cells] w fun e w'=>(∃ g cap,e=.returned (.slice (some ⟨g,0,none⟩) (n+1) cap)∧w'.ownsRow w.heap.size 146 1 (.slice (some ⟨g,0,none⟩) (n+1) cap) (n+1) (Aq n))∧Below w.heap.size w w':=by
 obtain ⟨i0,hi,hz0,hz1,hz2⟩:=info_parts Dv
 obtain ⟨p,c,xo,xn,hd,lo,dl⟩:=C
 dsimp only at hp
 subst hp
 unfold Cfg.cells
 dsimp only
 go_enter Tryz.func105,Tryz.ntmps105
 go_wp2_with fail
 go_loopw [3,10] (fun v i wr=>∃ (k g cap:Nat),k≤n∧i=.int .i64 k∧v=.slice (some ⟨g,0,none⟩) (k+1) cap∧wr.ownsRow w.heap.size 146 1 (.slice (some ⟨g,0,none⟩) (k+1) cap) (k+1) (Aq k)∧Below w.heap.size w wr) (fun _ i _=>n-(intOf i).toNat)
 case atStart=>exact ⟨0,w.heap.size+1,1,Nat.zero_le _,rfl,by simp,⟨rfl,.inr ⟨w.heap.size+1,1,#[pz],rfl,by omega,by have:=fL (w.alloc (.cells #[.int .i64 n,.int .i64 c,.int .i64 xo,.int .i64 xn,.int .i64 hd,.int .i64 lo,.int .i64 dl] 34)) (.cells #[pz] 146);rw [show (w.alloc (.cells #[.int .i64 n,.int .i64 c,.int .i64 xo,.int .i64 xn,.int .i64 hd,.int .i64 lo,.int .i64 dl] 34)).heap.size=w.heap.size+1 by simp] at this;exact this,by simp,by first | (unfold maxLen;omega) | simp,by first | simp | (unfold maxLen;omega),by simp [Aq]⟩⟩,((Below.refl _ _).alloc (Nat.le_refl _) _).alloc (by simp) _⟩
 obtain ⟨k,g,cap,hk,rfl,rfl,hown,hB⟩:=hrel
 have zB:=hB.size
 by_cases hlt:k<n
 ·
  have hlt':(k:Int)<n:=by omega
  go_wp2_with (at_builtin;refine wpList_append_own _ rfl (.tmp 13) (.tmp 17) 143 rfl w.heap.size 146 i0 .nilIface 1 16 Tryz.underlying143 hi hz0 hz1 hz2 rfl (by decide) _ (k+1) _ rfl (hown.alloc _) ⟨wr.heap.size,0,none⟩ 1 1 [rb k] rfl rfl (cell_one_new _ _ _) (BS _) (by unfold maxLen;omega) (by omega) (by simp;omega) ?_;intro v' w' hown' hgrow' hnil';obtain ⟨g2,cap2,rfl,o2,B2⟩:=yM zB hB hown hown' hgrow')
  go_roundw
  case rel=>exact ⟨k+1,g2,cap2,by omega,by go_num,rfl,by rw [zh];exact o2,B2⟩
  case measure=>simp [intOf];omega
 obtain rfl:k=n:=by omega
 go_wp2_with fail
 go_ret
 exact ⟨⟨g,cap,rfl,hown⟩,hB⟩
theorem Ch:(Tryz.prog.info? 4).map (fun i=>(i.zero,i.size,i.bytes))=some (some (.bool false),1,1):=by kernel_rfl
def wB (n:Nat):Array Value:=madeCells #[.bool false] n
theorem xE (n:Nat) (hn:n≤1048576) (w:World):(Instr.makeSlice 26 (.int .i64 (n:Int)) (.int .i64 (n:Int))).run Tryz.prog w=.ok (.slice (some ⟨w.heap.size,0,none⟩) n n) (w.alloc (.cells (wB n) 4)):=by
 obtain ⟨i0,hi,hz0,hz1,hz2⟩:=info_parts Ch
 have:=run_make (P:=Tryz.prog) w 26 4 i0 (.bool false) Tryz.underlying26 hi hz0 .i64 .i64 (n:Int) (n:Int) (by omega) (by omega) (by rw [hz2];omega) (by omega)
 rw [this,hz1]
 simp [wB,Value.cells]
theorem xe {w:World} {g n:Nat} (h:w.heap[g]?=some (.cells (wB n) 4 (0,0))):fV g 4 n (fun _=>.bool false) n w :=
 ⟨_,h,by simp [wB,size_madeCells],fun i hi=>vF _ n i hi⟩
theorem uW (a:Option Addr) (n cap:Nat) (f:Nat→Bool) (w:World) (hn:n≤1048576) (h:fY w a n fun i=>.bool (f i)) :
  Calls Tryz.prog 62 #[.slice a n cap] w fun e w'=>e=.returned (.slice (some ⟨w.heap.size,0,none⟩) n n)∧fV w.heap.size 4 n (fun i=>.bool (f i)) n w'∧Below w.heap.size w w':=by
 have mk:=xE n hn
 go_enter Tryz.func62,Tryz.ntmps62
 go_wp2_with fail
 clear mk
 go_loopw [4] (fun i wr=>∃ k:Nat,k≤n∧i=.int .i64 k∧fV w.heap.size 4 n (fun i=>.bool (f i)) k wr∧Below w.heap.size w wr) (fun i _=>n-(intOf i).toNat)
 case atStart=>exact ⟨0,Nat.zero_le _,rfl,(xe (fL w _)).Bm,(Below.refl _ _).alloc (Nat.le_refl _) _⟩
 obtain ⟨k,hk,rfl,hR,hB⟩:=hrel
 by_cases hlt:k<n
 ·
  have hlt':(k:Int)<n:=by omega
  obtain ⟨g,o,rfl,hc⟩:=h k hlt
  have p1:=(hB.cell (p:=⟨g,o+k,none⟩) (iu hc)).trans hc
  dsimp only at p1
  obtain ⟨v0,hv0⟩:=hR.there k hlt
  have hf:=hR.free k
  clear h hc
  go_wp2_with fail
  go_roundw
  case rel=>exact ⟨k+1,by omega,by go_num,hR.step hlt,hB.setCell (Nat.le_refl _) _⟩
  case measure=>simp [intOf];omega
 obtain rfl:k=n:=by omega
 clear h
 go_wp2_with fail
 go_ret
 exact ⟨rfl,hR,hB⟩
def mb (x:Nat):Bool:=decide (x % 3=0)
theorem Dt (x:Nat):(((x:Int).tmod 3) == 0)=mb x:=by
 rw [Bool.eq_iff_iff]
 have:((x:Int).tmod 3)=((x % 3:Nat):Int):=by rw [Int.tmod_eq_emod_of_nonneg (by omega)];rfl
 simp only [this,mb,beq_iff_eq,decide_eq_true_eq]
 omega
theorem CL (m k:Nat):(((m:Int)+(k:Int)) % 3 == 0)=mb (m+k):=by
 rw [Bool.eq_iff_iff]
 simp only [mb,beq_iff_eq,decide_eq_true_eq]
 omega
theorem rv (g n cap m:Nat) (f:Nat→Value) (w:World) (h:fV g 4 n f n w) (hn:n≤1048576) (hm:m≤100000000) :
  Calls Tryz.prog 86 #[.slice (some ⟨g,0,none⟩) n cap,.int .i64 m] w fun e w'=>e=.returned (.int .i64 (m+n:Nat))∧fV g 4 n (fun i=>.bool (mb (m+i))) n w'∧Touch [g] w w':=by
 go_enter Tryz.func86,Tryz.ntmps86
 go_wp2_with fail
 go_loopw [1,5] (fun x i wr=>∃ k:Nat,k≤n∧i=.int .i64 k∧x=.int .i64 (m+k:Nat)∧fV g 4 n (fun i=>.bool (mb (m+i))) k wr∧Touch [g] w wr) (fun _ i _=>n-(intOf i).toNat)
 case atStart=>exact ⟨0,Nat.zero_le _,rfl,rfl,h.Bm,Touch.refl _ _⟩
 obtain ⟨k,hk,rfl,rfl,hR,hT⟩:=hrel
 by_cases hlt:k<n
 ·
  obtain ⟨v,hv⟩:=hR.there k hlt
  have hf:=hR.free k
  have hlt':(k:Int)<n:=by omega
  have HS:Hid (fV g 4 n (fun i=>.bool (mb (m+i))) (k+1) (wr.setCell ⟨g,k,none⟩ (.bool (mb (m+k))))):=hR.step hlt
  go_wp2_with fail
  go_roundw
  case rel=>exact ⟨k+1,by omega,by go_num,by go_num,by rw [CL];exact HS.out,hT.set (by simp) k _⟩
  case measure=>simp [intOf];omega
 obtain rfl:k=n:=by omega
 go_wp2_with fail
 go_ret
 exact ⟨rfl,hR,hT⟩
theorem rZ (g n cap m:Nat) (w:World) (h:fV g 4 n (fun i=>.bool (mb (m+i))) n w) (hn:n≤1048576) (hm:m≤100000000) :
  Calls Tryz.prog 89 #[.slice (some ⟨g,0,none⟩) n cap,.int .i64 m] w fun e w'=>e=.returned (.int .i64 (m+n:Nat))∧w=w':=by
 go_enter Tryz.func89,Tryz.ntmps89
 go_wp2_with fail
 go_loop [1,5] (fun x i=>∃ k:Nat,k≤n∧i=.int .i64 k∧x=.int .i64 (m+k:Nat)) (fun _ i=>n-(intOf i).toNat)
 case atStart=>exact ⟨0,Nat.zero_le _,rfl,rfl⟩
 obtain ⟨k,hk,rfl,rfl⟩:=hrel
 by_cases hlt:k<n
 ·
  have hc:=h.at k hlt
  have hlt':(k:Int)<n:=by omega
  rw [←Dt] at hc
  have hbb:((((m+k:Nat):Int).tmod 3 == 0) != (((m+k:Nat):Int).tmod 3 == 0))=false:=by simp
  go_wp2_with fail
  go_round
  case rel=>exact ⟨k+1,by omega,by go_num,by go_num⟩
  case measure=>simp [intOf];omega
 obtain rfl:k=n:=by omega
 go_wp2_with fail
 go_ret
 exact ⟨rfl,rfl⟩
theorem vW (a1 a2:Option Addr) (n c1 c2:Nat) (f:Nat→Bool) (w:World) (hn:n≤1048576) (h1:fY w a1 n fun i=>.bool (f i)) (h2:fY w a2 n fun i=>.bool (f i)) :
  Calls Tryz.prog 82 #[.slice a1 n c1,.slice a2 n c2] w fun e w'=>e=.returned (.bool true)∧Same w w':=by
 go_enter Tryz.func82,Tryz.ntmps82
 go_wp2_with fail
 go_loopw [5] (fun i wr=>∃ k:Nat,k≤n∧i=.int .i64 k∧Same w wr) (fun i _=>n-(intOf i).toNat)
 case atStart=>exact ⟨0,Nat.zero_le _,rfl,Same.refl _⟩
 obtain ⟨k,hk,rfl,hS⟩:=hrel
 by_cases hlt:k<n
 ·
  obtain ⟨g1,o1,rfl,e1⟩:=h1 k hlt
  obtain ⟨g2,o2,rfl,e2⟩:=h2 k hlt
  rw [←hS.cell] at e1 e2
  dsimp only at e1 e2
  have hbb:(f k != f k)=false:=by simp
  clear h1 h2
  have hlt':(k:Int)<n:=by omega
  go_wp2_with fail
  go_quiet (fail)
  go_wp2_with fail
  go_roundw
  case rel=>exact ⟨k+1,by omega,by go_num,hS.drewN _⟩
  case measure=>simp [intOf];omega
 obtain rfl:k=n:=by omega
 go_wp2_with fail
 go_ret
 exact ⟨rfl,hS⟩
structure Cnt where
 aU:Option Addr
 nU:Nat
 cU:Nat
 u:Nat→Int
 lo:Int
 aP:Option Addr
 nP:Nat
 cP:Nat
 p:Nat→Bool
def Cnt.cells (N:Cnt):Array Value:=#[.slice N.aU N.nU N.cU,.int .i64 N.lo,.slice N.aP N.nP N.cP]
structure ja (w:World) (N:Cnt):Prop where
 u:fY w N.aU N.nU fun i=>.int .i64 (N.u i)
 p:fY w N.aP N.nP fun i=>.bool (N.p i)
theorem ja.up {w w2:World} {N:Cnt} (h:ja w N) (hb:Below w.heap.size w w2):ja w2 N:=⟨h.u.up hb,h.p.up hb⟩
structure Cnt.Fit (N:Cnt):Prop where
 u:N.nU≤maxLen
 p:N.nP≤maxLen
structure Cnt.Small (N:Cnt):Prop where
 u:N.nU≤1048576
 p:N.nP≤1048576
theorem Cnt.Small.fit {N:Cnt} (h:N.Small):N.Fit:=⟨by have:=h.u;unfold maxLen;omega,by have:=h.p;unfold maxLen;omega⟩
structure gx (A B:Cnt):Prop where
 nU:B.nU=A.nU
 u:B.u=A.u
 lo:B.lo=A.lo
 nP:B.nP=A.nP
 p:B.p=A.p
theorem gx.refl (A:Cnt):gx A A:=⟨rfl,rfl,rfl,rfl,rfl⟩
theorem gx.symm {A B:Cnt} (h:gx A B):gx B A:=⟨h.nU.symm,h.u.symm,h.lo.symm,h.nP.symm,h.p.symm⟩
theorem gx.trans {A B C:Cnt} (h:gx A B) (k:gx B C):gx A C:=⟨k.nU.trans h.nU,k.u.trans h.u,k.lo.trans h.lo,k.nP.trans h.nP,k.p.trans h.p⟩
theorem gx.small {A B:Cnt} (h:gx A B) (hs:A.Small):B.Small:=⟨by rw [h.nU];exact hs.u,by rw [h.nP];exact hs.p⟩
structure Cnt.Ok (C:Cfg) (N:Cnt):Prop where
 c:C.Ok
 nU:(N.nU:Int)=C.p
 nP:(N.nP:Int)=C.p
 lo:0≤N.lo∧N.lo≤C.lo
 u:∀ i,i<N.nU→0≤N.u i∧N.u i≤C.xo+C.hd
theorem gx.ok {C:Cfg} {A B:Cnt} (h:gx A B):Cnt.Ok C B↔Cnt.Ok C A :=
 ⟨fun k=>⟨k.c,by rw [←h.nU];exact k.nU,by rw [←h.nP];exact k.nP,by rw [←h.lo];exact k.lo,by rw [←h.u,←h.nU];exact k.u⟩,
  fun k=>⟨k.c,by rw [h.nU];exact k.nU,by rw [h.nP];exact k.nP,by rw [h.lo];exact k.lo,by rw [h.u,h.nU];exact k.u⟩⟩
theorem sC (C:Cfg) (w:World) :
  Calls Tryz.prog 21 #[.agg C.cells] w fun e w'=>e=.returned (.agg C.cells)∧Below w.heap.size w w':=by
 unfold Cfg.cells
 go_enter Tryz.func21,Tryz.ntmps21
 go_wp2_with fail
 refine bodyPost_ret (v:=.agg #[.int .i64 C.p,.int .i64 C.c,.int .i64 C.xo,.int .i64 C.xn,.int .i64 C.hd,.int .i64 C.lo,.int .i64 C.dl]) (by simp [results,Tryz.results21,go_sem]) rfl ⟨rfl,?_⟩
 go_grown
def VT (t:TypeId) (w:World) (base:Nat) (a:Option Addr) (n:Nat) (F:Nat→Value):Prop:=n=0∨∃ g,a=some ⟨g,0,none⟩∧base≤g∧fV g t n F n w
def gF (a:Option Addr) (n:Nat):List Nat:=if n=0 then [] else (a.map (·.block)).toList
theorem VT.read {t:TypeId} {w:World} {base:Nat} {a:Option Addr} {n:Nat} {f:Nat→Value} (h:VT t w base a n f):fY w a n f:=by
 rcases h with rfl | ⟨g,rfl,_,hr⟩
 ·
  exact fY.nil _ _ _
 exact hr.read
theorem VT.up {t:TypeId} {w w':World} {base:Nat} {a:Option Addr} {n:Nat} {f:Nat→Value} (h:VT t w base a n f) (hb:Below w.heap.size w w'):VT t w' base a n f :=
 h.imp id (by rintro ⟨g,ha,hg,hr⟩;exact ⟨g,ha,hg,hr.ir (hb.block _ hr.lt)⟩)
theorem VT.mono {t:TypeId} {w:World} {base base':Nat} {a:Option Addr} {n:Nat} {f:Nat→Value} (h:VT t w base a n f) (hb:base'≤base):VT t w base' a n f :=
 h.imp id (by rintro ⟨g,ha,hg,hr⟩;exact ⟨g,ha,by omega,hr⟩)
theorem Bh {g n:Nat} (h:n≠0):g∈gF (some ⟨g,0,none⟩) n:=by unfold gF;rw [if_neg h];simp
theorem VT.fK {t:TypeId} {w w':World} {base:Nat} {a:Option Addr} {n:Nat} {f:Nat→Value} {S:List Nat} (h:VT t w base a n f) (ht:Touch S w w') (hp:∀ x∈gF a n,x∉S):VT t w' base a n f:=by
 rcases h with h | ⟨g,rfl,hg,hr⟩
 ·
  exact .inl h
 by_cases h0:n=0
 ·
  exact .inl h0
 exact .inr ⟨g,rfl,hg,hr.ir (ht.block g hr.lt (hp g (Bh h0)))⟩
theorem VT.blk {t:TypeId} {w:World} {base:Nat} {a:Option Addr} {n:Nat} {f:Nat→Value} (h:VT t w base a n f):∀ x∈gF a n,base≤x∧x<w.heap.size:=by
 intro x hx
 unfold gF at hx
 split at hx
 ·
  simp at hx
 rcases h with h | ⟨g,rfl,hg,hr⟩
 ·
  contradiction
 simp at hx;subst hx;exact ⟨hg,hr.lt⟩
theorem VT.type {t:TypeId} {w:World} {base:Nat} {a:Option Addr} {n:Nat} {f:Nat→Value} (h:VT t w base a n f):∀ x∈gF a n,∃ cs,w.heap[x]?=some (.cells cs t (0,0)):=by
 intro x hx
 unfold gF at hx
 split at hx
 ·
  simp at hx
 rcases h with h | ⟨g,rfl,hg,hr⟩
 ·
  contradiction
 simp at hx
 subst hx
 obtain ⟨cs,hc,_⟩:=hr
 exact ⟨cs,hc⟩
theorem VT.apart {t t':TypeId} {w:World} {base base':Nat} {a a':Option Addr} {n n':Nat} {f f':Nat→Value} (h:VT t w base a n f) (k:VT t' w base' a' n' f') (hne:t≠t'):∀ x∈gF a n,x∉gF a' n':=by
 intro x hx hy
 obtain ⟨cs,h1⟩:=h.type x hx
 obtain ⟨cs',h2⟩:=k.type x hy
 rw [h1] at h2
 simp at h2
 exact hne h2.2
theorem VT.of {t:TypeId} {w:World} {base g n:Nat} {f:Nat→Value} (hb:base≤g) (h:fV g t n f n w):VT t w base (some ⟨g,0,none⟩) n f:=.inr ⟨g,rfl,hb,h⟩
theorem VT.mL {t t':TypeId} {w:World} {base:Nat} {a:Option Addr} {n g:Nat} {f:Nat→Value} {cs:Array Value} (h:VT t w base a n f) (hne:t≠t') (hg:w.heap[g]?=some (.cells cs t' (0,0))):g∉gF a n:=by
 intro hx
 obtain ⟨cs',h1⟩:=h.type g hx
 rw [hg] at h1
 simp at h1
 exact hne h1.2.symm
structure gR (w:World) (base:Nat) (N:Cnt):Prop where
 u:VT 2 w base N.aU N.nU fun i=>.int .i64 (N.u i)
 p:VT 4 w base N.aP N.nP fun i=>.bool (N.p i)
theorem gR.rd {w:World} {base:Nat} {N:Cnt} (h:gR w base N):ja w N:=⟨h.u.read,h.p.read⟩
theorem gR.up {w w':World} {base:Nat} {N:Cnt} (h:gR w base N) (hb:Below w.heap.size w w'):gR w' base N:=⟨h.u.up hb,h.p.up hb⟩
theorem gR.mono {w:World} {base base':Nat} {N:Cnt} (h:gR w base N) (hb:base'≤base):gR w base' N:=⟨h.u.mono hb,h.p.mono hb⟩
theorem gR.iU {w w':World} {base:Nat} {N:Cnt} {S:List Nat} (h:gR w base N) (ht:Touch S w w') (hS:∀ x∈S,x<base):gR w' base N :=
 ⟨h.u.fK ht (fun x hx hy=>by have:=(h.u.blk x hx).1;have:=hS x hy;omega),h.p.fK ht (fun x hx hy=>by have:=(h.p.blk x hx).1;have:=hS x hy;omega)⟩
def Cnt.copy (N:Cnt) (gU gP:Nat):Cnt:={ N with aU:=some ⟨gU,0,none⟩,cU:=N.nU,aP:=some ⟨gP,0,none⟩,cP:=N.nP }
theorem x9 (N:Cnt) (gU gP:Nat):gx N (N.copy gU gP):=⟨rfl,rfl,rfl,rfl,rfl⟩
theorem sy (N:Cnt) (w:World) (hs:N.Small) (h:ja w N) :
  Calls Tryz.prog 23 #[.agg N.cells] w fun e w'=>∃ gU gP,e=.returned (.agg (N.copy gU gP).cells)∧gR w' w.heap.size (N.copy gU gP)∧Below w.heap.size w w':=by
 obtain ⟨aU,nU,cU,u,lo,aP,nP,cP,p⟩:=N
 have HU:Hid (fY w aU nU fun i=>.int .i64 (u i)):=h.u
 have HP:Hid (fY w aP nP fun i=>.bool (p i)):=h.p
 have hs1:nU≤1048576:=hs.u
 have hs2:nP≤1048576:=hs.p
 clear h hs
 obtain ⟨w3,hw3⟩:∃ w3,w3=((w.alloc (.cells #[.slice aU nU cU,.int .i64 lo,.slice aP nP cP] 28)).alloc (.cells #[.slice none 0 0,.int .i64 0,.slice none 0 0] 36)).alloc (.cells #[.slice none 0 0,.int .i64 0,.slice none 0 0] 36):=⟨_,rfl⟩
 have k1:w3.heap[w.heap.size]?=some (.cells #[.slice aU nU cU,.int .i64 lo,.slice aP nP cP] 28 (0,0)):=by
  rw [hw3];exact (gg _ (by simp;omega)).trans ((gg _ (by simp)).trans (fL _ _))
 have k2:w3.heap[w.heap.size+1]?=some (.cells #[.slice none 0 0,.int .i64 0,.slice none 0 0] 36 (0,0)):=by
  rw [hw3]
  refine (gg _ (by simp)).trans ?_
  have:=fL (w.alloc (.cells #[.slice aU nU cU,.int .i64 lo,.slice aP nP cP] 28)) (.cells #[.slice none 0 0,.int .i64 0,.slice none 0 0] 36)
  simpa using this
 have k3:w3.heap[w.heap.size+1+1]?=some (.cells #[.slice none 0 0,.int .i64 0,.slice none 0 0] 36 (0,0)):=by
  rw [hw3]
  have:=fL ((w.alloc (.cells #[.slice aU nU cU,.int .i64 lo,.slice aP nP cP] 28)).alloc (.cells #[.slice none 0 0,.int .i64 0,.slice none 0 0] 36)) (.cells #[.slice none 0 0,.int .i64 0,.slice none 0 0] 36)
  simpa using this
 have B3:Below w.heap.size w w3:=by rw [hw3];go_grown
 have z3:w.heap.size+3=w3.heap.size:=by rw [hw3];simp
 have HZ3:Hid (w.heap.size+3=w3.heap.size):=z3
 clear z3
 have c1:=fG k1
 unfold Cnt.cells Cnt.copy
 dsimp only
 go_enter Tryz.func23,Tryz.ntmps23
 go_wp2_with fail
 rw [←hw3]
 clear hw3
 refine (kM aU nU cU u _ hs1 (HU.out.up B3)).mono ?_
 rintro e w4 ⟨rfl,hr4,hb4⟩
 have k14:=(hb4.block _ (fH k1)).trans k1
 have k24:=(hb4.block _ (fH k2)).trans k2
 have k34:=(hb4.block _ (fH k3)).trans k3
 have B4:=B3.trans (hb4.mono B3.size)
 clear k1 k2 k3 hb4 B3 c1
 have c1:=fG k14
 have c3:=fG k34
 have f3:=fX k34
 obtain ⟨w5,hw5⟩:∃ w5,w5=(w4.setCell ⟨w.heap.size+1+1,0,none⟩ (.slice (some ⟨w3.heap.size,0,none⟩) nU nU)).setCell ⟨w.heap.size+1+1,1,none⟩ (.int .i64 lo):=⟨_,rfl⟩
 have hz3:=HZ3.out
 have k15:w5.heap[w.heap.size]?=some (.cells #[.slice aU nU cU,.int .i64 lo,.slice aP nP cP] 28 (0,0)):=by rw [hw5];exact (fO (by omega) _).trans ((fO (by omega) _).trans k14)
 have k25:w5.heap[w.heap.size+1]?=some (.cells #[.slice none 0 0,.int .i64 0,.slice none 0 0] 36 (0,0)):=by rw [hw5];exact (fO (by omega) _).trans ((fO (by omega) _).trans k24)
 have k35:w5.heap[w.heap.size+1+1]?=some (.cells #[.slice (some ⟨w3.heap.size,0,none⟩) nU nU,.int .i64 lo,.slice none 0 0] 36 (0,0)):=by rw [hw5];exact gj (gj k34 _) _
 have r5:fV w3.heap.size 2 nU (fun i=>.int .i64 (u i)) nU w5:=by rw [hw5];exact hr4.ir ((fO (by omega) _).trans (fO (by omega) _))
 have B5:Below w.heap.size w w5:=by rw [hw5];exact (B4.setCell (by show _≤w.heap.size+1+1;omega) _).setCell (by show _≤w.heap.size+1+1;omega) _
 have cc:∀ o,(w4.setCell ⟨w.heap.size+1+1,0,none⟩ (.slice (some ⟨w3.heap.size,0,none⟩) nU nU)).cell? ⟨w.heap.size,o,none⟩=(#[.slice aU nU cU,.int .i64 lo,.slice aP nP cP]:Array Value)[o]?:=fun o=>fG ((fO (by omega) _).trans k14) o
 have cd:=fG (gj (i:=0) k34 (.slice (some ⟨w3.heap.size,0,none⟩) nU nU))
 have fd:=fX (gj (i:=0) k34 (.slice (some ⟨w3.heap.size,0,none⟩) nU nU))
 have c15:=fG k15
 rw [hw5] at c15
 clear hz3 k14 k24 k34 hr4 B4
 go_wp2_with fail
 rw [←hw5]
 clear hw5 cc cd fd c1 c3 f3 c15
 refine (uW aP nP cP p _ hs2 (HP.out.up B5)).mono ?_
 rintro e w6 ⟨rfl,hr6,hb6⟩
 have k26:=(hb6.block _ (fH k25)).trans k25
 have k36:=(hb6.block _ (fH k35)).trans k35
 have r6:=r5.ir (hb6.block _ r5.lt)
 have B6:=B5.trans (hb6.mono B5.size)
 have l5:=r5.lt
 have l52:=fH k35
 clear k15 k25 k35 r5 hb6 B5
 have c3:=fG k36
 have f3:=fX k36
 have hz3:=HZ3.out
 obtain ⟨w7,hw7⟩:∃ w7,w7=w6.setCell ⟨w.heap.size+1+1,2,none⟩ (.slice (some ⟨w5.heap.size,0,none⟩) nP nP):=⟨_,rfl⟩
 have k37:w7.heap[w.heap.size+1+1]?=some (.cells #[.slice (some ⟨w3.heap.size,0,none⟩) nU nU,.int .i64 lo,.slice (some ⟨w5.heap.size,0,none⟩) nP nP] 36 (0,0)):=by rw [hw7];exact gj k36 _
 have k27:w7.heap[w.heap.size+1]?=some (.cells #[.slice none 0 0,.int .i64 0,.slice none 0 0] 36 (0,0)):=by rw [hw7];exact (fO (by omega) _).trans k26
 have rU:fV w3.heap.size 2 nU (fun i=>.int .i64 (u i)) nU w7:=by rw [hw7];exact r6.ir (fO (by omega) _)
 have rP:fV w5.heap.size 4 nP (fun i=>.bool (p i)) nP w7:=by rw [hw7];exact hr6.ir (fO (by omega) _)
 have B7:Below w.heap.size w w7:=by rw [hw7];exact B6.setCell (by show _≤w.heap.size+1+1;omega) _
 have c37:=fG k37
 have f27:=fX k27
 have c27:=fG k27
 rw [hw7] at c37 f27 c27
 have HL:Hid (w.heap.size≤w3.heap.size∧w.heap.size≤w5.heap.size∧w.heap.size+1<w3.heap.size∧w.heap.size+1<w5.heap.size):=⟨by omega,by omega,by omega,by omega⟩
 clear hz3 l5 l52 k26 k36 r6 hr6 B6
 go_wp2_with fail
 have hl:=HL.out
 have kB:((((w6.setCell ⟨w.heap.size+1+1,2,none⟩ (.slice (some ⟨w5.heap.size,0,none⟩) nP nP)).setCell ⟨w.heap.size+1,0,none⟩ (.slice (some ⟨w3.heap.size,0,none⟩) nU nU)).setCell ⟨w.heap.size+1,1,none⟩ (.int .i64 lo)).setCell ⟨w.heap.size+1,2,none⟩ (.slice (some ⟨w5.heap.size,0,none⟩) nP nP)).heap[w.heap.size+1]?=some (.cells #[.slice (some ⟨w3.heap.size,0,none⟩) nU nU,.int .i64 lo,.slice (some ⟨w5.heap.size,0,none⟩) nP nP] 36 (0,0)):=by
  rw [←hw7]
  exact gj (gj (gj k27 _) _) _
 have cB:=fG kB
 refine bodyPost_ret (v:=.agg #[.slice (some ⟨w3.heap.size,0,none⟩) nU nU,.int .i64 lo,.slice (some ⟨w5.heap.size,0,none⟩) nP nP]) (by simp [results,Tryz.results23,go_sem,cB]) rfl ⟨w3.heap.size,w5.heap.size,rfl,?_⟩
 rw [←hw7]
 have ir:∀ x y z,(((w7.setCell ⟨w.heap.size+1,0,none⟩ x).setCell ⟨w.heap.size+1,1,none⟩ y).setCell ⟨w.heap.size+1,2,none⟩ z).heap[w3.heap.size]?=w7.heap[w3.heap.size]?∧(((w7.setCell ⟨w.heap.size+1,0,none⟩ x).setCell ⟨w.heap.size+1,1,none⟩ y).setCell ⟨w.heap.size+1,2,none⟩ z).heap[w5.heap.size]?=w7.heap[w5.heap.size]?:=fun x y z =>
  ⟨(fO (by omega) _).trans ((fO (by omega) _).trans (fO (by omega) _)),(fO (by omega) _).trans ((fO (by omega) _).trans (fO (by omega) _))⟩
 refine ⟨⟨VT.of hl.1 (rU.ir (ir _ _ _).1),VT.of hl.2.1 (rP.ir (ir _ _ _).2)⟩,((B7.setCell (by show _≤w.heap.size+1;omega) _).setCell (by show _≤w.heap.size+1;omega) _).setCell (by show _≤w.heap.size+1;omega) _⟩
structure Pkt where
 id:Int
 inn:Int
 refs:Int
 k:Int
 d:Int
 s:Int
 p:Int
 b:ByteArray
def Pkt.cells (x:Pkt):Array Value:=#[.int .i64 x.id,.int .i64 x.inn,.int .i64 x.refs,.int .i64 x.k,.int .i64 x.d,.int .i64 x.s,.int .i64 x.p,.string x.b]
theorem Pkt.ig (x:Pkt):x.cells.size=8:=rfl
def jN (w:World) (a:Option Addr) (n:Nat) (K:Nat→Pkt):Prop:=∀ i,i<n→∃ g o,a=some ⟨g,o,none⟩∧∀ j,j<8→w.cell? ⟨g,o+i*8+j,none⟩=(K i).cells[j]?
theorem jN.nil (w:World) (a:Option Addr) (K:Nat→Pkt):jN w a 0 K:=fun i hi=>by omega
theorem jN.up {w w2:World} {a:Option Addr} {n:Nat} {K:Nat→Pkt} (h:jN w a n K) (hb:Below w.heap.size w w2):jN w2 a n K:=by
 intro i hi
 obtain ⟨g,o,ha,hc⟩:=h i hi
 refine ⟨g,o,ha,fun j hj=>?_⟩
 have h2:=hc j hj
 have h3:j<(K i).cells.size:=by rw [Pkt.ig];exact hj
 exact aZ
theorem jN.cell {w:World} {g o n:Nat} {K:Nat→Pkt} (h:jN w (some ⟨g,o,none⟩) n K) {i:Nat} (hi:i<n):∀ j,j<8→w.cell? ⟨g,o+i*8+j,none⟩=(K i).cells[j]?:=by
 obtain ⟨g',o',ha,hc⟩:=h i hi
 cases ha
 exact hc
structure Lng where
 st:Bool
 aT:Option Addr
 nT:Nat
 cT:Nat
 t:Nat→Int
 aU:Option Addr
 nU:Nat
 cU:Nat
 uA:Nat→Option Addr
 uL:Nat→Nat
 uC:Nat→Nat
 uz:Nat→Nat→Int
 R:Rnd
def Lng.cells (l:Lng):Array Value:=#[.bool l.st,.slice l.aT l.nT l.cT,.slice l.aU l.nU l.cU,.slice l.R.aQ l.R.nQ l.R.cQ,.slice l.R.aD l.R.nD l.R.cD,.int .i64 l.R.turn,.bool l.R.fresh,.slice l.R.aS l.R.nS l.R.cS]
theorem Lng.ig (l:Lng):l.cells.size=8:=rfl
structure ml (w:World) (l:Lng):Prop where
 t:fY w l.aT l.nT fun i=>.int .i64 (l.t i)
 u:fY w l.aU l.nU fun i=>.slice (l.uA i) (l.uL i) (l.uC i)
 z:∀ i,i<l.nU→fY w (l.uA i) (l.uL i) fun j=>.int .i64 (l.uz i j)
 r:iY w l.R
theorem ml.up {w w2:World} {l:Lng} (h:ml w l) (hb:Below w.heap.size w w2):ml w2 l:=⟨h.t.up hb,h.u.up hb,fun i hi=>(h.z i hi).up hb,h.r.up hb⟩
def qh (w:World) (a:Option Addr) (n:Nat) (L:Nat→Lng):Prop:=∀ i,i<n→∃ g o,a=some ⟨g,o,none⟩∧∀ j,j<8→w.cell? ⟨g,o+i*8+j,none⟩=(L i).cells[j]?
theorem qh.nil (w:World) (a:Option Addr) (L:Nat→Lng):qh w a 0 L:=fun i hi=>by omega
theorem qh.up {w w2:World} {a:Option Addr} {n:Nat} {L:Nat→Lng} (h:qh w a n L) (hb:Below w.heap.size w w2):qh w2 a n L:=by
 intro i hi
 obtain ⟨g,o,ha,hc⟩:=h i hi
 refine ⟨g,o,ha,fun j hj=>?_⟩
 have h2:=hc j hj
 have h3:j<(L i).cells.size:=by rw [Lng.ig];exact hj
 exact aZ
structure Lng.Small (l:Lng):Prop where
 t:l.nT≤1048576
 u:l.nU≤1048576
 z:∀ i,i<l.nU→l.uL i≤1048576
 r:l.R.Small
structure Swg where
 C:Cfg
 now:Int
 nx:Int
 aE:Option Addr
 nE:Nat
 cE:Nat
 e:Nat→Ent
 N:Cnt
 aK:Option Addr
 nK:Nat
 cK:Nat
 K:Nat→Pkt
 aL:Option Addr
 nL:Nat
 cL:Nat
 L:Nat→Lng
 dr:Int
 lst:Int
def Swg.cells (S:Swg):Array Value:=#[.int .i64 S.C.p,.int .i64 S.C.c,.int .i64 S.C.xo,.int .i64 S.C.xn,.int .i64 S.C.hd,.int .i64 S.C.lo,.int .i64 S.C.dl,.int .i64 S.now,.int .i64 S.nx,.slice S.aE S.nE S.cE,.slice S.N.aU S.N.nU S.N.cU,.int .i64 S.N.lo,.slice S.N.aP S.N.nP S.N.cP,.slice S.aK S.nK S.cK,.slice S.aL S.nL S.cL,.int .i64 S.dr,.int .i64 S.lst]
structure j4 (w:World) (S:Swg):Prop where
 e:iZ w S.aE S.nE S.e
 n:ja w S.N
 k:jN w S.aK S.nK S.K
 l:qh w S.aL S.nL S.L
 ls:∀ i,i<S.nL→ml w (S.L i)
theorem j4.up {w w2:World} {S:Swg} (h:j4 w S) (hb:Below w.heap.size w w2):j4 w2 S:=⟨h.e.up hb,h.n.up hb,h.k.up hb,h.l.up hb,fun i hi=>(h.ls i hi).up hb⟩
structure Swg.Small (S:Swg):Prop where
 e:S.nE≤1048576
 n:S.N.Small
 k:S.nK≤1048576
 b:∀ i,i<S.nK→(S.K i).b.size≤1048576
 l:S.nL≤1048576
 ls:∀ i,i<S.nL→(S.L i).Small
def Pkt.cl (x:Pkt):Int:=(x.b.size+9+9) / 10
def Pkt.pR (x:Pkt):Prop:=x.k=1∧mx x.k x.d x.s x.p x.b.size=true
theorem Pkt.pR.le {x:Pkt} (h:x.pR):x.b.size≤40:=zQ h.2
theorem Pkt.pR.pr {x:Pkt} (h:x.pR):0≤x.p∧x.p≤2:=by
 have h2:=h.2
 have h1:=h.1
 unfold mx at h2
 simp only [decide_eq_true_eq] at h2
 omega
theorem Pkt.pR.cl {x:Pkt} (h:x.pR):1≤x.cl∧x.cl≤5:=by
 have:=h.le
 unfold Pkt.cl
 omega
structure iT (nx p:Int) (n:Nat) (K:Nat→Pkt):Prop where
 le:n≤1000
 one:∀ i,i<n→(1≤(K i).id∧(K i).id≤nx-1)∧(0≤(K i).inn∧(K i).inn≤p-1)∧(K i).pR
 up:∀ i,i<n→0<i→(K (i-1)).id<(K i).id
theorem mV {n:Nat} {f:Nat→Int} (h:∀ i,i<n→0<i→f (i-1)<f i):∀ j i,i<j→j<n→f i<f j:=by
 intro j
 induction j with
 | zero=>intro i hi;omega
 | succ j ih =>
  intro i hi hj
  have h1:=h (j+1) hj (by omega)
  rw [Nat.add_sub_cancel] at h1
  by_cases e:i=j
  ·
   subst e;exact h1
  have:=ih i (by omega) (by omega)
  omega
theorem ln {n:Nat} {f:Nat→Int} (h:∀ i,i<n→0<i→f (i-1)<f i) {i j:Nat} (hi:i<n) (hj:j<n) (e:f i=f j):i=j:=by
 have a:=mV h j i
 have b:=mV h i j
 omega
def p8 (n:Nat) (z:Nat→Int) (prio:Int) (m:Nat) (K:Nat→Pkt):Prop :=
 ∀ i,i<n→(∃ j,j<m∧(K j).id=z i∧(K j).p=prio)∧(0<i→z (i-1)<z i)
theorem p8.le {n:Nat} {z:Nat→Int} {prio nx p:Int} {m:Nat} {K:Nat→Pkt} (h:p8 n z prio m K) (hK:iT nx p m K):n≤m:=by
 have up:=fun i hi h0=>(h i hi).2 h0
 have key:∀ k,k≤n→∀ j,j<m→(0<k→(K j).id=z (k-1))→k≤j+1:=by
  intro k
  induction k with
  | zero=>intro _ j hj _;omega
  | succ k ih =>
   intro hk j hj e
   have e1:=e (by omega)
   rw [Nat.add_sub_cancel] at e1
   by_cases h0:k=0
   ·
    omega
   obtain ⟨⟨j',hj',e2,_⟩,hr⟩:=h (k-1) (by omega)
   have hlt:=(h k (by omega)).2 (by omega)
   have:=ih (by omega) j' hj' (fun _=>e2)
   have hjj:j'<j:=by
    have hu:=mV hK.up j' j
    by_cases c:j'<j
    ·
     exact c
    by_cases c2:j=j'
    ·
     subst c2;omega
    have:=hu (by omega) hj'
    omega
   omega
 by_cases h0:n=0
 ·
  omega
 obtain ⟨⟨j,hj,e,_⟩,_⟩:=h (n-1) (by omega)
 have:=key n (Nat.le_refl _) j hj (fun _=>e)
 omega
structure lY (m:Nat) (K:Nat→Pkt) (l:Lng):Prop where
 r:l.R.Ok
 n:l.R.nQ=2
 q0:l.R.q 0=2
 q1:l.R.q 1=4
 u:l.nU=2
 z:∀ c,c<2→p8 (l.uL c) (l.uz c) (c:Int) m K∧l.uL c=l.R.L c∧∀ i,i<l.uL c→∀ j,j<m→(K j).id=l.uz c i→l.R.z c i=(K j).cl
 t:p8 l.nT l.t 2 m K
def occ (z:Nat→Int) (x:Int):Nat→Nat
 | 0=>0
 | n+1=>occ z x n+if z n=x then 1 else 0
def sn (l:Lng) (x:Int):Nat→Nat
 | 0=>0
 | c+1=>sn l x c+occ (l.uz c) x (l.uL c)
def nA (L:Nat→Lng) (x:Int):Nat→Nat
 | 0=>0
 | i+1=>nA L x i+(occ (L i).t x (L i).nT+sn (L i) x (L i).nU)
def jn (K:Nat→Pkt) (p:Int):Nat→Int
 | 0=>0
 | n+1=>jn K p n+if (K n).p=2∧(K n).inn=p then (K n).cl else 0
def g3 (K:Nat→Pkt):Nat→Int
 | 0=>0
 | n+1=>g3 K n+if (K n).p=2 then 0 else (K n).cl
structure Swg.BE (S:Swg):Prop where
 now:0≤S.now∧S.now≤1000000000
 nx:1≤S.nx∧S.nx≤1000000000
 dr:0≤S.dr∧S.dr≤1000000000
 lst:0≤S.lst∧S.lst≤1000000000
def Swg.seen (S:Swg):Prop:=oJ S.nE S.e∧∀ i,i<S.nE→(S.e i).p<S.C.p∧(S.e i).t≤S.now
def Swg.xp (S:Swg):Prop:=∀ j,j<S.nK→1≤(S.K j).refs∧(S.K j).refs=nA S.L (S.K j).id S.nL
def Swg.xT (S:Swg):Prop:=S.N.lo=g3 S.K S.nK∧∀ i,i<S.N.nU→S.N.u i=jn S.K i S.nK
structure Swg.Ok (S:Swg):Prop where
 n:Cnt.Ok S.C S.N
 nums:S.BE
 seen:S.seen
 k:iT S.nx S.C.p S.nK S.K
 nl:(S.nL:Int)=S.C.p
 l:∀ i,i<S.nL→lY S.nK S.K (S.L i)
 refs:S.xp
 held:S.xT
open Classical in
theorem iA (p:Prop):∃ ok:Bool,ok=true↔p:=⟨decide p,by simp⟩
theorem u4 {nx p:Int} {K:Nat→Pkt} {q:Int} {m:Nat} (h:iT nx p m K):∀ n,n≤m→0≤jn K q n∧jn K q n≤5*(n:Int):=by
 intro n
 induction n with
 | zero=>intro _;exact ⟨Int.le_refl _,Int.le_refl _⟩
 | succ n ih =>
  intro hn
  have:=ih (by omega)
  have hc:=(h.one n (by omega)).2.2.cl
  show 0≤jn K q n+_∧jn K q n+_≤_
  split <;> omega
theorem wI {nx p:Int} {K:Nat→Pkt} {m:Nat} (h:iT nx p m K):∀ n,n≤m→0≤g3 K n∧g3 K n≤5*(n:Int):=by
 intro n
 induction n with
 | zero=>intro _;exact ⟨Int.le_refl _,Int.le_refl _⟩
 | succ n ih =>
  intro hn
  have:=ih (by omega)
  have hc:=(h.one n (by omega)).2.2.cl
  show 0≤g3 K n+_∧g3 K n+_≤_
  split <;> omega
theorem ow (z:Nat→Int) (x:Int):∀ n,occ z x n≤n:=by
 intro n
 induction n with
 | zero=>exact Nat.le_refl _
 | succ n ih =>
  show occ z x n+_≤_
  split <;> omega
theorem vu {z:Nat→Int} {x:Int}:∀ {n},0<occ z x n↔∃ i,i<n∧z i=x:=by
 intro n
 induction n with
 | zero =>
  constructor
  ·
   intro h;exact absurd h (Nat.lt_irrefl 0)
  rintro ⟨i,hi,_⟩;omega
 | succ n ih =>
  show 0<occ z x n+_↔_
  by_cases e:z n=x
  ·
   rw [if_pos e]
   constructor
   ·
    intro _;exact ⟨n,by omega,e⟩
   intro _;omega
  rw [if_neg e,Nat.add_zero,ih]
  constructor
  ·
   rintro ⟨i,hi,h⟩;exact ⟨i,by omega,h⟩
  rintro ⟨i,hi,h⟩
  refine ⟨i,?_,h⟩
  by_cases e2:i=n
  ·
   subst e2;exact absurd h e
  omega
theorem AS {z:Nat→Int} {x:Int} {n:Nat} (h:∀ i,i<n→0<i→z (i-1)<z i):∀ k,k≤n→occ z x k≤1:=by
 intro k
 induction k with
 | zero=>intro _;exact Nat.zero_le _
 | succ k ih =>
  intro hk
  show occ z x k+_≤1
  by_cases e:z k=x
  ·
   rw [if_pos e]
   have:occ z x k=0:=by
    by_cases c:0<occ z x k
    ·
     obtain ⟨i,hi,e2⟩:=vu.1 c
     have:=mV h k i hi (by omega)
     omega
    omega
   omega
  rw [if_neg e]
  exact ih (by omega)
theorem ur (A B:Cnt) (w:World) (hs:A.Small) (hA:ja w A) (hB:ja w B) (h:gx A B) :
  Calls Tryz.prog 32 #[.agg A.cells,.agg B.cells] w fun e w'=>e=.returned (.bool true)∧Below w.heap.size w w':=by
 obtain ⟨aU,nU,cU,u,lo,aP,nP,cP,p⟩:=A
 obtain ⟨bU,nU',dU,u',lo',bP,nP',dP,p'⟩:=B
 obtain ⟨h1,h2,h3,h4,h5⟩:=h
 dsimp only at h1 h2 h3 h4 h5
 subst h1 h2 h3 h4 h5
 have hs1:nU'≤1048576:=hs.u
 have hs2:nP'≤1048576:=hs.p
 obtain ⟨w2,hw2⟩:∃ w2,w2=(w.alloc (.cells #[.slice aU nU' cU,.int .i64 lo',.slice aP nP' cP] 36)).alloc (.cells #[.slice bU nU' dU,.int .i64 lo',.slice bP nP' dP] 36):=⟨_,rfl⟩
 have k1:w2.heap[w.heap.size]?=some (.cells #[.slice aU nU' cU,.int .i64 lo',.slice aP nP' cP] 36 (0,0)):=by rw [hw2];exact (gg _ (by simp)).trans (fL _ _)
 have k2:w2.heap[w.heap.size+1]?=some (.cells #[.slice bU nU' dU,.int .i64 lo',.slice bP nP' dP] 36 (0,0)):=by
  rw [hw2]
  have:=fL (w.alloc (.cells #[.slice aU nU' cU,.int .i64 lo',.slice aP nP' cP] 36)) (.cells #[.slice bU nU' dU,.int .i64 lo',.slice bP nP' dP] 36)
  simpa using this
 have B2:Below w.heap.size w w2:=by rw [hw2];go_grown
 have HU1:Hid (fY w2 aU nU' fun i=>.int .i64 (u' i)):=hA.u.up B2
 have HU2:Hid (fY w2 bU nU' fun i=>.int .i64 (u' i)):=hB.u.up B2
 have HP1:Hid (fY w2 aP nP' fun i=>.bool (p' i)):=hA.p.up B2
 have HP2:Hid (fY w2 bP nP' fun i=>.bool (p' i)):=hB.p.up B2
 have c1:=fG k1
 have c2:=fG k2
 rw [hw2] at c1 c2
 clear hs hA hB
 unfold Cnt.cells
 dsimp only
 go_enter Tryz.func32,Tryz.ntmps32
 go_wp2_with fail
 rw [←hw2]
 clear hw2 c1 c2
 refine (k9 aU bU nU' cU dU u' _ hs1 HU1.out HU2.out).mono ?_
 rintro e w3 ⟨rfl,hS⟩
 have c1:=fG ((congrArg (·[w.heap.size]?) hS.heap).trans k1)
 have c2:=fG ((congrArg (·[w.heap.size+1]?) hS.heap).trans k2)
 have b3:=hS.below w2.heap.size
 have B3:=B2.trans (b3.mono B2.size)
 have HP13:Hid (fY w3 aP nP' fun i=>.bool (p' i)):=HP1.out.up b3
 have HP23:Hid (fY w3 bP nP' fun i=>.bool (p' i)):=HP2.out.up b3
 clear hS k1 k2 b3 B2 HU1 HU2 HP1 HP2
 go_wp2_with fail
 refine (vW aP bP nP' cP dP p' _ hs2 HP13.out HP23.out).mono ?_
 rintro e w4 ⟨rfl,hS⟩
 have B4:=B3.trans ((hS.below w3.heap.size).mono B3.size)
 clear hS B3 HP13 HP23 c1 c2
 go_wp2_with fail
 go_ret
 exact ⟨rfl,B4⟩
theorem yW (a:Option Addr) (cap m:Nat) (w:World):Calls Tryz.prog 85 #[.slice a 0 cap,.int .i64 m] w fun e w'=>e=.returned (.int .i64 m)∧w=w':=by
 go_enter Tryz.func85,Tryz.ntmps85
 exact aW
theorem zK (a:Option Addr) (cap m:Nat) (w:World):Calls Tryz.prog 88 #[.slice a 0 cap,.int .i64 m] w fun e w'=>e=.returned (.int .i64 m)∧w=w':=by
 go_enter Tryz.func88,Tryz.ntmps88
 exact aW
theorem rn (a:Option Addr) (n cap m base:Nat) (F:Nat→Value) (w:World) (h:VT 2 w base a n F) (hn:n≤1048576) (hm:m≤100000000) :
  Calls Tryz.prog 85 #[.slice a n cap,.int .i64 m] w fun e w'=>e=.returned (.int .i64 ((m+n:Nat):Int))∧VT 2 w' base a n (fun i=>.int .i64 ((m+i:Nat):Int))∧Touch (gF a n) w w':=by
 by_cases h0:n=0
 ·
  subst h0
  refine (yW a cap m w).mono ?_
  rintro e w' ⟨rfl,rfl⟩
  exact ⟨by simp,.inl rfl,Touch.refl _ _⟩
 rcases h with h | ⟨g,rfl,hg,hr⟩
 ·
  exact absurd h h0
 refine (tl g n cap m _ w hr hn hm).mono ?_
 exact a6
theorem rX (a:Option Addr) (n cap m base:Nat) (w:World) (h:VT 2 w base a n (fun i=>.int .i64 ((m+i:Nat):Int))) (hn:n≤1048576) (hm:m≤100000000) :
  Calls Tryz.prog 88 #[.slice a n cap,.int .i64 m] w fun e w'=>e=.returned (.int .i64 ((m+n:Nat):Int))∧w=w':=by
 by_cases h0:n=0
 ·
  subst h0
  refine (zK a cap m w).mono ?_
  rintro e w' ⟨rfl,rfl⟩
  exact ⟨by simp,rfl⟩
 rcases h with h | ⟨g,rfl,hg,hr⟩
 ·
  exact absurd h h0
 exact uh g n cap m w hr hn hm
theorem xD (a:Option Addr) (cap m:Nat) (w:World):Calls Tryz.prog 86 #[.slice a 0 cap,.int .i64 m] w fun e w'=>e=.returned (.int .i64 m)∧w=w':=by
 go_enter Tryz.func86,Tryz.ntmps86
 exact aW
theorem xU (a:Option Addr) (cap m:Nat) (w:World):Calls Tryz.prog 89 #[.slice a 0 cap,.int .i64 m] w fun e w'=>e=.returned (.int .i64 m)∧w=w':=by
 go_enter Tryz.func89,Tryz.ntmps89
 exact aW
theorem pV (a:Option Addr) (n cap m base:Nat) (F:Nat→Value) (w:World) (h:VT 4 w base a n F) (hn:n≤1048576) (hm:m≤100000000) :
  Calls Tryz.prog 86 #[.slice a n cap,.int .i64 m] w fun e w'=>e=.returned (.int .i64 ((m+n:Nat):Int))∧VT 4 w' base a n (fun i=>.bool (mb (m+i)))∧Touch (gF a n) w w':=by
 by_cases h0:n=0
 ·
  subst h0
  refine (xD a cap m w).mono ?_
  rintro e w' ⟨rfl,rfl⟩
  exact ⟨by simp,.inl rfl,Touch.refl _ _⟩
 rcases h with h | ⟨g,rfl,hg,hr⟩
 ·
  exact absurd h h0
 refine (rv g n cap m _ w hr hn hm).mono ?_
 exact a6
theorem p9 (a:Option Addr) (n cap m base:Nat) (w:World) (h:VT 4 w base a n (fun i=>.bool (mb (m+i)))) (hn:n≤1048576) (hm:m≤100000000) :
  Calls Tryz.prog 89 #[.slice a n cap,.int .i64 m] w fun e w'=>e=.returned (.int .i64 ((m+n:Nat):Int))∧w=w':=by
 by_cases h0:n=0
 ·
  subst h0
  refine (xU a cap m w).mono ?_
  rintro e w' ⟨rfl,rfl⟩
  exact ⟨by simp,rfl⟩
 rcases h with h | ⟨g,rfl,hg,hr⟩
 ·
  exact absurd h h0
 exact rZ g n cap m w hr hn hm
theorem lr (C:Cfg) (w:World) :
  Calls Tryz.prog 183 #[.agg #[],.agg C.cells] w fun e w'=>e=.returned (.int .i64 C.lo)∧Below w.heap.size w w':=by
 have HA:Hid (∀ o o',Below w.heap.size w ((w.alloc o).alloc o')):=fun o o'=>((Below.refl _ _).alloc (Nat.le_refl _) _).alloc (by simp) _
 unfold Cfg.cells
 go_enter Tryz.func183,Tryz.ntmps183
 exact a7
theorem l4 (C:Cfg) (i:Int) (w:World) (h1:-1000≤C.xo) (h2:C.xo≤1000) (h3:-1000≤C.hd) (h4:C.hd≤1000) :
  Calls Tryz.prog 186 #[.agg #[.int .i64 i],.agg C.cells] w fun e w'=>e=.returned (.int .i64 (C.xo+C.hd))∧Below w.heap.size w w':=by
 have HA:Hid (∀ o o',Below w.heap.size w ((w.alloc o).alloc o')):=fun o o'=>((Below.refl _ _).alloc (Nat.le_refl _) _).alloc (by simp) _
 have e1:IntKind.i64.wrap (C.xo+C.hd)=C.xo+C.hd:=mv _ (by omega) (by omega)
 unfold Cfg.cells
 go_enter Tryz.func186,Tryz.ntmps186
 go_wp2_with fail
 go_ret
 exact ⟨jM (by first | rfl | exact e1 | exact e1.symm),HA.out _ _⟩
def xx (C:Cfg):Nat→Int
 | 0=>C.lo
 | _+1=>C.xo+C.hd
def sk (C:Cfg):Nat→Int
 | 0=>0
 | k+1=>sk C k+xx C k
theorem yS {C:Cfg} (h:C.Num) (k:Nat):0≤xx C k∧xx C k≤2000:=by
 have:=h.xo;have:=h.hd;have:=h.lo
 cases k <;> simp only [xx] <;> omega
theorem BJ {C:Cfg} (h:C.Num) (k:Nat):0≤sk C k∧sk C k≤2000*(k:Int):=by
 induction k with
 | zero=>simp [sk]
 | succ k ih =>
  have:=yS h k
  simp only [sk]
  omega
theorem AD {C:Cfg} {n:Nat} (h1:2≤n) (h2:n≤4):sk C (n+1)=(n:Int)*(C.xo+C.hd)+C.lo:=by
 have:n=2∨n=3∨n=4:=by omega
 rcases this with rfl | rfl | rfl <;> simp only [sk,xx] <;> omega
theorem s8 (C:Cfg) (n:Nat) (w:World) (hn:n≤4) (hp:C.p=(n:Int)) (hN:C.Num) :
  Calls Tryz.prog 126 #[.agg C.cells] w fun e w'=>e=.returned (.int .i64 (sk C (n+1)))∧Below w.heap.size w w':=by
 have HN:Hid C.Num:=hN
 have HP:Hid (C.p=(n:Int)):=hp
 have hB0:Below (w.heap.size+1) (w.alloc (.cells #[.int .i64 C.p,.int .i64 C.c,.int .i64 C.xo,.int .i64 C.xn,.int .i64 C.hd,.int .i64 C.lo,.int .i64 C.dl] 34)) (w.alloc (.cells #[.int .i64 C.p,.int .i64 C.c,.int .i64 C.xo,.int .i64 C.xn,.int .i64 C.hd,.int .i64 C.lo,.int .i64 C.dl] 34)):=Below.refl _ _
 clear hN hp
 unfold Cfg.cells
 go_enter Tryz.func126,Tryz.ntmps126
 go_wp2_with fail
 refine (oy C n _ hn HP.out).mono ?_
 rintro e w1 ⟨⟨g,cap,rfl,hown⟩,hb1⟩
 have hB1:=next hB0 hb1
 have HR:Hid (fY w1 (some ⟨g,0,none⟩) (n+1) B8):=tr hown
 clear hb1 hB0 hown
 go_wp2_with fail
 go_loopw [3,9] (fun s i wr=>∃ k:Nat,k≤n+1∧i=.int .i64 k∧s=.int .i64 (sk C k)∧Below w1.heap.size w1 wr) (fun _ i _=>n+1-(intOf i).toNat)
 case atStart=>exact ⟨0,Nat.zero_le _,rfl,rfl,Below.refl _ _⟩
 obtain ⟨k,hk,rfl,rfl,hBr⟩:=hrel
 have hB:=next hB1 hBr
 have cb:=boxed hB
 have HS:Hid (0≤sk C k∧sk C k≤2000*(k:Int)):=BJ HN.out k
 by_cases hlt:k<n+1
 ·
  have hlt':(k:Int)<((n+1:Nat):Int):=by omega
  obtain ⟨g',o',ea,c1⟩:=(HR.out.up hBr) k hlt
  cases ea
  rw [Nat.zero_add] at c1
  have HM:Hid (IntKind.i64.wrap (sk C k+xx C k)=sk C (k+1)):=by
   have:=HS.out
   have:=yS HN.out k
   exact mv _ (by omega) (by omega)
  cases k with
  | zero =>
   dsimp only [B8,pz] at c1
   have e1:IntKind.i64.wrap (sk C 0+C.lo)=sk C 1:=HM.out
   go_wp2_with fail
   refine (lr C _).mono ?_
   rintro e w2 ⟨rfl,hb2⟩
   have hBr2:=hBr.trans (hb2.mono hBr.size)
   clear hBr hb2 hB cb c1 HM
   go_wp2_with fail
   go_roundw
   case rel=>exact ⟨1,by omega,by first | rfl | go_num,by first | rfl | (rw [e1]),hBr2⟩
   case measure=>simp [intOf]
  | succ j =>
   dsimp only [B8,rb] at c1
   have e1:IntKind.i64.wrap (sk C (j+1)+(C.xo+C.hd))=sk C (j+1+1):=HM.out
   go_wp2_with fail
   refine (l4 C _ _ (by have:=HN.out.xo;omega) (by have:=HN.out.xo;omega) (by have:=HN.out.hd;omega) (by have:=HN.out.hd;omega)).mono ?_
   rintro e w2 ⟨rfl,hb2⟩
   have hBr2:=hBr.trans (hb2.mono hBr.size)
   clear hBr hb2 hB cb c1 HM
   go_wp2_with fail
   go_roundw
   case rel=>exact ⟨j+1+1,by omega,by go_num,by first | rfl | (rw [e1]),hBr2⟩
   case measure=>simp [intOf];omega
 obtain rfl:k=n+1:=by omega
 have B:=under hB
 go_wp2_with fail
 go_ret
 exact ⟨rfl,B⟩
theorem rS (C:Cfg) (w:World) (ok:Bool) (hok:ok=true↔C.Ok) :
  Calls Tryz.prog 104 #[.agg C.cells] w fun e w'=>e=.returned (.bool ok)∧Below w.heap.size w w':=by
 obtain ⟨b,hb⟩:=pt C.Num
 have HO:Hid (ok=true↔C.Ok):=hok
 have hB:Below (w.heap.size+1) (w.alloc (.cells #[.int .i64 C.p,.int .i64 C.c,.int .i64 C.xo,.int .i64 C.xn,.int .i64 C.hd,.int .i64 C.lo,.int .i64 C.dl] 34)) (w.alloc (.cells #[.int .i64 C.p,.int .i64 C.c,.int .i64 C.xo,.int .i64 C.xn,.int .i64 C.hd,.int .i64 C.lo,.int .i64 C.dl] 34)):=Below.refl _ _
 have cb:=boxed hB
 clear hok
 unfold Cfg.cells
 cases b
 ·
  have HF:Hid (ok=false):=by
   show ok=false
   rw [Bool.eq_false_iff]
   intro e
   have:=hb.2 (HO.out.1 e).num
   cases this
  have HNb:Hid (false=true↔C.Num):=hb
  clear hb
  go_enter Tryz.func104,Tryz.ntmps104
  go_wp2_with fail
  refine wp_region_held_drew (S:=fun w'=>∀ o,w'.cell? ⟨w.heap.size,o,none⟩=(#[.int .i64 C.p,.int .i64 C.c,.int .i64 C.xo,.int .i64 C.xn,.int .i64 C.hd,.int .i64 C.lo,.int .i64 C.dl]:Array Value)[o]?) (by kernel_rfl) cb (fun hHeld=>?_)
  refine t0 ?_
  refine rq1 1 (fun K hK=>?_)
  go_simp
  have hB:=hB.drew
  refine (rQ C _ false HNb.out).mono ?_
  rintro e w1 ⟨rfl,hb1⟩
  replace hB:=next hB hb1
  have cb:=boxed hB
  clear hb1
  go_wp2_with fail
  refine hK.out _ _ cb (fun hHeld=>?_)
  clear hK K
  try simp only [Act.put,PZ]
  refine tN ?_
  iterate 5 refine sN ?_
  iterate 2 refine tN ?_
  exact aX
 have HNm:Hid C.Num:=hb.1 rfl
 have HNb:Hid (true=true↔C.Num):=hb
 clear hb
 by_cases hh:C.hd≥5*(2*C.dl+1)
 rotate_left
 ·
  have HF:Hid (ok=false):=by
   show ok=false
   rw [Bool.eq_false_iff]
   intro e
   exact hh (HO.out.1 e).head
  have hh':decide (5*(2*C.dl+1)≤C.hd)=false:=decide_eq_false hh
  go_enter Tryz.func104,Tryz.ntmps104
  go_wp2_with fail
  refine wp_region_held_drew (S:=fun w'=>∀ o,w'.cell? ⟨w.heap.size,o,none⟩=(#[.int .i64 C.p,.int .i64 C.c,.int .i64 C.xo,.int .i64 C.xn,.int .i64 C.hd,.int .i64 C.lo,.int .i64 C.dl]:Array Value)[o]?) (by kernel_rfl) cb (fun hHeld=>?_)
  refine t0 ?_
  refine rq1 1 (fun K hK=>?_)
  go_simp
  have hB:=hB.drew
  refine (rQ C _ true ⟨fun _=>HNm.out,fun _=>rfl⟩).mono ?_
  rintro e w1 ⟨rfl,hb1⟩
  replace hB:=next hB hb1
  have cb:=boxed hB
  clear hb1
  go_wp2_with fail
  refine hK.out _ _ cb (fun hHeld=>?_)
  clear hK K
  try simp only [Act.put,PZ]
  iterate 4 refine tN ?_
  refine rq1 6 (fun K hK=>?_)
  go_simp
  refine (mJ C _ HNm.out.dl.1 HNm.out.dl.2).mono ?_
  rintro e w2 ⟨rfl,hb2⟩
  replace hB:=next hB hb2
  replace cb:=boxed hB
  clear hb2
  go_wp2_with fail
  refine hK.out _ _ cb (fun hHeld=>?_)
  clear hK K
  try simp only [Act.put,PZ]
  iterate 3 refine tN ?_
  exact aX
 have hh':decide (5*(2*C.dl+1)≤C.hd)=true:=decide_eq_true hh
 have HH:Hid (C.hd≥5*(2*C.dl+1)):=hh
 obtain ⟨n,hn2,hn4,hpn⟩:∃ n:Nat,2≤n∧n≤4∧C.p=(n:Int):=⟨C.p.toNat,by have:=HNm.out.p;omega,by have:=HNm.out.p;omega,by have:=HNm.out.p;omega⟩
 have HP:Hid (C.p=(n:Int)):=hpn
 have HE:Hid (decide (sk C (n+1)≤C.c)=ok):=by
  rw [Hid,Bool.eq_iff_iff,HO.out,AD hn2 hn4,←hpn]
  simp only [decide_eq_true_eq]
  exact ⟨fun h=>⟨HNm.out,HH.out,h⟩,fun h=>h.sum⟩
 clear hh hpn
 go_enter Tryz.func104,Tryz.ntmps104
 go_wp2_with fail
 refine wp_region_held_drew (S:=fun w'=>∀ o,w'.cell? ⟨w.heap.size,o,none⟩=(#[.int .i64 C.p,.int .i64 C.c,.int .i64 C.xo,.int .i64 C.xn,.int .i64 C.hd,.int .i64 C.lo,.int .i64 C.dl]:Array Value)[o]?) (by kernel_rfl) cb (fun hHeld=>?_)
 refine t0 ?_
 refine rq1 1 (fun K hK=>?_)
 go_simp
 have hB:=hB.drew
 refine (rQ C _ true ⟨fun _=>HNm.out,fun _=>rfl⟩).mono ?_
 rintro e w1 ⟨rfl,hb1⟩
 replace hB:=next hB hb1
 have cb:=boxed hB
 clear hb1
 go_wp2_with fail
 refine hK.out _ _ cb (fun hHeld=>?_)
 clear hK K
 try simp only [Act.put,PZ]
 iterate 4 refine tN ?_
 refine rq1 6 (fun K hK=>?_)
 go_simp
 refine (mJ C _ HNm.out.dl.1 HNm.out.dl.2).mono ?_
 rintro e w2 ⟨rfl,hb2⟩
 replace hB:=next hB hb2
 replace cb:=boxed hB
 clear hb2
 go_wp2_with fail
 refine hK.out _ _ cb (fun hHeld=>?_)
 clear hK K
 try simp only [Act.put,PZ]
 iterate 4 refine tN ?_
 refine tQ 12 15 ?_
 refine tQ 13 16 ?_
 refine rq1 11 (fun K hK=>?_)
 go_simp
 refine (s8 C n _ hn4 HP.out HNm.out).mono ?_
 rintro e w3 ⟨rfl,hb3⟩
 replace hB:=next hB hb3
 replace cb:=boxed hB
 clear hb3
 go_wp2_with fail
 refine hK.out _ _ cb (fun hHeld=>?_)
 clear hK K
 try simp only [Act.put,PZ]
 refine tQ 14 17 ?_
 refine tQ 15 18 ?_
 refine rq1 16 (fun K hK=>?_)
 go_simp
 refine hK.out _ _ cb (fun hHeld=>?_)
 clear hK K
 try simp only [Act.put,PZ]
 refine dnq ?_
 have B:=under hB
 go_wp2_with fail
 go_ret
 exact ⟨fQ HE.out,B⟩
theorem qZ (C:Cfg) (w:World) (ok:Bool) (hok:ok=true↔C.Ok) :
  Calls Tryz.prog 94 #[.agg C.cells] w fun e w'=>e=.returned (.bool ok)∧Below w.heap.size w w':=by
 have HO:Hid (ok=true↔C.Ok):=hok
 have HA:Hid (∀ o,Below w.heap.size w (w.alloc o)):=fun o=>(Below.refl _ _).alloc (Nat.le_refl _) _
 clear hok
 unfold Cfg.cells
 go_enter Tryz.func94,Tryz.ntmps94
 go_wp2_with fail
 refine (fW _ _ _ _).mono ?_
 rintro e w' ⟨rfl,hw⟩
 rw [hw]
 clear hw w'
 by_cases h_p:2≤C.p∧C.p≤4
 rotate_left
 ·
  have HF:Hid (ok=false):=by
   show ok=false
   rw [Bool.eq_false_iff]
   intro e
   exact h_p (HO.out.1 e).num.p
  rw [decide_eq_false h_p]
  clear h_p
  exact aV
 rw [decide_eq_true h_p]
 have H_p:Hid (2≤C.p∧C.p≤4):=h_p
 clear h_p
 go_wp2_with fail
 refine (fW _ _ _ _).mono ?_
 rintro e w' ⟨rfl,hw⟩
 rw [hw]
 clear hw w'
 by_cases h_c:1≤C.c∧C.c≤1000
 rotate_left
 ·
  have HF:Hid (ok=false):=by
   show ok=false
   rw [Bool.eq_false_iff]
   intro e
   exact h_c (HO.out.1 e).num.c
  rw [decide_eq_false h_c]
  clear h_c
  exact aV
 rw [decide_eq_true h_c]
 have H_c:Hid (1≤C.c∧C.c≤1000):=h_c
 clear h_c
 go_wp2_with fail
 refine (fW _ _ _ _).mono ?_
 rintro e w' ⟨rfl,hw⟩
 rw [hw]
 clear hw w'
 by_cases h_xo:1≤C.xo∧C.xo≤1000
 rotate_left
 ·
  have HF:Hid (ok=false):=by
   show ok=false
   rw [Bool.eq_false_iff]
   intro e
   exact h_xo (HO.out.1 e).num.xo
  rw [decide_eq_false h_xo]
  clear h_xo
  exact aV
 rw [decide_eq_true h_xo]
 have H_xo:Hid (1≤C.xo∧C.xo≤1000):=h_xo
 have h_xo1:=h_xo.1
 have h_xo2:=h_xo.2
 clear h_xo
 go_wp2_with fail
 refine (fW _ _ _ _).mono ?_
 rintro e w' ⟨rfl,hw⟩
 rw [hw]
 clear hw w'
 by_cases h_xn:0≤C.xn∧C.xn≤C.xo-1
 rotate_left
 ·
  have HF:Hid (ok=false):=by
   show ok=false
   rw [Bool.eq_false_iff]
   intro e
   exact h_xn (HO.out.1 e).num.xn
  rw [decide_eq_false h_xn]
  clear h_xn
  exact aV
 rw [decide_eq_true h_xn]
 have H_xn:Hid (0≤C.xn∧C.xn≤C.xo-1):=h_xn
 clear h_xn
 go_wp2_with fail
 refine (fW _ _ _ _).mono ?_
 rintro e w' ⟨rfl,hw⟩
 rw [hw]
 clear hw w'
 by_cases h_hd:0≤C.hd∧C.hd≤1000
 rotate_left
 ·
  have HF:Hid (ok=false):=by
   show ok=false
   rw [Bool.eq_false_iff]
   intro e
   exact h_hd (HO.out.1 e).num.hd
  rw [decide_eq_false h_hd]
  clear h_hd
  exact aV
 rw [decide_eq_true h_hd]
 have H_hd:Hid (0≤C.hd∧C.hd≤1000):=h_hd
 clear h_hd
 go_wp2_with fail
 refine (fW _ _ _ _).mono ?_
 rintro e w' ⟨rfl,hw⟩
 rw [hw]
 clear hw w'
 by_cases h_lo:0≤C.lo∧C.lo≤1000
 rotate_left
 ·
  have HF:Hid (ok=false):=by
   show ok=false
   rw [Bool.eq_false_iff]
   intro e
   exact h_lo (HO.out.1 e).num.lo
  rw [decide_eq_false h_lo]
  clear h_lo
  exact aV
 rw [decide_eq_true h_lo]
 have H_lo:Hid (0≤C.lo∧C.lo≤1000):=h_lo
 clear h_lo
 go_wp2_with fail
 refine (fW _ _ _ _).mono ?_
 rintro e w' ⟨rfl,hw⟩
 rw [hw]
 clear hw w'
 by_cases h_dl:1≤C.dl∧C.dl≤3
 rotate_left
 ·
  have HF:Hid (ok=false):=by
   show ok=false
   rw [Bool.eq_false_iff]
   intro e
   exact h_dl (HO.out.1 e).num.dl
  rw [decide_eq_false h_dl]
  clear h_dl
  exact aV
 rw [decide_eq_true h_dl]
 have H_dl:Hid (1≤C.dl∧C.dl≤3):=h_dl
 clear h_dl
 have HNm:Hid C.Num:=⟨H_p.out,H_c.out,H_xo.out,H_xn.out,H_hd.out,H_lo.out,H_dl.out⟩
 have e1:IntKind.i64.wrap (2*C.dl)=2*C.dl:=mv _ (by have:=H_dl.out;omega) (by have:=H_dl.out;omega)
 have e2:IntKind.i64.wrap (2*C.dl+1)=2*C.dl+1:=mv _ (by have:=H_dl.out;omega) (by have:=H_dl.out;omega)
 have e3:IntKind.i64.wrap ((2*C.dl+1)*5)=(2*C.dl+1)*5:=mv _ (by have:=H_dl.out;omega) (by have:=H_dl.out;omega)
 have e4:IntKind.i64.wrap (C.xo+C.hd)=C.xo+C.hd:=mv _ (by have:=H_xo.out;have:=H_hd.out;omega) (by have:=H_xo.out;have:=H_hd.out;omega)
 have hpc:2≤C.p∧C.p≤4:=H_p.out
 have hp3:C.p=2∨C.p=3∨C.p=4:=by omega
 have e5:IntKind.i64.wrap (C.p*(C.xo+C.hd))=C.p*(C.xo+C.hd):=by
  have:=H_xo.out
  have:=H_hd.out
  exact a8
 have e6:IntKind.i64.wrap (C.p*(C.xo+C.hd)+C.lo)=C.p*(C.xo+C.hd)+C.lo:=by
  have:=H_xo.out
  have:=H_hd.out
  have:=H_lo.out
  exact a8
 clear hpc hp3
 by_cases hh:(2*C.dl+1)*5≤C.hd
 rotate_left
 ·
  have HF:Hid (ok=false):=by
   show ok=false
   rw [Bool.eq_false_iff]
   intro e
   have:=(HO.out.1 e).head
   omega
  have hh':decide ((2*C.dl+1)*5≤C.hd)=false:=decide_eq_false hh
  exact aV
 have hh':decide ((2*C.dl+1)*5≤C.hd)=true:=decide_eq_true hh
 have HE:Hid (decide (C.p*(C.xo+C.hd)+C.lo≤C.c)=ok):=by
  rw [Hid,Bool.eq_iff_iff,HO.out]
  simp only [decide_eq_true_eq]
  exact ⟨fun h=>⟨HNm.out,by omega,h⟩,fun h=>h.sum⟩
 go_wp2_with fail
 go_ret
 exact ⟨fQ HE.out,HA.out _⟩
theorem iv {w wi:World} {A B:Array Value} {t s:TypeId} (h:Below (w.heap.size+2) ((w.alloc (.cells A t)).alloc (.cells B s)) wi):(∀ o,wi.cell? ⟨w.heap.size,o,none⟩=A[o]?)∧∀ o,wi.cell? ⟨w.heap.size+1,o,none⟩=B[o]?:=by
 have k1:wi.heap[w.heap.size]?=some (.cells A t (0,0)):=(h.block _ (by omega)).trans ((gg _ (by simp)).trans (fL _ _))
 have k2:wi.heap[w.heap.size+1]?=some (.cells B s (0,0)):=by
  refine (h.block _ (by omega)).trans ?_
  have:=fL (w.alloc (.cells A t)) (.cells B s)
  simpa using this
 exact ⟨fG k1,fG k2⟩
theorem iR {w wi:World} {o o':Obj} (h:Below (w.heap.size+2) ((w.alloc o).alloc o') wi):Below w.heap.size w wi :=
 (((Below.refl _ _).alloc (Nat.le_refl _) o).alloc (by simp) o').trans (h.mono (by omega))
theorem kH {w wi:World} {o o':Obj} (h:Below (w.heap.size+2) ((w.alloc o).alloc o') wi):w.heap.size+2≤wi.heap.size:=by
 have:=h.size
 simpa using this
theorem lV {w wi wj:World} {o o':Obj} (h:Below (w.heap.size+2) ((w.alloc o).alloc o') wi) (k:Below wi.heap.size wi wj):Below (w.heap.size+2) ((w.alloc o).alloc o') wj :=
 h.trans (k.mono (kH h))
theorem ni (N:Cnt) (w:World) :
  Calls Tryz.prog 182 #[.agg #[],.agg N.cells] w fun e w'=>e=.returned (.int .i64 N.lo)∧Below w.heap.size w w':=by
 have HA:Hid (∀ o o',Below w.heap.size w ((w.alloc o).alloc o')):=fun o o'=>((Below.refl _ _).alloc (Nat.le_refl _) _).alloc (by simp) _
 unfold Cnt.cells
 go_enter Tryz.func182,Tryz.ntmps182
 exact a7
theorem ov (N:Cnt) (i:Nat) (w:World) (hf:N.Fit) (hi:i<N.nU) (h:ja w N) :
  Calls Tryz.prog 185 #[.agg #[.int .i64 i],.agg N.cells] w fun e w'=>e=.returned (.int .i64 (N.u i))∧Below w.heap.size w w':=by
 have HA:Hid (∀ o o',Below w.heap.size w ((w.alloc o).alloc o')):=fun o o'=>((Below.refl _ _).alloc (Nat.le_refl _) _).alloc (by simp) _
 obtain ⟨aU,nU,cU,u,lo,aP,nP,cP,p⟩:=N
 have hi':i<nU:=hi
 have hi2:(i:Int)<nU:=by omega
 have hU:fY w aU nU fun i=>.int .i64 (u i):=h.u
 have hm:nU≤maxLen:=hf.u
 obtain ⟨g,o,rfl,hc⟩:=hU i hi'
 have hc2:∀ ob ob',((w.alloc ob).alloc ob').cell? ⟨g,o+i,none⟩=some (.int .i64 (u i)):=fun ob ob'=>((HA.out ob ob').cell (p:=⟨g,o+i,none⟩) (iu hc)).trans hc
 clear h hf hi hU hc
 unfold Cnt.cells
 go_enter Tryz.func185,Tryz.ntmps185
 exact a7
theorem lj (C:Cfg) (N:Cnt) (w:World) (hf:N.Fit) (h:ja w N) (ok:Bool) (hok:ok=true↔Cnt.Ok C N) :
  Calls Tryz.prog 49 #[.agg C.cells,.agg N.cells] w fun e w'=>e=.returned (.bool ok)∧Below w.heap.size w w':=by
 obtain ⟨b,hb⟩:=pt C.Ok
 have HO:Hid (ok=true↔Cnt.Ok C N):=hok
 have HR:Hid (ja w N):=h
 have HF:Hid N.Fit:=hf
 have HCb:Hid (b=true↔C.Ok):=hb
 have hU3:(N.nU:Int)≤9223372036854775807:=by have:=hf.u;unfold maxLen at this;omega
 have hP3:(N.nP:Int)≤9223372036854775807:=by have:=hf.p;unfold maxLen at this;omega
 have HB0:Hid (Below (w.heap.size+2) ((w.alloc (.cells #[.int .i64 C.p,.int .i64 C.c,.int .i64 C.xo,.int .i64 C.xn,.int .i64 C.hd,.int .i64 C.lo,.int .i64 C.dl] 34)).alloc (.cells #[.slice N.aU N.nU N.cU,.int .i64 N.lo,.slice N.aP N.nP N.cP] 36)) ((w.alloc (.cells #[.int .i64 C.p,.int .i64 C.c,.int .i64 C.xo,.int .i64 C.xn,.int .i64 C.hd,.int .i64 C.lo,.int .i64 C.dl] 34)).alloc (.cells #[.slice N.aU N.nU N.cU,.int .i64 N.lo,.slice N.aP N.nP N.cP] 36))):=Below.refl _ _
 clear hok h hf hb
 unfold Cfg.cells Cnt.cells
 go_enter Tryz.func49,Tryz.ntmps49
 go_wp2_with fail
 refine (qZ C _ b HCb.out).mono ?_
 rintro e w1 ⟨rfl,hb1⟩
 have hB:=lV HB0.out hb1
 have cb:=(iv hB).1
 have cn:=(iv hB).2
 clear hb1
 cases b
 ·
  have HE:Hid (ok=false):=by
   show ok=false
   rw [Bool.eq_false_iff]
   intro e
   have:=HCb.out.2 (HO.out.1 e).c
   cases this
  have B:=iR hB
  exact aY
 have HC:Hid C.Ok:=HCb.out.1 rfl
 clear HCb
 by_cases hU:(N.nU:Int)=C.p
 rotate_left
 ·
  have HE:Hid (ok=false):=by
   show ok=false
   rw [Bool.eq_false_iff]
   intro e
   exact hU (HO.out.1 e).nU
  have hU':((N.nU:Int) != C.p)=true:=by simpa using hU
  have B:=iR hB
  clear hU
  exact aY
 have hU':((N.nU:Int) != C.p)=false:=by simpa using hU
 have HU:Hid ((N.nU:Int)=C.p):=hU
 clear hU
 by_cases hP:(N.nP:Int)=C.p
 rotate_left
 ·
  have HE:Hid (ok=false):=by
   show ok=false
   rw [Bool.eq_false_iff]
   intro e
   exact hP (HO.out.1 e).nP
  have hP':((N.nP:Int) != C.p)=true:=by simpa using hP
  have B:=iR hB
  clear hP
  exact aY
 have hP':((N.nP:Int) != C.p)=false:=by simpa using hP
 have HP:Hid ((N.nP:Int)=C.p):=hP
 clear hP
 go_wp2_with fail
 refine (fW _ _ _ _).mono ?_
 rintro e w' ⟨rfl,hw⟩
 rw [hw]
 clear hw w'
 by_cases hL:0≤N.lo∧N.lo≤C.lo
 rotate_left
 ·
  have HE:Hid (ok=false):=by
   show ok=false
   rw [Bool.eq_false_iff]
   intro e
   exact hL (HO.out.1 e).lo
  have B:=iR hB
  rw [decide_eq_false hL]
  clear hL
  exact aY
 rw [decide_eq_true hL]
 have HL:Hid (0≤N.lo∧N.lo≤C.lo):=hL
 clear hL
 go_wp2_with fail
 have e4:IntKind.i64.wrap (C.xo+C.hd)=C.xo+C.hd:=mv _ (by have:=HC.out.num.xo;have:=HC.out.num.hd;omega) (by have:=HC.out.num.xo;have:=HC.out.num.hd;omega)
 go_loopw [5] (fun i wr=>∃ k:Nat,k≤N.nU∧i=.int .i64 k∧(∀ j,j<k→0≤N.u j∧N.u j≤C.xo+C.hd)∧Below w1.heap.size w1 wr) (fun i _=>N.nU-(intOf i).toNat)
 case atStart=>exact ⟨0,Nat.zero_le _,rfl,fun j hj=>by omega,Below.refl _ _⟩
 obtain ⟨k,hk,rfl,hall,hBr⟩:=hrel
 have HA:Hid (∀ j,j<k→0≤N.u j∧N.u j≤C.xo+C.hd):=hall
 clear hall cb cn
 have hB2:=lV hB hBr
 have cb:=(iv hB2).1
 have cn:=(iv hB2).2
 by_cases hlt:k<N.nU
 ·
  have hlt':(k:Int)<N.nU:=by omega
  obtain ⟨g,o,ea,c0⟩:=(HR.out.u.up (iR hB2)) k hlt
  dsimp only at c0
  rw [ea] at cn
  clear ea
  have hz9:(k:Int)≤9223372036854775807:=by omega
  by_cases hz:0≤N.u k∧N.u k≤C.xo+C.hd
  ·
   go_wp2_with fail
   refine wp_region_held_drew (S:=fun w'=>(∀ o,w'.cell? ⟨w.heap.size,o,none⟩=(#[.int .i64 C.p,.int .i64 C.c,.int .i64 C.xo,.int .i64 C.xn,.int .i64 C.hd,.int .i64 C.lo,.int .i64 C.dl]:Array Value)[o]?)∧(∀ o',w'.cell? ⟨w.heap.size+1,o',none⟩=(#[.slice (some ⟨g,o,none⟩) N.nU N.cU,.int .i64 N.lo,.slice N.aP N.nP N.cP]:Array Value)[o']?)∧w'.cell? ⟨g,o+k,none⟩=some (.int .i64 (N.u k))) (by kernel_rfl) ⟨cb,cn,c0⟩ (fun hHeld=>?_)
   refine t0 ?_
   iterate 9 refine tN ?_
   refine rq1 10 (fun K hK=>?_)
   go_simp
   refine (fW _ _ _ _).mono ?_
   rintro e w' ⟨rfl,hw⟩
   rw [hw]
   clear hw w'
   rw [decide_eq_true hz]
   go_wp2_with fail
   refine hK.out _ _ ⟨cb,cn,c0⟩ (fun hHeld=>?_)
   clear hK K
   try simp only [Act.put,PZ]
   refine tN ?_
   refine dnq ?_
   have HZ:Hid (0≤N.u k∧N.u k≤C.xo+C.hd):=hz
   clear hz
   go_wp2_with fail
   go_roundw
   case rel=>exact ⟨k+1,by omega,by go_num,fun j hj=>by
    by_cases e:j=k
    ·
     subst e;exact HZ.out
    ·
     exact HA.out j (by omega),hBr.drew⟩
   case measure=>simp [intOf];omega
  have HE:Hid (ok=false):=by
   show ok=false
   rw [Bool.eq_false_iff]
   intro e
   exact hz ((HO.out.1 e).u k hlt)
  go_wp2_with fail
  refine wp_region_held_drew (S:=fun w'=>(∀ o,w'.cell? ⟨w.heap.size,o,none⟩=(#[.int .i64 C.p,.int .i64 C.c,.int .i64 C.xo,.int .i64 C.xn,.int .i64 C.hd,.int .i64 C.lo,.int .i64 C.dl]:Array Value)[o]?)∧(∀ o',w'.cell? ⟨w.heap.size+1,o',none⟩=(#[.slice (some ⟨g,o,none⟩) N.nU N.cU,.int .i64 N.lo,.slice N.aP N.nP N.cP]:Array Value)[o']?)∧w'.cell? ⟨g,o+k,none⟩=some (.int .i64 (N.u k))) (by kernel_rfl) ⟨cb,cn,c0⟩ (fun hHeld=>?_)
  refine t0 ?_
  iterate 9 refine tN ?_
  refine rq1 10 (fun K hK=>?_)
  go_simp
  refine (fW _ _ _ _).mono ?_
  rintro e w' ⟨rfl,hw⟩
  rw [hw]
  clear hw w'
  rw [decide_eq_false hz]
  go_wp2_with fail
  refine hK.out _ _ ⟨cb,cn,c0⟩ (fun hHeld=>?_)
  clear hK K
  try simp only [Act.put,PZ]
  refine tN ?_
  refine dnq ?_
  have B:=(iR hB2).drew
  exact aY
 obtain rfl:k=N.nU:=by omega
 have HT:Hid (ok=true):=HO.out.2 ⟨HC.out,HU.out,HP.out,HL.out,HA.out⟩
 have B:=iR hB2
 go_wp2_with fail
 go_ret
 exact ⟨fQ HT.out.symm,B⟩
theorem zm {w wi:World} {o o':Obj} (h:Below (w.heap.size+2) ((w.alloc o).alloc o') wi):wi.heap[w.heap.size]?=some o∧wi.heap[w.heap.size+1]?=some o':=by
 refine ⟨(h.block _ (by omega)).trans ((gg _ (by simp)).trans (fL _ _)),(h.block _ (by omega)).trans ?_⟩
 have:=fL (w.alloc o) o'
 simpa using this
def ym:Cnt:=⟨none,0,0,fun _=>0,0,none,0,0,fun _=>false⟩
theorem o6 (w:World) (base:Nat):gR w base ym:=⟨.inl rfl,.inl rfl⟩
def j6 (W:World) (g:Nat) (a b c:Value):World:=((W.setCell ⟨g,0,none⟩ a).setCell ⟨g,1,none⟩ b).setCell ⟨g,2,none⟩ c
theorem iG {W:World} {g:Nat} {x y z:Value} {t:TypeId} (h:W.heap[g]?=some (.cells #[x,y,z] t (0,0))) (a b c:Value):(j6 W g a b c).heap[g]?=some (.cells #[a,b,c] t (0,0)):=gj (gj (gj h _) _) _
theorem ia (W:World) (g:Nat) (a b c:Value):Touch [g] W (j6 W g a b c):=(((Touch.refl _ _).set (by simp) 0 a).set (by simp) 1 b).set (by simp) 2 c
end Go.Proofs.YtfcfpkibceepgaaGreat
