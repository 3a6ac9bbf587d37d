import Derived.Test.YtjippgbmmlcgoaaGreatDoorB01
import Derived.Test.YtjippgbmmlcgoaaGreatDoorB02
namespace Go.Proofs.YtjippgbmmlcgoaaGreatDoor
open Go.RowKit
set_option linter.unusedVariables false
theorem an {p:Prop} (h:p:=by
 go_wp2
 go_ret
 exact ⟨lR (by omega),(Below.refl _ _).alloc (Nat.le_refl _) _⟩):p:=h
theorem Cg {k d s p:Int} {n:Nat} (h:mc k d s p n=true):n≤40:=by
 unfold mc at h
 simp only [decide_eq_true_eq] at h
 omega
theorem xv (n:Int) (w:World) (h0:0≤n) (h1:n≤100000000) :
  Calls Tryz.prog 107 #[.int .i64 n] w fun e w'=>e=.returned (.int .i64 ((n+9) / 10))∧w'=w:=by
 go_enter Tryz.func107,Tryz.ntmps107
 go_wp2
 go_ret
 exact ⟨lR (by omega),rfl⟩
theorem wo (k d s p:Int) (b:ByteArray) (w:World) (hb:b.size≤40) :
  Calls Tryz.prog 108 #[.agg #[.int .i64 k,.int .i64 d,.int .i64 s,.int .i64 p,.string b]] w fun e w'=>e=.returned (.int .i64 (b.size+9))∧Below w.heap.size w w':=by
 go_enter Tryz.func108,Tryz.ntmps108
 exact an
theorem jr (k d s p:Int) (b:ByteArray) (w:World) (hb:b.size≤40) :
  Calls Tryz.prog 58 #[.agg #[.int .i64 k,.int .i64 d,.int .i64 s,.int .i64 p,.string b]] w fun e w'=>e=.returned (.int .i64 ((b.size+9+9) / 10))∧Below w.heap.size w w':=by
 go_enter Tryz.func58,Tryz.ntmps58
 exact an
def qo (k d s p:Int) (n:Nat):Int:=if mc k d s p n then (n+9+9) / 10 else 0
theorem kJ (k d s p:Int) (b:ByteArray) (w:World) (hb:b.size≤maxLen) :
  Calls Tryz.prog 73 #[.agg #[.int .i64 k,.int .i64 d,.int .i64 s,.int .i64 p,.string b]] w fun e w'=>e=.returned (.int .i64 (qo k d s p b.size))∧Below w.heap.size w w':=by
 cases hok:mc k d s p b.size
 ·
  have hv:qo k d s p b.size=0:=by simp [qo,hok]
  rw [hv]
  go_enter Tryz.func73,Tryz.ntmps73
  go_wp2_with fail
  refine (mH _ _ _ _ _ _ hb).mono ?_
  rintro e w1 ⟨rfl,hb1⟩
  rw [hok]
  have B1:=first hb1
  go_wp2_with fail
  go_ret
  exact ⟨rfl,under B1⟩
 have hv:qo k d s p b.size=(b.size+9+9) / 10:=by simp [qo,hok]
 have hle:=Cg hok
 rw [hv]
 clear hv
 go_enter Tryz.func73,Tryz.ntmps73
 go_wp2_with fail
 refine (mH _ _ _ _ _ _ hb).mono ?_
 rintro e w1 ⟨rfl,hb1⟩
 rw [hok]
 have B1:=first hb1
 have hc1:=boxed B1
 clear hb1 hok
 go_wp2_with fail
 refine (wo _ _ _ _ _ _ hle).mono ?_
 rintro e w2 ⟨rfl,hb2⟩
 have B2:=next B1 hb2
 clear hb2 hc1
 go_wp2_with fail
 refine (xv _ _ (by omega) (by omega)).mono ?_
 rintro e w3 ⟨rfl,rfl⟩
 go_wp2_with fail
 go_ret
 exact ⟨rfl,under B2⟩
