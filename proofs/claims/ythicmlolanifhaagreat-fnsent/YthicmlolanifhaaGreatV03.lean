import Derived.Test.YthicmlolanifhaaGreatV01
import Derived.Test.YthicmlolanifhaaGreatV02
namespace Go.Proofs.YthicmlolanifhaaGreat
open Go.RowKit
set_option linter.unusedVariables false
theorem ak {p:Prop} (h:p:=by
 go_wp2
 go_ret
 exact ⟨qj (by omega),(Below.refl _ _).alloc (Nat.le_refl _) _⟩):p:=h
theorem Cx {k d s p:Int} {n:Nat} (h:nm k d s p n=true):n≤40:=by
 unfold nm at h
 simp only [decide_eq_true_eq] at h
 omega
theorem ya (n:Int) (w:World) (h0:0≤n) (h1:n≤100000000) :
  Calls Tryz.prog 112 #[.int .i64 n] w fun e w'=>e=.returned (.int .i64 ((n+9) / 10))∧w'=w:=by
 go_enter Tryz.func112,Tryz.ntmps112
 go_wp2
 go_ret
 exact ⟨qj (by omega),rfl⟩
theorem wR (k d s p:Int) (b:ByteArray) (w:World) (hb:b.size≤40) :
  Calls Tryz.prog 113 #[.agg #[.int .i64 k,.int .i64 d,.int .i64 s,.int .i64 p,.string b]] w fun e w'=>e=.returned (.int .i64 (b.size+9))∧Below w.heap.size w w':=by
 go_enter Tryz.func113,Tryz.ntmps113
 exact ak
theorem jy (k d s p:Int) (b:ByteArray) (w:World) (hb:b.size≤40) :
  Calls Tryz.prog 64 #[.agg #[.int .i64 k,.int .i64 d,.int .i64 s,.int .i64 p,.string b]] w fun e w'=>e=.returned (.int .i64 ((b.size+9+9) / 10))∧Below w.heap.size w w':=by
 go_enter Tryz.func64,Tryz.ntmps64
 exact ak
def qa (k d s p:Int) (n:Nat):Int:=if nm k d s p n then (n+9+9) / 10 else 0
theorem mY (k d s p:Int) (b:ByteArray) (w:World) (hb:b.size≤maxLen) :
  Calls Tryz.prog 77 #[.agg #[.int .i64 k,.int .i64 d,.int .i64 s,.int .i64 p,.string b]] w fun e w'=>e=.returned (.int .i64 (qa k d s p b.size))∧Below w.heap.size w w':=by
 cases hok:nm k d s p b.size
 ·
  have hv:qa k d s p b.size=0:=by simp [qa,hok]
  rw [hv]
  go_enter Tryz.func77,Tryz.ntmps77
  go_wp2_with fail
  refine (pE _ _ _ _ _ _ hb).mono ?_
  rintro e w1 ⟨rfl,hb1⟩
  rw [hok]
  have B1:=first hb1
  go_wp2_with fail
  go_ret
  exact ⟨rfl,under B1⟩
 have hv:qa k d s p b.size=(b.size+9+9) / 10:=by simp [qa,hok]
 have hle:=Cx hok
 rw [hv]
 clear hv
 go_enter Tryz.func77,Tryz.ntmps77
 go_wp2_with fail
 refine (pE _ _ _ _ _ _ hb).mono ?_
 rintro e w1 ⟨rfl,hb1⟩
 rw [hok]
 have B1:=first hb1
 have hc1:=boxed B1
 clear hb1 hok
 go_wp2_with fail
 refine (wR _ _ _ _ _ _ hle).mono ?_
 rintro e w2 ⟨rfl,hb2⟩
 have B2:=next B1 hb2
 clear hb2 hc1
 go_wp2_with fail
 refine (ya _ _ (by omega) (by omega)).mono ?_
 rintro e w3 ⟨rfl,rfl⟩
 go_wp2_with fail
 go_ret
 exact ⟨rfl,under B2⟩
