import Derived.Test.YtfcfpkibceepgaaGreatS03
namespace Go.Proofs.YtfcfpkibceepgaaGreat
open Go.RowKit
set_option linter.unusedVariables false
theorem aJ {p:Prop} (h:p:=by
 go_wp2
 go_ret
 exact ⟨jM (by omega),(Below.refl _ _).alloc (Nat.le_refl _) _⟩):p:=h
theorem zQ {k d s p:Int} {n:Nat} (h:mx k d s p n=true):n≤40:=by
 unfold mx at h
 simp only [decide_eq_true_eq] at h
 omega
theorem uE (n:Int) (w:World) (h0:0≤n) (h1:n≤100000000) :
  Calls Tryz.prog 134 #[.int .i64 n] w fun e w'=>e=.returned (.int .i64 ((n+9) / 10))∧w'=w:=by
 go_enter Tryz.func134,Tryz.ntmps134
 go_wp2
 go_ret
 exact ⟨jM (by omega),rfl⟩
theorem sF (k d s p:Int) (b:ByteArray) (w:World) (hb:b.size≤40) :
  Calls Tryz.prog 135 #[.agg #[.int .i64 k,.int .i64 d,.int .i64 s,.int .i64 p,.string b]] w fun e w'=>e=.returned (.int .i64 (b.size+9))∧Below w.heap.size w w':=by
 go_enter Tryz.func135,Tryz.ntmps135
 exact aJ
theorem iL (k d s p:Int) (b:ByteArray) (w:World) (hb:b.size≤40) :
  Calls Tryz.prog 53 #[.agg #[.int .i64 k,.int .i64 d,.int .i64 s,.int .i64 p,.string b]] w fun e w'=>e=.returned (.int .i64 ((b.size+9+9) / 10))∧Below w.heap.size w w':=by
 go_enter Tryz.func53,Tryz.ntmps53
 exact aJ
def mK (k d s p:Int) (n:Nat):Int:=if mx k d s p n then (n+9+9) / 10 else 0
theorem ko (k d s p:Int) (b:ByteArray) (w:World) (hb:b.size≤maxLen) :
  Calls Tryz.prog 111 #[.agg #[.int .i64 k,.int .i64 d,.int .i64 s,.int .i64 p,.string b]] w fun e w'=>e=.returned (.int .i64 (mK k d s p b.size))∧Below w.heap.size w w':=by
 cases hok:mx k d s p b.size
 ·
  have hv:mK k d s p b.size=0:=by simp [mK,hok]
  rw [hv]
  go_enter Tryz.func111,Tryz.ntmps111
  go_wp2_with fail
  refine (mf _ _ _ _ _ _ hb).mono ?_
  rintro e w1 ⟨rfl,hb1⟩
  rw [hok]
  have B1:=first hb1
  go_wp2_with fail
  go_ret
  exact ⟨rfl,under B1⟩
 have hv:mK k d s p b.size=(b.size+9+9) / 10:=by simp [mK,hok]
 have hle:=zQ hok
 rw [hv]
 clear hv
 go_enter Tryz.func111,Tryz.ntmps111
 go_wp2_with fail
 refine (mf _ _ _ _ _ _ hb).mono ?_
 rintro e w1 ⟨rfl,hb1⟩
 rw [hok]
 have B1:=first hb1
 have hc1:=boxed B1
 clear hb1 hok
 go_wp2_with fail
 refine (sF _ _ _ _ _ _ hle).mono ?_
 rintro e w2 ⟨rfl,hb2⟩
 have B2:=next B1 hb2
 clear hb2 hc1
 go_wp2_with fail
 refine (uE _ _ (by omega) (by omega)).mono ?_
 rintro e w3 ⟨rfl,rfl⟩
 go_wp2_with fail
 go_ret
 exact ⟨rfl,under B2⟩
end Go.Proofs.YtfcfpkibceepgaaGreat
