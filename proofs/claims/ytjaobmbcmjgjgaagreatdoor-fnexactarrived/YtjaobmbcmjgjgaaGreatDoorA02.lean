import Derived.Test.YtjaobmbcmjgjgaaGreatDoorA01
namespace Go.Proofs.YtjaobmbcmjgjgaaGreatDoor
open Go.RowKit
set_option linter.unusedVariables false
theorem ab {p:Prop} (h:p:=by
 go_wp2
 go_ret
 exact ⟨iM (by omega),(Below.refl _ _).alloc (Nat.le_refl _) _⟩):p:=h
theorem zp {k d s p:Int} {n:Nat} (h:jT k d s p n=true):n≤40:=by
 unfold jT at h
 simp only [decide_eq_true_eq] at h
 omega
theorem uc (n:Int) (w:World) (h0:0≤n) (h1:n≤100000000) :
  Calls Tryz.prog 135 #[.int .i64 n] w fun e w'=>e=.returned (.int .i64 ((n+9) / 10))∧w'=w:=by
 go_enter Tryz.func135,Tryz.ntmps135
 go_wp2
 go_ret
 exact ⟨iM (by omega),rfl⟩
theorem sw (k d s p:Int) (b:ByteArray) (w:World) (hb:b.size≤40) :
  Calls Tryz.prog 136 #[.agg #[.int .i64 k,.int .i64 d,.int .i64 s,.int .i64 p,.string b]] w fun e w'=>e=.returned (.int .i64 (b.size+9))∧Below w.heap.size w w':=by
 go_enter Tryz.func136,Tryz.ntmps136
 exact ab
theorem iq (k d s p:Int) (b:ByteArray) (w:World) (hb:b.size≤40) :
  Calls Tryz.prog 50 #[.agg #[.int .i64 k,.int .i64 d,.int .i64 s,.int .i64 p,.string b]] w fun e w'=>e=.returned (.int .i64 ((b.size+9+9) / 10))∧Below w.heap.size w w':=by
 go_enter Tryz.func50,Tryz.ntmps50
 exact ab
def nk (k d s p:Int) (n:Nat):Int:=if jT k d s p n then (n+9+9) / 10 else 0
theorem jl (k d s p:Int) (b:ByteArray) (w:World) (hb:b.size≤maxLen) :
  Calls Tryz.prog 109 #[.agg #[.int .i64 k,.int .i64 d,.int .i64 s,.int .i64 p,.string b]] w fun e w'=>e=.returned (.int .i64 (nk k d s p b.size))∧Below w.heap.size w w':=by
 cases hok:jT k d s p b.size
 ·
  have hv:nk k d s p b.size=0:=by simp [nk,hok]
  rw [hv]
  go_enter Tryz.func109,Tryz.ntmps109
  go_wp2_with fail
  refine (kn _ _ _ _ _ _ hb).mono ?_
  rintro e w1 ⟨rfl,hb1⟩
  rw [hok]
  have B1:=first hb1
  go_wp2_with fail
  go_ret
  exact ⟨rfl,under B1⟩
 have hv:nk k d s p b.size=(b.size+9+9) / 10:=by simp [nk,hok]
 have hle:=zp hok
 rw [hv]
 clear hv
 go_enter Tryz.func109,Tryz.ntmps109
 go_wp2_with fail
 refine (kn _ _ _ _ _ _ hb).mono ?_
 rintro e w1 ⟨rfl,hb1⟩
 rw [hok]
 have B1:=first hb1
 have hc1:=boxed B1
 clear hb1 hok
 go_wp2_with fail
 refine (sw _ _ _ _ _ _ hle).mono ?_
 rintro e w2 ⟨rfl,hb2⟩
 have B2:=next B1 hb2
 clear hb2 hc1
 go_wp2_with fail
 refine (uc _ _ (by omega) (by omega)).mono ?_
 rintro e w3 ⟨rfl,rfl⟩
 go_wp2_with fail
 go_ret
 exact ⟨rfl,under B2⟩
end Go.Proofs.YtjaobmbcmjgjgaaGreatDoor
