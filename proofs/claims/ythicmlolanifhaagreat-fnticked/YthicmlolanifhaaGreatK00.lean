import Derived.Test.YthicmlolanifhaaGreatProg
import Derived.Below
import Derived.WalkKit
import Derived.WalkLawsBesides
import Derived.WalkSpells
namespace Go.Proofs.YthicmlolanifhaaGreat
open Go.RowKit
set_option linter.unusedVariables false
theorem aa {p:Prop} (h:p:=by
 go_wp2
 go_ret
 exact ⟨by simp;omega,rfl⟩):p:=h
theorem gZ {a b:Bool} (h:a=b):Ending.returned (.bool a)=.returned (.bool b):=by rw [h]
theorem oU {k:IntKind} {a b:Int} (h:a=b):Ending.returned (.int k a)=.returned (.int k b):=by rw [h]
theorem il (n lo hi:Int) (w:World) :
  Calls Tryz.prog 27 #[.int .i64 n,.int .i64 lo,.int .i64 hi] w fun e w'=>e=.returned (.bool (decide (lo≤n∧n≤hi)))∧w'=w:=by
 by_cases h1:lo≤n
 ·
  by_cases h2:n≤hi
  ·
   go_enter Tryz.func27,Tryz.ntmps27
   go_wp2
   go_ret
   exact ⟨by simp [h1,h2],rfl⟩
  go_enter Tryz.func27,Tryz.ntmps27
  exact aa
 go_enter Tryz.func27,Tryz.ntmps27
 exact aa
theorem lX (n:Int) (w:World) :
  Calls Tryz.prog 97 #[.int .i64 n] w fun e w'=>e=.returned (.bool (decide (1≤n∧n≤20)))∧w'=w:=by
 go_enter Tryz.func97,Tryz.ntmps97
 go_wp2_with (go_at_call 27;refine (il _ _ _ _).mono ?_;rintro e w' ⟨rfl,rfl⟩)
 go_ret
 exact ⟨gZ (by simp),rfl⟩
theorem pD (n:Int) (w:World) :
  Calls Tryz.prog 114 #[.int .i64 n] w fun e w'=>e=.returned (.bool (decide (1≤n∧n≤20)))∧w'=w:=by
 by_cases h1:1≤n
 ·
  go_enter Tryz.func114,Tryz.ntmps114
  go_wp2
  go_ret
  exact ⟨by simp [h1],rfl⟩
 go_enter Tryz.func114,Tryz.ntmps114
 exact aa
theorem yY (n:Int) (w:World) :
  Calls Tryz.prog 115 #[.int .i64 n] w fun e w'=>e=.returned (.bool (decide (0≤n∧n≤3)))∧w'=w:=by
 by_cases h1:0≤n
 ·
  go_enter Tryz.func115,Tryz.ntmps115
  go_wp2
  go_ret
  exact ⟨gZ (by rw [Bool.eq_iff_iff];simp [h1];omega),rfl⟩
 go_enter Tryz.func115,Tryz.ntmps115
 exact aa
theorem jZ (n:Int) (w:World) :
  Calls Tryz.prog 40 #[.int .i64 n] w fun e w'=>e=.returned (.bool (decide (0≤n∧n≤1000000000)))∧w'=w:=by
 by_cases h1:0≤n
 ·
  go_enter Tryz.func40,Tryz.ntmps40
  go_wp2
  go_ret
  exact ⟨by simp [h1],rfl⟩
 go_enter Tryz.func40,Tryz.ntmps40
 exact aa
end Go.Proofs.YthicmlolanifhaaGreat
