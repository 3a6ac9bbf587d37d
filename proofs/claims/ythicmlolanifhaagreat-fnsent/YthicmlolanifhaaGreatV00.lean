import Derived.Test.YthicmlolanifhaaGreatProg
import Derived.Below
import Derived.WalkKit
import Derived.WalkLawsBesides
import Derived.WalkSpells
namespace Go.Proofs.YthicmlolanifhaaGreat
open Go.RowKit
set_option linter.unusedVariables false
variable {p:Prop}
theorem aj (h:p:=by
 go_wp2
 go_ret
 exact ⟨by simp;omega,rfl⟩):p:=h
theorem aa (h:p):Hid p:=h
abbrev ab:Array Value:=#[.int .i64 0,.int .i64 0,.int .i64 0,.int .i64 0,.int .i64 0,.int .i64 0,.int .i64 0,.int .i64 0,.int .i64 0,.slice none 0 0,.slice none 0 0,.int .i64 0,.slice none 0 0,.slice none 0 0,.slice none 0 0,.int .i64 0,.int .i64 0]
abbrev ae:Array Value:=#[.slice none 0 0,.slice none 0 0,.int .i64 0,.bool false,.slice none 0 0]
abbrev af:Array Value:=#[.bool false,.slice none 0 0,.slice none 0 0,.slice none 0 0,.slice none 0 0,.int .i64 0,.bool false,.slice none 0 0]
abbrev ag:Array Value:=#[.slice none 0 0,.int .i64 0,.slice none 0 0]
theorem iD {a b:Bool} (h:a=b):Ending.returned (.bool a)=.returned (.bool b):=by rw [h]
theorem qj {k:IntKind} {a b:Int} (h:a=b):Ending.returned (.int k a)=.returned (.int k b):=by rw [h]
theorem iK (n lo hi:Int) (w:World) :
  Calls Tryz.prog 27 #[.int .i64 n,.int .i64 lo,.int .i64 hi] w fun e w'=>e=.returned (.bool (decide (lo≤n∧n≤hi)))∧w'=w:=by
 by_cases h1:lo≤n
 ·
  by_cases h2:n≤hi
  ·
   go_enter Tryz.func27,Tryz.ntmps27
   go_wp2
   go_ret
   exact ⟨by simp [h1,h2],rfl⟩
  go_enter Tryz.func27,Tryz.ntmps27
  exact aj
 go_enter Tryz.func27,Tryz.ntmps27
 exact aj
theorem mI (n:Int) (w:World) :
  Calls Tryz.prog 97 #[.int .i64 n] w fun e w'=>e=.returned (.bool (decide (1≤n∧n≤20)))∧w'=w:=by
 go_enter Tryz.func97,Tryz.ntmps97
 go_wp2_with (go_at_call 27;refine (iK _ _ _ _).mono ?_;rintro e w' ⟨rfl,rfl⟩)
 go_ret
 exact ⟨iD (by simp),rfl⟩
theorem qQ (n:Int) (w:World) :
  Calls Tryz.prog 114 #[.int .i64 n] w fun e w'=>e=.returned (.bool (decide (1≤n∧n≤20)))∧w'=w:=by
 by_cases h1:1≤n
 ·
  go_enter Tryz.func114,Tryz.ntmps114
  go_wp2
  go_ret
  exact ⟨by simp [h1],rfl⟩
 go_enter Tryz.func114,Tryz.ntmps114
 exact aj
theorem Av (n:Int) (w:World) :
  Calls Tryz.prog 115 #[.int .i64 n] w fun e w'=>e=.returned (.bool (decide (0≤n∧n≤3)))∧w'=w:=by
 by_cases h1:0≤n
 ·
  go_enter Tryz.func115,Tryz.ntmps115
  go_wp2
  go_ret
  exact ⟨iD (by rw [Bool.eq_iff_iff];simp [h1];omega),rfl⟩
 go_enter Tryz.func115,Tryz.ntmps115
 exact aj
theorem lx (n:Int) (w:World) :
  Calls Tryz.prog 40 #[.int .i64 n] w fun e w'=>e=.returned (.bool (decide (0≤n∧n≤1000000000)))∧w'=w:=by
 by_cases h1:0≤n
 ·
  go_enter Tryz.func40,Tryz.ntmps40
  go_wp2
  go_ret
  exact ⟨by simp [h1],rfl⟩
 go_enter Tryz.func40,Tryz.ntmps40
 exact aj
