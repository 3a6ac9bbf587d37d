import Derived.Test.YtjippgbmmlcgoaaGreatDoorProg
import Derived.Below
import Derived.WalkKit
import Derived.WalkLawsBesides
import Derived.WalkSpells
namespace Go.Proofs.YtjippgbmmlcgoaaGreatDoor
open Go.RowKit
set_option linter.unusedVariables false
variable {p:Prop}
theorem ak (h:p:=by
 go_wp2
 go_ret
 exact ⟨by simp;omega,rfl⟩):p:=h
theorem aa (h:p):Hid p:=h
abbrev ab:Array Value:=#[.int .i64 0,.int .i64 0,.int .i64 0,.int .i64 0,.int .i64 0,.int .i64 0,.int .i64 0,.int .i64 0,.int .i64 0,.slice none 0 0,.slice none 0 0,.int .i64 0,.slice none 0 0,.slice none 0 0,.slice none 0 0,.int .i64 0,.int .i64 0]
abbrev ae:Array Value:=#[.slice none 0 0,.slice none 0 0,.int .i64 0,.bool false,.slice none 0 0]
abbrev af:Array Value:=#[.bool false,.slice none 0 0,.slice none 0 0,.slice none 0 0,.slice none 0 0,.int .i64 0,.bool false,.slice none 0 0]
abbrev ag:Array Value:=#[.slice none 0 0,.int .i64 0,.slice none 0 0]
theorem iv {a b:Bool} (h:a=b):Ending.returned (.bool a)=.returned (.bool b):=by rw [h]
theorem lR {k:IntKind} {a b:Int} (h:a=b):Ending.returned (.int k a)=.returned (.int k b):=by rw [h]
theorem iB (n lo hi:Int) (w:World) :
  Calls Tryz.prog 54 #[.int .i64 n,.int .i64 lo,.int .i64 hi] w fun e w'=>e=.returned (.bool (decide (lo≤n∧n≤hi)))∧w'=w:=by
 by_cases h1:lo≤n
 ·
  by_cases h2:n≤hi
  ·
   go_enter Tryz.func54,Tryz.ntmps54
   go_wp2
   go_ret
   exact ⟨by simp [h1,h2],rfl⟩
  go_enter Tryz.func54,Tryz.ntmps54
  exact ak
 go_enter Tryz.func54,Tryz.ntmps54
 exact ak
theorem mr (n:Int) (w:World) :
  Calls Tryz.prog 93 #[.int .i64 n] w fun e w'=>e=.returned (.bool (decide (1≤n∧n≤20)))∧w'=w:=by
 go_enter Tryz.func93,Tryz.ntmps93
 go_wp2_with (go_at_call 54;refine (iB _ _ _ _).mono ?_;rintro e w' ⟨rfl,rfl⟩)
 go_ret
 exact ⟨iv (by simp),rfl⟩
theorem qa (n:Int) (w:World) :
  Calls Tryz.prog 109 #[.int .i64 n] w fun e w'=>e=.returned (.bool (decide (1≤n∧n≤20)))∧w'=w:=by
 by_cases h1:1≤n
 ·
  go_enter Tryz.func109,Tryz.ntmps109
  go_wp2
  go_ret
  exact ⟨by simp [h1],rfl⟩
 go_enter Tryz.func109,Tryz.ntmps109
 exact ak
theorem Ab (n:Int) (w:World) :
  Calls Tryz.prog 110 #[.int .i64 n] w fun e w'=>e=.returned (.bool (decide (0≤n∧n≤3)))∧w'=w:=by
 by_cases h1:0≤n
 ·
  go_enter Tryz.func110,Tryz.ntmps110
  go_wp2
  go_ret
  exact ⟨iv (by rw [Bool.eq_iff_iff];simp [h1];omega),rfl⟩
 go_enter Tryz.func110,Tryz.ntmps110
 exact ak
theorem jW (n:Int) (w:World) :
  Calls Tryz.prog 33 #[.int .i64 n] w fun e w'=>e=.returned (.bool (decide (0≤n∧n≤1000000000)))∧w'=w:=by
 by_cases h1:0≤n
 ·
  go_enter Tryz.func33,Tryz.ntmps33
  go_wp2
  go_ret
  exact ⟨by simp [h1],rfl⟩
 go_enter Tryz.func33,Tryz.ntmps33
 exact ak
