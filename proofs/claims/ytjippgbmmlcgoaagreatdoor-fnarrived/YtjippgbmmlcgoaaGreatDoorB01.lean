import Derived.Test.YtjippgbmmlcgoaaGreatDoorB00
namespace Go.Proofs.YtjippgbmmlcgoaaGreatDoor
open Go.RowKit
set_option linter.unusedVariables false
def mc (k d s p:Int) (n:Nat):Bool:=decide ((k=1∧(1≤d∧d≤20∨d=255)∧1≤s∧s≤20∧0≤p∧p≤2∧n≤40)∨((k=2∨k=3)∧d=0∧s=0∧p=2∧n=0))
theorem xm (b:ByteArray):b.toList=[]↔b.size=0:=by
 rw [ByteArray.toList_eq,←List.length_eq_zero_iff]
 rfl
theorem isEmpty_eq (b:ByteArray):b.toList.isEmpty=decide (b.size=0):=by
 rw [Bool.eq_iff_iff,List.isEmpty_iff,xm];simp
theorem nY (k d s p:Int) (b:ByteArray) (w:World) (hb:b.size≤maxLen) :
  Calls Tryz.prog 56 #[.agg #[.int .i64 k,.int .i64 d,.int .i64 s,.int .i64 p,.string b]] w fun e w'=>e=.returned (.bool (mc k d s p b.size))∧Below w.heap.size w w':=by
 unfold maxLen at hb
 have hE:=isEmpty_eq b
 generalize hn:b.size=n at *
 go_enter Tryz.func56,Tryz.ntmps56
 go_wp2_with (first | (go_at_call 54;refine (iB _ _ _ _).mono ?_;rintro e w' ⟨rfl,rfl⟩) | (go_at_call 93;refine (mr _ _).mono ?_;rintro e w' ⟨rfl,rfl⟩))
 all_goals go_ret
 all_goals refine ⟨iv ?_,(Below.refl _ _).alloc (Nat.le_refl _) _⟩
 all_goals clear hn hE
 all_goals (rw [Bool.eq_iff_iff];unfold mc;simp at *;try omega)
theorem mH (k d s p:Int) (b:ByteArray) (w:World) (hb:b.size≤maxLen) :
  Calls Tryz.prog 85 #[.agg #[.int .i64 k,.int .i64 d,.int .i64 s,.int .i64 p,.string b]] w fun e w'=>e=.returned (.bool (mc k d s p b.size))∧Below w.heap.size w w':=by
 unfold maxLen at hb
 have hE:=isEmpty_eq b
 have hE2:=xm b
 generalize hn:b.size=n at *
 go_enter Tryz.func85,Tryz.ntmps85
 go_wp2_with (first | (go_at_call 109;refine (qa _ _).mono ?_;rintro e w' ⟨rfl,rfl⟩))
 all_goals go_ret
 all_goals refine ⟨iv ?_,(Below.refl _ _).alloc (Nat.le_refl _) _⟩
 all_goals clear hn hE
 all_goals (rw [Bool.eq_iff_iff];unfold mc;simp at *;try omega)
