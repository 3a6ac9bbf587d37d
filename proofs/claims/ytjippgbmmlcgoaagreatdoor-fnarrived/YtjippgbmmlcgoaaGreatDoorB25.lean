import Derived.Test.YtjippgbmmlcgoaaGreatDoorB24
namespace Go.Proofs.YtjippgbmmlcgoaaGreatDoor
open Go.RowKit
set_option linter.unusedVariables false
set_option linter.unusedSimpArgs false
variable {w:World}
theorem jg {oi:Oper} {ev:Operand→Value} (ty:TypeId) (n:Nat) (d:TypeDesc) (hu:Tryz.prog.underlying ty=some d) (hd:d.isRow=true) (hi:(Tryz.prog.info? ty).map (·.size)=some n) (x:Operand) (ho:oi.op=.load ty x) (b off:Nat) (hx:ev x=.pointer (some ⟨b,off,none⟩)) (cs:Array Value) (hs:cs.size=n)
  (hc:∀ j,j<n→w.cell? ⟨b,off+j,none⟩=cs[j]?):(execOp ev oi).run Tryz.prog w=.ok (.value (.agg cs)) w:=by
 have hl:=run_loadVar_mid (P:=Tryz.prog) w b off ty cs.toList d (fun j v hv=>by
  have hj:j<n:=by
   have:=(List.getElem?_eq_some_iff.1 hv).1
   rw [Array.length_toList] at this
   omega
  rw [hc j hj,←Array.getElem?_toList]
  exact hv) hu hd (by rw [hi,Array.length_toList,hs])
 rw [Array.toArray_toList] at hl
 unfold execOp
 simp only [ho,hx,Instr.loadAt,Instr.sureAddr,Sem.run_bind,Sem.run_pure,Result.andThen_ok,hl]
structure Two (w:World) (A B:Array Value) (t:TypeId) (W:World):Prop where
 a:W.heap[w.heap.size]?=some (.cells A t (0,0))
 b:W.heap[w.heap.size+1]?=some (.cells B t (0,0))
 bel:Below w.heap.size w W
theorem Two.start (w:World) (A B:Array Value) (t:TypeId):Two w A B t ((w.alloc (.cells A t)).alloc (.cells B t)):=by
 have e1:(w.alloc (.cells A t)).heap.size=w.heap.size+1:=by simp
 refine ⟨(iH _ (by omega)).trans (im _ _),?_,((Below.refl _ _).alloc (Nat.le_refl _) _).alloc (by omega) _⟩
 rw [←e1]
 exact im _ _
theorem Two.up {W W':World} {A B:Array Value} {t:TypeId} (h:Two w A B t W) (hb:Below W.heap.size W W'):Two w A B t W' :=
 ⟨(hb.block _ (ig h.a)).trans h.a,(hb.block _ (ig h.b)).trans h.b,h.bel.trans (hb.mono h.bel.size)⟩
