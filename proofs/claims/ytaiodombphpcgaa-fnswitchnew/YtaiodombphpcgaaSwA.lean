/- Switches that know nothing and have nothing: their cells, two held against each other, marked and looked at again. -/
import Derived.Test.YtaiodombphpcgaaLnB
import Derived.Test.YtaiodombphpcgaaLnC
import Derived.Test.YtaiodombphpcgaaCnMk
import Derived.Test.YtaiodombphpcgaaCnNew
namespace Go.Proofs.Ytaiodombphpcgaa
open Go.RowKit
set_option linter.unusedVariables false
set_option linter.unusedSimpArgs false

structure Sw where
  C : Cfg
  nx : Int
  N : Cnt
  aL : Option Addr
  nL : Nat
  cL : Nat
  L : Nat → Ln
def Sw.cells (S : Sw) : Array Value := #[.int .i64 S.C.p, .int .i64 S.C.c, .int .i64 S.C.xo, .int .i64 S.C.xn, .int .i64 S.C.hd, .int .i64 S.C.lo, .int .i64 S.C.dl, .int .i64 0, .int .i64 S.nx, .slice none 0 0, .slice S.N.aU S.N.nU S.N.cU, .int .i64 S.N.lo, .slice S.N.aP S.N.nP S.N.cP, .slice none 0 0, .slice S.aL S.nL S.cL, .int .i64 0, .int .i64 0]
structure RdSw (w : World) (S : Sw) : Prop where
  n : RdCnt w S.N
  l : RdLn w S.aL S.nL S.L
  u : ∀ i, i < S.nL → RdRow w (S.L i).aU 2 fun _ => .slice none 0 0
  r : ∀ i, i < S.nL → RdRnd w (S.L i).R
theorem RdSw.up {w w' : World} {S : Sw} (h : RdSw w S) (hb : Below w.heap.size w w') : RdSw w' S := ⟨h.n.up hb, h.l.up hb, fun i hi => (h.u i hi).up hb, fun i hi => (h.r i hi).up hb⟩
structure AlikeS (A B : Sw) : Prop where
  c : B.C = A.C
  x : B.nx = A.nx
  n : AlikeC A.N B.N
  k : B.nL = A.nL
  l : ∀ i, i < A.nL → (B.L i).st = (A.L i).st ∧ Alike (A.L i).R (B.L i).R
structure Sw.Small (S : Sw) : Prop where
  n : S.N.Small
  k : S.nL ≤ 4
  r : ∀ i, i < S.nL → (S.L i).R.Small
/-- a switch that owns what it holds: its counts lie ahead of its lanes -/
structure OwnSw (w : World) (base : Nat) (g : Nat) (b : Nat → Nat) (S : Sw) : Prop where
  n : OwnCn w base S.N
  bb : base ≤ b 0
  l : Lanes w S.nL b g S.L
  a : S.aL = some ⟨g, 0, none⟩
  z : ∀ x ∈ rowsT S.N, x < b 0
theorem OwnSw.up {w w' : World} {base g : Nat} {b : Nat → Nat} {S : Sw} (h : OwnSw w base g b S) (hb : Below w.heap.size w w') : OwnSw w' base g b S := ⟨h.n.up hb, h.bb, h.l.up hb, h.a, h.z⟩
theorem OwnSw.rd {w : World} {base g : Nat} {b : Nat → Nat} {S : Sw} (h : OwnSw w base g b S) : RdSw w S := ⟨h.n.rd, by rw [h.a]; exact h.l.row.lanes, fun i hi => (h.l.u i hi).read, fun i hi => (h.l.own i hi).rd⟩
theorem OwnCn.off {w w' : World} {base : Nat} {N : Cnt} {T : List Nat} (h : OwnCn w base N) (ht : Touch T w w') (hT : ∀ x ∈ rowsT N, x ∉ T) : OwnCn w' base N :=
  ⟨h.u.touchS ht (fun x hx => hT x (List.mem_append_left _ hx)), h.p.touchS ht (fun x hx => hT x (List.mem_append_right _ hx))⟩
end Go.Proofs.Ytaiodombphpcgaa
