/-
  Two boxed set-ups and what lies behind one of them.
-/
import Derived.Test.YtadbekhekggpkaaDoorSet11
namespace Go.Proofs.YtadbekhekggpkaaDoor
open Go.RowKit Go.PlainAid
set_option linter.unusedVariables false

structure LW (w W : World) (kA kB : Nat) (oA oB : Obj) (s : SH) (X : SX) : Prop where
  b : Below w.heap.size w W
  a : W.heap[kA]? = some oA
  bb : W.heap[kB]? = some oB
  x : RdX W s X
theorem LW.on' {w W W' : World} {kA kB : Nat} {oA oB : Obj} {s : SH} {X : SX} (hb : Below W.heap.size W W') (h : LW w W kA kB oA oB s X) : LW w W' kA kB oA oB s X :=
  ⟨bel_on (Nat.le_refl _) h.b hb, row_on h.a hb, row_on h.bb hb, h.x.on hb⟩
theorem LW.drew {w W : World} {kA kB : Nat} {oA oB : Obj} {s : SH} {X : SX} (h : LW w W kA kB oA oB s X) : LW w W.drew kA kB oA oB s X :=
  h.on' ((Below.refl _ _).drew)
theorem lw_conj {w W : World} {kA kB : Nat} {tA tB : TypeId} {x0 x1 x2 x3 x4 y0 y1 y2 y3 y4 : Value} {s : SH} {X : SX} (h : LW w W kA kB (.cells #[x0, x1, x2, x3, x4] tA) (.cells #[y0, y1, y2, y3, y4] tB) s X) : W.cell? ⟨kA, 0, none⟩ = some x0 ∧ W.cell? ⟨kA, 1, none⟩ = some x1 ∧ W.cell? ⟨kA, 2, none⟩ = some x2 ∧ W.cell? ⟨kA, 3, none⟩ = some x3 ∧ W.cell? ⟨kA, 4, none⟩ = some x4 ∧ W.cell? ⟨kB, 0, none⟩ = some y0 ∧ W.cell? ⟨kB, 1, none⟩ = some y1 ∧ W.cell? ⟨kB, 2, none⟩ = some y2 ∧ W.cell? ⟨kB, 3, none⟩ = some y3 ∧ W.cell? ⟨kB, 4, none⟩ = some y4 ∧ LW w W kA kB (.cells #[x0, x1, x2, x3, x4] tA) (.cells #[y0, y1, y2, y3, y4] tB) s X := by
  have h1 := boxO_cells h.a
  have h2 := boxO_cells h.bb
  exact ⟨h1.1.1, h1.1.2.1, h1.1.2.2.1, h1.1.2.2.2.1, h1.1.2.2.2.2, h2.1.1, h2.1.2.1, h2.1.2.2.1, h2.1.2.2.2.1, h2.1.2.2.2.2, h⟩
theorem lw_of {w W : World} {kA kB : Nat} {oA oB : Obj} {s : SH} {X : SX} {P0 P1 P2 P3 P4 P5 P6 P7 P8 P9 : Prop} (h : P0 ∧ P1 ∧ P2 ∧ P3 ∧ P4 ∧ P5 ∧ P6 ∧ P7 ∧ P8 ∧ P9 ∧ LW w W kA kB oA oB s X) : LW w W kA kB oA oB s X := h.2.2.2.2.2.2.2.2.2.2
end Go.Proofs.YtadbekhekggpkaaDoor
