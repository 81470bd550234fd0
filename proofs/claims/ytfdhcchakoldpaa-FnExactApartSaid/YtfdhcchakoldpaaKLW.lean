/-
  Two boxed kernels and what lies behind one of them.
-/
import Derived.Test.YtfdhcchakoldpaaKer
namespace Go.Proofs.Ytfdhcchakoldpaa
open Go.ChangeShapes Go.WideShapes Go.ChangeAt Go.RowKit Go.PlainAid
set_option linter.unusedVariables false

structure LWK (w W : World) (kA kB : Nat) (oA oB : Obj) (k : KH) (K : KX) : Prop where
  b : Below w.heap.size w W
  a : W.heap[kA]? = some oA
  bb : W.heap[kB]? = some oB
  x : RdK W k K
theorem LWK.on' {w W W' : World} {kA kB : Nat} {oA oB : Obj} {k : KH} {K : KX} (hb : Below W.heap.size W W') (h : LWK w W kA kB oA oB k K) : LWK w W' kA kB oA oB k K :=
  ⟨bel_on (Nat.le_refl _) h.b hb, row_on h.a hb, row_on h.bb hb, h.x.on hb⟩
theorem LWK.drew {w W : World} {kA kB : Nat} {oA oB : Obj} {k : KH} {K : KX} (h : LWK w W kA kB oA oB k K) : LWK w W.drew kA kB oA oB k K :=
  h.on' ((Below.refl _ _).drew)
theorem lwk_conj {w W : World} {kA kB : Nat} {tA tB : TypeId} {x0 x1 x2 x3 x4 x5 x6 x7 x8 x9 x10 x11 y0 y1 y2 y3 y4 y5 y6 y7 y8 y9 y10 y11 : Value} {k : KH} {K : KX} (h : LWK w W kA kB (.cells #[x0, x1, x2, x3, x4, x5, x6, x7, x8, x9, x10, x11] tA) (.cells #[y0, y1, y2, y3, y4, y5, y6, y7, y8, y9, y10, y11] tB) k K) : W.cell? ⟨kA, 0, none⟩ = some x0 ∧ W.cell? ⟨kA, 1, none⟩ = some x1 ∧ W.cell? ⟨kA, 2, none⟩ = some x2 ∧ W.cell? ⟨kA, 3, none⟩ = some x3 ∧ W.cell? ⟨kA, 4, none⟩ = some x4 ∧ W.cell? ⟨kA, 5, none⟩ = some x5 ∧ W.cell? ⟨kA, 6, none⟩ = some x6 ∧ W.cell? ⟨kA, 7, none⟩ = some x7 ∧ W.cell? ⟨kA, 8, none⟩ = some x8 ∧ W.cell? ⟨kA, 9, none⟩ = some x9 ∧ W.cell? ⟨kA, 10, none⟩ = some x10 ∧ W.cell? ⟨kA, 11, none⟩ = some x11 ∧ W.cell? ⟨kB, 0, none⟩ = some y0 ∧ W.cell? ⟨kB, 1, none⟩ = some y1 ∧ W.cell? ⟨kB, 2, none⟩ = some y2 ∧ W.cell? ⟨kB, 3, none⟩ = some y3 ∧ W.cell? ⟨kB, 4, none⟩ = some y4 ∧ W.cell? ⟨kB, 5, none⟩ = some y5 ∧ W.cell? ⟨kB, 6, none⟩ = some y6 ∧ W.cell? ⟨kB, 7, none⟩ = some y7 ∧ W.cell? ⟨kB, 8, none⟩ = some y8 ∧ W.cell? ⟨kB, 9, none⟩ = some y9 ∧ W.cell? ⟨kB, 10, none⟩ = some y10 ∧ W.cell? ⟨kB, 11, none⟩ = some y11 ∧ LWK w W kA kB (.cells #[x0, x1, x2, x3, x4, x5, x6, x7, x8, x9, x10, x11] tA) (.cells #[y0, y1, y2, y3, y4, y5, y6, y7, y8, y9, y10, y11] tB) k K := by
  have h1 := box12_cells h.a
  have h2 := box12_cells h.bb
  exact ⟨h1.1.1, h1.1.2.1, h1.1.2.2.1, h1.1.2.2.2.1, h1.1.2.2.2.2.1, h1.1.2.2.2.2.2.1, h1.1.2.2.2.2.2.2.1, h1.1.2.2.2.2.2.2.2.1, h1.1.2.2.2.2.2.2.2.2.1, h1.1.2.2.2.2.2.2.2.2.2.1, h1.1.2.2.2.2.2.2.2.2.2.2.1, h1.1.2.2.2.2.2.2.2.2.2.2.2, h2.1.1, h2.1.2.1, h2.1.2.2.1, h2.1.2.2.2.1, h2.1.2.2.2.2.1, h2.1.2.2.2.2.2.1, h2.1.2.2.2.2.2.2.1, h2.1.2.2.2.2.2.2.2.1, h2.1.2.2.2.2.2.2.2.2.1, h2.1.2.2.2.2.2.2.2.2.2.1, h2.1.2.2.2.2.2.2.2.2.2.2.1, h2.1.2.2.2.2.2.2.2.2.2.2.2, h⟩
theorem lwk_of {w W : World} {kA kB : Nat} {oA oB : Obj} {k : KH} {K : KX} {P0 P1 P2 P3 P4 P5 P6 P7 P8 P9 P10 P11 P12 P13 P14 P15 P16 P17 P18 P19 P20 P21 P22 P23 : Prop} (h : P0 ∧ P1 ∧ P2 ∧ P3 ∧ P4 ∧ P5 ∧ P6 ∧ P7 ∧ P8 ∧ P9 ∧ P10 ∧ P11 ∧ P12 ∧ P13 ∧ P14 ∧ P15 ∧ P16 ∧ P17 ∧ P18 ∧ P19 ∧ P20 ∧ P21 ∧ P22 ∧ P23 ∧ LWK w W kA kB oA oB k K) : LWK w W kA kB oA oB k K := h.2.2.2.2.2.2.2.2.2.2.2.2.2.2.2.2.2.2.2.2.2.2.2.2
end Go.Proofs.Ytfdhcchakoldpaa
