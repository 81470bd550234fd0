/-
  PumpOk of the program: what is carried through its one region.
-/
import Derived.Test.YtckeffccoghgeaaDoorPmIas
namespace Go.Proofs.YtckeffccoghgeaaDoor
open Go.RowKit Go.PlainAid
set_option linter.unusedVariables false
set_option linter.unusedSimpArgs false

/-- a boxed pump behind what only grew -/
def KP (w w' : World) (o : Obj) : Prop := w'.heap[w.heap.size]? = some o ∧ Below w.heap.size w w'
theorem KP.on {w w' w2 : World} {x0 x1 x2 x3 x4 x5 x6 x7 : Value} {T : TypeId} (h : KP w w' (.cells #[x0, x1, x2, x3, x4, x5, x6, x7] T)) (hb : Below w'.heap.size w' w2) : KP w w2 (.cells #[x0, x1, x2, x3, x4, x5, x6, x7] T) := ⟨row_on h.1 hb, bel_on (Nat.le_refl _) h.2 hb⟩
theorem kp_conj {w w' : World} {x0 x1 x2 x3 x4 x5 x6 x7 : Value} {T : TypeId} (h : KP w w' (.cells #[x0, x1, x2, x3, x4, x5, x6, x7] T)) :
    w'.cell? ⟨w.heap.size, 0, none⟩ = some x0 ∧ w'.cell? ⟨w.heap.size, 1, none⟩ = some x1 ∧ w'.cell? ⟨w.heap.size, 2, none⟩ = some x2 ∧ w'.cell? ⟨w.heap.size, 3, none⟩ = some x3 ∧ w'.cell? ⟨w.heap.size, 4, none⟩ = some x4 ∧ w'.cell? ⟨w.heap.size, 5, none⟩ = some x5 ∧ w'.cell? ⟨w.heap.size, 6, none⟩ = some x6 ∧ w'.cell? ⟨w.heap.size, 7, none⟩ = some x7 ∧ KP w w' (.cells #[x0, x1, x2, x3, x4, x5, x6, x7] T) := by
  obtain ⟨⟨a0, a1, a2, a3, a4, a5, a6, a7⟩, _⟩ := box8_cells h.1
  exact ⟨a0, a1, a2, a3, a4, a5, a6, a7, h⟩
end Go.Proofs.YtckeffccoghgeaaDoor
