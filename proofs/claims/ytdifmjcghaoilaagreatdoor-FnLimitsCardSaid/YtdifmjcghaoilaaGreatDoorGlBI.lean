/-
  slices.Values over a list of ticks: what its closure does, for every body that keeps what lay below n₀.
-/
import Derived.RangeFuncNested
import Derived.RangeFuncBound
import Derived.RangeFuncCalls
import Derived.RangeFuncLeaves
import Derived.Shelf.Abstract
import Derived.Shelf.RegionOpen
import Derived.WalkKit
import Derived.OwnWalkIn
import Derived.TacticsInMore
import Derived.LoopNIn
import Derived.LoopIn
import Derived.Test.YtdifmjcghaoilaaGreatDoorGlAH
namespace Go.Proofs.YtdifmjcghaoilaaGreatDoor
open Go.ChangeShapes Go.WideShapes Go.ChangeAt Go.RowKit Go.PlainAid Go.Shelf
set_option linter.unusedVariables false

attribute [local go_sem] Oper.semAt_some

end Go.Proofs.YtdifmjcghaoilaaGreatDoor

namespace Go.Proofs.YtdifmjcghaoilaaGreatDoor
open Go.ChangeShapes Go.WideShapes Go.ChangeAt Go.RowKit Go.PlainAid Go.Shelf
set_option linter.unusedVariables false

attribute [local go_sem] Oper.semAt_some

theorem cells_two {w : World} {k : Nat} {t : TypeId} {x y : Value} (h : w.heap[k]? = some (.cells #[x, y] t)) : w.cell? ⟨k, 0, none⟩ = some x ∧ w.cell? ⟨k, 1, none⟩ = some y := by
  constructor <;> simp [World.cell?, h]
theorem row_ownFrom {β : Type} (k : Nat) (cs : Array Value) (t : TypeId) (fr : Nat × Nat) : Own (fun (_ : β) (W : World) => W.heap[k]? = some (.cells cs t fr)) := fun s A B row hs hg hr => (grownBy_keeps_cells hg hr hs rfl).trans hs
end Go.Proofs.YtdifmjcghaoilaaGreatDoor
