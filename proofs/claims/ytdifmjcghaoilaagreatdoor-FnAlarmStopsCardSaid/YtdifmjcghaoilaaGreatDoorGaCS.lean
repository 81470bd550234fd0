/-
  The table of half sums, out of the row's list; a world that holds it, for the witness.
-/
import Derived.Test.YtdifmjcghaoilaaGreatDoorGaBQ
import Derived.Test.YtdifmjcghaoilaaGreatDoorRows
import Derived.Lib.LaidTab
namespace Go.Proofs.YtdifmjcghaoilaaGreatDoor.Q
open Go.ChangeShapes Go.WideShapes Go.ChangeAt Go.RowKit

theorem gTab : Tryz.prog.globalNamed "loop.example/g00200/impl.halfSums" = some 0 := by kernel_rfl
theorem gTabType : (Tryz.prog.globals[0]?).map (·.type) = some 175 := by kernel_rfl
theorem cellsTab : Tryz.prog.cellsOf 175 = 16 := by kernel_rfl
theorem cellsElem : Tryz.prog.cellsOf 164 = 1 := by kernel_rfl
def halfTab : List Int := [0, 1166650509, 2333301018, 3466261911, 3189058079, 4221339282, 889615109, 1888477064, 3558460437, 2442158232, 1594529039, 444807554, 1779230218, 797264519, 3776954128, 2761298845]
theorem half_datum : (Rows.laid_loop_example_g00200_impl_halfSums : DataW Unit) = Lib.tabData .u32 halfTab := by kernel_rfl
theorem half_at : ∀ r : Nat, r < 16 → halfTab.getD r 0 = (tab r : Nat) := by decide

/-- what the row's list gives: the table's cells hold what four steps make -/
theorem tab_of_is {W : World} (h : Lib.TabIs Tryz.prog W "loop.example/g00200/impl.halfSums" .u32 halfTab) : Tab W := by
  intro r hr
  rw [h.cell gTab r hr, half_at r hr]
theorem table_of {W : World} (h : laidMet Tryz.prog [("loop.example/g00200/impl.halfSums", Rows.laid_loop_example_g00200_impl_halfSums)] W) : Tab W :=
  tab_of_is (Lib.tabIs_of_head (rest := []) gTab gTabType Tryz.underlying175 Tryz.underlying164 cellsElem cellsTab (by rw [← half_datum]; exact h))

def setRow (cs : Array Value) : Obj → Obj
  | .cells _ t frozen => .cells cs t frozen
  | o => o
/-- a world whose block holds the table -/
def layW (w : World) : World :=
  { w with heap := w.heap.modify 0 (setRow (halfTab.map (Value.int .u32)).toArray) }
end Go.Proofs.YtdifmjcghaoilaaGreatDoor.Q
