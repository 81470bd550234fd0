/-
  The handle of the type 'error' that errors.errorType holds, out of the row's list; a world that holds it, for the witness.
-/
import Derived.Test.YtadbekhekggpkaaDoorAsX
import Derived.Test.YtadbekhekggpkaaDoorRows
import Derived.Lib.LaidTab
import Derived.OpenShut
import Derived.LaidHandle
import Derived.LaidLaws
import Derived.Stop.Joined
namespace Go.Proofs.YtadbekhekggpkaaDoor
open Go.ChangeShapes Go.WideShapes Go.ChangeAt Go.RowKit

theorem h_et : Tryd.prog.globalNamed "errors.errorType" = some 0 := by kernel_rfl
theorem h_oneRow : ((List.range 200).filter fun t => Tryd.prog.rowNamed t [101, 114, 114, 111, 114]) = [58] := by kernel_rfl
theorem h_size : Tryd.prog.types.size = 200 := by kernel_rfl
theorem handle_of {W : World} (h : laidMetH Tryd.prog [("errors.errorType", Rows.laid_errors_errorType)] W) : Hnd W := by
  have h' : laidMet Tryd.prog [] W ∧ handlesMet Tryd.prog [("errors.errorType", Rows.laid_errors_errorType)] W := h
  obtain ⟨name, u, ty, e1, e2, e3, e4, e5⟩ := h'.2 _ (List.mem_singleton.2 rfl)
  have en : name = [101, 114, 114, 111, 114] := (Option.some.inj e1).symm
  subst en
  have hu : some u = some 138 := e2.symm.trans (by kernel_rfl)
  obtain rfl := (Option.some.inj hu).symm
  have hm : ty ∈ (List.range 200).filter fun t => Tryd.prog.rowNamed t [101, 114, 114, 111, 114] := List.mem_filter.2 ⟨List.mem_range.2 (by rw [← h_size]; exact e3), e4⟩
  rw [h_oneRow] at hm
  obtain rfl := List.mem_singleton.1 hm
  have hh : typeHandle Tryd.prog 58 = .pointer (some ⟨1, 58, none⟩) := by kernel_rfl
  rw [hh] at e5
  show W.cell? _ = _
  simpa using World.var?_cell h_et e5 0
def setRowH (cs : Array Value) : Obj → Obj
  | .cells _ t frozen => .cells cs t frozen
  | o => o
/-- a world whose variable holds the handle -/
def layH (w : World) : World := { w with heap := w.heap.modify 0 (setRowH #[.iface 138 (.agg #[.pointer (some ⟨1, 58, none⟩)])]) }
end Go.Proofs.YtadbekhekggpkaaDoor
