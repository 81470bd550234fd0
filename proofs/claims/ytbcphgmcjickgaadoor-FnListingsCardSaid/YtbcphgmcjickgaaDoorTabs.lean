/-
  The two tables that are read: powers of ten, names.
-/
import Derived.Test.YtbcphgmcjickgaaDoorDec05
import Derived.Test.YtbcphgmcjickgaaDoorNames
import Derived.Lib.LaidTab
namespace Go.Proofs.YtbcphgmcjickgaaDoor
open Go.ChangeShapes Go.WideShapes Go.ChangeAt Go.RowKit

theorem gTab : Tryd.prog.globalNamed "internal/strconv.uint64pow10" = some 2 := by kernel_rfl
/-- the table stays below what is new -/
theorem tab_below {w w' : World} (ht : Tab w) (hb : Below w.heap.size w w') : Tab w' := by
  have hlt : 2 < w.heap.size := by
    rcases Nat.lt_or_ge 2 w.heap.size with h' | h'
    · exact h'
    · unfold Tab Lib.TabIs World.var? at ht
      simp only [gTab, Option.bind_some] at ht
      rw [Array.getElem?_eq_none h'] at ht; simp at ht
  exact var?_below hb gTab hlt ht
/-- both tables -/
def TabA (w : World) : Prop := Tab w ∧ TabN w
theorem tabA_below {w w' : World} (h : TabA w) (hb : Below w.heap.size w w') : TabA w' := ⟨tab_below h.1 hb, tabN_below h.2 hb⟩
end Go.Proofs.YtbcphgmcjickgaaDoor
