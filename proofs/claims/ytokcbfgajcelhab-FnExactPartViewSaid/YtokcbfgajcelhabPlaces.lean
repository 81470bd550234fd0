/-
  Twelve numbers of 0 .. 9999; one of a list.
-/

import Derived.Test.YtokcbfgajcelhabDraw
import Derived.Test.YtokcbfgajcelhabInts

namespace Go.Proofs.Ytokcbfgajcelhab

open Go.RowKit Go.PlainAid

set_option linter.unusedVariables false

/-- all are of 0 .. 9999 -/
def Small (l : List Int) : Prop := ∀ x ∈ l, 0 ≤ x ∧ x ≤ 9999

end Go.Proofs.Ytokcbfgajcelhab
