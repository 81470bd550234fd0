/-
  Twelve numbers of 0 .. 9999; one of a list.
-/

import Derived.Test.YtphijlknefgkiaaGreatDoorDraw
import Derived.Test.YtphijlknefgkiaaGreatDoorInts

namespace Go.Proofs.YtphijlknefgkiaaGreatDoor

open Go.RowKit Go.PlainAid

set_option linter.unusedVariables false

/-- all are of 0 .. 9999 -/
def Small (l : List Int) : Prop := ∀ x ∈ l, 0 ≤ x ∧ x ≤ 9999

end Go.Proofs.YtphijlknefgkiaaGreatDoor
