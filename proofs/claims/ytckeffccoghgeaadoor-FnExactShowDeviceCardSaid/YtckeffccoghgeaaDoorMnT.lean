/-
  Menus of the specification: the top, Press.
-/
import Derived.Test.YtckeffccoghgeaaDoorMnS
namespace Go.Proofs.YtckeffccoghgeaaDoor
open Go.RowKit Go.PlainAid
set_option linter.unusedVariables false
set_option linter.unusedSimpArgs false

end Go.Proofs.YtckeffccoghgeaaDoor
