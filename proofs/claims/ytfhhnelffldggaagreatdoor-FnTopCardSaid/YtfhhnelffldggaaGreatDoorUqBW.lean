/-
  RunDevice of both sides, at every list of inputs.
-/
import Derived.Test.YtfhhnelffldggaaGreatDoorUqBO
import Derived.Test.YtfhhnelffldggaaGreatDoorUqBV
import Derived.Test.YtfhhnelffldggaaGreatDoorUqBE
import Derived.Test.YtfhhnelffldggaaGreatDoorUqAX
namespace Go.Proofs.YtfhhnelffldggaaGreatDoor
open Go.ChangeShapes Go.WideShapes Go.ChangeAt Go.RowKit Go.Deep Go.PlainAid
set_option linter.unusedVariables false
set_option linter.unusedSimpArgs false
end Go.Proofs.YtfhhnelffldggaaGreatDoor
