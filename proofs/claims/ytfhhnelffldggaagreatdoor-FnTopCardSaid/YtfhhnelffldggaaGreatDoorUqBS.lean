/-
  A text of which one byte is turned: the contract of the law's own helper.
-/
import Derived.Test.YtfhhnelffldggaaGreatDoorUqAQ
import Derived.Test.YtfhhnelffldggaaGreatDoorUqAF
import Derived.RegionTactic
import Derived.ChangeAlike
import Derived.BigRegion
namespace Go.Proofs.YtfhhnelffldggaaGreatDoor
open Go.RowKit Go.PlainAid
set_option linter.unusedVariables false
set_option linter.unusedSimpArgs false
end Go.Proofs.YtfhhnelffldggaaGreatDoor
