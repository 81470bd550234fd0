/-
  The closed facts of the row of FnExactKernelOk, each looked at by itself.
-/
import Derived.Test.YtokcbfgajcelhaaGreatDoorCards
import Derived.Test.YtokcbfgajcelhaaGreatDoorTie
import Derived.Test.YtokcbfgajcelhaaGreatDoorBase
import Derived.OpenVars
import Derived.ChangeVars
import Derived.JoinedCond
namespace Go.Proofs.YtokcbfgajcelhaaGreatDoor.fnExactKernelOk
set_option linter.unusedVariables false

set_option maxRecDepth 100000 in
set_option maxHeartbeats 8000000 in
theorem closed : joinedFacts Tryz.prog 13 Tryz.f13 (OpenSpec.ofChange Rows.fnExactKernelOkSpec).bare Rows.fnExactKernelOkRow = true := by
  unfold joinedFacts
  repeat' (with_reducible refine (Bool.and_eq_true_iff).2 ⟨?_, ?_⟩)
  all_goals (as_aux_lemma => kernel_rfl)
end Go.Proofs.YtokcbfgajcelhaaGreatDoor.fnExactKernelOk
