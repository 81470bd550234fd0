/-
  The closed facts of the row of FnExactKernelNew, each looked at by itself.
-/
import Derived.Test.YtphijlknefgkiaaGreatDoorCards
import Derived.Test.YtphijlknefgkiaaGreatDoorTie
import Derived.Test.YtphijlknefgkiaaGreatDoorBase
import Derived.OpenVars
import Derived.ChangeVars
import Derived.JoinedCond
namespace Go.Proofs.YtphijlknefgkiaaGreatDoor.fnExactKernelNew
set_option linter.unusedVariables false

set_option maxRecDepth 100000 in
set_option maxHeartbeats 8000000 in
theorem closed : joinedFacts Tryz.prog 3 Tryz.f3 (OpenSpec.ofChange Rows.fnExactKernelNewSpec).bare Rows.fnExactKernelNewRow = true := by
  unfold joinedFacts
  repeat' (with_reducible refine (Bool.and_eq_true_iff).2 ⟨?_, ?_⟩)
  all_goals (as_aux_lemma => kernel_rfl)
end Go.Proofs.YtphijlknefgkiaaGreatDoor.fnExactKernelNew
