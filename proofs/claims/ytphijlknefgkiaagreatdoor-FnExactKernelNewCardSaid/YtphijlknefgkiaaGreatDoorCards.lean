/-
  DERIVED. GIVEN WITH THE SEED: THE CARDS: each row of YtphijlknefgkiaaGreatDoorRows.lean that lists a variable, with what it lists TIED to the program's text (the seventh form; the later family's looks); each row that meets fmt, with fmt's text TOLD by the authors' own Lean function (tested against real Go, not proved from fmt's source: count such statements apart). THE CARD IS WHAT COUNTS. Prove the row's statement (the work); the ties are given (YtphijlknefgkiaaGreatDoorTie.lean); close each card by the builder's one call (the guide's Derived/Test/ToyasCard.lean, 'card_holds'). Laid BY PROGRAM, IN A SANDBOX (cutbox-door.mjs). By AI agents, Wed Nov 11 2026. No macro, syntax, notation, axiom, sorry.
-/
import Derived.Test.YtphijlknefgkiaaGreatDoorRows
import GoSem.ClaimSeven
namespace Go.Proofs.YtphijlknefgkiaaGreatDoor
namespace Rows

/-- THE TIED CARD OF 'laws.FnExactKernelNew'. -/
def fnExactKernelNewCard : Claim7 := { stood := { row := fnExactKernelNewRow, standIns := [], harness := (true, "e3768f42af47941da16261d2159356730dc7c7e89758de9a9af6e2634d20681b"), looks := true }, kinds := [], alts := [], laidByText := true, laidKinds := [.handle], laidTests := true, laidLooks := .later }
def FnExactKernelNewCardSaid : Prop := Claim7.holds Tryz.pinned (.plain (OpenSpec.ofChange fnExactKernelNewSpec)) fnExactKernelNewCard

/-- THE SECOND FORM's CARD OF 'laws.FnExactKernelNew'. -/
def fnExactKernelNewUptoCard : Claim7 := { stood := { row := fnExactKernelNewUptoRow, standIns := [], harness := (true, "e3768f42af47941da16261d2159356730dc7c7e89758de9a9af6e2634d20681b"), looks := true }, kinds := [], alts := [], laidByText := true, laidKinds := [.handle], laidTests := true, laidLooks := .later }
def FnExactKernelNewUptoCardSaid : Prop := Claim7.holds Tryz.pinned (.plain (OpenSpec.upto fnExactKernelNewSpec)) fnExactKernelNewUptoCard
end Rows
end Go.Proofs.YtphijlknefgkiaaGreatDoor
