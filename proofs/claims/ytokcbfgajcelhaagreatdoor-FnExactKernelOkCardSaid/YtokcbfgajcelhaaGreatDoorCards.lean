/-
  DERIVED. GIVEN WITH THE SEED: THE CARDS: each row of YtokcbfgajcelhaaGreatDoorRows.lean that lists a variable, with what it lists TIED to the program's text (the seventh form; the later family's looks); each row that meets fmt, with fmt's text TOLD by the authors' own Lean function (tested against real Go, not proved from fmt's source: count such statements apart). THE CARD IS WHAT COUNTS. Prove the row's statement (the work); the ties are given (YtokcbfgajcelhaaGreatDoorTie.lean); close each card by the builder's one call (the guide's Derived/Test/ToyasCard.lean, 'card_holds'). Laid BY PROGRAM, IN A SANDBOX (cutbox-door.mjs). By AI agents, Wed Nov 11 2026. No macro, syntax, notation, axiom, sorry.
-/
import Derived.Test.YtokcbfgajcelhaaGreatDoorRows
import GoSem.ClaimSeven
namespace Go.Proofs.YtokcbfgajcelhaaGreatDoor
namespace Rows

/-- THE TIED CARD OF 'laws.FnKernels'. -/
def fnKernelsCard : Claim7 := { stood := { row := fnKernelsRow, standIns := [], harness := (true, "48174e394a673094a05bff4a17659b20be12803dbce765cef9b7e7aa7965dbc3"), looks := true }, kinds := [], alts := [], laidByText := true, laidKinds := [.handle], laidTests := true, laidLooks := .later }
def FnKernelsCardSaid : Prop := Claim7.holds Tryz.pinned (.plain (OpenSpec.ofChange fnKernelsSpec)) fnKernelsCard

/-- THE TIED CARD OF 'laws.FnAlone'. -/
def fnAloneCard : Claim7 := { stood := { row := fnAloneRow, standIns := [], harness := (true, "48174e394a673094a05bff4a17659b20be12803dbce765cef9b7e7aa7965dbc3"), looks := true }, kinds := [], alts := [], laidByText := true, laidKinds := [.handle], laidTests := true, laidLooks := .later }
def FnAloneCardSaid : Prop := Claim7.holds Tryz.pinned (.plain (OpenSpec.ofChange fnAloneSpec)) fnAloneCard

/-- THE TIED CARD OF 'laws.FnNothingSeen'. -/
def fnNothingSeenCard : Claim7 := { stood := { row := fnNothingSeenRow, standIns := [], harness := (true, "48174e394a673094a05bff4a17659b20be12803dbce765cef9b7e7aa7965dbc3"), looks := true }, kinds := [], alts := [], laidByText := true, laidKinds := [.handle], laidTests := true, laidLooks := .later }
def FnNothingSeenCardSaid : Prop := Claim7.holds Tryz.pinned (.plain (OpenSpec.ofChange fnNothingSeenSpec)) fnNothingSeenCard

/-- THE TIED CARD OF 'laws.FnInTime'. -/
def fnInTimeCard : Claim7 := { stood := { row := fnInTimeRow, standIns := [], harness := (true, "48174e394a673094a05bff4a17659b20be12803dbce765cef9b7e7aa7965dbc3"), looks := true }, kinds := [], alts := [], laidByText := true, laidKinds := [.handle], laidTests := true, laidLooks := .later }
def FnInTimeCardSaid : Prop := Claim7.holds Tryz.pinned (.plain (OpenSpec.ofChange fnInTimeSpec)) fnInTimeCard

/-- THE TIED CARD OF 'laws.FnBudgets'. -/
def fnBudgetsCard : Claim7 := { stood := { row := fnBudgetsRow, standIns := [], harness := (true, "48174e394a673094a05bff4a17659b20be12803dbce765cef9b7e7aa7965dbc3"), looks := true }, kinds := [], alts := [], laidByText := true, laidKinds := [.handle], laidTests := true, laidLooks := .later }
def FnBudgetsCardSaid : Prop := Claim7.holds Tryz.pinned (.plain (OpenSpec.ofChange fnBudgetsSpec)) fnBudgetsCard

/-- THE TIED CARD OF 'laws.FnHalted'. -/
def fnHaltedCard : Claim7 := { stood := { row := fnHaltedRow, standIns := [], harness := (true, "48174e394a673094a05bff4a17659b20be12803dbce765cef9b7e7aa7965dbc3"), looks := true }, kinds := [], alts := [], laidByText := true, laidKinds := [.handle], laidTests := true, laidLooks := .later }
def FnHaltedCardSaid : Prop := Claim7.holds Tryz.pinned (.plain (OpenSpec.ofChange fnHaltedSpec)) fnHaltedCard

/-- THE TIED CARD OF 'laws.FnStorms'. -/
def fnStormsCard : Claim7 := { stood := { row := fnStormsRow, standIns := [], harness := (true, "48174e394a673094a05bff4a17659b20be12803dbce765cef9b7e7aa7965dbc3"), looks := true }, kinds := [], alts := [], laidByText := true, laidKinds := [.handle], laidTests := true, laidLooks := .later }
def FnStormsCardSaid : Prop := Claim7.holds Tryz.pinned (.plain (OpenSpec.ofChange fnStormsSpec)) fnStormsCard

/-- THE TIED CARD OF 'laws.FnStopped'. -/
def fnStoppedCard : Claim7 := { stood := { row := fnStoppedRow, standIns := [], harness := (true, "48174e394a673094a05bff4a17659b20be12803dbce765cef9b7e7aa7965dbc3"), looks := true }, kinds := [], alts := [], laidByText := true, laidKinds := [.handle], laidTests := true, laidLooks := .later }
def FnStoppedCardSaid : Prop := Claim7.holds Tryz.pinned (.plain (OpenSpec.ofChange fnStoppedSpec)) fnStoppedCard

/-- THE TIED CARD OF 'laws.FnMessages'. -/
def fnMessagesCard : Claim7 := { stood := { row := fnMessagesRow, standIns := [], harness := (true, "48174e394a673094a05bff4a17659b20be12803dbce765cef9b7e7aa7965dbc3"), looks := true }, kinds := [], alts := [], laidByText := true, laidKinds := [.handle], laidTests := true, laidLooks := .later }
def FnMessagesCardSaid : Prop := Claim7.holds Tryz.pinned (.plain (OpenSpec.ofChange fnMessagesSpec)) fnMessagesCard

/-- THE TIED CARD OF 'laws.FnExactKernelNew'. -/
def fnExactKernelNewCard : Claim7 := { stood := { row := fnExactKernelNewRow, standIns := [], harness := (true, "48174e394a673094a05bff4a17659b20be12803dbce765cef9b7e7aa7965dbc3"), looks := true }, kinds := [], alts := [], laidByText := true, laidKinds := [.handle], laidTests := true, laidLooks := .later }
def FnExactKernelNewCardSaid : Prop := Claim7.holds Tryz.pinned (.plain (OpenSpec.ofChange fnExactKernelNewSpec)) fnExactKernelNewCard

/-- THE TIED CARD OF 'laws.FnExactKernelOk'. -/
def fnExactKernelOkCard : Claim7 := { stood := { row := fnExactKernelOkRow, standIns := [], harness := (true, "48174e394a673094a05bff4a17659b20be12803dbce765cef9b7e7aa7965dbc3"), looks := true }, kinds := [], alts := [], laidByText := true, laidKinds := [.handle], laidTests := true, laidLooks := .later }
def FnExactKernelOkCardSaid : Prop := Claim7.holds Tryz.pinned (.plain (OpenSpec.ofChange fnExactKernelOkSpec)) fnExactKernelOkCard

/-- THE TIED CARD OF 'laws.FnExactRunPart'. -/
def fnExactRunPartCard : Claim7 := { stood := { row := fnExactRunPartRow, standIns := [], harness := (true, "48174e394a673094a05bff4a17659b20be12803dbce765cef9b7e7aa7965dbc3"), looks := true }, kinds := [], alts := [], laidByText := true, laidKinds := [.handle], laidTests := true, laidLooks := .later }
def FnExactRunPartCardSaid : Prop := Claim7.holds Tryz.pinned (.plain (OpenSpec.ofChange fnExactRunPartSpec)) fnExactRunPartCard

/-- THE SECOND FORM's CARD OF 'laws.FnKernels'. -/
def fnKernelsUptoCard : Claim7 := { stood := { row := fnKernelsUptoRow, standIns := [], harness := (true, "48174e394a673094a05bff4a17659b20be12803dbce765cef9b7e7aa7965dbc3"), looks := true }, kinds := [], alts := [], laidByText := true, laidKinds := [.handle], laidTests := true, laidLooks := .later }
def FnKernelsUptoCardSaid : Prop := Claim7.holds Tryz.pinned (.plain (OpenSpec.upto fnKernelsSpec)) fnKernelsUptoCard

/-- THE SECOND FORM's CARD OF 'laws.FnAlone'. -/
def fnAloneUptoCard : Claim7 := { stood := { row := fnAloneUptoRow, standIns := [], harness := (true, "48174e394a673094a05bff4a17659b20be12803dbce765cef9b7e7aa7965dbc3"), looks := true }, kinds := [], alts := [], laidByText := true, laidKinds := [.handle], laidTests := true, laidLooks := .later }
def FnAloneUptoCardSaid : Prop := Claim7.holds Tryz.pinned (.plain (OpenSpec.upto fnAloneSpec)) fnAloneUptoCard

/-- THE SECOND FORM's CARD OF 'laws.FnNothingSeen'. -/
def fnNothingSeenUptoCard : Claim7 := { stood := { row := fnNothingSeenUptoRow, standIns := [], harness := (true, "48174e394a673094a05bff4a17659b20be12803dbce765cef9b7e7aa7965dbc3"), looks := true }, kinds := [], alts := [], laidByText := true, laidKinds := [.handle], laidTests := true, laidLooks := .later }
def FnNothingSeenUptoCardSaid : Prop := Claim7.holds Tryz.pinned (.plain (OpenSpec.upto fnNothingSeenSpec)) fnNothingSeenUptoCard

/-- THE SECOND FORM's CARD OF 'laws.FnInTime'. -/
def fnInTimeUptoCard : Claim7 := { stood := { row := fnInTimeUptoRow, standIns := [], harness := (true, "48174e394a673094a05bff4a17659b20be12803dbce765cef9b7e7aa7965dbc3"), looks := true }, kinds := [], alts := [], laidByText := true, laidKinds := [.handle], laidTests := true, laidLooks := .later }
def FnInTimeUptoCardSaid : Prop := Claim7.holds Tryz.pinned (.plain (OpenSpec.upto fnInTimeSpec)) fnInTimeUptoCard

/-- THE SECOND FORM's CARD OF 'laws.FnBudgets'. -/
def fnBudgetsUptoCard : Claim7 := { stood := { row := fnBudgetsUptoRow, standIns := [], harness := (true, "48174e394a673094a05bff4a17659b20be12803dbce765cef9b7e7aa7965dbc3"), looks := true }, kinds := [], alts := [], laidByText := true, laidKinds := [.handle], laidTests := true, laidLooks := .later }
def FnBudgetsUptoCardSaid : Prop := Claim7.holds Tryz.pinned (.plain (OpenSpec.upto fnBudgetsSpec)) fnBudgetsUptoCard

/-- THE SECOND FORM's CARD OF 'laws.FnHalted'. -/
def fnHaltedUptoCard : Claim7 := { stood := { row := fnHaltedUptoRow, standIns := [], harness := (true, "48174e394a673094a05bff4a17659b20be12803dbce765cef9b7e7aa7965dbc3"), looks := true }, kinds := [], alts := [], laidByText := true, laidKinds := [.handle], laidTests := true, laidLooks := .later }
def FnHaltedUptoCardSaid : Prop := Claim7.holds Tryz.pinned (.plain (OpenSpec.upto fnHaltedSpec)) fnHaltedUptoCard

/-- THE SECOND FORM's CARD OF 'laws.FnStorms'. -/
def fnStormsUptoCard : Claim7 := { stood := { row := fnStormsUptoRow, standIns := [], harness := (true, "48174e394a673094a05bff4a17659b20be12803dbce765cef9b7e7aa7965dbc3"), looks := true }, kinds := [], alts := [], laidByText := true, laidKinds := [.handle], laidTests := true, laidLooks := .later }
def FnStormsUptoCardSaid : Prop := Claim7.holds Tryz.pinned (.plain (OpenSpec.upto fnStormsSpec)) fnStormsUptoCard

/-- THE SECOND FORM's CARD OF 'laws.FnStopped'. -/
def fnStoppedUptoCard : Claim7 := { stood := { row := fnStoppedUptoRow, standIns := [], harness := (true, "48174e394a673094a05bff4a17659b20be12803dbce765cef9b7e7aa7965dbc3"), looks := true }, kinds := [], alts := [], laidByText := true, laidKinds := [.handle], laidTests := true, laidLooks := .later }
def FnStoppedUptoCardSaid : Prop := Claim7.holds Tryz.pinned (.plain (OpenSpec.upto fnStoppedSpec)) fnStoppedUptoCard

/-- THE SECOND FORM's CARD OF 'laws.FnMessages'. -/
def fnMessagesUptoCard : Claim7 := { stood := { row := fnMessagesUptoRow, standIns := [], harness := (true, "48174e394a673094a05bff4a17659b20be12803dbce765cef9b7e7aa7965dbc3"), looks := true }, kinds := [], alts := [], laidByText := true, laidKinds := [.handle], laidTests := true, laidLooks := .later }
def FnMessagesUptoCardSaid : Prop := Claim7.holds Tryz.pinned (.plain (OpenSpec.upto fnMessagesSpec)) fnMessagesUptoCard

/-- THE SECOND FORM's CARD OF 'laws.FnExactKernelNew'. -/
def fnExactKernelNewUptoCard : Claim7 := { stood := { row := fnExactKernelNewUptoRow, standIns := [], harness := (true, "48174e394a673094a05bff4a17659b20be12803dbce765cef9b7e7aa7965dbc3"), looks := true }, kinds := [], alts := [], laidByText := true, laidKinds := [.handle], laidTests := true, laidLooks := .later }
def FnExactKernelNewUptoCardSaid : Prop := Claim7.holds Tryz.pinned (.plain (OpenSpec.upto fnExactKernelNewSpec)) fnExactKernelNewUptoCard

/-- THE SECOND FORM's CARD OF 'laws.FnExactKernelOk'. -/
def fnExactKernelOkUptoCard : Claim7 := { stood := { row := fnExactKernelOkUptoRow, standIns := [], harness := (true, "48174e394a673094a05bff4a17659b20be12803dbce765cef9b7e7aa7965dbc3"), looks := true }, kinds := [], alts := [], laidByText := true, laidKinds := [.handle], laidTests := true, laidLooks := .later }
def FnExactKernelOkUptoCardSaid : Prop := Claim7.holds Tryz.pinned (.plain (OpenSpec.upto fnExactKernelOkSpec)) fnExactKernelOkUptoCard

/-- THE SECOND FORM's CARD OF 'laws.FnExactRunPart'. -/
def fnExactRunPartUptoCard : Claim7 := { stood := { row := fnExactRunPartUptoRow, standIns := [], harness := (true, "48174e394a673094a05bff4a17659b20be12803dbce765cef9b7e7aa7965dbc3"), looks := true }, kinds := [], alts := [], laidByText := true, laidKinds := [.handle], laidTests := true, laidLooks := .later }
def FnExactRunPartUptoCardSaid : Prop := Claim7.holds Tryz.pinned (.plain (OpenSpec.upto fnExactRunPartSpec)) fnExactRunPartUptoCard
end Rows
end Go.Proofs.YtokcbfgajcelhaaGreatDoor
