/-
  DERIVED. GIVEN WITH THE SEED: THE CARDS: each row of YthjfbookeldpaaaDoorRows.lean that lists a variable, with what it lists TIED to the program's text (the seventh form; the later family's looks); each row that meets fmt, with fmt's text TOLD by the authors' own Lean function (tested against real Go, not proved from fmt's source: count such statements apart). THE CARD IS WHAT COUNTS. Prove the row's statement (the work); the ties are given (YthjfbookeldpaaaDoorTie.lean); close each card by the builder's one call (the guide's Derived/Test/ToyasCard.lean, 'card_holds'). Laid BY PROGRAM, IN A SANDBOX (cutbox-door.mjs). By AI agents, Wed Nov 11 2026. No macro, syntax, notation, axiom, sorry.
-/
import Derived.Test.YthjfbookeldpaaaDoorRows
import GoSem.ClaimSeven
namespace Go.Proofs.YthjfbookeldpaaaDoor
namespace Rows

/-- THE TIED CARD OF 'laws.FnSenses'. -/
def fnSensesCard : Claim7 := { stood := { row := fnSensesRow, standIns := [], harness := (true, "7cab6c585a4dbb9c2c54e606605aa449c2aee91c70974a578c182193f551a96c"), looks := false }, kinds := [], alts := [], laidByText := true, laidKinds := [.data], laidTests := true, laidLooks := .later }
def FnSensesCardSaid : Prop := Claim7.holds Tryd.pinned (.plain (OpenSpec.ofChange fnSensesSpec)) fnSensesCard

/-- THE TIED CARD OF 'laws.FnExactSenseNames'. -/
def fnExactSenseNamesCard : Claim7 := { stood := { row := fnExactSenseNamesRow, standIns := [], harness := (true, "7cab6c585a4dbb9c2c54e606605aa449c2aee91c70974a578c182193f551a96c"), looks := false }, kinds := [], alts := [], laidByText := true, laidKinds := [.data], laidTests := true, laidLooks := .later }
def FnExactSenseNamesCardSaid : Prop := Claim7.holds Tryd.pinned (.plain (OpenSpec.ofChange fnExactSenseNamesSpec)) fnExactSenseNamesCard

/-- THE TIED CARD OF 'laws.FnExactReadSense'. -/
def fnExactReadSenseCard : Claim7 := { stood := { row := fnExactReadSenseRow, standIns := [], harness := (true, "7cab6c585a4dbb9c2c54e606605aa449c2aee91c70974a578c182193f551a96c"), looks := false }, kinds := [], alts := [], laidByText := true, laidKinds := [.data], laidTests := true, laidLooks := .later }
def FnExactReadSenseCardSaid : Prop := Claim7.holds Tryd.pinned (.plain (OpenSpec.ofChange fnExactReadSenseSpec)) fnExactReadSenseCard

/-- THE SECOND FORM's CARD OF 'laws.FnSenses'. -/
def fnSensesUptoCard : Claim7 := { stood := { row := fnSensesUptoRow, standIns := [], harness := (true, "7cab6c585a4dbb9c2c54e606605aa449c2aee91c70974a578c182193f551a96c"), looks := false }, kinds := [], alts := [], laidByText := true, laidKinds := [.data], laidTests := true, laidLooks := .later }
def FnSensesUptoCardSaid : Prop := Claim7.holds Tryd.pinned (.plain (OpenSpec.upto fnSensesSpec)) fnSensesUptoCard

/-- THE SECOND FORM's CARD OF 'laws.FnExactSenseNames'. -/
def fnExactSenseNamesUptoCard : Claim7 := { stood := { row := fnExactSenseNamesUptoRow, standIns := [], harness := (true, "7cab6c585a4dbb9c2c54e606605aa449c2aee91c70974a578c182193f551a96c"), looks := false }, kinds := [], alts := [], laidByText := true, laidKinds := [.data], laidTests := true, laidLooks := .later }
def FnExactSenseNamesUptoCardSaid : Prop := Claim7.holds Tryd.pinned (.plain (OpenSpec.upto fnExactSenseNamesSpec)) fnExactSenseNamesUptoCard

/-- THE SECOND FORM's CARD OF 'laws.FnExactReadSense'. -/
def fnExactReadSenseUptoCard : Claim7 := { stood := { row := fnExactReadSenseUptoRow, standIns := [], harness := (true, "7cab6c585a4dbb9c2c54e606605aa449c2aee91c70974a578c182193f551a96c"), looks := false }, kinds := [], alts := [], laidByText := true, laidKinds := [.data], laidTests := true, laidLooks := .later }
def FnExactReadSenseUptoCardSaid : Prop := Claim7.holds Tryd.pinned (.plain (OpenSpec.upto fnExactReadSenseSpec)) fnExactReadSenseUptoCard
end Rows
end Go.Proofs.YthjfbookeldpaaaDoor
