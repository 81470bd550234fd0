/-
  DERIVED. GIVEN WITH THE SEED: THE CARDS: each row of YtdifmjcghaoilaaGreatDoorRows.lean that lists a variable, with what it lists TIED to the program's text (the seventh form; the later family's looks); each row that meets fmt, with fmt's text TOLD by the authors' own Lean function (tested against real Go, not proved from fmt's source: count such statements apart). THE CARD IS WHAT COUNTS. Prove the row's statement (the work); the ties are given (YtdifmjcghaoilaaGreatDoorTie.lean); close each card by the builder's one call (the guide's Derived/Test/ToyasCard.lean, 'card_holds'). Laid BY PROGRAM, IN A SANDBOX (cutbox-door.mjs). By AI agents, Wed Nov 11 2026. No macro, syntax, notation, axiom, sorry.
-/
import Derived.Test.YtdifmjcghaoilaaGreatDoorRows
import GoSem.ClaimSeven
namespace Go.Proofs.YtdifmjcghaoilaaGreatDoor
namespace Rows

/-- THE TIED CARD OF 'laws.FnLimits'. -/
def fnLimitsCard : Claim7 := { stood := { row := fnLimitsRow, standIns := [], harness := (true, "e06f6ff74d388d4699b10a42309bf3a721ede90f194698216b42916458f99538"), looks := false }, kinds := [], alts := [], laidByText := true, laidKinds := [.data], laidTests := true, laidLooks := .later }
def FnLimitsCardSaid : Prop := Claim7.holds Tryz.pinned (.plain (OpenSpec.ofChange fnLimitsSpec)) fnLimitsCard

/-- THE TIED CARD OF 'laws.FnAlarmStops'. -/
def fnAlarmStopsCard : Claim7 := { stood := { row := fnAlarmStopsRow, standIns := [], harness := (true, "e06f6ff74d388d4699b10a42309bf3a721ede90f194698216b42916458f99538"), looks := false }, kinds := [], alts := [], laidByText := true, laidKinds := [.data], laidTests := true, laidLooks := .later }
def FnAlarmStopsCardSaid : Prop := Claim7.holds Tryz.pinned (.plain (OpenSpec.ofChange fnAlarmStopsSpec)) fnAlarmStopsCard

/-- THE SECOND FORM's CARD OF 'laws.FnLimits'. -/
def fnLimitsUptoCard : Claim7 := { stood := { row := fnLimitsUptoRow, standIns := [], harness := (true, "e06f6ff74d388d4699b10a42309bf3a721ede90f194698216b42916458f99538"), looks := false }, kinds := [], alts := [], laidByText := true, laidKinds := [.data], laidTests := true, laidLooks := .later }
def FnLimitsUptoCardSaid : Prop := Claim7.holds Tryz.pinned (.plain (OpenSpec.upto fnLimitsSpec)) fnLimitsUptoCard

/-- THE SECOND FORM's CARD OF 'laws.FnAlarmStops'. -/
def fnAlarmStopsUptoCard : Claim7 := { stood := { row := fnAlarmStopsUptoRow, standIns := [], harness := (true, "e06f6ff74d388d4699b10a42309bf3a721ede90f194698216b42916458f99538"), looks := false }, kinds := [], alts := [], laidByText := true, laidKinds := [.data], laidTests := true, laidLooks := .later }
def FnAlarmStopsUptoCardSaid : Prop := Claim7.holds Tryz.pinned (.plain (OpenSpec.upto fnAlarmStopsSpec)) fnAlarmStopsUptoCard
end Rows
end Go.Proofs.YtdifmjcghaoilaaGreatDoor
