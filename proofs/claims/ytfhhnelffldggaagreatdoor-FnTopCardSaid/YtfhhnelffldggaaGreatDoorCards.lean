/-
  DERIVED. GIVEN WITH THE SEED: THE CARDS: each row of YtfhhnelffldggaaGreatDoorRows.lean that lists a variable, with what it lists TIED to the program's text (the seventh form; the later family's looks); each row that meets fmt, with fmt's text TOLD by the authors' own Lean function (tested against real Go, not proved from fmt's source: count such statements apart). THE CARD IS WHAT COUNTS. Prove the row's statement (the work); the ties are given (YtfhhnelffldggaaGreatDoorTie.lean); close each card by the builder's one call (the guide's Derived/Test/ToyasCard.lean, 'card_holds'). Laid BY PROGRAM, IN A SANDBOX (cutbox-door.mjs). By AI agents, Wed Nov 11 2026. No macro, syntax, notation, axiom, sorry.
-/
import Derived.Test.YtfhhnelffldggaaGreatDoorRows
import GoSem.ClaimSeven
namespace Go.Proofs.YtfhhnelffldggaaGreatDoor
namespace Rows

/-- THE TIED CARD OF 'laws.FnTop'. -/
def fnTopCard : Claim7 := { stood := { row := fnTopRow, standIns := [], harness := (true, "7a4dab6e65091d7e5d4a4b81b6749473b01fa0e622e5c37761302db35d3d7ea5"), looks := false }, kinds := [], alts := [], laidByText := true, laidKinds := [.data], laidTests := true, laidLooks := .later }
def FnTopCardSaid : Prop := Claim7.holds Tryz.pinned (.plain (OpenSpec.ofChange fnTopSpec)) fnTopCard

/-- THE TIED CARD OF 'laws.FnTicks'. -/
def fnTicksCard : Claim7 := { stood := { row := fnTicksRow, standIns := [], harness := (true, "7a4dab6e65091d7e5d4a4b81b6749473b01fa0e622e5c37761302db35d3d7ea5"), looks := false }, kinds := [], alts := [], laidByText := true, laidKinds := [.data], laidTests := true, laidLooks := .later }
def FnTicksCardSaid : Prop := Claim7.holds Tryz.pinned (.plain (OpenSpec.ofChange fnTicksSpec)) fnTicksCard

/-- THE TIED CARD OF 'laws.FnExactRunDevice'. -/
def fnExactRunDeviceCard : Claim7 := { stood := { row := fnExactRunDeviceRow, standIns := [], harness := (true, "7a4dab6e65091d7e5d4a4b81b6749473b01fa0e622e5c37761302db35d3d7ea5"), looks := false }, kinds := [], alts := [], laidByText := true, laidKinds := [.data], laidTests := true, laidLooks := .later }
def FnExactRunDeviceCardSaid : Prop := Claim7.holds Tryz.pinned (.plain (OpenSpec.ofChange fnExactRunDeviceSpec)) fnExactRunDeviceCard

/-- THE SECOND FORM's CARD OF 'laws.FnTop'. -/
def fnTopUptoCard : Claim7 := { stood := { row := fnTopUptoRow, standIns := [], harness := (true, "7a4dab6e65091d7e5d4a4b81b6749473b01fa0e622e5c37761302db35d3d7ea5"), looks := false }, kinds := [], alts := [], laidByText := true, laidKinds := [.data], laidTests := true, laidLooks := .later }
def FnTopUptoCardSaid : Prop := Claim7.holds Tryz.pinned (.plain (OpenSpec.upto fnTopSpec)) fnTopUptoCard

/-- THE SECOND FORM's CARD OF 'laws.FnTicks'. -/
def fnTicksUptoCard : Claim7 := { stood := { row := fnTicksUptoRow, standIns := [], harness := (true, "7a4dab6e65091d7e5d4a4b81b6749473b01fa0e622e5c37761302db35d3d7ea5"), looks := false }, kinds := [], alts := [], laidByText := true, laidKinds := [.data], laidTests := true, laidLooks := .later }
def FnTicksUptoCardSaid : Prop := Claim7.holds Tryz.pinned (.plain (OpenSpec.upto fnTicksSpec)) fnTicksUptoCard

/-- THE SECOND FORM's CARD OF 'laws.FnExactRunDevice'. -/
def fnExactRunDeviceUptoCard : Claim7 := { stood := { row := fnExactRunDeviceUptoRow, standIns := [], harness := (true, "7a4dab6e65091d7e5d4a4b81b6749473b01fa0e622e5c37761302db35d3d7ea5"), looks := false }, kinds := [], alts := [], laidByText := true, laidKinds := [.data], laidTests := true, laidLooks := .later }
def FnExactRunDeviceUptoCardSaid : Prop := Claim7.holds Tryz.pinned (.plain (OpenSpec.upto fnExactRunDeviceSpec)) fnExactRunDeviceUptoCard
end Rows
end Go.Proofs.YtfhhnelffldggaaGreatDoor
