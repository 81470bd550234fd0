/-
  DERIVED. GIVEN WITH THE SEED: THE CARDS: each row of YtadbekhekggpkaaGreatDoorRows.lean that lists a variable, with what it lists TIED to the program's text (the seventh form; the later family's looks); each row that meets fmt, with fmt's text TOLD by the authors' own Lean function (tested against real Go, not proved from fmt's source: count such statements apart). THE CARD IS WHAT COUNTS. Prove the row's statement (the work); the ties are given (YtadbekhekggpkaaGreatDoorTie.lean); close each card by the builder's one call (the guide's Derived/Test/ToyasCard.lean, 'card_holds'). Laid BY PROGRAM, IN A SANDBOX (cutbox-door.mjs). By AI agents, Wed Nov 11 2026. No macro, syntax, notation, axiom, sorry.
-/
import Derived.Test.YtadbekhekggpkaaGreatDoorRows
import GoSem.ClaimSeven
namespace Go.Proofs.YtadbekhekggpkaaGreatDoor
namespace Rows

/-- THE TIED CARD OF 'laws.FnSetups'. -/
def fnSetupsCard : Claim7 := { stood := { row := fnSetupsRow, standIns := [], harness := (true, "01b18c907e4363450be709c505ba7e988412bcbae3d45c1eea3c3845b8e4048b"), looks := true }, kinds := [], alts := [], laidByText := true, laidKinds := [.handle], laidTests := true, laidLooks := .later }
def FnSetupsCardSaid : Prop := Claim7.holds Tryz.pinned (.plain (OpenSpec.ofChange fnSetupsSpec)) fnSetupsCard

/-- THE TIED CARD OF 'laws.FnExactReadSetup'. -/
def fnExactReadSetupCard : Claim7 := { stood := { row := fnExactReadSetupRow, standIns := [], harness := (true, "01b18c907e4363450be709c505ba7e988412bcbae3d45c1eea3c3845b8e4048b"), looks := true }, kinds := [], alts := [], laidByText := true, laidKinds := [.handle], laidTests := true, laidLooks := .later }
def FnExactReadSetupCardSaid : Prop := Claim7.holds Tryz.pinned (.plain (OpenSpec.ofChange fnExactReadSetupSpec)) fnExactReadSetupCard

/-- THE SECOND FORM's CARD OF 'laws.FnSetups'. -/
def fnSetupsUptoCard : Claim7 := { stood := { row := fnSetupsUptoRow, standIns := [], harness := (true, "01b18c907e4363450be709c505ba7e988412bcbae3d45c1eea3c3845b8e4048b"), looks := true }, kinds := [], alts := [], laidByText := true, laidKinds := [.handle], laidTests := true, laidLooks := .later }
def FnSetupsUptoCardSaid : Prop := Claim7.holds Tryz.pinned (.plain (OpenSpec.upto fnSetupsSpec)) fnSetupsUptoCard

/-- THE SECOND FORM's CARD OF 'laws.FnExactReadSetup'. -/
def fnExactReadSetupUptoCard : Claim7 := { stood := { row := fnExactReadSetupUptoRow, standIns := [], harness := (true, "01b18c907e4363450be709c505ba7e988412bcbae3d45c1eea3c3845b8e4048b"), looks := true }, kinds := [], alts := [], laidByText := true, laidKinds := [.handle], laidTests := true, laidLooks := .later }
def FnExactReadSetupUptoCardSaid : Prop := Claim7.holds Tryz.pinned (.plain (OpenSpec.upto fnExactReadSetupSpec)) fnExactReadSetupUptoCard
end Rows
end Go.Proofs.YtadbekhekggpkaaGreatDoor
