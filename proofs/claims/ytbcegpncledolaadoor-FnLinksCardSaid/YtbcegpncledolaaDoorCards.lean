/-
  DERIVED. GIVEN WITH THE SEED: THE CARDS: each row of YtbcegpncledolaaDoorRows.lean that lists a variable, with what it lists TIED to the program's text (the seventh form; the later family's looks); each row that meets fmt, with fmt's text TOLD by the authors' own Lean function (tested against real Go, not proved from fmt's source: count such statements apart). THE CARD IS WHAT COUNTS. Prove the row's statement (the work); the ties are given (YtbcegpncledolaaDoorTie.lean); close each card by the builder's one call (the guide's Derived/Test/ToyasCard.lean, 'card_holds'). Laid BY PROGRAM, IN A SANDBOX (cutbox-door.mjs). By AI agents, Wed Nov 11 2026. No macro, syntax, notation, axiom, sorry.
-/
import Derived.Test.YtbcegpncledolaaDoorRows
import GoSem.ClaimSeven
namespace Go.Proofs.YtbcegpncledolaaDoor
namespace Rows

/-- THE TIED CARD OF 'laws.FnLinks'. -/
def fnLinksCard : Claim7 := { stood := { row := fnLinksRow, standIns := [], harness := (true, "40bd57696096e865b4b0954dbb1d1e81692dbec08ce24e7b76d06fe747025a0d"), looks := false }, kinds := [], alts := [], laidByText := true, laidKinds := [.data], laidTests := true, laidLooks := .later }
def FnLinksCardSaid : Prop := Claim7.holds Tryd.pinned (.plain (OpenSpec.ofChange fnLinksSpec)) fnLinksCard

/-- THE TIED CARD OF 'laws.FnGiven'. -/
def fnGivenCard : Claim7 := { stood := { row := fnGivenRow, standIns := [], harness := (true, "40bd57696096e865b4b0954dbb1d1e81692dbec08ce24e7b76d06fe747025a0d"), looks := false }, kinds := [], alts := [], laidByText := true, laidKinds := [.data], laidTests := true, laidLooks := .later }
def FnGivenCardSaid : Prop := Claim7.holds Tryd.pinned (.plain (OpenSpec.ofChange fnGivenSpec)) fnGivenCard

/-- THE TIED CARD OF 'laws.FnSeen'. -/
def fnSeenCard : Claim7 := { stood := { row := fnSeenRow, standIns := [], harness := (true, "40bd57696096e865b4b0954dbb1d1e81692dbec08ce24e7b76d06fe747025a0d"), looks := false }, kinds := [], alts := [], laidByText := true, laidKinds := [.data], laidTests := true, laidLooks := .later }
def FnSeenCardSaid : Prop := Claim7.holds Tryd.pinned (.plain (OpenSpec.ofChange fnSeenSpec)) fnSeenCard

/-- THE SECOND FORM's CARD OF 'laws.FnLinks'. -/
def fnLinksUptoCard : Claim7 := { stood := { row := fnLinksUptoRow, standIns := [], harness := (true, "40bd57696096e865b4b0954dbb1d1e81692dbec08ce24e7b76d06fe747025a0d"), looks := false }, kinds := [], alts := [], laidByText := true, laidKinds := [.data], laidTests := true, laidLooks := .later }
def FnLinksUptoCardSaid : Prop := Claim7.holds Tryd.pinned (.plain (OpenSpec.upto fnLinksSpec)) fnLinksUptoCard

/-- THE SECOND FORM's CARD OF 'laws.FnGiven'. -/
def fnGivenUptoCard : Claim7 := { stood := { row := fnGivenUptoRow, standIns := [], harness := (true, "40bd57696096e865b4b0954dbb1d1e81692dbec08ce24e7b76d06fe747025a0d"), looks := false }, kinds := [], alts := [], laidByText := true, laidKinds := [.data], laidTests := true, laidLooks := .later }
def FnGivenUptoCardSaid : Prop := Claim7.holds Tryd.pinned (.plain (OpenSpec.upto fnGivenSpec)) fnGivenUptoCard

/-- THE SECOND FORM's CARD OF 'laws.FnSeen'. -/
def fnSeenUptoCard : Claim7 := { stood := { row := fnSeenUptoRow, standIns := [], harness := (true, "40bd57696096e865b4b0954dbb1d1e81692dbec08ce24e7b76d06fe747025a0d"), looks := false }, kinds := [], alts := [], laidByText := true, laidKinds := [.data], laidTests := true, laidLooks := .later }
def FnSeenUptoCardSaid : Prop := Claim7.holds Tryd.pinned (.plain (OpenSpec.upto fnSeenSpec)) fnSeenUptoCard
end Rows
end Go.Proofs.YtbcegpncledolaaDoor
