/-
  DERIVED. GIVEN WITH THE SEED: THE CARDS: each row of YtbcphgmcjickgaaDoorRows.lean that lists a variable, with what it lists TIED to the program's text (the seventh form; the later family's looks); each row that meets fmt, with fmt's text TOLD by the authors' own Lean function (tested against real Go, not proved from fmt's source: count such statements apart). THE CARD IS WHAT COUNTS. Prove the row's statement (the work); the ties are given (YtbcphgmcjickgaaDoorTie.lean); close each card by the builder's one call (the guide's Derived/Test/ToyasCard.lean, 'card_holds'). Laid BY PROGRAM, IN A SANDBOX (cutbox-door.mjs). By AI agents, Wed Nov 11 2026. No macro, syntax, notation, axiom, sorry.
-/
import Derived.Test.YtbcphgmcjickgaaDoorRows
import GoSem.ClaimSeven
namespace Go.Proofs.YtbcphgmcjickgaaDoor
namespace Rows

/-- THE TIED CARD OF 'laws.FnListings'. -/
def fnListingsCard : Claim7 := { stood := { row := fnListingsRow, standIns := [], harness := (true, "21268a7724b1b1c0c01f8de6e67fd77cee9003e500c2f44e4fb7ddc029708402"), looks := false }, kinds := [], alts := [], laidByText := true, laidKinds := [.data, .data, .data, .data], laidTests := true, laidLooks := .later }
def FnListingsCardSaid : Prop := Claim7.holds Tryd.pinned (.plain (OpenSpec.ofChange fnListingsSpec)) fnListingsCard

/-- THE TIED CARD OF 'laws.FnCosts'. -/
def fnCostsCard : Claim7 := { stood := { row := fnCostsRow, standIns := [], harness := (true, "21268a7724b1b1c0c01f8de6e67fd77cee9003e500c2f44e4fb7ddc029708402"), looks := false }, kinds := [], alts := [], laidByText := true, laidKinds := [.data], laidTests := true, laidLooks := .later }
def FnCostsCardSaid : Prop := Claim7.holds Tryd.pinned (.plain (OpenSpec.ofChange fnCostsSpec)) fnCostsCard

/-- THE TIED CARD OF 'laws.FnExactNameOf'. -/
def fnExactNameOfCard : Claim7 := { stood := { row := fnExactNameOfRow, standIns := [], harness := (true, "21268a7724b1b1c0c01f8de6e67fd77cee9003e500c2f44e4fb7ddc029708402"), looks := false }, kinds := [], alts := [], laidByText := true, laidKinds := [.data], laidTests := true, laidLooks := .later }
def FnExactNameOfCardSaid : Prop := Claim7.holds Tryd.pinned (.plain (OpenSpec.ofChange fnExactNameOfSpec)) fnExactNameOfCard

/-- THE TIED CARD OF 'laws.FnExactAssemble'. -/
def fnExactAssembleCard : Claim7 := { stood := { row := fnExactAssembleRow, standIns := [], harness := (true, "21268a7724b1b1c0c01f8de6e67fd77cee9003e500c2f44e4fb7ddc029708402"), looks := false }, kinds := [], alts := [], laidByText := true, laidKinds := [.data, .data, .data, .data], laidTests := true, laidLooks := .later }
def FnExactAssembleCardSaid : Prop := Claim7.holds Tryd.pinned (.plain (OpenSpec.ofChange fnExactAssembleSpec)) fnExactAssembleCard

/-- THE TIED CARD OF 'laws.FnExactListing'. -/
def fnExactListingCard : Claim7 := { stood := { row := fnExactListingRow, standIns := [], harness := (true, "21268a7724b1b1c0c01f8de6e67fd77cee9003e500c2f44e4fb7ddc029708402"), looks := false }, kinds := [], alts := [], laidByText := true, laidKinds := [.data, .data, .data, .data], laidTests := true, laidLooks := .later }
def FnExactListingCardSaid : Prop := Claim7.holds Tryd.pinned (.plain (OpenSpec.ofChange fnExactListingSpec)) fnExactListingCard

/-- THE SECOND FORM's CARD OF 'laws.FnListings'. -/
def fnListingsUptoCard : Claim7 := { stood := { row := fnListingsUptoRow, standIns := [], harness := (true, "21268a7724b1b1c0c01f8de6e67fd77cee9003e500c2f44e4fb7ddc029708402"), looks := false }, kinds := [], alts := [], laidByText := true, laidKinds := [.data, .data, .data, .data], laidTests := true, laidLooks := .later }
def FnListingsUptoCardSaid : Prop := Claim7.holds Tryd.pinned (.plain (OpenSpec.upto fnListingsSpec)) fnListingsUptoCard

/-- THE SECOND FORM's CARD OF 'laws.FnCosts'. -/
def fnCostsUptoCard : Claim7 := { stood := { row := fnCostsUptoRow, standIns := [], harness := (true, "21268a7724b1b1c0c01f8de6e67fd77cee9003e500c2f44e4fb7ddc029708402"), looks := false }, kinds := [], alts := [], laidByText := true, laidKinds := [.data], laidTests := true, laidLooks := .later }
def FnCostsUptoCardSaid : Prop := Claim7.holds Tryd.pinned (.plain (OpenSpec.upto fnCostsSpec)) fnCostsUptoCard

/-- THE SECOND FORM's CARD OF 'laws.FnExactNameOf'. -/
def fnExactNameOfUptoCard : Claim7 := { stood := { row := fnExactNameOfUptoRow, standIns := [], harness := (true, "21268a7724b1b1c0c01f8de6e67fd77cee9003e500c2f44e4fb7ddc029708402"), looks := false }, kinds := [], alts := [], laidByText := true, laidKinds := [.data], laidTests := true, laidLooks := .later }
def FnExactNameOfUptoCardSaid : Prop := Claim7.holds Tryd.pinned (.plain (OpenSpec.upto fnExactNameOfSpec)) fnExactNameOfUptoCard

/-- THE SECOND FORM's CARD OF 'laws.FnExactAssemble'. -/
def fnExactAssembleUptoCard : Claim7 := { stood := { row := fnExactAssembleUptoRow, standIns := [], harness := (true, "21268a7724b1b1c0c01f8de6e67fd77cee9003e500c2f44e4fb7ddc029708402"), looks := false }, kinds := [], alts := [], laidByText := true, laidKinds := [.data, .data, .data, .data], laidTests := true, laidLooks := .later }
def FnExactAssembleUptoCardSaid : Prop := Claim7.holds Tryd.pinned (.plain (OpenSpec.upto fnExactAssembleSpec)) fnExactAssembleUptoCard

/-- THE SECOND FORM's CARD OF 'laws.FnExactListing'. -/
def fnExactListingUptoCard : Claim7 := { stood := { row := fnExactListingUptoRow, standIns := [], harness := (true, "21268a7724b1b1c0c01f8de6e67fd77cee9003e500c2f44e4fb7ddc029708402"), looks := false }, kinds := [], alts := [], laidByText := true, laidKinds := [.data, .data, .data, .data], laidTests := true, laidLooks := .later }
def FnExactListingUptoCardSaid : Prop := Claim7.holds Tryd.pinned (.plain (OpenSpec.upto fnExactListingSpec)) fnExactListingUptoCard
end Rows
end Go.Proofs.YtbcphgmcjickgaaDoor
