/-
  DERIVED. GIVEN WITH THE SEED: THE CARDS: each row of YtcbajgcblfgmgaaDoorRows.lean that lists a variable, with what it lists TIED to the program's text (the seventh form; the later family's looks); each row that meets fmt, with fmt's text TOLD by the authors' own Lean function (tested against real Go, not proved from fmt's source: count such statements apart). THE CARD IS WHAT COUNTS. Prove the row's statement (the work); the ties are given (YtcbajgcblfgmgaaDoorTie.lean); close each card by the builder's one call (the guide's Derived/Test/ToyasCard.lean, 'card_holds'). Laid BY PROGRAM, IN A SANDBOX (cutbox-door.mjs). By AI agents, Wed Nov 11 2026. No macro, syntax, notation, axiom, sorry.
-/
import Derived.Test.YtcbajgcblfgmgaaDoorRows
import GoSem.ClaimSeven
namespace Go.Proofs.YtcbajgcblfgmgaaDoor
namespace Rows

/-- THE TIED CARD OF 'supergraphlaw03.JsonReturns'. -/
def jsonReturnsCard : Claim7 := { stood := { row := jsonReturnsRow, standIns := [], harness := (true, "868da5c6f1690d05b9b460702acd82264aa4c3a187fec829cd8cefe3937549f6"), looks := true }, kinds := [], alts := [], laidByText := true, laidKinds := [.data, .data, .data, .sentinel, .sentinel], laidTests := true, laidLooks := .later }
def JsonReturnsCardSaid : Prop := Claim7.holds Tryd.pinned (.plain (OpenSpec.ofChange jsonReturnsSpec)) jsonReturnsCard

/-- THE TIED CARD OF 'supergraphlaw03.JsonSettles'. -/
def jsonSettlesCard : Claim7 := { stood := { row := jsonSettlesRow, standIns := [], harness := (true, "868da5c6f1690d05b9b460702acd82264aa4c3a187fec829cd8cefe3937549f6"), looks := true }, kinds := [], alts := [], laidByText := true, laidKinds := [.data, .data, .data, .sentinel, .sentinel], laidTests := true, laidLooks := .later }
def JsonSettlesCardSaid : Prop := Claim7.holds Tryd.pinned (.plain (OpenSpec.ofChange jsonSettlesSpec)) jsonSettlesCard

/-- THE TIED CARD OF 'supergraphlaw03.JsonPrefixes'. -/
def jsonPrefixesCard : Claim7 := { stood := { row := jsonPrefixesRow, standIns := [], harness := (true, "868da5c6f1690d05b9b460702acd82264aa4c3a187fec829cd8cefe3937549f6"), looks := true }, kinds := [], alts := [], laidByText := true, laidKinds := [.data, .data, .data, .sentinel, .sentinel], laidTests := true, laidLooks := .later }
def JsonPrefixesCardSaid : Prop := Claim7.holds Tryd.pinned (.plain (OpenSpec.ofChange jsonPrefixesSpec)) jsonPrefixesCard

/-- THE SECOND FORM's CARD OF 'supergraphlaw03.JsonReturns'. -/
def jsonReturnsUptoCard : Claim7 := { stood := { row := jsonReturnsUptoRow, standIns := [], harness := (true, "868da5c6f1690d05b9b460702acd82264aa4c3a187fec829cd8cefe3937549f6"), looks := true }, kinds := [], alts := [], laidByText := true, laidKinds := [.data, .data, .data, .sentinel, .sentinel], laidTests := true, laidLooks := .later }
def JsonReturnsUptoCardSaid : Prop := Claim7.holds Tryd.pinned (.plain (OpenSpec.upto jsonReturnsSpec)) jsonReturnsUptoCard

/-- THE SECOND FORM's CARD OF 'supergraphlaw03.JsonSettles'. -/
def jsonSettlesUptoCard : Claim7 := { stood := { row := jsonSettlesUptoRow, standIns := [], harness := (true, "868da5c6f1690d05b9b460702acd82264aa4c3a187fec829cd8cefe3937549f6"), looks := true }, kinds := [], alts := [], laidByText := true, laidKinds := [.data, .data, .data, .sentinel, .sentinel], laidTests := true, laidLooks := .later }
def JsonSettlesUptoCardSaid : Prop := Claim7.holds Tryd.pinned (.plain (OpenSpec.upto jsonSettlesSpec)) jsonSettlesUptoCard

/-- THE SECOND FORM's CARD OF 'supergraphlaw03.JsonPrefixes'. -/
def jsonPrefixesUptoCard : Claim7 := { stood := { row := jsonPrefixesUptoRow, standIns := [], harness := (true, "868da5c6f1690d05b9b460702acd82264aa4c3a187fec829cd8cefe3937549f6"), looks := true }, kinds := [], alts := [], laidByText := true, laidKinds := [.data, .data, .data, .sentinel, .sentinel], laidTests := true, laidLooks := .later }
def JsonPrefixesUptoCardSaid : Prop := Claim7.holds Tryd.pinned (.plain (OpenSpec.upto jsonPrefixesSpec)) jsonPrefixesUptoCard
end Rows
end Go.Proofs.YtcbajgcblfgmgaaDoor
