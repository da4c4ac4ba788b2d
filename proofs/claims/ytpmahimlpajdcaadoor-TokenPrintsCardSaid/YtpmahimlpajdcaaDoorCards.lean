/-
  DERIVED. GIVEN WITH THE SEED: THE CARDS: each row of YtpmahimlpajdcaaDoorRows.lean that lists a variable, with what it lists TIED to the program's text (the seventh form; the later family's looks); each row that meets fmt, with fmt's text TOLD by the authors' own Lean function (tested against real Go, not proved from fmt's source: count such statements apart). THE CARD IS WHAT COUNTS. Prove the row's statement (the work); the ties are given (YtpmahimlpajdcaaDoorTie.lean); close each card by the builder's one call (the guide's Derived/Test/ToyasCard.lean, 'card_holds'). Laid BY PROGRAM, IN A SANDBOX (cutbox-door.mjs). By AI agents, Wed Nov 11 2026. No macro, syntax, notation, axiom, sorry.
-/
import Derived.Test.YtpmahimlpajdcaaDoorRows
import GoSem.ClaimSeven
namespace Go.Proofs.YtpmahimlpajdcaaDoor
namespace Rows

/-- THE TIED CARD OF 'supergraphlaw04.TokenSizes'. -/
def tokenSizesCard : Claim7 := { stood := { row := tokenSizesRow, standIns := [], harness := (true, "3a669ae95533d7aa033cf9a09cedeccc7bce92403f6c56ac4437ecb89a209ff2"), looks := true }, kinds := [], alts := [], laidByText := true, laidKinds := [.data, .data, .data, .data, .sentinel, .sentinel, .pinned], laidTests := true, laidLooks := .later }
def TokenSizesCardSaid : Prop := Claim7.holds Tryd.pinned (.plain (OpenSpec.ofChange tokenSizesSpec)) tokenSizesCard

/-- THE TIED CARD OF 'supergraphlaw04.TokenPrints'. -/
def tokenPrintsCard : Claim7 := { stood := { row := tokenPrintsRow, standIns := [], harness := (true, "3a669ae95533d7aa033cf9a09cedeccc7bce92403f6c56ac4437ecb89a209ff2"), looks := true }, kinds := [], alts := [], laidByText := true, laidKinds := [.data, .data, .data, .data, .sentinel, .sentinel, .pinned], laidTests := true, laidLooks := .later }
def TokenPrintsCardSaid : Prop := Claim7.holds Tryd.pinned (.plain (OpenSpec.ofChange tokenPrintsSpec)) tokenPrintsCard

/-- THE TIED CARD OF 'supergraphlaw04.TokenReturns'. -/
def tokenReturnsCard : Claim7 := { stood := { row := tokenReturnsRow, standIns := [], harness := (true, "3a669ae95533d7aa033cf9a09cedeccc7bce92403f6c56ac4437ecb89a209ff2"), looks := true }, kinds := [], alts := [], laidByText := true, laidKinds := [.data, .data, .data, .data, .sentinel, .sentinel, .pinned], laidTests := true, laidLooks := .later }
def TokenReturnsCardSaid : Prop := Claim7.holds Tryd.pinned (.plain (OpenSpec.ofChange tokenReturnsSpec)) tokenReturnsCard

/-- THE TIED CARD OF 'supergraphlaw04.TokenPlaces'. -/
def tokenPlacesCard : Claim7 := { stood := { row := tokenPlacesRow, standIns := [], harness := (true, "3a669ae95533d7aa033cf9a09cedeccc7bce92403f6c56ac4437ecb89a209ff2"), looks := true }, kinds := [], alts := [], laidByText := true, laidKinds := [.data, .data, .data, .data, .sentinel, .sentinel, .pinned], laidTests := true, laidLooks := .later }
def TokenPlacesCardSaid : Prop := Claim7.holds Tryd.pinned (.plain (OpenSpec.ofChange tokenPlacesSpec)) tokenPlacesCard

/-- THE TIED CARD OF 'supergraphlaw04.TokenSeparates'. -/
def tokenSeparatesCard : Claim7 := { stood := { row := tokenSeparatesRow, standIns := [], harness := (true, "3a669ae95533d7aa033cf9a09cedeccc7bce92403f6c56ac4437ecb89a209ff2"), looks := true }, kinds := [], alts := [], laidByText := true, laidKinds := [.data, .data, .data, .data, .sentinel, .sentinel, .pinned], laidTests := true, laidLooks := .later }
def TokenSeparatesCardSaid : Prop := Claim7.holds Tryd.pinned (.plain (OpenSpec.ofChange tokenSeparatesSpec)) tokenSeparatesCard

/-- THE SECOND FORM's CARD OF 'supergraphlaw04.TokenSizes'. -/
def tokenSizesUptoCard : Claim7 := { stood := { row := tokenSizesUptoRow, standIns := [], harness := (true, "3a669ae95533d7aa033cf9a09cedeccc7bce92403f6c56ac4437ecb89a209ff2"), looks := true }, kinds := [], alts := [], laidByText := true, laidKinds := [.data, .data, .data, .data, .sentinel, .sentinel, .pinned], laidTests := true, laidLooks := .later }
def TokenSizesUptoCardSaid : Prop := Claim7.holds Tryd.pinned (.plain (OpenSpec.upto tokenSizesSpec)) tokenSizesUptoCard

/-- THE SECOND FORM's CARD OF 'supergraphlaw04.TokenPrints'. -/
def tokenPrintsUptoCard : Claim7 := { stood := { row := tokenPrintsUptoRow, standIns := [], harness := (true, "3a669ae95533d7aa033cf9a09cedeccc7bce92403f6c56ac4437ecb89a209ff2"), looks := true }, kinds := [], alts := [], laidByText := true, laidKinds := [.data, .data, .data, .data, .sentinel, .sentinel, .pinned], laidTests := true, laidLooks := .later }
def TokenPrintsUptoCardSaid : Prop := Claim7.holds Tryd.pinned (.plain (OpenSpec.upto tokenPrintsSpec)) tokenPrintsUptoCard

/-- THE SECOND FORM's CARD OF 'supergraphlaw04.TokenReturns'. -/
def tokenReturnsUptoCard : Claim7 := { stood := { row := tokenReturnsUptoRow, standIns := [], harness := (true, "3a669ae95533d7aa033cf9a09cedeccc7bce92403f6c56ac4437ecb89a209ff2"), looks := true }, kinds := [], alts := [], laidByText := true, laidKinds := [.data, .data, .data, .data, .sentinel, .sentinel, .pinned], laidTests := true, laidLooks := .later }
def TokenReturnsUptoCardSaid : Prop := Claim7.holds Tryd.pinned (.plain (OpenSpec.upto tokenReturnsSpec)) tokenReturnsUptoCard

/-- THE SECOND FORM's CARD OF 'supergraphlaw04.TokenPlaces'. -/
def tokenPlacesUptoCard : Claim7 := { stood := { row := tokenPlacesUptoRow, standIns := [], harness := (true, "3a669ae95533d7aa033cf9a09cedeccc7bce92403f6c56ac4437ecb89a209ff2"), looks := true }, kinds := [], alts := [], laidByText := true, laidKinds := [.data, .data, .data, .data, .sentinel, .sentinel, .pinned], laidTests := true, laidLooks := .later }
def TokenPlacesUptoCardSaid : Prop := Claim7.holds Tryd.pinned (.plain (OpenSpec.upto tokenPlacesSpec)) tokenPlacesUptoCard

/-- THE SECOND FORM's CARD OF 'supergraphlaw04.TokenSeparates'. -/
def tokenSeparatesUptoCard : Claim7 := { stood := { row := tokenSeparatesUptoRow, standIns := [], harness := (true, "3a669ae95533d7aa033cf9a09cedeccc7bce92403f6c56ac4437ecb89a209ff2"), looks := true }, kinds := [], alts := [], laidByText := true, laidKinds := [.data, .data, .data, .data, .sentinel, .sentinel, .pinned], laidTests := true, laidLooks := .later }
def TokenSeparatesUptoCardSaid : Prop := Claim7.holds Tryd.pinned (.plain (OpenSpec.upto tokenSeparatesSpec)) tokenSeparatesUptoCard
end Rows
end Go.Proofs.YtpmahimlpajdcaaDoor
