/-
  DERIVED. GIVEN WITH THE SEED: THE CARDS: each row of YtgicbmibhnnflaaGreatDoorRows.lean that lists a variable, with what it lists TIED to the program's text (the seventh form; the later family's looks); each row that meets fmt, with fmt's text TOLD by the authors' own Lean function (tested against real Go, not proved from fmt's source: count such statements apart). THE CARD IS WHAT COUNTS. Prove the row's statement (the work); the ties are given (YtgicbmibhnnflaaGreatDoorTie.lean); close each card by the builder's one call (the guide's Derived/Test/ToyasCard.lean, 'card_holds'). Laid BY PROGRAM, IN A SANDBOX (cutbox-door.mjs). By AI agents, Wed Nov 11 2026. No macro, syntax, notation, axiom, sorry.
-/
import Derived.Test.YtgicbmibhnnflaaGreatDoorRows
import GoSem.ClaimSeven
namespace Go.Proofs.YtgicbmibhnnflaaGreatDoor
namespace Rows

/-- THE TIED CARD OF 'supergraphlaw05.TyperefParts'. -/
def typerefPartsCard : Claim7 := { stood := { row := typerefPartsRow, standIns := [], harness := (true, "98493dd2e288b393d609be6c9db4f4d58ea2185bae3089b46ad4b742ad62adc7"), looks := true }, kinds := [], alts := [], laidByText := true, laidKinds := [.data, .data, .data, .data, .sentinel, .sentinel, .pinned], laidTests := true, laidLooks := .later }
def TyperefPartsCardSaid : Prop := Claim7.holds Tryz.pinned (.plain (OpenSpec.ofChange typerefPartsSpec)) typerefPartsCard

/-- THE TIED CARD OF 'supergraphlaw05.TyperefCompare'. -/
def typerefCompareCard : Claim7 := { stood := { row := typerefCompareRow, standIns := [], harness := (true, "98493dd2e288b393d609be6c9db4f4d58ea2185bae3089b46ad4b742ad62adc7"), looks := true }, kinds := [], alts := [], laidByText := true, laidKinds := [.data, .data, .data, .data, .sentinel, .sentinel, .pinned], laidTests := true, laidLooks := .later }
def TyperefCompareCardSaid : Prop := Claim7.holds Tryz.pinned (.plain (OpenSpec.ofChange typerefCompareSpec)) typerefCompareCard

/-- THE TIED CARD OF 'supergraphlaw05.TyperefOrder'. -/
def typerefOrderCard : Claim7 := { stood := { row := typerefOrderRow, standIns := [], harness := (true, "98493dd2e288b393d609be6c9db4f4d58ea2185bae3089b46ad4b742ad62adc7"), looks := true }, kinds := [], alts := [], laidByText := true, laidKinds := [.data, .data, .data, .data, .sentinel, .sentinel, .pinned], laidTests := true, laidLooks := .later }
def TyperefOrderCardSaid : Prop := Claim7.holds Tryz.pinned (.plain (OpenSpec.ofChange typerefOrderSpec)) typerefOrderCard

/-- THE TIED CARD OF 'supergraphlaw05.TyperefParse'. -/
def typerefParseCard : Claim7 := { stood := { row := typerefParseRow, standIns := [], harness := (true, "98493dd2e288b393d609be6c9db4f4d58ea2185bae3089b46ad4b742ad62adc7"), looks := true }, kinds := [], alts := [], laidByText := true, laidKinds := [.data, .data, .data, .data, .sentinel, .sentinel, .pinned], laidTests := true, laidLooks := .later }
def TyperefParseCardSaid : Prop := Claim7.holds Tryz.pinned (.plain (OpenSpec.ofChange typerefParseSpec)) typerefParseCard

/-- THE TIED CARD OF 'supergraphlaw05.TyperefRound'. -/
def typerefRoundCard : Claim7 := { stood := { row := typerefRoundRow, standIns := [], harness := (true, "98493dd2e288b393d609be6c9db4f4d58ea2185bae3089b46ad4b742ad62adc7"), looks := true }, kinds := [], alts := [], laidByText := true, laidKinds := [.data, .data, .data, .data, .sentinel, .sentinel, .pinned], laidTests := true, laidLooks := .later }
def TyperefRoundCardSaid : Prop := Claim7.holds Tryz.pinned (.plain (OpenSpec.ofChange typerefRoundSpec)) typerefRoundCard

/-- THE SECOND FORM's CARD OF 'supergraphlaw05.TyperefParts'. -/
def typerefPartsUptoCard : Claim7 := { stood := { row := typerefPartsUptoRow, standIns := [], harness := (true, "98493dd2e288b393d609be6c9db4f4d58ea2185bae3089b46ad4b742ad62adc7"), looks := true }, kinds := [], alts := [], laidByText := true, laidKinds := [.data, .data, .data, .data, .sentinel, .sentinel, .pinned], laidTests := true, laidLooks := .later }
def TyperefPartsUptoCardSaid : Prop := Claim7.holds Tryz.pinned (.plain (OpenSpec.upto typerefPartsSpec)) typerefPartsUptoCard

/-- THE SECOND FORM's CARD OF 'supergraphlaw05.TyperefCompare'. -/
def typerefCompareUptoCard : Claim7 := { stood := { row := typerefCompareUptoRow, standIns := [], harness := (true, "98493dd2e288b393d609be6c9db4f4d58ea2185bae3089b46ad4b742ad62adc7"), looks := true }, kinds := [], alts := [], laidByText := true, laidKinds := [.data, .data, .data, .data, .sentinel, .sentinel, .pinned], laidTests := true, laidLooks := .later }
def TyperefCompareUptoCardSaid : Prop := Claim7.holds Tryz.pinned (.plain (OpenSpec.upto typerefCompareSpec)) typerefCompareUptoCard

/-- THE SECOND FORM's CARD OF 'supergraphlaw05.TyperefOrder'. -/
def typerefOrderUptoCard : Claim7 := { stood := { row := typerefOrderUptoRow, standIns := [], harness := (true, "98493dd2e288b393d609be6c9db4f4d58ea2185bae3089b46ad4b742ad62adc7"), looks := true }, kinds := [], alts := [], laidByText := true, laidKinds := [.data, .data, .data, .data, .sentinel, .sentinel, .pinned], laidTests := true, laidLooks := .later }
def TyperefOrderUptoCardSaid : Prop := Claim7.holds Tryz.pinned (.plain (OpenSpec.upto typerefOrderSpec)) typerefOrderUptoCard

/-- THE SECOND FORM's CARD OF 'supergraphlaw05.TyperefParse'. -/
def typerefParseUptoCard : Claim7 := { stood := { row := typerefParseUptoRow, standIns := [], harness := (true, "98493dd2e288b393d609be6c9db4f4d58ea2185bae3089b46ad4b742ad62adc7"), looks := true }, kinds := [], alts := [], laidByText := true, laidKinds := [.data, .data, .data, .data, .sentinel, .sentinel, .pinned], laidTests := true, laidLooks := .later }
def TyperefParseUptoCardSaid : Prop := Claim7.holds Tryz.pinned (.plain (OpenSpec.upto typerefParseSpec)) typerefParseUptoCard

/-- THE SECOND FORM's CARD OF 'supergraphlaw05.TyperefRound'. -/
def typerefRoundUptoCard : Claim7 := { stood := { row := typerefRoundUptoRow, standIns := [], harness := (true, "98493dd2e288b393d609be6c9db4f4d58ea2185bae3089b46ad4b742ad62adc7"), looks := true }, kinds := [], alts := [], laidByText := true, laidKinds := [.data, .data, .data, .data, .sentinel, .sentinel, .pinned], laidTests := true, laidLooks := .later }
def TyperefRoundUptoCardSaid : Prop := Claim7.holds Tryz.pinned (.plain (OpenSpec.upto typerefRoundSpec)) typerefRoundUptoCard
end Rows
end Go.Proofs.YtgicbmibhnnflaaGreatDoor
