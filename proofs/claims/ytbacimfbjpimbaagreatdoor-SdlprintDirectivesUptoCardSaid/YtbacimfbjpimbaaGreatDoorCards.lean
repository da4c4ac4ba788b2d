/-
  DERIVED. GIVEN WITH THE SEED: THE CARDS: each row of YtbacimfbjpimbaaGreatDoorRows.lean that lists a variable, with what it lists TIED to the program's text (the seventh form; the later family's looks); each row that meets fmt, with fmt's text TOLD by the authors' own Lean function (tested against real Go, not proved from fmt's source: count such statements apart). THE CARD IS WHAT COUNTS. Prove the row's statement (the work); the ties are given (YtbacimfbjpimbaaGreatDoorTie.lean); close each card by the builder's one call (the guide's Derived/Test/ToyasCard.lean, 'card_holds'). Laid BY PROGRAM, IN A SANDBOX (cutbox-door.mjs). By AI agents, Wed Nov 11 2026. No macro, syntax, notation, axiom, sorry.
-/
import Derived.Test.YtbacimfbjpimbaaGreatDoorRows
import GoSem.ClaimSeven
namespace Go.Proofs.YtbacimfbjpimbaaGreatDoor
namespace Rows

/-- THE TIED CARD OF 'supergraphlaw07.SdlprintValues'. -/
def sdlprintValuesCard : Claim7 := { stood := { row := sdlprintValuesRow, standIns := [], harness := (true, "88381a7bdd2923e5d6be60d4a624ef32f5df7719c12cc2844b91699b4d7ad851"), looks := true }, kinds := [], alts := [], laidByText := true, laidKinds := [.data, .data, .data], laidTests := true, laidLooks := .later }
def SdlprintValuesCardSaid : Prop := Claim7.holds Tryz.pinned (.plain (OpenSpec.ofChange sdlprintValuesSpec)) sdlprintValuesCard

/-- THE TIED CARD OF 'supergraphlaw07.SdlprintDirectives'. -/
def sdlprintDirectivesCard : Claim7 := { stood := { row := sdlprintDirectivesRow, standIns := [], harness := (true, "88381a7bdd2923e5d6be60d4a624ef32f5df7719c12cc2844b91699b4d7ad851"), looks := true }, kinds := [], alts := [], laidByText := true, laidKinds := [.data, .data, .data], laidTests := true, laidLooks := .later }
def SdlprintDirectivesCardSaid : Prop := Claim7.holds Tryz.pinned (.plain (OpenSpec.ofChange sdlprintDirectivesSpec)) sdlprintDirectivesCard

/-- THE TIED CARD OF 'supergraphlaw07.SdlprintTexts'. -/
def sdlprintTextsCard : Claim7 := { stood := { row := sdlprintTextsRow, standIns := [], harness := (true, "88381a7bdd2923e5d6be60d4a624ef32f5df7719c12cc2844b91699b4d7ad851"), looks := true }, kinds := [], alts := [], laidByText := true, laidKinds := [.data, .data, .data], laidTests := true, laidLooks := .later }
def SdlprintTextsCardSaid : Prop := Claim7.holds Tryz.pinned (.plain (OpenSpec.ofChange sdlprintTextsSpec)) sdlprintTextsCard

/-- THE TIED CARD OF 'supergraphlaw07.SdlprintReturns'. -/
def sdlprintReturnsCard : Claim7 := { stood := { row := sdlprintReturnsRow, standIns := [], harness := (true, "88381a7bdd2923e5d6be60d4a624ef32f5df7719c12cc2844b91699b4d7ad851"), looks := true }, kinds := [], alts := [], laidByText := true, laidKinds := [.data, .data, .data, .data, .sentinel, .sentinel, .pinned], laidTests := true, laidLooks := .later }
def SdlprintReturnsCardSaid : Prop := Claim7.holds Tryz.pinned (.plain (OpenSpec.ofChange sdlprintReturnsSpec)) sdlprintReturnsCard

/-- THE TIED CARD OF 'supergraphlaw07.SdlprintSorts'. -/
def sdlprintSortsCard : Claim7 := { stood := { row := sdlprintSortsRow, standIns := [], harness := (true, "88381a7bdd2923e5d6be60d4a624ef32f5df7719c12cc2844b91699b4d7ad851"), looks := true }, kinds := [], alts := [], laidByText := true, laidKinds := [.data, .data, .data], laidTests := true, laidLooks := .later }
def SdlprintSortsCardSaid : Prop := Claim7.holds Tryz.pinned (.plain (OpenSpec.ofChange sdlprintSortsSpec)) sdlprintSortsCard

/-- THE TIED CARD OF 'supergraphlaw07.SdlprintSames'. -/
def sdlprintSamesCard : Claim7 := { stood := { row := sdlprintSamesRow, standIns := [], harness := (true, "88381a7bdd2923e5d6be60d4a624ef32f5df7719c12cc2844b91699b4d7ad851"), looks := true }, kinds := [], alts := [], laidByText := true, laidKinds := [.data, .data, .data], laidTests := true, laidLooks := .later }
def SdlprintSamesCardSaid : Prop := Claim7.holds Tryz.pinned (.plain (OpenSpec.ofChange sdlprintSamesSpec)) sdlprintSamesCard

/-- THE SECOND FORM's CARD OF 'supergraphlaw07.SdlprintValues'. -/
def sdlprintValuesUptoCard : Claim7 := { stood := { row := sdlprintValuesUptoRow, standIns := [], harness := (true, "88381a7bdd2923e5d6be60d4a624ef32f5df7719c12cc2844b91699b4d7ad851"), looks := true }, kinds := [], alts := [], laidByText := true, laidKinds := [.data, .data, .data], laidTests := true, laidLooks := .later }
def SdlprintValuesUptoCardSaid : Prop := Claim7.holds Tryz.pinned (.plain (OpenSpec.upto sdlprintValuesSpec)) sdlprintValuesUptoCard

/-- THE SECOND FORM's CARD OF 'supergraphlaw07.SdlprintDirectives'. -/
def sdlprintDirectivesUptoCard : Claim7 := { stood := { row := sdlprintDirectivesUptoRow, standIns := [], harness := (true, "88381a7bdd2923e5d6be60d4a624ef32f5df7719c12cc2844b91699b4d7ad851"), looks := true }, kinds := [], alts := [], laidByText := true, laidKinds := [.data, .data, .data], laidTests := true, laidLooks := .later }
def SdlprintDirectivesUptoCardSaid : Prop := Claim7.holds Tryz.pinned (.plain (OpenSpec.upto sdlprintDirectivesSpec)) sdlprintDirectivesUptoCard

/-- THE SECOND FORM's CARD OF 'supergraphlaw07.SdlprintTexts'. -/
def sdlprintTextsUptoCard : Claim7 := { stood := { row := sdlprintTextsUptoRow, standIns := [], harness := (true, "88381a7bdd2923e5d6be60d4a624ef32f5df7719c12cc2844b91699b4d7ad851"), looks := true }, kinds := [], alts := [], laidByText := true, laidKinds := [.data, .data, .data], laidTests := true, laidLooks := .later }
def SdlprintTextsUptoCardSaid : Prop := Claim7.holds Tryz.pinned (.plain (OpenSpec.upto sdlprintTextsSpec)) sdlprintTextsUptoCard

/-- THE SECOND FORM's CARD OF 'supergraphlaw07.SdlprintReturns'. -/
def sdlprintReturnsUptoCard : Claim7 := { stood := { row := sdlprintReturnsUptoRow, standIns := [], harness := (true, "88381a7bdd2923e5d6be60d4a624ef32f5df7719c12cc2844b91699b4d7ad851"), looks := true }, kinds := [], alts := [], laidByText := true, laidKinds := [.data, .data, .data, .data, .sentinel, .sentinel, .pinned], laidTests := true, laidLooks := .later }
def SdlprintReturnsUptoCardSaid : Prop := Claim7.holds Tryz.pinned (.plain (OpenSpec.upto sdlprintReturnsSpec)) sdlprintReturnsUptoCard

/-- THE SECOND FORM's CARD OF 'supergraphlaw07.SdlprintSorts'. -/
def sdlprintSortsUptoCard : Claim7 := { stood := { row := sdlprintSortsUptoRow, standIns := [], harness := (true, "88381a7bdd2923e5d6be60d4a624ef32f5df7719c12cc2844b91699b4d7ad851"), looks := true }, kinds := [], alts := [], laidByText := true, laidKinds := [.data, .data, .data], laidTests := true, laidLooks := .later }
def SdlprintSortsUptoCardSaid : Prop := Claim7.holds Tryz.pinned (.plain (OpenSpec.upto sdlprintSortsSpec)) sdlprintSortsUptoCard

/-- THE SECOND FORM's CARD OF 'supergraphlaw07.SdlprintSames'. -/
def sdlprintSamesUptoCard : Claim7 := { stood := { row := sdlprintSamesUptoRow, standIns := [], harness := (true, "88381a7bdd2923e5d6be60d4a624ef32f5df7719c12cc2844b91699b4d7ad851"), looks := true }, kinds := [], alts := [], laidByText := true, laidKinds := [.data, .data, .data], laidTests := true, laidLooks := .later }
def SdlprintSamesUptoCardSaid : Prop := Claim7.holds Tryz.pinned (.plain (OpenSpec.upto sdlprintSamesSpec)) sdlprintSamesUptoCard
end Rows
end Go.Proofs.YtbacimfbjpimbaaGreatDoor
