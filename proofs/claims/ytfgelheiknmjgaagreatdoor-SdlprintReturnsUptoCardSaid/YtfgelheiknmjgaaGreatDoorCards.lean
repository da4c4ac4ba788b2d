/-
  DERIVED. GIVEN WITH THE SEED: THE CARDS: each row of YtfgelheiknmjgaaGreatDoorRows.lean that lists a variable, with what it lists TIED to the program's text (the seventh form; the later family's looks); each row that meets fmt, with fmt's text TOLD by the authors' own Lean function (tested against real Go, not proved from fmt's source: count such statements apart). THE CARD IS WHAT COUNTS. Prove the row's statement (the work); the ties are given (YtfgelheiknmjgaaGreatDoorTie.lean); close each card by the builder's one call (the guide's Derived/Test/ToyasCard.lean, 'card_holds'). Laid BY PROGRAM, IN A SANDBOX (cutbox-door.mjs). By AI agents, Wed Nov 11 2026. No macro, syntax, notation, axiom, sorry.
-/
import Derived.Test.YtfgelheiknmjgaaGreatDoorRows
import GoSem.ClaimSeven
namespace Go.Proofs.YtfgelheiknmjgaaGreatDoor
namespace Rows

/-- THE TIED CARD OF 'supergraphlaw06.SdlRights'. -/
def sdlRightsCard : Claim7 := { stood := { row := sdlRightsRow, standIns := [], harness := (true, "61767339cac0b39ee0ad67e36c830010e56bd9b91b096e4d277e405db83e4d73"), looks := true }, kinds := [], alts := [], laidByText := true, laidKinds := [.data, .data, .data, .data, .sentinel, .sentinel, .pinned], laidTests := true, laidLooks := .later }
def SdlRightsCardSaid : Prop := Claim7.holds Tryz.pinned (.plain (OpenSpec.ofChange sdlRightsSpec)) sdlRightsCard

/-- THE TIED CARD OF 'supergraphlaw06.SdlReads'. -/
def sdlReadsCard : Claim7 := { stood := { row := sdlReadsRow, standIns := [], harness := (true, "61767339cac0b39ee0ad67e36c830010e56bd9b91b096e4d277e405db83e4d73"), looks := true }, kinds := [], alts := [], laidByText := true, laidKinds := [.data, .data, .data, .data, .sentinel, .sentinel, .pinned], laidTests := true, laidLooks := .later }
def SdlReadsCardSaid : Prop := Claim7.holds Tryz.pinned (.plain (OpenSpec.ofChange sdlReadsSpec)) sdlReadsCard

/-- THE TIED CARD OF 'supergraphlaw07.SdlprintReturns'. -/
def sdlprintReturnsCard : Claim7 := { stood := { row := sdlprintReturnsRow, standIns := [], harness := (true, "61767339cac0b39ee0ad67e36c830010e56bd9b91b096e4d277e405db83e4d73"), looks := true }, kinds := [], alts := [], laidByText := true, laidKinds := [.data, .data, .data, .data, .sentinel, .sentinel, .pinned], laidTests := true, laidLooks := .later }
def SdlprintReturnsCardSaid : Prop := Claim7.holds Tryz.pinned (.plain (OpenSpec.ofChange sdlprintReturnsSpec)) sdlprintReturnsCard

/-- THE TIED CARD OF 'supergraphlaw07.SdlprintSames'. -/
def sdlprintSamesCard : Claim7 := { stood := { row := sdlprintSamesRow, standIns := [], harness := (true, "61767339cac0b39ee0ad67e36c830010e56bd9b91b096e4d277e405db83e4d73"), looks := true }, kinds := [], alts := [], laidByText := true, laidKinds := [.data, .data, .data], laidTests := true, laidLooks := .later }
def SdlprintSamesCardSaid : Prop := Claim7.holds Tryz.pinned (.plain (OpenSpec.ofChange sdlprintSamesSpec)) sdlprintSamesCard

/-- THE SECOND FORM's CARD OF 'supergraphlaw06.SdlRights'. -/
def sdlRightsUptoCard : Claim7 := { stood := { row := sdlRightsUptoRow, standIns := [], harness := (true, "61767339cac0b39ee0ad67e36c830010e56bd9b91b096e4d277e405db83e4d73"), looks := true }, kinds := [], alts := [], laidByText := true, laidKinds := [.data, .data, .data, .data, .sentinel, .sentinel, .pinned], laidTests := true, laidLooks := .later }
def SdlRightsUptoCardSaid : Prop := Claim7.holds Tryz.pinned (.plain (OpenSpec.upto sdlRightsSpec)) sdlRightsUptoCard

/-- THE SECOND FORM's CARD OF 'supergraphlaw06.SdlReads'. -/
def sdlReadsUptoCard : Claim7 := { stood := { row := sdlReadsUptoRow, standIns := [], harness := (true, "61767339cac0b39ee0ad67e36c830010e56bd9b91b096e4d277e405db83e4d73"), looks := true }, kinds := [], alts := [], laidByText := true, laidKinds := [.data, .data, .data, .data, .sentinel, .sentinel, .pinned], laidTests := true, laidLooks := .later }
def SdlReadsUptoCardSaid : Prop := Claim7.holds Tryz.pinned (.plain (OpenSpec.upto sdlReadsSpec)) sdlReadsUptoCard

/-- THE SECOND FORM's CARD OF 'supergraphlaw07.SdlprintReturns'. -/
def sdlprintReturnsUptoCard : Claim7 := { stood := { row := sdlprintReturnsUptoRow, standIns := [], harness := (true, "61767339cac0b39ee0ad67e36c830010e56bd9b91b096e4d277e405db83e4d73"), looks := true }, kinds := [], alts := [], laidByText := true, laidKinds := [.data, .data, .data, .data, .sentinel, .sentinel, .pinned], laidTests := true, laidLooks := .later }
def SdlprintReturnsUptoCardSaid : Prop := Claim7.holds Tryz.pinned (.plain (OpenSpec.upto sdlprintReturnsSpec)) sdlprintReturnsUptoCard

/-- THE SECOND FORM's CARD OF 'supergraphlaw07.SdlprintSames'. -/
def sdlprintSamesUptoCard : Claim7 := { stood := { row := sdlprintSamesUptoRow, standIns := [], harness := (true, "61767339cac0b39ee0ad67e36c830010e56bd9b91b096e4d277e405db83e4d73"), looks := true }, kinds := [], alts := [], laidByText := true, laidKinds := [.data, .data, .data], laidTests := true, laidLooks := .later }
def SdlprintSamesUptoCardSaid : Prop := Claim7.holds Tryz.pinned (.plain (OpenSpec.upto sdlprintSamesSpec)) sdlprintSamesUptoCard
end Rows
end Go.Proofs.YtfgelheiknmjgaaGreatDoor
