/-
  DERIVED. GIVEN WITH THE SEED: THE CARDS: each row of YtieklhplalgmmaaGreatDoorRows.lean that lists a variable, with what it lists TIED to the program's text (the seventh form; the later family's looks); each row that meets fmt, with fmt's text TOLD by the authors' own Lean function (tested against real Go, not proved from fmt's source: count such statements apart). THE CARD IS WHAT COUNTS. Prove the row's statement (the work); the ties are given (YtieklhplalgmmaaGreatDoorTie.lean); close each card by the builder's one call (the guide's Derived/Test/ToyasCard.lean, 'card_holds'). Laid BY PROGRAM, IN A SANDBOX (cutbox-door.mjs). By AI agents, Wed Nov 11 2026. No macro, syntax, notation, axiom, sorry.
-/
import Derived.Test.YtieklhplalgmmaaGreatDoorRows
import GoSem.ClaimSeven
namespace Go.Proofs.YtieklhplalgmmaaGreatDoor
namespace Rows

/-- THE TIED CARD OF 'supergraphlaw07.SdlprintTexts'. -/
def sdlprintTextsCard : Claim7 := { stood := { row := sdlprintTextsRow, standIns := [], harness := (true, "aeca932aeb4f4668bac77dbcc7eab2e1d0a46ba03750a7ec8155a17157bb7a57"), looks := false }, kinds := [], alts := [], laidByText := true, laidKinds := [.data, .data, .data], laidTests := true, laidLooks := .later }
def SdlprintTextsCardSaid : Prop := Claim7.holds Tryz.pinned (.plain (OpenSpec.ofChange sdlprintTextsSpec)) sdlprintTextsCard

/-- THE TIED CARD OF 'supergraphlaw07.SdlprintSames'. -/
def sdlprintSamesCard : Claim7 := { stood := { row := sdlprintSamesRow, standIns := [], harness := (true, "aeca932aeb4f4668bac77dbcc7eab2e1d0a46ba03750a7ec8155a17157bb7a57"), looks := false }, kinds := [], alts := [], laidByText := true, laidKinds := [.data, .data, .data], laidTests := true, laidLooks := .later }
def SdlprintSamesCardSaid : Prop := Claim7.holds Tryz.pinned (.plain (OpenSpec.ofChange sdlprintSamesSpec)) sdlprintSamesCard

/-- THE SECOND FORM's CARD OF 'supergraphlaw07.SdlprintTexts'. -/
def sdlprintTextsUptoCard : Claim7 := { stood := { row := sdlprintTextsUptoRow, standIns := [], harness := (true, "aeca932aeb4f4668bac77dbcc7eab2e1d0a46ba03750a7ec8155a17157bb7a57"), looks := false }, kinds := [], alts := [], laidByText := true, laidKinds := [.data, .data, .data], laidTests := true, laidLooks := .later }
def SdlprintTextsUptoCardSaid : Prop := Claim7.holds Tryz.pinned (.plain (OpenSpec.upto sdlprintTextsSpec)) sdlprintTextsUptoCard

/-- THE SECOND FORM's CARD OF 'supergraphlaw07.SdlprintSames'. -/
def sdlprintSamesUptoCard : Claim7 := { stood := { row := sdlprintSamesUptoRow, standIns := [], harness := (true, "aeca932aeb4f4668bac77dbcc7eab2e1d0a46ba03750a7ec8155a17157bb7a57"), looks := false }, kinds := [], alts := [], laidByText := true, laidKinds := [.data, .data, .data], laidTests := true, laidLooks := .later }
def SdlprintSamesUptoCardSaid : Prop := Claim7.holds Tryz.pinned (.plain (OpenSpec.upto sdlprintSamesSpec)) sdlprintSamesUptoCard
end Rows
end Go.Proofs.YtieklhplalgmmaaGreatDoor
