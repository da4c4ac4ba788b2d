/-
  DERIVED. GIVEN WITH THE SEED: THE CARDS: each row of YtajljnehlncjhaaGreatDoorRows.lean that lists a variable, with what it lists TIED to the program's text (the seventh form; the later family's looks); each row that meets fmt, with fmt's text TOLD by the authors' own Lean function (tested against real Go, not proved from fmt's source: count such statements apart). THE CARD IS WHAT COUNTS. Prove the row's statement (the work); the ties are given (YtajljnehlncjhaaGreatDoorTie.lean); close each card by the builder's one call (the guide's Derived/Test/ToyasCard.lean, 'card_holds'). Laid BY PROGRAM, IN A SANDBOX (cutbox-door.mjs). By AI agents, Wed Nov 11 2026. No macro, syntax, notation, axiom, sorry.
-/
import Derived.Test.YtajljnehlncjhaaGreatDoorRows
import GoSem.ClaimSeven
namespace Go.Proofs.YtajljnehlncjhaaGreatDoor
namespace Rows

/-- THE TIED CARD OF 'supergraphlaw06.SdlParses'. -/
def sdlParsesCard : Claim7 := { stood := { row := sdlParsesRow, standIns := [], harness := (true, "fb797265fd6f2004157bb26a5cce0576208d9a14ec74007603abda3d244ea8b4"), looks := true }, kinds := [], alts := [], laidByText := true, laidKinds := [.data, .data, .data, .data, .sentinel, .sentinel, .pinned], laidTests := true, laidLooks := .later }
def SdlParsesCardSaid : Prop := Claim7.holds Tryz.pinned (.plain (OpenSpec.ofChange sdlParsesSpec)) sdlParsesCard

/-- THE TIED CARD OF 'supergraphlaw06.SdlRights'. -/
def sdlRightsCard : Claim7 := { stood := { row := sdlRightsRow, standIns := [], harness := (true, "fb797265fd6f2004157bb26a5cce0576208d9a14ec74007603abda3d244ea8b4"), looks := true }, kinds := [], alts := [], laidByText := true, laidKinds := [.data, .data, .data, .data, .sentinel, .sentinel, .pinned], laidTests := true, laidLooks := .later }
def SdlRightsCardSaid : Prop := Claim7.holds Tryz.pinned (.plain (OpenSpec.ofChange sdlRightsSpec)) sdlRightsCard

/-- THE TIED CARD OF 'supergraphlaw06.SdlSpaces'. -/
def sdlSpacesCard : Claim7 := { stood := { row := sdlSpacesRow, standIns := [], harness := (true, "fb797265fd6f2004157bb26a5cce0576208d9a14ec74007603abda3d244ea8b4"), looks := true }, kinds := [], alts := [], laidByText := true, laidKinds := [.data, .data, .data, .data, .sentinel, .sentinel, .pinned], laidTests := true, laidLooks := .later }
def SdlSpacesCardSaid : Prop := Claim7.holds Tryz.pinned (.plain (OpenSpec.ofChange sdlSpacesSpec)) sdlSpacesCard

/-- THE TIED CARD OF 'supergraphlaw06.SdlReads'. -/
def sdlReadsCard : Claim7 := { stood := { row := sdlReadsRow, standIns := [], harness := (true, "fb797265fd6f2004157bb26a5cce0576208d9a14ec74007603abda3d244ea8b4"), looks := true }, kinds := [], alts := [], laidByText := true, laidKinds := [.data, .data, .data, .data, .sentinel, .sentinel, .pinned], laidTests := true, laidLooks := .later }
def SdlReadsCardSaid : Prop := Claim7.holds Tryz.pinned (.plain (OpenSpec.ofChange sdlReadsSpec)) sdlReadsCard

/-- THE TIED CARD OF 'supergraphlaw06.SdlJoins'. -/
def sdlJoinsCard : Claim7 := { stood := { row := sdlJoinsRow, standIns := [], harness := (true, "fb797265fd6f2004157bb26a5cce0576208d9a14ec74007603abda3d244ea8b4"), looks := true }, kinds := [], alts := [], laidByText := true, laidKinds := [.data, .data, .data, .data, .sentinel, .sentinel, .pinned], laidTests := true, laidLooks := .later }
def SdlJoinsCardSaid : Prop := Claim7.holds Tryz.pinned (.plain (OpenSpec.ofChange sdlJoinsSpec)) sdlJoinsCard

/-- THE SECOND FORM's CARD OF 'supergraphlaw06.SdlParses'. -/
def sdlParsesUptoCard : Claim7 := { stood := { row := sdlParsesUptoRow, standIns := [], harness := (true, "fb797265fd6f2004157bb26a5cce0576208d9a14ec74007603abda3d244ea8b4"), looks := true }, kinds := [], alts := [], laidByText := true, laidKinds := [.data, .data, .data, .data, .sentinel, .sentinel, .pinned], laidTests := true, laidLooks := .later }
def SdlParsesUptoCardSaid : Prop := Claim7.holds Tryz.pinned (.plain (OpenSpec.upto sdlParsesSpec)) sdlParsesUptoCard

/-- THE SECOND FORM's CARD OF 'supergraphlaw06.SdlRights'. -/
def sdlRightsUptoCard : Claim7 := { stood := { row := sdlRightsUptoRow, standIns := [], harness := (true, "fb797265fd6f2004157bb26a5cce0576208d9a14ec74007603abda3d244ea8b4"), looks := true }, kinds := [], alts := [], laidByText := true, laidKinds := [.data, .data, .data, .data, .sentinel, .sentinel, .pinned], laidTests := true, laidLooks := .later }
def SdlRightsUptoCardSaid : Prop := Claim7.holds Tryz.pinned (.plain (OpenSpec.upto sdlRightsSpec)) sdlRightsUptoCard

/-- THE SECOND FORM's CARD OF 'supergraphlaw06.SdlSpaces'. -/
def sdlSpacesUptoCard : Claim7 := { stood := { row := sdlSpacesUptoRow, standIns := [], harness := (true, "fb797265fd6f2004157bb26a5cce0576208d9a14ec74007603abda3d244ea8b4"), looks := true }, kinds := [], alts := [], laidByText := true, laidKinds := [.data, .data, .data, .data, .sentinel, .sentinel, .pinned], laidTests := true, laidLooks := .later }
def SdlSpacesUptoCardSaid : Prop := Claim7.holds Tryz.pinned (.plain (OpenSpec.upto sdlSpacesSpec)) sdlSpacesUptoCard

/-- THE SECOND FORM's CARD OF 'supergraphlaw06.SdlReads'. -/
def sdlReadsUptoCard : Claim7 := { stood := { row := sdlReadsUptoRow, standIns := [], harness := (true, "fb797265fd6f2004157bb26a5cce0576208d9a14ec74007603abda3d244ea8b4"), looks := true }, kinds := [], alts := [], laidByText := true, laidKinds := [.data, .data, .data, .data, .sentinel, .sentinel, .pinned], laidTests := true, laidLooks := .later }
def SdlReadsUptoCardSaid : Prop := Claim7.holds Tryz.pinned (.plain (OpenSpec.upto sdlReadsSpec)) sdlReadsUptoCard

/-- THE SECOND FORM's CARD OF 'supergraphlaw06.SdlJoins'. -/
def sdlJoinsUptoCard : Claim7 := { stood := { row := sdlJoinsUptoRow, standIns := [], harness := (true, "fb797265fd6f2004157bb26a5cce0576208d9a14ec74007603abda3d244ea8b4"), looks := true }, kinds := [], alts := [], laidByText := true, laidKinds := [.data, .data, .data, .data, .sentinel, .sentinel, .pinned], laidTests := true, laidLooks := .later }
def SdlJoinsUptoCardSaid : Prop := Claim7.holds Tryz.pinned (.plain (OpenSpec.upto sdlJoinsSpec)) sdlJoinsUptoCard
end Rows
end Go.Proofs.YtajljnehlncjhaaGreatDoor
