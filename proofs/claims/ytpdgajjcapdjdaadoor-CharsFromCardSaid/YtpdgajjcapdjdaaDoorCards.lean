/-
  DERIVED. GIVEN WITH THE SEED: THE CARDS: each row of YtpdgajjcapdjdaaDoorRows.lean that lists a variable, with what it lists TIED to the program's text (the seventh form; the later family's looks); each row that meets fmt, with fmt's text TOLD by the authors' own Lean function (tested against real Go, not proved from fmt's source: count such statements apart). THE CARD IS WHAT COUNTS. Prove the row's statement (the work); the ties are given (YtpdgajjcapdjdaaDoorTie.lean); close each card by the builder's one call (the guide's Derived/Test/ToyasCard.lean, 'card_holds'). Laid BY PROGRAM, IN A SANDBOX (cutbox-door.mjs). By AI agents, Wed Nov 11 2026. No macro, syntax, notation, axiom, sorry.
-/
import Derived.Test.YtpdgajjcapdjdaaDoorRows
import GoSem.ClaimSeven
namespace Go.Proofs.YtpdgajjcapdjdaaDoor
namespace Rows

/-- THE TIED CARD OF 'chisellaw01.CharsTexts'. -/
def charsTextsCard : Claim7 := { stood := { row := charsTextsRow, standIns := [], harness := (true, "d8b9497e8ec60dbc7b526b46390b7164dd5bdfcd23be5b8cd878d4ffc8856bf8"), looks := false }, kinds := [], alts := [], laidByText := true, laidKinds := [.data, .pinned], laidTests := true, laidLooks := .later }
def CharsTextsCardSaid : Prop := Claim7.holds Tryd.pinned (.plain (OpenSpec.ofChange charsTextsSpec)) charsTextsCard

/-- THE TIED CARD OF 'chisellaw01.CharsNorms'. -/
def charsNormsCard : Claim7 := { stood := { row := charsNormsRow, standIns := [], harness := (true, "d8b9497e8ec60dbc7b526b46390b7164dd5bdfcd23be5b8cd878d4ffc8856bf8"), looks := false }, kinds := [], alts := [], laidByText := true, laidKinds := [.data, .pinned], laidTests := true, laidLooks := .later }
def CharsNormsCardSaid : Prop := Claim7.holds Tryd.pinned (.plain (OpenSpec.ofChange charsNormsSpec)) charsNormsCard

/-- THE TIED CARD OF 'chisellaw01.CharsPoints'. -/
def charsPointsCard : Claim7 := { stood := { row := charsPointsRow, standIns := [], harness := (true, "d8b9497e8ec60dbc7b526b46390b7164dd5bdfcd23be5b8cd878d4ffc8856bf8"), looks := false }, kinds := [], alts := [], laidByText := true, laidKinds := [.data, .pinned], laidTests := true, laidLooks := .later }
def CharsPointsCardSaid : Prop := Claim7.holds Tryd.pinned (.plain (OpenSpec.ofChange charsPointsSpec)) charsPointsCard

/-- THE TIED CARD OF 'chisellaw01.CharsFrom'. -/
def charsFromCard : Claim7 := { stood := { row := charsFromRow, standIns := [], harness := (true, "d8b9497e8ec60dbc7b526b46390b7164dd5bdfcd23be5b8cd878d4ffc8856bf8"), looks := false }, kinds := [], alts := [], laidByText := true, laidKinds := [.data, .pinned], laidTests := true, laidLooks := .later }
def CharsFromCardSaid : Prop := Claim7.holds Tryd.pinned (.plain (OpenSpec.ofChange charsFromSpec)) charsFromCard

/-- THE TIED CARD OF 'chisellaw01.CharsCuts'. -/
def charsCutsCard : Claim7 := { stood := { row := charsCutsRow, standIns := [], harness := (true, "d8b9497e8ec60dbc7b526b46390b7164dd5bdfcd23be5b8cd878d4ffc8856bf8"), looks := false }, kinds := [], alts := [], laidByText := true, laidKinds := [.data, .pinned], laidTests := true, laidLooks := .later }
def CharsCutsCardSaid : Prop := Claim7.holds Tryd.pinned (.plain (OpenSpec.ofChange charsCutsSpec)) charsCutsCard

/-- THE TIED CARD OF 'chisellaw01.CharsOne'. -/
def charsOneCard : Claim7 := { stood := { row := charsOneRow, standIns := [], harness := (true, "d8b9497e8ec60dbc7b526b46390b7164dd5bdfcd23be5b8cd878d4ffc8856bf8"), looks := false }, kinds := [], alts := [], laidByText := true, laidKinds := [.data, .pinned], laidTests := true, laidLooks := .later }
def CharsOneCardSaid : Prop := Claim7.holds Tryd.pinned (.plain (OpenSpec.ofChange charsOneSpec)) charsOneCard

/-- THE TIED CARD OF 'chisellaw01.CharsBack'. -/
def charsBackCard : Claim7 := { stood := { row := charsBackRow, standIns := [], harness := (true, "d8b9497e8ec60dbc7b526b46390b7164dd5bdfcd23be5b8cd878d4ffc8856bf8"), looks := false }, kinds := [], alts := [], laidByText := true, laidKinds := [.data, .pinned], laidTests := true, laidLooks := .later }
def CharsBackCardSaid : Prop := Claim7.holds Tryd.pinned (.plain (OpenSpec.ofChange charsBackSpec)) charsBackCard

/-- THE TIED CARD OF 'chisellaw01.CharsParts'. -/
def charsPartsCard : Claim7 := { stood := { row := charsPartsRow, standIns := [], harness := (true, "d8b9497e8ec60dbc7b526b46390b7164dd5bdfcd23be5b8cd878d4ffc8856bf8"), looks := false }, kinds := [], alts := [], laidByText := true, laidKinds := [.data, .pinned], laidTests := true, laidLooks := .later }
def CharsPartsCardSaid : Prop := Claim7.holds Tryd.pinned (.plain (OpenSpec.ofChange charsPartsSpec)) charsPartsCard

/-- THE TIED CARD OF 'chisellaw01.CharsNames'. -/
def charsNamesCard : Claim7 := { stood := { row := charsNamesRow, standIns := [], harness := (true, "d8b9497e8ec60dbc7b526b46390b7164dd5bdfcd23be5b8cd878d4ffc8856bf8"), looks := false }, kinds := [], alts := [], laidByText := true, laidKinds := [.data, .pinned], laidTests := true, laidLooks := .later }
def CharsNamesCardSaid : Prop := Claim7.holds Tryd.pinned (.plain (OpenSpec.ofChange charsNamesSpec)) charsNamesCard

/-- THE TIED CARD OF 'chisellaw01.CharsKnown'. -/
def charsKnownCard : Claim7 := { stood := { row := charsKnownRow, standIns := [], harness := (true, "d8b9497e8ec60dbc7b526b46390b7164dd5bdfcd23be5b8cd878d4ffc8856bf8"), looks := false }, kinds := [], alts := [], laidByText := true, laidKinds := [.data, .pinned], laidTests := true, laidLooks := .later }
def CharsKnownCardSaid : Prop := Claim7.holds Tryd.pinned (.plain (OpenSpec.ofChange charsKnownSpec)) charsKnownCard

/-- THE SECOND FORM's CARD OF 'chisellaw01.CharsTexts'. -/
def charsTextsUptoCard : Claim7 := { stood := { row := charsTextsUptoRow, standIns := [], harness := (true, "d8b9497e8ec60dbc7b526b46390b7164dd5bdfcd23be5b8cd878d4ffc8856bf8"), looks := false }, kinds := [], alts := [], laidByText := true, laidKinds := [.data, .pinned], laidTests := true, laidLooks := .later }
def CharsTextsUptoCardSaid : Prop := Claim7.holds Tryd.pinned (.plain (OpenSpec.upto charsTextsSpec)) charsTextsUptoCard

/-- THE SECOND FORM's CARD OF 'chisellaw01.CharsNorms'. -/
def charsNormsUptoCard : Claim7 := { stood := { row := charsNormsUptoRow, standIns := [], harness := (true, "d8b9497e8ec60dbc7b526b46390b7164dd5bdfcd23be5b8cd878d4ffc8856bf8"), looks := false }, kinds := [], alts := [], laidByText := true, laidKinds := [.data, .pinned], laidTests := true, laidLooks := .later }
def CharsNormsUptoCardSaid : Prop := Claim7.holds Tryd.pinned (.plain (OpenSpec.upto charsNormsSpec)) charsNormsUptoCard

/-- THE SECOND FORM's CARD OF 'chisellaw01.CharsPoints'. -/
def charsPointsUptoCard : Claim7 := { stood := { row := charsPointsUptoRow, standIns := [], harness := (true, "d8b9497e8ec60dbc7b526b46390b7164dd5bdfcd23be5b8cd878d4ffc8856bf8"), looks := false }, kinds := [], alts := [], laidByText := true, laidKinds := [.data, .pinned], laidTests := true, laidLooks := .later }
def CharsPointsUptoCardSaid : Prop := Claim7.holds Tryd.pinned (.plain (OpenSpec.upto charsPointsSpec)) charsPointsUptoCard

/-- THE SECOND FORM's CARD OF 'chisellaw01.CharsFrom'. -/
def charsFromUptoCard : Claim7 := { stood := { row := charsFromUptoRow, standIns := [], harness := (true, "d8b9497e8ec60dbc7b526b46390b7164dd5bdfcd23be5b8cd878d4ffc8856bf8"), looks := false }, kinds := [], alts := [], laidByText := true, laidKinds := [.data, .pinned], laidTests := true, laidLooks := .later }
def CharsFromUptoCardSaid : Prop := Claim7.holds Tryd.pinned (.plain (OpenSpec.upto charsFromSpec)) charsFromUptoCard

/-- THE SECOND FORM's CARD OF 'chisellaw01.CharsCuts'. -/
def charsCutsUptoCard : Claim7 := { stood := { row := charsCutsUptoRow, standIns := [], harness := (true, "d8b9497e8ec60dbc7b526b46390b7164dd5bdfcd23be5b8cd878d4ffc8856bf8"), looks := false }, kinds := [], alts := [], laidByText := true, laidKinds := [.data, .pinned], laidTests := true, laidLooks := .later }
def CharsCutsUptoCardSaid : Prop := Claim7.holds Tryd.pinned (.plain (OpenSpec.upto charsCutsSpec)) charsCutsUptoCard

/-- THE SECOND FORM's CARD OF 'chisellaw01.CharsOne'. -/
def charsOneUptoCard : Claim7 := { stood := { row := charsOneUptoRow, standIns := [], harness := (true, "d8b9497e8ec60dbc7b526b46390b7164dd5bdfcd23be5b8cd878d4ffc8856bf8"), looks := false }, kinds := [], alts := [], laidByText := true, laidKinds := [.data, .pinned], laidTests := true, laidLooks := .later }
def CharsOneUptoCardSaid : Prop := Claim7.holds Tryd.pinned (.plain (OpenSpec.upto charsOneSpec)) charsOneUptoCard

/-- THE SECOND FORM's CARD OF 'chisellaw01.CharsBack'. -/
def charsBackUptoCard : Claim7 := { stood := { row := charsBackUptoRow, standIns := [], harness := (true, "d8b9497e8ec60dbc7b526b46390b7164dd5bdfcd23be5b8cd878d4ffc8856bf8"), looks := false }, kinds := [], alts := [], laidByText := true, laidKinds := [.data, .pinned], laidTests := true, laidLooks := .later }
def CharsBackUptoCardSaid : Prop := Claim7.holds Tryd.pinned (.plain (OpenSpec.upto charsBackSpec)) charsBackUptoCard

/-- THE SECOND FORM's CARD OF 'chisellaw01.CharsParts'. -/
def charsPartsUptoCard : Claim7 := { stood := { row := charsPartsUptoRow, standIns := [], harness := (true, "d8b9497e8ec60dbc7b526b46390b7164dd5bdfcd23be5b8cd878d4ffc8856bf8"), looks := false }, kinds := [], alts := [], laidByText := true, laidKinds := [.data, .pinned], laidTests := true, laidLooks := .later }
def CharsPartsUptoCardSaid : Prop := Claim7.holds Tryd.pinned (.plain (OpenSpec.upto charsPartsSpec)) charsPartsUptoCard

/-- THE SECOND FORM's CARD OF 'chisellaw01.CharsNames'. -/
def charsNamesUptoCard : Claim7 := { stood := { row := charsNamesUptoRow, standIns := [], harness := (true, "d8b9497e8ec60dbc7b526b46390b7164dd5bdfcd23be5b8cd878d4ffc8856bf8"), looks := false }, kinds := [], alts := [], laidByText := true, laidKinds := [.data, .pinned], laidTests := true, laidLooks := .later }
def CharsNamesUptoCardSaid : Prop := Claim7.holds Tryd.pinned (.plain (OpenSpec.upto charsNamesSpec)) charsNamesUptoCard

/-- THE SECOND FORM's CARD OF 'chisellaw01.CharsKnown'. -/
def charsKnownUptoCard : Claim7 := { stood := { row := charsKnownUptoRow, standIns := [], harness := (true, "d8b9497e8ec60dbc7b526b46390b7164dd5bdfcd23be5b8cd878d4ffc8856bf8"), looks := false }, kinds := [], alts := [], laidByText := true, laidKinds := [.data, .pinned], laidTests := true, laidLooks := .later }
def CharsKnownUptoCardSaid : Prop := Claim7.holds Tryd.pinned (.plain (OpenSpec.upto charsKnownSpec)) charsKnownUptoCard
end Rows
end Go.Proofs.YtpdgajjcapdjdaaDoor
