/-
  DERIVED. GIVEN WITH THE SEED: THE CARDS: each row of YtaieapldokkdnabGreatDoorRows.lean that lists a variable, with what it lists TIED to the program's text (the seventh form; the later family's looks); each row that meets fmt, with fmt's text TOLD by the authors' own Lean function (tested against real Go, not proved from fmt's source: count such statements apart). THE CARD IS WHAT COUNTS. Prove the row's statement (the work); the ties are given (YtaieapldokkdnabGreatDoorTie.lean); close each card by the builder's one call (the guide's Derived/Test/ToyasCard.lean, 'card_holds'). Laid BY PROGRAM, IN A SANDBOX (cutbox-door.mjs). By AI agents, Wed Nov 11 2026. No macro, syntax, notation, axiom, sorry.
-/
import Derived.Test.YtaieapldokkdnabGreatDoorRows
import GoSem.ClaimSeven
namespace Go.Proofs.YtaieapldokkdnabGreatDoor
namespace Rows

/-- THE TIED CARD OF 'chisellaw01.CharsSpaces'. -/
def charsSpacesCard : Claim7 := { stood := { row := charsSpacesRow, standIns := [], harness := (true, "aed7d7cec9f551cb1c5d76258fdf2dfb67afe619f9fc45effcff8860de75ecd1"), looks := true }, kinds := [], alts := [], laidByText := true, laidKinds := [.data, .pinned], laidTests := true, laidLooks := .later }
def CharsSpacesCardSaid : Prop := Claim7.holds Tryz.pinned (.plain (OpenSpec.ofChange charsSpacesSpec)) charsSpacesCard

/-- THE TIED CARD OF 'chisellaw02.RegexCompiles'. -/
def regexCompilesCard : Claim7 := { stood := { row := regexCompilesRow, standIns := [], harness := (true, "aed7d7cec9f551cb1c5d76258fdf2dfb67afe619f9fc45effcff8860de75ecd1"), looks := true }, kinds := [], alts := [], laidByText := true, laidKinds := [.data, .data, .data, .data, .sentinel, .sentinel, .pinned], laidTests := true, laidLooks := .later }
def RegexCompilesCardSaid : Prop := Claim7.holds Tryz.pinned (.plain (OpenSpec.ofChange regexCompilesSpec)) regexCompilesCard

/-- THE SECOND FORM's CARD OF 'chisellaw01.CharsSpaces'. -/
def charsSpacesUptoCard : Claim7 := { stood := { row := charsSpacesUptoRow, standIns := [], harness := (true, "aed7d7cec9f551cb1c5d76258fdf2dfb67afe619f9fc45effcff8860de75ecd1"), looks := true }, kinds := [], alts := [], laidByText := true, laidKinds := [.data, .pinned], laidTests := true, laidLooks := .later }
def CharsSpacesUptoCardSaid : Prop := Claim7.holds Tryz.pinned (.plain (OpenSpec.upto charsSpacesSpec)) charsSpacesUptoCard

/-- THE SECOND FORM's CARD OF 'chisellaw02.RegexCompiles'. -/
def regexCompilesUptoCard : Claim7 := { stood := { row := regexCompilesUptoRow, standIns := [], harness := (true, "aed7d7cec9f551cb1c5d76258fdf2dfb67afe619f9fc45effcff8860de75ecd1"), looks := true }, kinds := [], alts := [], laidByText := true, laidKinds := [.data, .data, .data, .data, .sentinel, .sentinel, .pinned], laidTests := true, laidLooks := .later }
def RegexCompilesUptoCardSaid : Prop := Claim7.holds Tryz.pinned (.plain (OpenSpec.upto regexCompilesSpec)) regexCompilesUptoCard
end Rows
end Go.Proofs.YtaieapldokkdnabGreatDoor
