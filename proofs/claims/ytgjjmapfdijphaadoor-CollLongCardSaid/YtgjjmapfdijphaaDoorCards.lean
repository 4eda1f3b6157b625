/-
  DERIVED. GIVEN WITH THE SEED: THE CARDS: each row of YtgjjmapfdijphaaDoorRows.lean that lists a variable, with what it lists TIED to the program's text (the seventh form; the later family's looks); each row that meets fmt, with fmt's text TOLD by the authors' own Lean function (tested against real Go, not proved from fmt's source: count such statements apart). THE CARD IS WHAT COUNTS. Prove the row's statement (the work); the ties are given (YtgjjmapfdijphaaDoorTie.lean); close each card by the builder's one call (the guide's Derived/Test/ToyasCard.lean, 'card_holds'). Laid BY PROGRAM, IN A SANDBOX (cutbox-door.mjs). By AI agents, Wed Nov 11 2026. No macro, syntax, notation, axiom, sorry.
-/
import Derived.Test.YtgjjmapfdijphaaDoorRows
import GoSem.ClaimSeven
namespace Go.Proofs.YtgjjmapfdijphaaDoor
namespace Rows

/-- THE TIED CARD OF 'chisellaw03.CollLevels'. -/
def collLevelsCard : Claim7 := { stood := { row := collLevelsRow, standIns := [], harness := (true, "c7478e73289de8c73b5a5cff823e143e10f86891e9855f7d7a76c801f228ed4f"), looks := true }, kinds := [], alts := [], laidByText := true, laidKinds := [.data, .data, .data, .data, .sentinel, .sentinel, .pinned], laidTests := true, laidLooks := .later }
def CollLevelsCardSaid : Prop := Claim7.holds Tryd.pinned (.plain (OpenSpec.ofChange collLevelsSpec)) collLevelsCard

/-- THE TIED CARD OF 'chisellaw03.CollIgnored'. -/
def collIgnoredCard : Claim7 := { stood := { row := collIgnoredRow, standIns := [], harness := (true, "c7478e73289de8c73b5a5cff823e143e10f86891e9855f7d7a76c801f228ed4f"), looks := true }, kinds := [], alts := [], laidByText := true, laidKinds := [.data, .data, .data, .data, .sentinel, .sentinel, .pinned], laidTests := true, laidLooks := .later }
def CollIgnoredCardSaid : Prop := Claim7.holds Tryd.pinned (.plain (OpenSpec.ofChange collIgnoredSpec)) collIgnoredCard

/-- THE TIED CARD OF 'chisellaw03.CollPoints'. -/
def collPointsCard : Claim7 := { stood := { row := collPointsRow, standIns := [], harness := (true, "c7478e73289de8c73b5a5cff823e143e10f86891e9855f7d7a76c801f228ed4f"), looks := true }, kinds := [], alts := [], laidByText := true, laidKinds := [.data, .data, .data, .data, .sentinel, .sentinel, .pinned], laidTests := true, laidLooks := .later }
def CollPointsCardSaid : Prop := Claim7.holds Tryd.pinned (.plain (OpenSpec.ofChange collPointsSpec)) collPointsCard

/-- THE TIED CARD OF 'chisellaw03.CollNil'. -/
def collNilCard : Claim7 := { stood := { row := collNilRow, standIns := [], harness := (true, "c7478e73289de8c73b5a5cff823e143e10f86891e9855f7d7a76c801f228ed4f"), looks := true }, kinds := [], alts := [], laidByText := true, laidKinds := [.data, .data, .data, .data, .sentinel, .sentinel, .pinned], laidTests := true, laidLooks := .later }
def CollNilCardSaid : Prop := Claim7.holds Tryd.pinned (.plain (OpenSpec.ofChange collNilSpec)) collNilCard

/-- THE TIED CARD OF 'chisellaw03.CollLong'. -/
def collLongCard : Claim7 := { stood := { row := collLongRow, standIns := [], harness := (true, "c7478e73289de8c73b5a5cff823e143e10f86891e9855f7d7a76c801f228ed4f"), looks := true }, kinds := [], alts := [], laidByText := true, laidKinds := [.data, .data, .data, .data, .sentinel, .sentinel, .pinned], laidTests := true, laidLooks := .later }
def CollLongCardSaid : Prop := Claim7.holds Tryd.pinned (.plain (OpenSpec.ofChange collLongSpec)) collLongCard

/-- THE TIED CARD OF 'chisellaw03.CollKnown'. -/
def collKnownCard : Claim7 := { stood := { row := collKnownRow, standIns := [], harness := (true, "c7478e73289de8c73b5a5cff823e143e10f86891e9855f7d7a76c801f228ed4f"), looks := true }, kinds := [], alts := [], laidByText := true, laidKinds := [.data, .data, .data, .data, .sentinel, .sentinel, .pinned], laidTests := true, laidLooks := .later }
def CollKnownCardSaid : Prop := Claim7.holds Tryd.pinned (.plain (OpenSpec.ofChange collKnownSpec)) collKnownCard

/-- THE SECOND FORM's CARD OF 'chisellaw03.CollLevels'. -/
def collLevelsUptoCard : Claim7 := { stood := { row := collLevelsUptoRow, standIns := [], harness := (true, "c7478e73289de8c73b5a5cff823e143e10f86891e9855f7d7a76c801f228ed4f"), looks := true }, kinds := [], alts := [], laidByText := true, laidKinds := [.data, .data, .data, .data, .sentinel, .sentinel, .pinned], laidTests := true, laidLooks := .later }
def CollLevelsUptoCardSaid : Prop := Claim7.holds Tryd.pinned (.plain (OpenSpec.upto collLevelsSpec)) collLevelsUptoCard

/-- THE SECOND FORM's CARD OF 'chisellaw03.CollIgnored'. -/
def collIgnoredUptoCard : Claim7 := { stood := { row := collIgnoredUptoRow, standIns := [], harness := (true, "c7478e73289de8c73b5a5cff823e143e10f86891e9855f7d7a76c801f228ed4f"), looks := true }, kinds := [], alts := [], laidByText := true, laidKinds := [.data, .data, .data, .data, .sentinel, .sentinel, .pinned], laidTests := true, laidLooks := .later }
def CollIgnoredUptoCardSaid : Prop := Claim7.holds Tryd.pinned (.plain (OpenSpec.upto collIgnoredSpec)) collIgnoredUptoCard

/-- THE SECOND FORM's CARD OF 'chisellaw03.CollPoints'. -/
def collPointsUptoCard : Claim7 := { stood := { row := collPointsUptoRow, standIns := [], harness := (true, "c7478e73289de8c73b5a5cff823e143e10f86891e9855f7d7a76c801f228ed4f"), looks := true }, kinds := [], alts := [], laidByText := true, laidKinds := [.data, .data, .data, .data, .sentinel, .sentinel, .pinned], laidTests := true, laidLooks := .later }
def CollPointsUptoCardSaid : Prop := Claim7.holds Tryd.pinned (.plain (OpenSpec.upto collPointsSpec)) collPointsUptoCard

/-- THE SECOND FORM's CARD OF 'chisellaw03.CollNil'. -/
def collNilUptoCard : Claim7 := { stood := { row := collNilUptoRow, standIns := [], harness := (true, "c7478e73289de8c73b5a5cff823e143e10f86891e9855f7d7a76c801f228ed4f"), looks := true }, kinds := [], alts := [], laidByText := true, laidKinds := [.data, .data, .data, .data, .sentinel, .sentinel, .pinned], laidTests := true, laidLooks := .later }
def CollNilUptoCardSaid : Prop := Claim7.holds Tryd.pinned (.plain (OpenSpec.upto collNilSpec)) collNilUptoCard

/-- THE SECOND FORM's CARD OF 'chisellaw03.CollLong'. -/
def collLongUptoCard : Claim7 := { stood := { row := collLongUptoRow, standIns := [], harness := (true, "c7478e73289de8c73b5a5cff823e143e10f86891e9855f7d7a76c801f228ed4f"), looks := true }, kinds := [], alts := [], laidByText := true, laidKinds := [.data, .data, .data, .data, .sentinel, .sentinel, .pinned], laidTests := true, laidLooks := .later }
def CollLongUptoCardSaid : Prop := Claim7.holds Tryd.pinned (.plain (OpenSpec.upto collLongSpec)) collLongUptoCard

/-- THE SECOND FORM's CARD OF 'chisellaw03.CollKnown'. -/
def collKnownUptoCard : Claim7 := { stood := { row := collKnownUptoRow, standIns := [], harness := (true, "c7478e73289de8c73b5a5cff823e143e10f86891e9855f7d7a76c801f228ed4f"), looks := true }, kinds := [], alts := [], laidByText := true, laidKinds := [.data, .data, .data, .data, .sentinel, .sentinel, .pinned], laidTests := true, laidLooks := .later }
def CollKnownUptoCardSaid : Prop := Claim7.holds Tryd.pinned (.plain (OpenSpec.upto collKnownSpec)) collKnownUptoCard
end Rows
end Go.Proofs.YtgjjmapfdijphaaDoor
