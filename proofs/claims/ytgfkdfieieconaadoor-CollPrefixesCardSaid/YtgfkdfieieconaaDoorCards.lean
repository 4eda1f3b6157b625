/-
  DERIVED. GIVEN WITH THE SEED: THE CARDS: each row of YtgfkdfieieconaaDoorRows.lean that lists a variable, with what it lists TIED to the program's text (the seventh form; the later family's looks); each row that meets fmt, with fmt's text TOLD by the authors' own Lean function (tested against real Go, not proved from fmt's source: count such statements apart). THE CARD IS WHAT COUNTS. Prove the row's statement (the work); the ties are given (YtgfkdfieieconaaDoorTie.lean); close each card by the builder's one call (the guide's Derived/Test/ToyasCard.lean, 'card_holds'). Laid BY PROGRAM, IN A SANDBOX (cutbox-door.mjs). By AI agents, Wed Nov 11 2026. No macro, syntax, notation, axiom, sorry.
-/
import Derived.Test.YtgfkdfieieconaaDoorRows
import GoSem.ClaimSeven
namespace Go.Proofs.YtgfkdfieieconaaDoor
namespace Rows

/-- THE TIED CARD OF 'chisellaw03.CollOrder'. -/
def collOrderCard : Claim7 := { stood := { row := collOrderRow, standIns := [], harness := (true, "bc7d7507f24a1e542878e9c26dc6b295719d9dd2d3068871beca65dba03e5cff"), looks := true }, kinds := [], alts := [], laidByText := true, laidKinds := [.data, .data, .data, .data, .sentinel, .sentinel, .pinned], laidTests := true, laidLooks := .later }
def CollOrderCardSaid : Prop := Claim7.holds Tryd.pinned (.plain (OpenSpec.ofChange collOrderSpec)) collOrderCard

/-- THE TIED CARD OF 'chisellaw03.CollLevels'. -/
def collLevelsCard : Claim7 := { stood := { row := collLevelsRow, standIns := [], harness := (true, "bc7d7507f24a1e542878e9c26dc6b295719d9dd2d3068871beca65dba03e5cff"), looks := true }, kinds := [], alts := [], laidByText := true, laidKinds := [.data, .data, .data, .data, .sentinel, .sentinel, .pinned], laidTests := true, laidLooks := .later }
def CollLevelsCardSaid : Prop := Claim7.holds Tryd.pinned (.plain (OpenSpec.ofChange collLevelsSpec)) collLevelsCard

/-- THE TIED CARD OF 'chisellaw03.CollIgnored'. -/
def collIgnoredCard : Claim7 := { stood := { row := collIgnoredRow, standIns := [], harness := (true, "bc7d7507f24a1e542878e9c26dc6b295719d9dd2d3068871beca65dba03e5cff"), looks := true }, kinds := [], alts := [], laidByText := true, laidKinds := [.data, .data, .data, .data, .sentinel, .sentinel, .pinned], laidTests := true, laidLooks := .later }
def CollIgnoredCardSaid : Prop := Claim7.holds Tryd.pinned (.plain (OpenSpec.ofChange collIgnoredSpec)) collIgnoredCard

/-- THE TIED CARD OF 'chisellaw03.CollPrefixes'. -/
def collPrefixesCard : Claim7 := { stood := { row := collPrefixesRow, standIns := [], harness := (true, "bc7d7507f24a1e542878e9c26dc6b295719d9dd2d3068871beca65dba03e5cff"), looks := true }, kinds := [], alts := [], laidByText := true, laidKinds := [.data, .data, .data, .data, .sentinel, .sentinel, .pinned], laidTests := true, laidLooks := .later }
def CollPrefixesCardSaid : Prop := Claim7.holds Tryd.pinned (.plain (OpenSpec.ofChange collPrefixesSpec)) collPrefixesCard

/-- THE TIED CARD OF 'chisellaw03.CollPoints'. -/
def collPointsCard : Claim7 := { stood := { row := collPointsRow, standIns := [], harness := (true, "bc7d7507f24a1e542878e9c26dc6b295719d9dd2d3068871beca65dba03e5cff"), looks := true }, kinds := [], alts := [], laidByText := true, laidKinds := [.data, .data, .data, .data, .sentinel, .sentinel, .pinned], laidTests := true, laidLooks := .later }
def CollPointsCardSaid : Prop := Claim7.holds Tryd.pinned (.plain (OpenSpec.ofChange collPointsSpec)) collPointsCard

/-- THE TIED CARD OF 'chisellaw03.CollNil'. -/
def collNilCard : Claim7 := { stood := { row := collNilRow, standIns := [], harness := (true, "bc7d7507f24a1e542878e9c26dc6b295719d9dd2d3068871beca65dba03e5cff"), looks := true }, kinds := [], alts := [], laidByText := true, laidKinds := [.data, .data, .data, .data, .sentinel, .sentinel, .pinned], laidTests := true, laidLooks := .later }
def CollNilCardSaid : Prop := Claim7.holds Tryd.pinned (.plain (OpenSpec.ofChange collNilSpec)) collNilCard

/-- THE TIED CARD OF 'chisellaw03.CollLong'. -/
def collLongCard : Claim7 := { stood := { row := collLongRow, standIns := [], harness := (true, "bc7d7507f24a1e542878e9c26dc6b295719d9dd2d3068871beca65dba03e5cff"), looks := true }, kinds := [], alts := [], laidByText := true, laidKinds := [.data, .data, .data, .data, .sentinel, .sentinel, .pinned], laidTests := true, laidLooks := .later }
def CollLongCardSaid : Prop := Claim7.holds Tryd.pinned (.plain (OpenSpec.ofChange collLongSpec)) collLongCard

/-- THE TIED CARD OF 'chisellaw03.CollKnown'. -/
def collKnownCard : Claim7 := { stood := { row := collKnownRow, standIns := [], harness := (true, "bc7d7507f24a1e542878e9c26dc6b295719d9dd2d3068871beca65dba03e5cff"), looks := true }, kinds := [], alts := [], laidByText := true, laidKinds := [.data, .data, .data, .data, .sentinel, .sentinel, .pinned], laidTests := true, laidLooks := .later }
def CollKnownCardSaid : Prop := Claim7.holds Tryd.pinned (.plain (OpenSpec.ofChange collKnownSpec)) collKnownCard

/-- THE SECOND FORM's CARD OF 'chisellaw03.CollOrder'. -/
def collOrderUptoCard : Claim7 := { stood := { row := collOrderUptoRow, standIns := [], harness := (true, "bc7d7507f24a1e542878e9c26dc6b295719d9dd2d3068871beca65dba03e5cff"), looks := true }, kinds := [], alts := [], laidByText := true, laidKinds := [.data, .data, .data, .data, .sentinel, .sentinel, .pinned], laidTests := true, laidLooks := .later }
def CollOrderUptoCardSaid : Prop := Claim7.holds Tryd.pinned (.plain (OpenSpec.upto collOrderSpec)) collOrderUptoCard

/-- THE SECOND FORM's CARD OF 'chisellaw03.CollLevels'. -/
def collLevelsUptoCard : Claim7 := { stood := { row := collLevelsUptoRow, standIns := [], harness := (true, "bc7d7507f24a1e542878e9c26dc6b295719d9dd2d3068871beca65dba03e5cff"), looks := true }, kinds := [], alts := [], laidByText := true, laidKinds := [.data, .data, .data, .data, .sentinel, .sentinel, .pinned], laidTests := true, laidLooks := .later }
def CollLevelsUptoCardSaid : Prop := Claim7.holds Tryd.pinned (.plain (OpenSpec.upto collLevelsSpec)) collLevelsUptoCard

/-- THE SECOND FORM's CARD OF 'chisellaw03.CollIgnored'. -/
def collIgnoredUptoCard : Claim7 := { stood := { row := collIgnoredUptoRow, standIns := [], harness := (true, "bc7d7507f24a1e542878e9c26dc6b295719d9dd2d3068871beca65dba03e5cff"), looks := true }, kinds := [], alts := [], laidByText := true, laidKinds := [.data, .data, .data, .data, .sentinel, .sentinel, .pinned], laidTests := true, laidLooks := .later }
def CollIgnoredUptoCardSaid : Prop := Claim7.holds Tryd.pinned (.plain (OpenSpec.upto collIgnoredSpec)) collIgnoredUptoCard

/-- THE SECOND FORM's CARD OF 'chisellaw03.CollPrefixes'. -/
def collPrefixesUptoCard : Claim7 := { stood := { row := collPrefixesUptoRow, standIns := [], harness := (true, "bc7d7507f24a1e542878e9c26dc6b295719d9dd2d3068871beca65dba03e5cff"), looks := true }, kinds := [], alts := [], laidByText := true, laidKinds := [.data, .data, .data, .data, .sentinel, .sentinel, .pinned], laidTests := true, laidLooks := .later }
def CollPrefixesUptoCardSaid : Prop := Claim7.holds Tryd.pinned (.plain (OpenSpec.upto collPrefixesSpec)) collPrefixesUptoCard

/-- THE SECOND FORM's CARD OF 'chisellaw03.CollPoints'. -/
def collPointsUptoCard : Claim7 := { stood := { row := collPointsUptoRow, standIns := [], harness := (true, "bc7d7507f24a1e542878e9c26dc6b295719d9dd2d3068871beca65dba03e5cff"), looks := true }, kinds := [], alts := [], laidByText := true, laidKinds := [.data, .data, .data, .data, .sentinel, .sentinel, .pinned], laidTests := true, laidLooks := .later }
def CollPointsUptoCardSaid : Prop := Claim7.holds Tryd.pinned (.plain (OpenSpec.upto collPointsSpec)) collPointsUptoCard

/-- THE SECOND FORM's CARD OF 'chisellaw03.CollNil'. -/
def collNilUptoCard : Claim7 := { stood := { row := collNilUptoRow, standIns := [], harness := (true, "bc7d7507f24a1e542878e9c26dc6b295719d9dd2d3068871beca65dba03e5cff"), looks := true }, kinds := [], alts := [], laidByText := true, laidKinds := [.data, .data, .data, .data, .sentinel, .sentinel, .pinned], laidTests := true, laidLooks := .later }
def CollNilUptoCardSaid : Prop := Claim7.holds Tryd.pinned (.plain (OpenSpec.upto collNilSpec)) collNilUptoCard

/-- THE SECOND FORM's CARD OF 'chisellaw03.CollLong'. -/
def collLongUptoCard : Claim7 := { stood := { row := collLongUptoRow, standIns := [], harness := (true, "bc7d7507f24a1e542878e9c26dc6b295719d9dd2d3068871beca65dba03e5cff"), looks := true }, kinds := [], alts := [], laidByText := true, laidKinds := [.data, .data, .data, .data, .sentinel, .sentinel, .pinned], laidTests := true, laidLooks := .later }
def CollLongUptoCardSaid : Prop := Claim7.holds Tryd.pinned (.plain (OpenSpec.upto collLongSpec)) collLongUptoCard

/-- THE SECOND FORM's CARD OF 'chisellaw03.CollKnown'. -/
def collKnownUptoCard : Claim7 := { stood := { row := collKnownUptoRow, standIns := [], harness := (true, "bc7d7507f24a1e542878e9c26dc6b295719d9dd2d3068871beca65dba03e5cff"), looks := true }, kinds := [], alts := [], laidByText := true, laidKinds := [.data, .data, .data, .data, .sentinel, .sentinel, .pinned], laidTests := true, laidLooks := .later }
def CollKnownUptoCardSaid : Prop := Claim7.holds Tryd.pinned (.plain (OpenSpec.upto collKnownSpec)) collKnownUptoCard
end Rows
end Go.Proofs.YtgfkdfieieconaaDoor
