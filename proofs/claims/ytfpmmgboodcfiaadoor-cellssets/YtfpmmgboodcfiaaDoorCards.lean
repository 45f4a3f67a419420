/-
  DERIVED. GIVEN WITH THE SEED: THE CARDS: each row of YtfpmmgboodcfiaaDoorRows.lean that lists a variable, with what it lists TIED to the program's text (the seventh form; the later family's looks); each row that meets fmt, with fmt's text TOLD by the authors' own Lean function (tested against real Go, not proved from fmt's source: count such statements apart). THE CARD IS WHAT COUNTS. Prove the row's statement (the work); the ties are given (YtfpmmgboodcfiaaDoorTie.lean); close each card by the builder's one call (the guide's Derived/Test/ToyasCard.lean, 'card_holds'). Laid BY PROGRAM, IN A SANDBOX (cutbox-door.mjs). By AI agents, Wed Nov 11 2026. No macro, syntax, notation, axiom, sorry.
-/
import Derived.Test.YtfpmmgboodcfiaaDoorRows
import GoSem.ClaimSeven
namespace Go.Proofs.YtfpmmgboodcfiaaDoor
namespace Rows

/-- THE TIED CARD OF 'concordatlaw1.CellsSets'. -/
def cellsSetsCard : Claim7 := { stood := { row := cellsSetsRow, standIns := [], harness := (true, "096edc1b2b217f26b23e3240f83eb4462995b906e19d709ac4f371ffff8dd9ab"), looks := true }, kinds := [], alts := [], laidByText := true, laidKinds := [.handle, .sentinel, .sentinel, .sentinel, .sentinel, .sentinel, .sentinel, .sentinel, .sentinel, .sentinel, .sentinel, .sentinel, .sentinel], laidTests := true, laidLooks := .later }
def CellsSetsCardSaid : Prop := Claim7.holds Tryd.pinned (.plain (OpenSpec.ofChange cellsSetsSpec)) cellsSetsCard

/-- THE TIED CARD OF 'concordatlaw1.CellsJoins'. -/
def cellsJoinsCard : Claim7 := { stood := { row := cellsJoinsRow, standIns := [], harness := (true, "096edc1b2b217f26b23e3240f83eb4462995b906e19d709ac4f371ffff8dd9ab"), looks := true }, kinds := [], alts := [], laidByText := true, laidKinds := [.sentinel, .sentinel, .sentinel, .sentinel], laidTests := true, laidLooks := .later }
def CellsJoinsCardSaid : Prop := Claim7.holds Tryd.pinned (.plain (OpenSpec.ofChange cellsJoinsSpec)) cellsJoinsCard

/-- THE SECOND FORM's CARD OF 'concordatlaw1.CellsSets'. -/
def cellsSetsUptoCard : Claim7 := { stood := { row := cellsSetsUptoRow, standIns := [], harness := (true, "096edc1b2b217f26b23e3240f83eb4462995b906e19d709ac4f371ffff8dd9ab"), looks := true }, kinds := [], alts := [], laidByText := true, laidKinds := [.handle, .sentinel, .sentinel, .sentinel, .sentinel, .sentinel, .sentinel, .sentinel, .sentinel, .sentinel, .sentinel, .sentinel, .sentinel], laidTests := true, laidLooks := .later }
def CellsSetsUptoCardSaid : Prop := Claim7.holds Tryd.pinned (.plain (OpenSpec.upto cellsSetsSpec)) cellsSetsUptoCard

/-- THE SECOND FORM's CARD OF 'concordatlaw1.CellsJoins'. -/
def cellsJoinsUptoCard : Claim7 := { stood := { row := cellsJoinsUptoRow, standIns := [], harness := (true, "096edc1b2b217f26b23e3240f83eb4462995b906e19d709ac4f371ffff8dd9ab"), looks := true }, kinds := [], alts := [], laidByText := true, laidKinds := [.sentinel, .sentinel, .sentinel, .sentinel], laidTests := true, laidLooks := .later }
def CellsJoinsUptoCardSaid : Prop := Claim7.holds Tryd.pinned (.plain (OpenSpec.upto cellsJoinsSpec)) cellsJoinsUptoCard
end Rows
end Go.Proofs.YtfpmmgboodcfiaaDoor
