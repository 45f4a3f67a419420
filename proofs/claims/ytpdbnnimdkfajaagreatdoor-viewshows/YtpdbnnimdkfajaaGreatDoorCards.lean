/-
  DERIVED. GIVEN WITH THE SEED: THE CARDS: each row of YtpdbnnimdkfajaaGreatDoorRows.lean that lists a variable, with what it lists TIED to the program's text (the seventh form; the later family's looks); each row that meets fmt, with fmt's text TOLD by the authors' own Lean function (tested against real Go, not proved from fmt's source: count such statements apart). THE CARD IS WHAT COUNTS. Prove the row's statement (the work); the ties are given (YtpdbnnimdkfajaaGreatDoorTie.lean); close each card by the builder's one call (the guide's Derived/Test/ToyasCard.lean, 'card_holds'). Laid BY PROGRAM, IN A SANDBOX (cutbox-door.mjs). By AI agents, Wed Nov 11 2026. No macro, syntax, notation, axiom, sorry.
-/
import Derived.Test.YtpdbnnimdkfajaaGreatDoorRows
import GoSem.ClaimSeven
namespace Go.Proofs.YtpdbnnimdkfajaaGreatDoor
namespace Rows

/-- THE TIED CARD OF 'concordatlaw2.ReplicaActs'. -/
def replicaActsCard : Claim7 := { stood := { row := replicaActsRow, standIns := [], harness := (true, "5428832a242ba5f02c56d0493b416b40ca216d7039e4f054e36bb48ab962f2fc"), looks := true }, kinds := [], alts := [], laidByText := true, laidKinds := [.data, .data, .data, .handle, .sentinel, .sentinel, .sentinel, .sentinel, .sentinel, .sentinel, .sentinel, .sentinel, .sentinel, .sentinel, .sentinel, .sentinel], laidTests := true, laidLooks := .later }
def ReplicaActsCardSaid : Prop := Claim7.holds Tryz.pinned (.plain (OpenSpec.ofChange replicaActsSpec)) replicaActsCard

/-- THE TIED CARD OF 'concordatlaw2.ViewShows'. -/
def viewShowsCard : Claim7 := { stood := { row := viewShowsRow, standIns := [], harness := (true, "5428832a242ba5f02c56d0493b416b40ca216d7039e4f054e36bb48ab962f2fc"), looks := true }, kinds := [], alts := [], laidByText := true, laidKinds := [.data, .data, .data, .data, .sentinel, .sentinel, .sentinel, .sentinel, .sentinel, .sentinel, .sentinel, .sentinel, .sentinel, .pinned], laidTests := true, laidLooks := .later }
def ViewShowsCardSaid : Prop := Claim7.holds Tryz.pinned (.plain (OpenSpec.ofChange viewShowsSpec)) viewShowsCard

/-- THE TIED CARD OF 'concordatlaw2.ViewPaths'. -/
def viewPathsCard : Claim7 := { stood := { row := viewPathsRow, standIns := [], harness := (true, "5428832a242ba5f02c56d0493b416b40ca216d7039e4f054e36bb48ab962f2fc"), looks := true }, kinds := [], alts := [], laidByText := true, laidKinds := [.data, .data, .data, .data, .sentinel, .sentinel, .sentinel, .sentinel, .sentinel, .sentinel, .sentinel, .sentinel, .sentinel, .pinned], laidTests := true, laidLooks := .later }
def ViewPathsCardSaid : Prop := Claim7.holds Tryz.pinned (.plain (OpenSpec.ofChange viewPathsSpec)) viewPathsCard

/-- THE SECOND FORM's CARD OF 'concordatlaw2.ReplicaActs'. -/
def replicaActsUptoCard : Claim7 := { stood := { row := replicaActsUptoRow, standIns := [], harness := (true, "5428832a242ba5f02c56d0493b416b40ca216d7039e4f054e36bb48ab962f2fc"), looks := true }, kinds := [], alts := [], laidByText := true, laidKinds := [.data, .data, .data, .handle, .sentinel, .sentinel, .sentinel, .sentinel, .sentinel, .sentinel, .sentinel, .sentinel, .sentinel, .sentinel, .sentinel, .sentinel], laidTests := true, laidLooks := .later }
def ReplicaActsUptoCardSaid : Prop := Claim7.holds Tryz.pinned (.plain (OpenSpec.upto replicaActsSpec)) replicaActsUptoCard

/-- THE SECOND FORM's CARD OF 'concordatlaw2.ViewShows'. -/
def viewShowsUptoCard : Claim7 := { stood := { row := viewShowsUptoRow, standIns := [], harness := (true, "5428832a242ba5f02c56d0493b416b40ca216d7039e4f054e36bb48ab962f2fc"), looks := true }, kinds := [], alts := [], laidByText := true, laidKinds := [.data, .data, .data, .data, .sentinel, .sentinel, .sentinel, .sentinel, .sentinel, .sentinel, .sentinel, .sentinel, .sentinel, .pinned], laidTests := true, laidLooks := .later }
def ViewShowsUptoCardSaid : Prop := Claim7.holds Tryz.pinned (.plain (OpenSpec.upto viewShowsSpec)) viewShowsUptoCard

/-- THE SECOND FORM's CARD OF 'concordatlaw2.ViewPaths'. -/
def viewPathsUptoCard : Claim7 := { stood := { row := viewPathsUptoRow, standIns := [], harness := (true, "5428832a242ba5f02c56d0493b416b40ca216d7039e4f054e36bb48ab962f2fc"), looks := true }, kinds := [], alts := [], laidByText := true, laidKinds := [.data, .data, .data, .data, .sentinel, .sentinel, .sentinel, .sentinel, .sentinel, .sentinel, .sentinel, .sentinel, .sentinel, .pinned], laidTests := true, laidLooks := .later }
def ViewPathsUptoCardSaid : Prop := Claim7.holds Tryz.pinned (.plain (OpenSpec.upto viewPathsSpec)) viewPathsUptoCard
end Rows
end Go.Proofs.YtpdbnnimdkfajaaGreatDoor
