/-
  DERIVED. GIVEN WITH THE SEED: THE CARDS: each row of YtchngdhmloahbabDoorRows.lean that lists a variable, with what it lists TIED to the program's text (the seventh form; the later family's looks); each row that meets fmt, with fmt's text TOLD by the authors' own Lean function (tested against real Go, not proved from fmt's source: count such statements apart). THE CARD IS WHAT COUNTS. Prove the row's statement (the work); the ties are given (YtchngdhmloahbabDoorTie.lean); close each card by the builder's one call (the guide's Derived/Test/ToyasCard.lean, 'card_holds'). Laid BY PROGRAM, IN A SANDBOX (cutbox-door.mjs). By AI agents, Wed Nov 11 2026. No macro, syntax, notation, axiom, sorry.
-/
import Derived.Test.YtchngdhmloahbabDoorRows
import GoSem.ClaimSeven
namespace Go.Proofs.YtchngdhmloahbabDoor
namespace Rows

/-- THE TIED CARD OF 'concordatlaw1.LineKeeps'. -/
def lineKeepsCard : Claim7 := { stood := { row := lineKeepsRow, standIns := [], harness := (true, "4a7e7d076b93df2725d761401e7417804435a22d4ebec89edd844d14e7da105c"), looks := true }, kinds := [], alts := [], laidByText := true, laidKinds := [.sentinel, .sentinel, .sentinel, .sentinel], laidTests := true, laidLooks := .later }
def LineKeepsCardSaid : Prop := Claim7.holds Tryd.pinned (.plain (OpenSpec.ofChange lineKeepsSpec)) lineKeepsCard

/-- THE TIED CARD OF 'concordatlaw1.LineActs'. -/
def lineActsCard : Claim7 := { stood := { row := lineActsRow, standIns := [], harness := (true, "4a7e7d076b93df2725d761401e7417804435a22d4ebec89edd844d14e7da105c"), looks := true }, kinds := [], alts := [], laidByText := true, laidKinds := [.handle, .sentinel, .sentinel, .sentinel, .sentinel, .sentinel, .sentinel, .sentinel, .sentinel, .sentinel, .sentinel, .sentinel, .sentinel], laidTests := true, laidLooks := .later }
def LineActsCardSaid : Prop := Claim7.holds Tryd.pinned (.plain (OpenSpec.ofChange lineActsSpec)) lineActsCard

/-- THE SECOND FORM's CARD OF 'concordatlaw1.LineKeeps'. -/
def lineKeepsUptoCard : Claim7 := { stood := { row := lineKeepsUptoRow, standIns := [], harness := (true, "4a7e7d076b93df2725d761401e7417804435a22d4ebec89edd844d14e7da105c"), looks := true }, kinds := [], alts := [], laidByText := true, laidKinds := [.sentinel, .sentinel, .sentinel, .sentinel], laidTests := true, laidLooks := .later }
def LineKeepsUptoCardSaid : Prop := Claim7.holds Tryd.pinned (.plain (OpenSpec.upto lineKeepsSpec)) lineKeepsUptoCard

/-- THE SECOND FORM's CARD OF 'concordatlaw1.LineActs'. -/
def lineActsUptoCard : Claim7 := { stood := { row := lineActsUptoRow, standIns := [], harness := (true, "4a7e7d076b93df2725d761401e7417804435a22d4ebec89edd844d14e7da105c"), looks := true }, kinds := [], alts := [], laidByText := true, laidKinds := [.handle, .sentinel, .sentinel, .sentinel, .sentinel, .sentinel, .sentinel, .sentinel, .sentinel, .sentinel, .sentinel, .sentinel, .sentinel], laidTests := true, laidLooks := .later }
def LineActsUptoCardSaid : Prop := Claim7.holds Tryd.pinned (.plain (OpenSpec.upto lineActsSpec)) lineActsUptoCard
end Rows
end Go.Proofs.YtchngdhmloahbabDoor
