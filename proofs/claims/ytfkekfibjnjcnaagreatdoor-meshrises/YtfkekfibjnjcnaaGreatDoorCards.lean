/-
  DERIVED. GIVEN WITH THE SEED: THE CARDS: each row of YtfkekfibjnjcnaaGreatDoorRows.lean that lists a variable, with what it lists TIED to the program's text (the seventh form; the later family's looks); each row that meets fmt, with fmt's text TOLD by the authors' own Lean function (tested against real Go, not proved from fmt's source: count such statements apart). THE CARD IS WHAT COUNTS. Prove the row's statement (the work); the ties are given (YtfkekfibjnjcnaaGreatDoorTie.lean); close each card by the builder's one call (the guide's Derived/Test/ToyasCard.lean, 'card_holds'). Laid BY PROGRAM, IN A SANDBOX (cutbox-door.mjs). By AI agents, Wed Nov 11 2026. No macro, syntax, notation, axiom, sorry.
-/
import Derived.Test.YtfkekfibjnjcnaaGreatDoorRows
import GoSem.ClaimSeven
namespace Go.Proofs.YtfkekfibjnjcnaaGreatDoor
namespace Rows

/-- THE TIED CARD OF 'concordatlaw3.MeshRises'. -/
def meshRisesCard : Claim7 := { stood := { row := meshRisesRow, standIns := [], harness := (true, "7aeec71c9d09e6d4f2ee56a8855c1a23b1ac1947ba28539f96b80721b6ef1411"), looks := false }, kinds := [], alts := [], laidByText := true, laidKinds := [.data, .data, .data, .data, .sentinel, .sentinel, .sentinel, .sentinel, .sentinel, .sentinel, .sentinel, .sentinel, .sentinel, .sentinel, .sentinel, .pinned], laidTests := true, laidLooks := .later }
def MeshRisesCardSaid : Prop := Claim7.holds Tryz.pinned (.plain (OpenSpec.ofChange meshRisesSpec)) meshRisesCard

/-- THE TIED CARD OF 'concordatlaw3.MeshMeets'. -/
def meshMeetsCard : Claim7 := { stood := { row := meshMeetsRow, standIns := [], harness := (true, "7aeec71c9d09e6d4f2ee56a8855c1a23b1ac1947ba28539f96b80721b6ef1411"), looks := false }, kinds := [], alts := [], laidByText := true, laidKinds := [.data, .data, .data, .data, .sentinel, .sentinel, .sentinel, .sentinel, .sentinel, .sentinel, .sentinel, .sentinel, .sentinel, .sentinel, .sentinel, .pinned], laidTests := true, laidLooks := .later }
def MeshMeetsCardSaid : Prop := Claim7.holds Tryz.pinned (.plain (OpenSpec.ofChange meshMeetsSpec)) meshMeetsCard

/-- THE TIED CARD OF 'concordatlaw3.MeshAsks'. -/
def meshAsksCard : Claim7 := { stood := { row := meshAsksRow, standIns := [], harness := (true, "7aeec71c9d09e6d4f2ee56a8855c1a23b1ac1947ba28539f96b80721b6ef1411"), looks := false }, kinds := [], alts := [], laidByText := true, laidKinds := [.data, .data, .data, .data, .sentinel, .sentinel, .sentinel, .sentinel, .sentinel, .sentinel, .sentinel, .sentinel, .sentinel, .sentinel, .sentinel, .pinned], laidTests := true, laidLooks := .later }
def MeshAsksCardSaid : Prop := Claim7.holds Tryz.pinned (.plain (OpenSpec.ofChange meshAsksSpec)) meshAsksCard

/-- THE SECOND FORM's CARD OF 'concordatlaw3.MeshRises'. -/
def meshRisesUptoCard : Claim7 := { stood := { row := meshRisesUptoRow, standIns := [], harness := (true, "7aeec71c9d09e6d4f2ee56a8855c1a23b1ac1947ba28539f96b80721b6ef1411"), looks := false }, kinds := [], alts := [], laidByText := true, laidKinds := [.data, .data, .data, .data, .sentinel, .sentinel, .sentinel, .sentinel, .sentinel, .sentinel, .sentinel, .sentinel, .sentinel, .sentinel, .sentinel, .pinned], laidTests := true, laidLooks := .later }
def MeshRisesUptoCardSaid : Prop := Claim7.holds Tryz.pinned (.plain (OpenSpec.upto meshRisesSpec)) meshRisesUptoCard

/-- THE SECOND FORM's CARD OF 'concordatlaw3.MeshMeets'. -/
def meshMeetsUptoCard : Claim7 := { stood := { row := meshMeetsUptoRow, standIns := [], harness := (true, "7aeec71c9d09e6d4f2ee56a8855c1a23b1ac1947ba28539f96b80721b6ef1411"), looks := false }, kinds := [], alts := [], laidByText := true, laidKinds := [.data, .data, .data, .data, .sentinel, .sentinel, .sentinel, .sentinel, .sentinel, .sentinel, .sentinel, .sentinel, .sentinel, .sentinel, .sentinel, .pinned], laidTests := true, laidLooks := .later }
def MeshMeetsUptoCardSaid : Prop := Claim7.holds Tryz.pinned (.plain (OpenSpec.upto meshMeetsSpec)) meshMeetsUptoCard

/-- THE SECOND FORM's CARD OF 'concordatlaw3.MeshAsks'. -/
def meshAsksUptoCard : Claim7 := { stood := { row := meshAsksUptoRow, standIns := [], harness := (true, "7aeec71c9d09e6d4f2ee56a8855c1a23b1ac1947ba28539f96b80721b6ef1411"), looks := false }, kinds := [], alts := [], laidByText := true, laidKinds := [.data, .data, .data, .data, .sentinel, .sentinel, .sentinel, .sentinel, .sentinel, .sentinel, .sentinel, .sentinel, .sentinel, .sentinel, .sentinel, .pinned], laidTests := true, laidLooks := .later }
def MeshAsksUptoCardSaid : Prop := Claim7.holds Tryz.pinned (.plain (OpenSpec.upto meshAsksSpec)) meshAsksUptoCard
end Rows
end Go.Proofs.YtfkekfibjnjcnaaGreatDoor
