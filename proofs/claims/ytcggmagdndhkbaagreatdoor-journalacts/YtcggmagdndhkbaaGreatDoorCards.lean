/-
  DERIVED. GIVEN WITH THE SEED: THE CARDS: each row of YtcggmagdndhkbaaGreatDoorRows.lean that lists a variable, with what it lists TIED to the program's text (the seventh form; the later family's looks); each row that meets fmt, with fmt's text TOLD by the authors' own Lean function (tested against real Go, not proved from fmt's source: count such statements apart). THE CARD IS WHAT COUNTS. Prove the row's statement (the work); the ties are given (YtcggmagdndhkbaaGreatDoorTie.lean); close each card by the builder's one call (the guide's Derived/Test/ToyasCard.lean, 'card_holds'). Laid BY PROGRAM, IN A SANDBOX (cutbox-door.mjs). By AI agents, Wed Nov 11 2026. No macro, syntax, notation, axiom, sorry.
-/
import Derived.Test.YtcggmagdndhkbaaGreatDoorRows
import GoSem.ClaimSeven
namespace Go.Proofs.YtcggmagdndhkbaaGreatDoor
namespace Rows

/-- THE TIED CARD OF 'concordatlaw2.ReplicaWrites'. -/
def replicaWritesCard : Claim7 := { stood := { row := replicaWritesRow, standIns := [], harness := (true, "4785ffbd42de054ed2e90583c1b0990e268111241e30e41c8d8f88eee5459070"), looks := true }, kinds := [], alts := [], laidByText := true, laidKinds := [.data, .data, .data, .sentinel, .sentinel, .sentinel, .sentinel, .sentinel, .sentinel, .sentinel, .sentinel], laidTests := true, laidLooks := .later }
def ReplicaWritesCardSaid : Prop := Claim7.holds Tryz.pinned (.plain (OpenSpec.ofChange replicaWritesSpec)) replicaWritesCard

/-- THE TIED CARD OF 'concordatlaw2.ReplicaMeets'. -/
def replicaMeetsCard : Claim7 := { stood := { row := replicaMeetsRow, standIns := [], harness := (true, "4785ffbd42de054ed2e90583c1b0990e268111241e30e41c8d8f88eee5459070"), looks := true }, kinds := [], alts := [], laidByText := true, laidKinds := [.data, .data, .data, .sentinel, .sentinel, .sentinel, .sentinel, .sentinel, .sentinel, .sentinel, .sentinel, .sentinel], laidTests := true, laidLooks := .later }
def ReplicaMeetsCardSaid : Prop := Claim7.holds Tryz.pinned (.plain (OpenSpec.ofChange replicaMeetsSpec)) replicaMeetsCard

/-- THE TIED CARD OF 'concordatlaw2.ReplicaParts'. -/
def replicaPartsCard : Claim7 := { stood := { row := replicaPartsRow, standIns := [], harness := (true, "4785ffbd42de054ed2e90583c1b0990e268111241e30e41c8d8f88eee5459070"), looks := true }, kinds := [], alts := [], laidByText := true, laidKinds := [.data, .data, .data, .handle, .sentinel, .sentinel, .sentinel, .sentinel, .sentinel, .sentinel, .sentinel, .sentinel, .sentinel, .sentinel, .sentinel, .sentinel], laidTests := true, laidLooks := .later }
def ReplicaPartsCardSaid : Prop := Claim7.holds Tryz.pinned (.plain (OpenSpec.ofChange replicaPartsSpec)) replicaPartsCard

/-- THE TIED CARD OF 'concordatlaw2.ReplicaActs'. -/
def replicaActsCard : Claim7 := { stood := { row := replicaActsRow, standIns := [], harness := (true, "4785ffbd42de054ed2e90583c1b0990e268111241e30e41c8d8f88eee5459070"), looks := true }, kinds := [], alts := [], laidByText := true, laidKinds := [.data, .data, .data, .handle, .sentinel, .sentinel, .sentinel, .sentinel, .sentinel, .sentinel, .sentinel, .sentinel, .sentinel, .sentinel, .sentinel, .sentinel], laidTests := true, laidLooks := .later }
def ReplicaActsCardSaid : Prop := Claim7.holds Tryz.pinned (.plain (OpenSpec.ofChange replicaActsSpec)) replicaActsCard

/-- THE TIED CARD OF 'concordatlaw2.JournalActs'. -/
def journalActsCard : Claim7 := { stood := { row := journalActsRow, standIns := [], harness := (true, "4785ffbd42de054ed2e90583c1b0990e268111241e30e41c8d8f88eee5459070"), looks := true }, kinds := [], alts := [], laidByText := true, laidKinds := [.data, .data, .data, .data, .handle, .sentinel, .sentinel, .sentinel, .sentinel, .sentinel, .sentinel, .sentinel, .sentinel, .sentinel, .sentinel, .sentinel, .sentinel, .pinned], laidTests := true, laidLooks := .later }
def JournalActsCardSaid : Prop := Claim7.holds Tryz.pinned (.plain (OpenSpec.ofChange journalActsSpec)) journalActsCard

/-- THE SECOND FORM's CARD OF 'concordatlaw2.ReplicaWrites'. -/
def replicaWritesUptoCard : Claim7 := { stood := { row := replicaWritesUptoRow, standIns := [], harness := (true, "4785ffbd42de054ed2e90583c1b0990e268111241e30e41c8d8f88eee5459070"), looks := true }, kinds := [], alts := [], laidByText := true, laidKinds := [.data, .data, .data, .sentinel, .sentinel, .sentinel, .sentinel, .sentinel, .sentinel, .sentinel, .sentinel], laidTests := true, laidLooks := .later }
def ReplicaWritesUptoCardSaid : Prop := Claim7.holds Tryz.pinned (.plain (OpenSpec.upto replicaWritesSpec)) replicaWritesUptoCard

/-- THE SECOND FORM's CARD OF 'concordatlaw2.ReplicaMeets'. -/
def replicaMeetsUptoCard : Claim7 := { stood := { row := replicaMeetsUptoRow, standIns := [], harness := (true, "4785ffbd42de054ed2e90583c1b0990e268111241e30e41c8d8f88eee5459070"), looks := true }, kinds := [], alts := [], laidByText := true, laidKinds := [.data, .data, .data, .sentinel, .sentinel, .sentinel, .sentinel, .sentinel, .sentinel, .sentinel, .sentinel, .sentinel], laidTests := true, laidLooks := .later }
def ReplicaMeetsUptoCardSaid : Prop := Claim7.holds Tryz.pinned (.plain (OpenSpec.upto replicaMeetsSpec)) replicaMeetsUptoCard

/-- THE SECOND FORM's CARD OF 'concordatlaw2.ReplicaParts'. -/
def replicaPartsUptoCard : Claim7 := { stood := { row := replicaPartsUptoRow, standIns := [], harness := (true, "4785ffbd42de054ed2e90583c1b0990e268111241e30e41c8d8f88eee5459070"), looks := true }, kinds := [], alts := [], laidByText := true, laidKinds := [.data, .data, .data, .handle, .sentinel, .sentinel, .sentinel, .sentinel, .sentinel, .sentinel, .sentinel, .sentinel, .sentinel, .sentinel, .sentinel, .sentinel], laidTests := true, laidLooks := .later }
def ReplicaPartsUptoCardSaid : Prop := Claim7.holds Tryz.pinned (.plain (OpenSpec.upto replicaPartsSpec)) replicaPartsUptoCard

/-- THE SECOND FORM's CARD OF 'concordatlaw2.ReplicaActs'. -/
def replicaActsUptoCard : Claim7 := { stood := { row := replicaActsUptoRow, standIns := [], harness := (true, "4785ffbd42de054ed2e90583c1b0990e268111241e30e41c8d8f88eee5459070"), looks := true }, kinds := [], alts := [], laidByText := true, laidKinds := [.data, .data, .data, .handle, .sentinel, .sentinel, .sentinel, .sentinel, .sentinel, .sentinel, .sentinel, .sentinel, .sentinel, .sentinel, .sentinel, .sentinel], laidTests := true, laidLooks := .later }
def ReplicaActsUptoCardSaid : Prop := Claim7.holds Tryz.pinned (.plain (OpenSpec.upto replicaActsSpec)) replicaActsUptoCard

/-- THE SECOND FORM's CARD OF 'concordatlaw2.JournalActs'. -/
def journalActsUptoCard : Claim7 := { stood := { row := journalActsUptoRow, standIns := [], harness := (true, "4785ffbd42de054ed2e90583c1b0990e268111241e30e41c8d8f88eee5459070"), looks := true }, kinds := [], alts := [], laidByText := true, laidKinds := [.data, .data, .data, .data, .handle, .sentinel, .sentinel, .sentinel, .sentinel, .sentinel, .sentinel, .sentinel, .sentinel, .sentinel, .sentinel, .sentinel, .sentinel, .pinned], laidTests := true, laidLooks := .later }
def JournalActsUptoCardSaid : Prop := Claim7.holds Tryz.pinned (.plain (OpenSpec.upto journalActsSpec)) journalActsUptoCard
end Rows
end Go.Proofs.YtcggmagdndhkbaaGreatDoor
