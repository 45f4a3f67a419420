import Derived.Test.YtebpcnkdhgnghaaGreatDoorMacA
import Derived.Test.YtebpcnkdhgnghaaGreatDoorCards
set_option linter.unusedSimpArgs false
set_option linter.unusedVariables false
set_option maxRecDepth 100000
namespace Go.Proofs.YtebpcnkdhgnghaaGreatDoor.PMerges
section
theorem goes:false=Rows.playMergesRow.goesBy Tryz.pinned.checked.prog:=zo
