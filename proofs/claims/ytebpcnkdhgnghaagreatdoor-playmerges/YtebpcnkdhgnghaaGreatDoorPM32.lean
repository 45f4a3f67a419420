import Derived.Test.YtebpcnkdhgnghaaGreatDoorMacA
import Derived.Test.YtebpcnkdhgnghaaGreatDoorRows
import Derived.JoinedOf
set_option linter.unusedSimpArgs false
set_option linter.unusedVariables false
set_option maxRecDepth 100000
namespace Go.Proofs.YtebpcnkdhgnghaaGreatDoor.PMerges
section
theorem jfR:(Rows.playMergesRow.recurses==Tryz.prog.recurses 3)=true:=zo
theorem jfN:(Rows.playMergesRow.named==Tryz.prog.varsNamed 3)=true:=zo
