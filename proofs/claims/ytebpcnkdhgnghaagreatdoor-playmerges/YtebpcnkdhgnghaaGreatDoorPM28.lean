import Derived.Test.YtebpcnkdhgnghaaGreatDoorMacA
import Derived.Test.YtebpcnkdhgnghaaGreatDoorRows
import Derived.JoinedOf
set_option linter.unusedSimpArgs false
set_option linter.unusedVariables false
set_option maxRecDepth 100000
namespace Go.Proofs.YtebpcnkdhgnghaaGreatDoor.PMerges
section
theorem jfP:(Rows.playMergesRow.inPlace==Tryz.prog.inPlace 3)=true:=zo
theorem jfU:(Rows.playMergesRow.unfollowed==Tryz.prog.unfollowed 3)=true:=zo
