import Derived.Test.YtebpcnkdhgnghaaGreatDoorMacA
import Derived.Test.YtebpcnkdhgnghaaGreatDoorRows
import Derived.JoinedOf
set_option linter.unusedSimpArgs false
set_option linter.unusedVariables false
set_option maxRecDepth 100000
namespace Go.Proofs.YtebpcnkdhgnghaaGreatDoor.PAgain
section
theorem jfP:(Rows.playAgainRow.inPlace==Tryz.prog.inPlace 4)=true:=zk
theorem jfU:(Rows.playAgainRow.unfollowed==Tryz.prog.unfollowed 4)=true:=zk
