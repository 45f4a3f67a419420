import Derived.Test.YtebpcnkdhgnghaaGreatDoorMacA
import Derived.Test.YtebpcnkdhgnghaaGreatDoorRows
import Derived.JoinedOf
set_option linter.unusedSimpArgs false
set_option linter.unusedVariables false
set_option maxRecDepth 100000
namespace Go.Proofs.YtebpcnkdhgnghaaGreatDoor.PAgain
section
theorem jfR:(Rows.playAgainRow.recurses==Tryz.prog.recurses 4)=true:=zk
theorem jfN:(Rows.playAgainRow.named==Tryz.prog.varsNamed 4)=true:=zk
