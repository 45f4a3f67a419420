import Derived.Test.YtjclejjkganhfaaGreatDoorMacA
import Derived.Test.YtjclejjkganhfaaGreatDoorRows
import Derived.Test.YtjclejjkganhfaaGreatDoorChecked
import Derived.JoinedOf
set_option linter.unusedSimpArgs false
set_option linter.unusedVariables false
set_option maxRecDepth 100000
namespace Go.Proofs.YtjclejjkganhfaaGreatDoor
section
theorem SAgain.jfP:(Rows.scriptAgainRow.inPlace==Tryz.prog.inPlace 4)=true:=zk
theorem SAgain.jfU:(Rows.scriptAgainRow.unfollowed==Tryz.prog.unfollowed 4)=true:=zk

end