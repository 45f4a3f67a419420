import Derived.Test.YtjclejjkganhfaaGreatDoorMacA
import Derived.Test.YtjclejjkganhfaaGreatDoorRows
import Derived.Test.YtjclejjkganhfaaGreatDoorChecked
import Derived.JoinedOf
set_option linter.unusedSimpArgs false
set_option linter.unusedVariables false
set_option maxRecDepth 100000
namespace Go.Proofs.YtjclejjkganhfaaGreatDoor
section
theorem SAgain.jfR:(Rows.scriptAgainRow.recurses==Tryz.prog.recurses 4)=true:=zk
theorem SAgain.jfN:(Rows.scriptAgainRow.named==Tryz.prog.varsNamed 4)=true:=zk

end