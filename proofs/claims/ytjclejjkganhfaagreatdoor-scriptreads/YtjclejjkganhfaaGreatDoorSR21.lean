import Derived.Test.YtjclejjkganhfaaGreatDoorMacA
import Derived.Test.YtjclejjkganhfaaGreatDoorRows
import Derived.Test.YtjclejjkganhfaaGreatDoorChecked
import Derived.JoinedOf
set_option linter.unusedSimpArgs false
set_option linter.unusedVariables false
set_option maxRecDepth 100000
namespace Go.Proofs.YtjclejjkganhfaaGreatDoor
section
theorem SReads.jfP:(Rows.scriptReadsRow.inPlace==Tryz.prog.inPlace 3)=true:=zk
theorem SReads.jfU:(Rows.scriptReadsRow.unfollowed==Tryz.prog.unfollowed 3)=true:=zk

end