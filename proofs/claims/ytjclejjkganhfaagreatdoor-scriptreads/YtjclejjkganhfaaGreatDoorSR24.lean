import Derived.Test.YtjclejjkganhfaaGreatDoorMacA
import Derived.Test.YtjclejjkganhfaaGreatDoorRows
import Derived.Test.YtjclejjkganhfaaGreatDoorChecked
import Derived.JoinedOf
set_option linter.unusedSimpArgs false
set_option linter.unusedVariables false
set_option maxRecDepth 100000
namespace Go.Proofs.YtjclejjkganhfaaGreatDoor
section
theorem SReads.jfR:(Rows.scriptReadsRow.recurses==Tryz.prog.recurses 3)=true:=zk
theorem SReads.jfN:(Rows.scriptReadsRow.named==Tryz.prog.varsNamed 3)=true:=zk

end