import Derived.Test.YtfkekfibjnjcnaaGreatDoorMacA
import Derived.Test.YtfkekfibjnjcnaaGreatDoorRows
import Derived.JoinedOf
set_option linter.unusedSimpArgs false
set_option linter.unusedVariables false
set_option maxRecDepth 100000
namespace Go.Proofs.YtfkekfibjnjcnaaGreatDoor.MMeets
section
theorem jfR:(Rows.meshMeetsRow.recurses==Tryz.prog.recurses 4)=true:=zk
theorem jfN:(Rows.meshMeetsRow.named==Tryz.prog.varsNamed 4)=true:=zk
