import Derived.Test.YtfkekfibjnjcnaaGreatDoorMacA
import Derived.Test.YtfkekfibjnjcnaaGreatDoorRows
import Derived.JoinedOf
set_option linter.unusedSimpArgs false
set_option linter.unusedVariables false
set_option maxRecDepth 100000
namespace Go.Proofs.YtfkekfibjnjcnaaGreatDoor.Asks
section
theorem jfR:(Rows.meshAsksRow.recurses==Tryz.prog.recurses 5)=true:=zk
theorem jfN:(Rows.meshAsksRow.named==Tryz.prog.varsNamed 5)=true:=zk
