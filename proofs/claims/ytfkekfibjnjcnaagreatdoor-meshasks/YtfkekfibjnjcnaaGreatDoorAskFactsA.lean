import Derived.Test.YtfkekfibjnjcnaaGreatDoorMacA
import Derived.Test.YtfkekfibjnjcnaaGreatDoorRows
import Derived.JoinedOf
set_option linter.unusedSimpArgs false
set_option linter.unusedVariables false
set_option maxRecDepth 100000
namespace Go.Proofs.YtfkekfibjnjcnaaGreatDoor.Asks
section
theorem jfP:(Rows.meshAsksRow.inPlace==Tryz.prog.inPlace 5)=true:=zk
theorem jfU:(Rows.meshAsksRow.unfollowed==Tryz.prog.unfollowed 5)=true:=zk
