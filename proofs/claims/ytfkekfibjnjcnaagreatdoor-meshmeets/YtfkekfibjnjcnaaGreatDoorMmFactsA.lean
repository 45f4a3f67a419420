import Derived.Test.YtfkekfibjnjcnaaGreatDoorMacA
import Derived.Test.YtfkekfibjnjcnaaGreatDoorRows
import Derived.JoinedOf
set_option linter.unusedSimpArgs false
set_option linter.unusedVariables false
set_option maxRecDepth 100000
namespace Go.Proofs.YtfkekfibjnjcnaaGreatDoor.MMeets
section
theorem jfP:(Rows.meshMeetsRow.inPlace==Tryz.prog.inPlace 4)=true:=zk
theorem jfU:(Rows.meshMeetsRow.unfollowed==Tryz.prog.unfollowed 4)=true:=zk
