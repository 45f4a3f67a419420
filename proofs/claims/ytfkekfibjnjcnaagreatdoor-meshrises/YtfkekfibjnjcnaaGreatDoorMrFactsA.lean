import Derived.Test.YtfkekfibjnjcnaaGreatDoorRows
import Derived.Test.YtfkekfibjnjcnaaGreatDoorChecked
import Derived.JoinedOf
import Derived.KernelRfl
set_option linter.unusedSimpArgs false
set_option linter.unusedVariables false
set_option maxRecDepth 100000
namespace Go.Proofs.YtfkekfibjnjcnaaGreatDoor.MRises
section
theorem jfP:(Rows.meshRisesRow.inPlace==Tryz.prog.inPlace 3)=true:=by kernel_rfl
theorem jfU:(Rows.meshRisesRow.unfollowed==Tryz.prog.unfollowed 3)=true:=by kernel_rfl
end
end Go.Proofs.YtfkekfibjnjcnaaGreatDoor.MRises
