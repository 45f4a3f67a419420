import Derived.Test.YtfkekfibjnjcnaaGreatDoorRows
import Derived.Test.YtfkekfibjnjcnaaGreatDoorChecked
import Derived.JoinedOf
import Derived.KernelRfl
set_option linter.unusedSimpArgs false
set_option linter.unusedVariables false
set_option maxRecDepth 100000
namespace Go.Proofs.YtfkekfibjnjcnaaGreatDoor.MRises
section
theorem jfR:(Rows.meshRisesRow.recurses==Tryz.prog.recurses 3)=true:=by kernel_rfl
theorem jfN:(Rows.meshRisesRow.named==Tryz.prog.varsNamed 3)=true:=by kernel_rfl
end
end Go.Proofs.YtfkekfibjnjcnaaGreatDoor.MRises
