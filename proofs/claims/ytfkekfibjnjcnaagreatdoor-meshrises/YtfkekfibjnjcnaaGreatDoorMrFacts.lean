import Derived.Test.YtfkekfibjnjcnaaGreatDoorMrFactsA
import Derived.Test.YtfkekfibjnjcnaaGreatDoorMrFactsB
import Derived.Test.YtfkekfibjnjcnaaGreatDoorRows
import Derived.Test.YtfkekfibjnjcnaaGreatDoorChecked
import Derived.JoinedOf
import Derived.KernelRfl
set_option linter.unusedSimpArgs false
set_option linter.unusedVariables false
set_option maxRecDepth 100000
namespace Go.Proofs.YtfkekfibjnjcnaaGreatDoor.MRises
section
theorem closed:joinedFacts Tryz.prog 3 Tryz.f3 Rows.meshRisesSpec Rows.meshRisesRow=true:=by
 unfold joinedFacts
 rw [jfP,jfU,jfR,jfN]
 kernel_rfl
end
end Go.Proofs.YtfkekfibjnjcnaaGreatDoor.MRises
