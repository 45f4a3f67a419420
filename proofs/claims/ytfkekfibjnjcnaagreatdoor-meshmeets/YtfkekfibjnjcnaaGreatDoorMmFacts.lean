import Derived.Test.YtfkekfibjnjcnaaGreatDoorMmFactsA
import Derived.Test.YtfkekfibjnjcnaaGreatDoorMmFactsB
set_option linter.unusedSimpArgs false
set_option linter.unusedVariables false
set_option maxRecDepth 100000
namespace Go.Proofs.YtfkekfibjnjcnaaGreatDoor.MMeets
section
theorem closed:joinedFacts Tryz.prog 4 Tryz.f4 Rows.meshMeetsSpec Rows.meshMeetsRow=true:=by
 unfold joinedFacts
 rw [jfP,jfU,jfR,jfN]
 kernel_rfl
