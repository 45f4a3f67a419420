import Derived.Test.YtfkekfibjnjcnaaGreatDoorAskFactsA
import Derived.Test.YtfkekfibjnjcnaaGreatDoorAskFactsB
set_option linter.unusedSimpArgs false
set_option linter.unusedVariables false
set_option maxRecDepth 100000
namespace Go.Proofs.YtfkekfibjnjcnaaGreatDoor.Asks
section
theorem closed:joinedFacts Tryz.prog 5 Tryz.f5 Rows.meshAsksSpec Rows.meshAsksRow=true:=by
 unfold joinedFacts
 rw [jfP,jfU,jfR,jfN]
 kernel_rfl
