import Derived.Test.YtpdbnnimdkfajaaGreatDoorVS24
import Derived.Test.YtpdbnnimdkfajaaGreatDoorVS28
set_option linter.unusedSimpArgs false
set_option linter.unusedVariables false
set_option maxRecDepth 100000
namespace Go.Proofs.YtpdbnnimdkfajaaGreatDoor.Vs
section
theorem closed:joinedFacts Tryz.prog 4 Tryz.f4 Rows.viewShowsSpec Rows.viewShowsRow=true:=by
 unfold joinedFacts
 rw [jfP,jfU,jfR,jfN]
 kernel_rfl
