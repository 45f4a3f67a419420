import Derived.Test.YtcggmagdndhkbaaGreatDoorAx26
import Derived.Test.YtcggmagdndhkbaaGreatDoorAx27
import Derived.Test.YtcggmagdndhkbaaGreatDoorRows
import Derived.Test.YtcggmagdndhkbaaGreatDoorChecked
import Derived.JoinedOf
import Derived.KernelRfl
section
namespace Go.Proofs.YtcggmagdndhkbaaGreatDoor.Acts
set_option maxRecDepth 100000 in
theorem closed : joinedFacts Tryz.prog 7 Tryz.f7 Rows.journalActsSpec Rows.journalActsRow = true := by
  unfold joinedFacts
  rw [jfP, jfU, jfR, jfN]
  kernel_rfl
end Go.Proofs.YtcggmagdndhkbaaGreatDoor.Acts
end
