import Derived.Test.YtcggmagdndhkbaaGreatDoorMt37
import Derived.Test.YtcggmagdndhkbaaGreatDoorMt38
import Derived.Test.YtcggmagdndhkbaaGreatDoorRows
import Derived.Test.YtcggmagdndhkbaaGreatDoorChecked
import Derived.JoinedOf
import Derived.KernelRfl
section
namespace Go.Proofs.YtcggmagdndhkbaaGreatDoor.Meets
set_option maxRecDepth 100000 in
theorem closed : joinedFacts Tryz.prog 4 Tryz.f4 Rows.replicaMeetsSpec Rows.replicaMeetsRow = true := by
  unfold joinedFacts
  rw [jfP, jfU, jfR, jfN]
  kernel_rfl
end Go.Proofs.YtcggmagdndhkbaaGreatDoor.Meets
end
