import Derived.Test.YtcggmagdndhkbaaGreatDoorWt41
import Derived.Test.YtcggmagdndhkbaaGreatDoorWt42
import Derived.Test.YtcggmagdndhkbaaGreatDoorRows
import Derived.Test.YtcggmagdndhkbaaGreatDoorChecked
import Derived.JoinedOf
import Derived.KernelRfl
section
namespace Go.Proofs.YtcggmagdndhkbaaGreatDoor.Writes
set_option maxRecDepth 100000 in
theorem closed : joinedFacts Tryz.prog 3 Tryz.f3 Rows.replicaWritesSpec Rows.replicaWritesRow = true := by
  unfold joinedFacts
  rw [jfP, jfU, jfR, jfN]
  kernel_rfl
end Go.Proofs.YtcggmagdndhkbaaGreatDoor.Writes
end
