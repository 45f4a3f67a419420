import Derived.Test.YtcggmagdndhkbaaGreatDoorPt38
import Derived.Test.YtcggmagdndhkbaaGreatDoorPt39
import Derived.Test.YtcggmagdndhkbaaGreatDoorRows
import Derived.Test.YtcggmagdndhkbaaGreatDoorChecked
import Derived.JoinedOf
import Derived.KernelRfl
section
namespace Go.Proofs.YtcggmagdndhkbaaGreatDoor.Parts
set_option maxRecDepth 100000 in
theorem closed : joinedFacts Tryz.prog 5 Tryz.f5 Rows.replicaPartsSpec Rows.replicaPartsRow = true := by
  unfold joinedFacts
  rw [jfP, jfU, jfR, jfN]
  kernel_rfl
end Go.Proofs.YtcggmagdndhkbaaGreatDoor.Parts
end
