import Derived.Test.YtcggmagdndhkbaaGreatDoorRows
import Derived.Test.YtcggmagdndhkbaaGreatDoorChecked
import Derived.JoinedOf
import Derived.KernelRfl
section
namespace Go.Proofs.YtcggmagdndhkbaaGreatDoor.Parts
set_option maxRecDepth 100000 in
theorem jfP : (Rows.replicaPartsRow.inPlace == Tryz.prog.inPlace 5) = true := by kernel_rfl
set_option maxRecDepth 100000 in
theorem jfU : (Rows.replicaPartsRow.unfollowed == Tryz.prog.unfollowed 5) = true := by kernel_rfl
end Go.Proofs.YtcggmagdndhkbaaGreatDoor.Parts
end
