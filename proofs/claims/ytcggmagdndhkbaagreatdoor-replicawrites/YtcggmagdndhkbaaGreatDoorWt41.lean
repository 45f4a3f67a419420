import Derived.Test.YtcggmagdndhkbaaGreatDoorRows
import Derived.Test.YtcggmagdndhkbaaGreatDoorChecked
import Derived.JoinedOf
import Derived.KernelRfl
section
namespace Go.Proofs.YtcggmagdndhkbaaGreatDoor.Writes
set_option maxRecDepth 100000 in
theorem jfP : (Rows.replicaWritesRow.inPlace == Tryz.prog.inPlace 3) = true := by kernel_rfl
set_option maxRecDepth 100000 in
theorem jfU : (Rows.replicaWritesRow.unfollowed == Tryz.prog.unfollowed 3) = true := by kernel_rfl
end Go.Proofs.YtcggmagdndhkbaaGreatDoor.Writes
end
