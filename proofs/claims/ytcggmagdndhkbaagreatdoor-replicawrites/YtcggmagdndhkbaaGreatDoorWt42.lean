import Derived.Test.YtcggmagdndhkbaaGreatDoorRows
import Derived.Test.YtcggmagdndhkbaaGreatDoorChecked
import Derived.JoinedOf
import Derived.KernelRfl
section
namespace Go.Proofs.YtcggmagdndhkbaaGreatDoor.Writes
set_option maxRecDepth 100000 in
theorem jfR : (Rows.replicaWritesRow.recurses == Tryz.prog.recurses 3) = true := by kernel_rfl
set_option maxRecDepth 100000 in
theorem jfN : (Rows.replicaWritesRow.named == Tryz.prog.varsNamed 3) = true := by kernel_rfl
end Go.Proofs.YtcggmagdndhkbaaGreatDoor.Writes
end
