import Derived.Test.YtcggmagdndhkbaaGreatDoorRows
import Derived.Test.YtcggmagdndhkbaaGreatDoorChecked
import Derived.JoinedOf
import Derived.KernelRfl
section
namespace Go.Proofs.YtcggmagdndhkbaaGreatDoor.Acts
set_option maxRecDepth 100000 in
theorem jfR : (Rows.journalActsRow.recurses == Tryz.prog.recurses 7) = true := by kernel_rfl
set_option maxRecDepth 100000 in
theorem jfN : (Rows.journalActsRow.named == Tryz.prog.varsNamed 7) = true := by kernel_rfl
end Go.Proofs.YtcggmagdndhkbaaGreatDoor.Acts
end
