import Derived.Test.YtjclejjkganhfaaGreatDoorMacA
import Derived.Test.YtjclejjkganhfaaGreatDoorCards
import Derived.Test.YtjclejjkganhfaaGreatDoorChecked
set_option linter.unusedSimpArgs false
set_option linter.unusedVariables false
set_option maxRecDepth 100000
namespace Go.Proofs.YtjclejjkganhfaaGreatDoor
section
theorem SReads.adA:false=Rows.scriptReadsRow.goesBy Tryz.pinned.checked.prog:=zk

end