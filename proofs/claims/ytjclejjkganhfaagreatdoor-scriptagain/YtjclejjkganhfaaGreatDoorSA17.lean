import Derived.Test.YtjclejjkganhfaaGreatDoorMacA
import Derived.Test.YtjclejjkganhfaaGreatDoorCards
import Derived.Test.YtjclejjkganhfaaGreatDoorChecked
set_option linter.unusedSimpArgs false
set_option linter.unusedVariables false
set_option maxRecDepth 100000
namespace Go.Proofs.YtjclejjkganhfaaGreatDoor
section
theorem SAgain.adb:false=Rows.scriptAgainRow.goesBy Tryz.pinned.checked.prog:=zk

end