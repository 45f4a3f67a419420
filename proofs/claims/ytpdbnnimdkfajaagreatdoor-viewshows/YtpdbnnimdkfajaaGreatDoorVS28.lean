import Derived.Test.YtpdbnnimdkfajaaGreatDoorMacA
import Derived.Test.YtpdbnnimdkfajaaGreatDoorRows
import Derived.JoinedOf
set_option linter.unusedSimpArgs false
set_option linter.unusedVariables false
set_option maxRecDepth 100000
namespace Go.Proofs.YtpdbnnimdkfajaaGreatDoor.Vs
section
theorem jfR:(Rows.viewShowsRow.recurses==Tryz.prog.recurses 4)=true:=zj
theorem jfN:(Rows.viewShowsRow.named==Tryz.prog.varsNamed 4)=true:=zj
