import Derived.Test.YtpdbnnimdkfajaaGreatDoorMacA
import Derived.Test.YtpdbnnimdkfajaaGreatDoorRows
import Derived.JoinedOf
set_option linter.unusedSimpArgs false
set_option linter.unusedVariables false
set_option maxRecDepth 100000
namespace Go.Proofs.YtpdbnnimdkfajaaGreatDoor.Vs
section
theorem jfP:(Rows.viewShowsRow.inPlace==Tryz.prog.inPlace 4)=true:=zj
theorem jfU:(Rows.viewShowsRow.unfollowed==Tryz.prog.unfollowed 4)=true:=zj
