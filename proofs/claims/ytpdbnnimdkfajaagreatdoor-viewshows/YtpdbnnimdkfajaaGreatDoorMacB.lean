import Derived.Test.YtpdbnnimdkfajaaGreatDoorMacA
import Derived.Deep.Cut
import Derived.BigQuiet
import Derived.Shelf.Abstract
set_option linter.unusedSimpArgs false
set_option linter.unusedVariables false
namespace Go.Proofs
