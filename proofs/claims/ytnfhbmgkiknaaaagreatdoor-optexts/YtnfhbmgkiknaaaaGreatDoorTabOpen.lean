/- How the row's list gives the table of powers of ten. -/
import Derived.Test.YtnfhbmgkiknaaaaGreatDoorProg
import Derived.ProofKit
import Derived.OpenShut
import Derived.LaidMore
import Derived.Stop.Joined
import Derived.SevenTiedAt
import Derived.Lib.SmallJoins
import Derived.Lib.LaidU8
import Derived.Lib.LaidTab
import Derived.Lib.ItoaNum
import Derived.Laws.IdiomArrays
namespace Go.Proofs.YtnfhbmgkiknaaaaGreatDoor
open Go.ChangeShapes Go.WideShapes Go.ChangeAt Go.RowKit Go.Joins

theorem cellsInt : Tryz.prog.cellsOf 3 = 1 := by kernel_rfl

theorem gPow : Tryz.prog.globalNamed "internal/strconv.uint64pow10" = some 14 := by kernel_rfl
theorem tPow : (Tryz.prog.globals[14]?).map (·.type) = some 127 := by kernel_rfl
theorem cellsPow : Tryz.prog.cellsOf 127 = 20 := by kernel_rfl
theorem cellsU64 : Tryz.prog.cellsOf 103 = 1 := by kernel_rfl

theorem tab_of {W : World} (h : Lib.VarReads Tryz.prog W "internal/strconv.uint64pow10" (Lib.tabData .u64 Lib.pow10Tab)) : Lib.TabIs Tryz.prog W "internal/strconv.uint64pow10" .u64 Lib.pow10Tab := by
  obtain ⟨g, t, cs, fuel, p, hg, ht, hvar, hd⟩ := h
  obtain rfl := Option.some.inj (gPow.symm.trans hg)
  obtain rfl := Option.some.inj (tPow.symm.trans ht)
  unfold Lib.TabIs
  rw [hvar, ← Lib.cells_of_tab Tryz.underlying127 Tryz.underlying103 cellsU64 cellsPow hd]
end Go.Proofs.YtnfhbmgkiknaaaaGreatDoor
