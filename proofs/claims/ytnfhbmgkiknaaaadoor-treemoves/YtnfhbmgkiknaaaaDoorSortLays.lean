/- Laid by program: that the program bears the library's sort of which slices.SortFunc's contract is proved. -/
import Derived.Test.YtnfhbmgkiknaaaaDoorProg
import Derived.Shelf.SlLaysF0
import Derived.KernelRfl
namespace Go.Proofs.YtnfhbmgkiknaaaaDoor
open Go.Shelf
set_option maxRecDepth 100000
def sortLays_ren : Ren := ⟨fun | 6 => 112 | 14 => 133 | 15 => 134 | 20 => 149 | 21 => 150 | 22 => 151 | 23 => 152 | 24 => 153 | 25 => 154 | 26 => 155 | 27 => 156 | 28 => 157 | 29 => 158 | 46 => 169 | 47 => 170 | 48 => 171 | 49 => 172 | 50 => 173 | 57 => 177 | n => n, fun | 0 => 0 | 3 => 3 | 4 => 4 | 5 => 5 | 9 => 9 | 22 => 90 | 24 => 95 | 25 => 144 | 39 => 167 | 45 => 218 | 46 => 219 | 50 => 118 | 53 => 225 | 55 => 205 | 66 => 230 | 70 => 234 | 76 => 242 | 77 => 27 | n => n, fun n => n⟩
theorem sortLays : SlLaysF0.n6 Tryd.prog sortLays_ren where
  mixed := by kernel_rfl
  f6 := ⟨ "slices.SortFunc[[]concordat/tree.Place,concordat/tree.Place]", by kernel_rfl, Tryd.func112.trans (congrArg some (by kernel_rfl))⟩
  f14 := ⟨ "slices.pdqsortCmpFunc[concordat/tree.Place]", by kernel_rfl, Tryd.func133.trans (congrArg some (by kernel_rfl))⟩
  f15 := Tryd.func134.trans (congrArg some (by kernel_rfl))
  f20 := ⟨ "slices.insertionSortCmpFunc[concordat/tree.Place]", by kernel_rfl, Tryd.func149.trans (congrArg some (by kernel_rfl))⟩
  f21 := ⟨ "slices.heapSortCmpFunc[concordat/tree.Place]", by kernel_rfl, Tryd.func150.trans (congrArg some (by kernel_rfl))⟩
  f22 := ⟨ "slices.breakPatternsCmpFunc[concordat/tree.Place]", by kernel_rfl, Tryd.func151.trans (congrArg some (by kernel_rfl))⟩
  f23 := ⟨ "slices.choosePivotCmpFunc[concordat/tree.Place]", by kernel_rfl, Tryd.func152.trans (congrArg some (by kernel_rfl))⟩
  f24 := ⟨ "slices.reverseRangeCmpFunc[concordat/tree.Place]", by kernel_rfl, Tryd.func153.trans (congrArg some (by kernel_rfl))⟩
  f25 := ⟨ "slices.partialInsertionSortCmpFunc[concordat/tree.Place]", by kernel_rfl, Tryd.func154.trans (congrArg some (by kernel_rfl))⟩
  f26 := ⟨ "slices.partitionEqualCmpFunc[concordat/tree.Place]", by kernel_rfl, Tryd.func155.trans (congrArg some (by kernel_rfl))⟩
  f27 := ⟨ "slices.partitionCmpFunc[concordat/tree.Place]", by kernel_rfl, Tryd.func156.trans (congrArg some (by kernel_rfl))⟩
  f28 := Tryd.func157.trans (congrArg some (by kernel_rfl))
  f29 := Tryd.func158.trans (congrArg some (by kernel_rfl))
  f46 := ⟨ "slices.siftDownCmpFunc[concordat/tree.Place]", by kernel_rfl, Tryd.func169.trans (congrArg some (by kernel_rfl))⟩
  f47 := Tryd.func170.trans (congrArg some (by kernel_rfl))
  f48 := Tryd.func171.trans (congrArg some (by kernel_rfl))
  f49 := ⟨ "slices.medianAdjacentCmpFunc[concordat/tree.Place]", by kernel_rfl, Tryd.func172.trans (congrArg some (by kernel_rfl))⟩
  f50 := ⟨ "slices.medianCmpFunc[concordat/tree.Place]", by kernel_rfl, Tryd.func173.trans (congrArg some (by kernel_rfl))⟩
  f57 := ⟨ "slices.order2CmpFunc[concordat/tree.Place]", by kernel_rfl, Tryd.func177.trans (congrArg some (by kernel_rfl))⟩
  t0 := Tryd.underlying0
  a0 := Tryd.isAgg0
  z0 := Tryd.sizeOf0
  v0 := Tryd.zeroValue0
  t3 := Tryd.underlying3
  a3 := Tryd.isAgg3
  z3 := Tryd.sizeOf3
  v3 := Tryd.zeroValue3
  t4 := Tryd.underlying4
  a4 := Tryd.isAgg4
  z4 := Tryd.sizeOf4
  v4 := Tryd.zeroValue4
  t5 := Tryd.underlying5
  a5 := Tryd.isAgg5
  z5 := Tryd.sizeOf5
  v5 := Tryd.zeroValue5
  t9 := Tryd.underlying9
  a9 := Tryd.isAgg9
  z9 := Tryd.sizeOf9
  v9 := Tryd.zeroValue9
  t22 := Tryd.underlying90
  a22 := Tryd.isAgg90
  z22 := Tryd.sizeOf90
  v22 := Tryd.zeroValue90
  t25 := Tryd.underlying144
  a25 := Tryd.isAgg144
  z25 := Tryd.sizeOf144
  v25 := Tryd.zeroValue144
  t39 := Tryd.underlying167
  a39 := Tryd.isAgg167
  z39 := Tryd.sizeOf167
  v39 := Tryd.zeroValue167
  t45 := Tryd.underlying218
  a45 := Tryd.isAgg218
  z45 := Tryd.sizeOf218
  v45 := Tryd.zeroValue218
  t46 := Tryd.underlying219
  a46 := Tryd.isAgg219
  z46 := Tryd.sizeOf219
  v46 := Tryd.zeroValue219
  t50 := Tryd.underlying118
  a50 := Tryd.isAgg118
  z50 := Tryd.sizeOf118
  v50 := Tryd.zeroValue118
  t53 := Tryd.underlying225
  a53 := Tryd.isAgg225
  z53 := Tryd.sizeOf225
  v53 := Tryd.zeroValue225
  t55 := Tryd.underlying205
  a55 := Tryd.isAgg205
  z55 := Tryd.sizeOf205
  v55 := Tryd.zeroValue205
  t66 := Tryd.underlying230
  a66 := Tryd.isAgg230
  z66 := Tryd.sizeOf230
  v66 := Tryd.zeroValue230
  t70 := Tryd.underlying234
  a70 := Tryd.isAgg234
  z70 := Tryd.sizeOf234
  v70 := Tryd.zeroValue234
  t76 := Tryd.underlying242
  a76 := Tryd.isAgg242
  z76 := Tryd.sizeOf242
  v76 := Tryd.zeroValue242
  t77 := Tryd.underlying27
  a77 := Tryd.isAgg27
  z77 := Tryd.sizeOf27
  v77 := Tryd.zeroValue27
end Go.Proofs.YtnfhbmgkiknaaaaDoor
