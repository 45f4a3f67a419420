import Derived.Test.YtcggmagdndhkbaaGreatDoorWt01
import Derived.Test.YtcggmagdndhkbaaGreatDoorWt04
import Derived.Test.YtcggmagdndhkbaaGreatDoorWt05
import Derived.Test.YtcggmagdndhkbaaGreatDoorWt08
import Derived.Test.YtcggmagdndhkbaaGreatDoorWt11
import Derived.Test.YtcggmagdndhkbaaGreatDoorWt15
import Derived.Test.YtcggmagdndhkbaaGreatDoorProg
import Derived.Shelf.SlLaysF0
import Derived.KernelRfl
import Derived.Shelf.SlSortCmp.WholeK
import Derived.Shelf.SlSortCmp.NoneTotal
import Derived.WalkKit
import Derived.Deep.LoopGhost
import Derived.LoopN
import Derived.Laws.Cover1
import Derived.Lib.Hide
import Derived.Sort.Grow
section
namespace Go.Proofs.YtcggmagdndhkbaaGreatDoor
open Go.Shelf
set_option maxRecDepth 100000
def sortNums_ren : Ren := ⟨fun | 6 => 176 | 14 => 224 | 15 => 201 | 20 => 225 | 21 => 273 | 22 => 274 | 23 => 275 | 24 => 276 | 25 => 277 | 26 => 278 | 27 => 279 | 28 => 252 | 29 => 253 | 46 => 312 | 47 => 297 | 48 => 298 | 49 => 313 | 50 => 314 | 57 => 330 | n => n, fun | 0 => 0 | 3 => 3 | 4 => 4 | 5 => 5 | 9 => 9 | 22 => 36 | 24 => 31 | 25 => 204 | 39 => 283 | 45 => 332 | 46 => 333 | 50 => 212 | 53 => 303 | 55 => 302 | 66 => 380 | 70 => 384 | 76 => 400 | 77 => 138 | n => n, fun n => n⟩
theorem sortNums : SlLaysF0.n6 Tryz.prog sortNums_ren where
  mixed := by kernel_rfl
  f6 := ⟨ "slices.SortFunc[[]concordat/api.Op,concordat/api.Op]", by kernel_rfl, Tryz.func176.trans (congrArg some (by kernel_rfl))⟩
  f14 := ⟨ "slices.pdqsortCmpFunc[concordat/api.Op]", by kernel_rfl, Tryz.func224.trans (congrArg some (by kernel_rfl))⟩
  f15 := Tryz.func201.trans (congrArg some (by kernel_rfl))
  f20 := ⟨ "slices.insertionSortCmpFunc[concordat/api.Op]", by kernel_rfl, Tryz.func225.trans (congrArg some (by kernel_rfl))⟩
  f21 := ⟨ "slices.heapSortCmpFunc[concordat/api.Op]", by kernel_rfl, Tryz.func273.trans (congrArg some (by kernel_rfl))⟩
  f22 := ⟨ "slices.breakPatternsCmpFunc[concordat/api.Op]", by kernel_rfl, Tryz.func274.trans (congrArg some (by kernel_rfl))⟩
  f23 := ⟨ "slices.choosePivotCmpFunc[concordat/api.Op]", by kernel_rfl, Tryz.func275.trans (congrArg some (by kernel_rfl))⟩
  f24 := ⟨ "slices.reverseRangeCmpFunc[concordat/api.Op]", by kernel_rfl, Tryz.func276.trans (congrArg some (by kernel_rfl))⟩
  f25 := ⟨ "slices.partialInsertionSortCmpFunc[concordat/api.Op]", by kernel_rfl, Tryz.func277.trans (congrArg some (by kernel_rfl))⟩
  f26 := ⟨ "slices.partitionEqualCmpFunc[concordat/api.Op]", by kernel_rfl, Tryz.func278.trans (congrArg some (by kernel_rfl))⟩
  f27 := ⟨ "slices.partitionCmpFunc[concordat/api.Op]", by kernel_rfl, Tryz.func279.trans (congrArg some (by kernel_rfl))⟩
  f28 := Tryz.func252.trans (congrArg some (by kernel_rfl))
  f29 := Tryz.func253.trans (congrArg some (by kernel_rfl))
  f46 := ⟨ "slices.siftDownCmpFunc[concordat/api.Op]", by kernel_rfl, Tryz.func312.trans (congrArg some (by kernel_rfl))⟩
  f47 := Tryz.func297.trans (congrArg some (by kernel_rfl))
  f48 := Tryz.func298.trans (congrArg some (by kernel_rfl))
  f49 := ⟨ "slices.medianAdjacentCmpFunc[concordat/api.Op]", by kernel_rfl, Tryz.func313.trans (congrArg some (by kernel_rfl))⟩
  f50 := ⟨ "slices.medianCmpFunc[concordat/api.Op]", by kernel_rfl, Tryz.func314.trans (congrArg some (by kernel_rfl))⟩
  f57 := ⟨ "slices.order2CmpFunc[concordat/api.Op]", by kernel_rfl, Tryz.func330.trans (congrArg some (by kernel_rfl))⟩
  t0 := Tryz.underlying0
  a0 := Tryz.isAgg0
  z0 := Tryz.sizeOf0
  v0 := Tryz.zeroValue0
  t3 := Tryz.underlying3
  a3 := Tryz.isAgg3
  z3 := Tryz.sizeOf3
  v3 := Tryz.zeroValue3
  t4 := Tryz.underlying4
  a4 := Tryz.isAgg4
  z4 := Tryz.sizeOf4
  v4 := Tryz.zeroValue4
  t5 := Tryz.underlying5
  a5 := Tryz.isAgg5
  z5 := Tryz.sizeOf5
  v5 := Tryz.zeroValue5
  t9 := Tryz.underlying9
  a9 := Tryz.isAgg9
  z9 := Tryz.sizeOf9
  v9 := Tryz.zeroValue9
  t22 := Tryz.underlying36
  a22 := Tryz.isAgg36
  z22 := Tryz.sizeOf36
  v22 := Tryz.zeroValue36
  t25 := Tryz.underlying204
  a25 := Tryz.isAgg204
  z25 := Tryz.sizeOf204
  v25 := Tryz.zeroValue204
  t39 := Tryz.underlying283
  a39 := Tryz.isAgg283
  z39 := Tryz.sizeOf283
  v39 := Tryz.zeroValue283
  t45 := Tryz.underlying332
  a45 := Tryz.isAgg332
  z45 := Tryz.sizeOf332
  v45 := Tryz.zeroValue332
  t46 := Tryz.underlying333
  a46 := Tryz.isAgg333
  z46 := Tryz.sizeOf333
  v46 := Tryz.zeroValue333
  t50 := Tryz.underlying212
  a50 := Tryz.isAgg212
  z50 := Tryz.sizeOf212
  v50 := Tryz.zeroValue212
  t53 := Tryz.underlying303
  a53 := Tryz.isAgg303
  z53 := Tryz.sizeOf303
  v53 := Tryz.zeroValue303
  t55 := Tryz.underlying302
  a55 := Tryz.isAgg302
  z55 := Tryz.sizeOf302
  v55 := Tryz.zeroValue302
  t66 := Tryz.underlying380
  a66 := Tryz.isAgg380
  z66 := Tryz.sizeOf380
  v66 := Tryz.zeroValue380
  t70 := Tryz.underlying384
  a70 := Tryz.isAgg384
  z70 := Tryz.sizeOf384
  v70 := Tryz.zeroValue384
  t76 := Tryz.underlying400
  a76 := Tryz.isAgg400
  z76 := Tryz.sizeOf400
  v76 := Tryz.zeroValue400
  t77 := Tryz.underlying138
  a77 := Tryz.isAgg138
  z77 := Tryz.sizeOf138
  v77 := Tryz.zeroValue138
end Go.Proofs.YtcggmagdndhkbaaGreatDoor
end
section
namespace Go.Proofs.YtcggmagdndhkbaaGreatDoor
open Go.Shelf
set_option maxRecDepth 100000
def sortMarks_ren : Ren := ⟨fun | 6 => 140 | 14 => 202 | 15 => 201 | 20 => 254 | 21 => 255 | 22 => 256 | 23 => 257 | 24 => 258 | 25 => 259 | 26 => 260 | 27 => 261 | 28 => 252 | 29 => 253 | 46 => 301 | 47 => 297 | 48 => 298 | 49 => 302 | 50 => 303 | 57 => 324 | n => n, fun | 0 => 0 | 3 => 3 | 4 => 4 | 5 => 5 | 9 => 9 | 22 => 134 | 24 => 137 | 25 => 240 | 39 => 283 | 45 => 332 | 46 => 333 | 50 => 212 | 53 => 303 | 55 => 302 | 66 => 380 | 70 => 384 | 76 => 400 | 77 => 138 | n => n, fun n => n⟩
theorem sortMarks : SlLaysF0.n6 Tryz.prog sortMarks_ren where
  mixed := by kernel_rfl
  f6 := ⟨ "slices.SortFunc[[]concordat/cells.Mark,concordat/cells.Mark]", by kernel_rfl, Tryz.func140.trans (congrArg some (by kernel_rfl))⟩
  f14 := ⟨ "slices.pdqsortCmpFunc[concordat/cells.Mark]", by kernel_rfl, Tryz.func202.trans (congrArg some (by kernel_rfl))⟩
  f15 := Tryz.func201.trans (congrArg some (by kernel_rfl))
  f20 := ⟨ "slices.insertionSortCmpFunc[concordat/cells.Mark]", by kernel_rfl, Tryz.func254.trans (congrArg some (by kernel_rfl))⟩
  f21 := ⟨ "slices.heapSortCmpFunc[concordat/cells.Mark]", by kernel_rfl, Tryz.func255.trans (congrArg some (by kernel_rfl))⟩
  f22 := ⟨ "slices.breakPatternsCmpFunc[concordat/cells.Mark]", by kernel_rfl, Tryz.func256.trans (congrArg some (by kernel_rfl))⟩
  f23 := ⟨ "slices.choosePivotCmpFunc[concordat/cells.Mark]", by kernel_rfl, Tryz.func257.trans (congrArg some (by kernel_rfl))⟩
  f24 := ⟨ "slices.reverseRangeCmpFunc[concordat/cells.Mark]", by kernel_rfl, Tryz.func258.trans (congrArg some (by kernel_rfl))⟩
  f25 := ⟨ "slices.partialInsertionSortCmpFunc[concordat/cells.Mark]", by kernel_rfl, Tryz.func259.trans (congrArg some (by kernel_rfl))⟩
  f26 := ⟨ "slices.partitionEqualCmpFunc[concordat/cells.Mark]", by kernel_rfl, Tryz.func260.trans (congrArg some (by kernel_rfl))⟩
  f27 := ⟨ "slices.partitionCmpFunc[concordat/cells.Mark]", by kernel_rfl, Tryz.func261.trans (congrArg some (by kernel_rfl))⟩
  f28 := Tryz.func252.trans (congrArg some (by kernel_rfl))
  f29 := Tryz.func253.trans (congrArg some (by kernel_rfl))
  f46 := ⟨ "slices.siftDownCmpFunc[concordat/cells.Mark]", by kernel_rfl, Tryz.func301.trans (congrArg some (by kernel_rfl))⟩
  f47 := Tryz.func297.trans (congrArg some (by kernel_rfl))
  f48 := Tryz.func298.trans (congrArg some (by kernel_rfl))
  f49 := ⟨ "slices.medianAdjacentCmpFunc[concordat/cells.Mark]", by kernel_rfl, Tryz.func302.trans (congrArg some (by kernel_rfl))⟩
  f50 := ⟨ "slices.medianCmpFunc[concordat/cells.Mark]", by kernel_rfl, Tryz.func303.trans (congrArg some (by kernel_rfl))⟩
  f57 := ⟨ "slices.order2CmpFunc[concordat/cells.Mark]", by kernel_rfl, Tryz.func324.trans (congrArg some (by kernel_rfl))⟩
  t0 := Tryz.underlying0
  a0 := Tryz.isAgg0
  z0 := Tryz.sizeOf0
  v0 := Tryz.zeroValue0
  t3 := Tryz.underlying3
  a3 := Tryz.isAgg3
  z3 := Tryz.sizeOf3
  v3 := Tryz.zeroValue3
  t4 := Tryz.underlying4
  a4 := Tryz.isAgg4
  z4 := Tryz.sizeOf4
  v4 := Tryz.zeroValue4
  t5 := Tryz.underlying5
  a5 := Tryz.isAgg5
  z5 := Tryz.sizeOf5
  v5 := Tryz.zeroValue5
  t9 := Tryz.underlying9
  a9 := Tryz.isAgg9
  z9 := Tryz.sizeOf9
  v9 := Tryz.zeroValue9
  t22 := Tryz.underlying134
  a22 := Tryz.isAgg134
  z22 := Tryz.sizeOf134
  v22 := Tryz.zeroValue134
  t25 := Tryz.underlying240
  a25 := Tryz.isAgg240
  z25 := Tryz.sizeOf240
  v25 := Tryz.zeroValue240
  t39 := Tryz.underlying283
  a39 := Tryz.isAgg283
  z39 := Tryz.sizeOf283
  v39 := Tryz.zeroValue283
  t45 := Tryz.underlying332
  a45 := Tryz.isAgg332
  z45 := Tryz.sizeOf332
  v45 := Tryz.zeroValue332
  t46 := Tryz.underlying333
  a46 := Tryz.isAgg333
  z46 := Tryz.sizeOf333
  v46 := Tryz.zeroValue333
  t50 := Tryz.underlying212
  a50 := Tryz.isAgg212
  z50 := Tryz.sizeOf212
  v50 := Tryz.zeroValue212
  t53 := Tryz.underlying303
  a53 := Tryz.isAgg303
  z53 := Tryz.sizeOf303
  v53 := Tryz.zeroValue303
  t55 := Tryz.underlying302
  a55 := Tryz.isAgg302
  z55 := Tryz.sizeOf302
  v55 := Tryz.zeroValue302
  t66 := Tryz.underlying380
  a66 := Tryz.isAgg380
  z66 := Tryz.sizeOf380
  v66 := Tryz.zeroValue380
  t70 := Tryz.underlying384
  a70 := Tryz.isAgg384
  z70 := Tryz.sizeOf384
  v70 := Tryz.zeroValue384
  t76 := Tryz.underlying400
  a76 := Tryz.isAgg400
  z76 := Tryz.sizeOf400
  v76 := Tryz.zeroValue400
  t77 := Tryz.underlying138
  a77 := Tryz.isAgg138
  z77 := Tryz.sizeOf138
  v77 := Tryz.zeroValue138
end Go.Proofs.YtcggmagdndhkbaaGreatDoor
end
section
set_option linter.unusedVariables false
set_option linter.unusedSimpArgs false
namespace Go.Proofs.YtcggmagdndhkbaaGreatDoor
open Go.Shelf Go.RowKit Go.Lib Go.Sort
def cmpT (a b : List UInt8) : Int := if a < b then -1 else if b < a then 1 else 0
def orZ (a b : Int) : Int := if a = 0 then b else a
def cmpM (x y : Mrk) : Int := orZ (cmpZ x.1 y.1) (cmpT x.2.1.data.toList y.2.1.data.toList)
theorem ltOf_cmpM (x y : Mrk) : ltOf cmpM x y = decide (KLt (keyM x) (keyM y)) := by
  unfold ltOf cmpM orZ cmpZ
  by_cases h1 : x.1 < y.1
  · simp [h1]
  · rw [if_neg h1]
    by_cases h2 : y.1 < x.1
    · have h3 : x.1 ≠ y.1 := by omega
      simp [h1, h2, h3]
    · have h3 : x.1 = y.1 := by omega
      rw [if_neg h2, if_pos rfl]
      unfold cmpT
      by_cases h4 : x.2.1.data.toList < y.2.1.data.toList
      · simp [h3, h4]
      · rw [if_neg h4]
        by_cases h5 : y.2.1.data.toList < x.2.1.data.toList <;> simp [h3, h4, h5]
theorem swo_cmpM : SWO (ltOf cmpM) where
  irrefl x := by rw [ltOf_cmpM]; exact decide_eq_false klt_irrefl
  trans x y z h1 h2 := by
    rw [ltOf_cmpM] at *
    exact decide_eq_true (klt_trans (of_decide_eq_true h1) (of_decide_eq_true h2))
  ntrans x y z h1 h2 := by
    rw [ltOf_cmpM] at *
    have k1 := of_decide_eq_false h1
    have k2 := of_decide_eq_false h2
    refine decide_eq_false fun h => ?_
    by_cases e : keyM x = keyM y
    · rw [e] at h; exact k2 h
    · rcases klt_total e with q | q
      · exact k1 q
      · exact k2 (klt_trans q h)
def cellsM (m : Mrk) : List Value := [.int .i64 m.1, .string m.2.1, .string m.2.2]
set_option maxHeartbeats 400000 in
theorem nanT (a : ByteArray) (w : World) : Calls Tryz.prog 203 #[.string a] w fun e w' => e = .returned (.bool false) ∧ w' = w := by
  go_enter Tryz.func203, Tryz.ntmps203
  go_wp2
  go_ret
  exact ⟨by simp, rfl⟩
set_option maxHeartbeats 400000 in
theorem cmpT_any (a b : ByteArray) (w : World) : Calls Tryz.prog 143 #[.string a, .string b] w fun e w' => e = .returned (.int .i64 (cmpT a.data.toList b.data.toList)) ∧ w' = w := by
  unfold cmpT
  by_cases h1 : a.data.toList < b.data.toList
  · have d1 : Op.bytesLess a.toList b.toList = true := (less_bytes _ _).trans <| decide_eq_true h1
    rw [if_pos h1]
    go_enter Tryz.func143, Tryz.ntmps143
    go_wp2_with (go_at_call 203; refine (nanT _ _).mono ?_; rintro e w' ⟨rfl, rfl⟩)
    go_ret
    exact ⟨rfl, rfl⟩
  · have d1 : Op.bytesLess a.toList b.toList = false := (less_bytes _ _).trans <| decide_eq_false h1
    rw [if_neg h1]
    by_cases h2 : b.data.toList < a.data.toList
    · have d2 : (a.toList == b.toList) = false := by
        rw [ByteArray.toList_eq, ByteArray.toList_eq]
        exact beq_false_of_ne (fun e => by rw [e] at h2; exact List.lt_irrefl _ h2)
      rw [if_pos h2]
      go_enter Tryz.func143, Tryz.ntmps143
      go_wp2_with (go_at_call 203; refine (nanT _ _).mono ?_; rintro e w' ⟨rfl, rfl⟩)
      go_ret
      exact ⟨rfl, rfl⟩
    · have d2 : (a.toList == b.toList) = true := by
        rw [ByteArray.toList_eq, ByteArray.toList_eq]
        by_cases e : a.data.toList = b.data.toList
        · rw [e]; simp
        · rcases bytesTotal e with q | q
          · exact absurd q h1
          · exact absurd q h2
      rw [if_neg h2]
      go_enter Tryz.func143, Tryz.ntmps143
      go_wp2_with (go_at_call 203; refine (nanT _ _).mono ?_; rintro e w' ⟨rfl, rfl⟩)
      go_ret
      exact ⟨rfl, rfl⟩
set_option maxHeartbeats 400000 in
theorem or_any (w : World) (g : Nat) (a b : Int) (h0 : w.cell? ⟨g, 0, none⟩ = some (.int .i64 a)) (h1 : w.cell? ⟨g, 1, none⟩ = some (.int .i64 b)) :
    Calls Tryz.prog 142 #[.slice (some ⟨g, 0, none⟩) 2 2] w fun e w' => e = .returned (.int .i64 (orZ a b)) ∧ w' = w := by
  unfold orZ
  by_cases ha : a = 0
  · rw [if_pos ha]
    have da : (a != 0) = false := by simp [ha]
    clear ha
    by_cases hb : b = 0
    · have db : (b != 0) = false := by simp [hb]
      have HB := Lib.hid hb
      clear hb
      go_enter Tryz.func142, Tryz.ntmps142
      go_wp2
      refine wp_loop_rounds 3 ?_
      rw [rounds_succ]
      go_wp2
      rw [rounds_succ]
      go_wp2
      rw [rounds_succ]
      go_wp2
      go_ret
      exact ⟨by rw [HB.out]; rfl, rfl⟩
    · have db : (b != 0) = true := by simp [hb]
      clear hb
      go_enter Tryz.func142, Tryz.ntmps142
      go_wp2
      refine wp_loop_rounds 2 ?_
      rw [rounds_succ]
      go_wp2
      rw [rounds_succ]
      go_wp2
      go_ret
      exact ⟨rfl, rfl⟩
  · rw [if_neg ha]
    have da : (a != 0) = true := by simp [ha]
    clear ha
    go_enter Tryz.func142, Tryz.ntmps142
    go_wp2
    refine wp_loop_rounds 1 ?_
    rw [rounds_succ]
    go_wp2
    go_ret
    exact ⟨rfl, rfl⟩
set_option maxRecDepth 100000 in
set_option maxHeartbeats 1000000 in
theorem closureM (x y : Mrk) (w : World) : Calls Tryz.prog 141 (#[.agg (cellsM x).toArray, .agg (cellsM y).toArray] ++ #[]) w fun e w' => e = .returned (.int .i64 (cmpM x y)) ∧ ∃ q os', w' = grow (w.drewN q) os' := by
  obtain ⟨a, s, c⟩ := x
  obtain ⟨a', s', c'⟩ := y
  unfold cellsM
  dsimp only
  obtain ⟨S, hS⟩ : ∃ S, S = w.heap.size := ⟨_, rfl⟩
  obtain ⟨U, hU⟩ : ∃ U, U = (w.alloc (.cells #[.int .i64 a, .string s, .string c] 137)).alloc (.cells #[.int .i64 a', .string s', .string c'] 137) := ⟨_, rfl⟩
  have hu1 : U.heap[S + 1]? = some (.cells #[.int .i64 a', .string s', .string c'] 137 (0, 0)) := by
    have := heap_alloc_new (w.alloc (.cells #[.int .i64 a, .string s, .string c] 137)) (.cells #[.int .i64 a', .string s', .string c'] 137)
    rw [World.size_alloc] at this
    rw [hU, hS]
    exact this
  have hu0 : U.heap[S]? = some (.cells #[.int .i64 a, .string s, .string c] 137 (0, 0)) := by
    rw [hU, hS, Below.heap_alloc _ _ _ (by simp)]
    exact heap_alloc_new w _
  have x0 : U.drew.cell? ⟨S, 0, none⟩ = some (.int .i64 a) := by show U.cell? _ = _; simp [World.cell?, hu0]
  have x1 : U.drew.cell? ⟨S, 1, none⟩ = some (.string s) := by show U.cell? _ = _; simp [World.cell?, hu0]
  have y0 : U.drew.cell? ⟨S + 1, 0, none⟩ = some (.int .i64 a') := by show U.cell? _ = _; simp [World.cell?, hu1]
  have y1 : U.drew.cell? ⟨S + 1, 1, none⟩ = some (.string s') := by show U.cell? _ = _; simp [World.cell?, hu1]
  have HX : Aside (U.drew.cell? ⟨S, 0, none⟩ = some (.int .i64 a) ∧ U.drew.cell? ⟨S, 1, none⟩ = some (.string s) ∧ U.drew.cell? ⟨S + 1, 0, none⟩ = some (.int .i64 a') ∧ U.drew.cell? ⟨S + 1, 1, none⟩ = some (.string s')) := ⟨x0, x1, y0, y1⟩
  have HU : Aside (∃ os, U = grow w os) := ⟨_, by rw [hU, alloc_eq_grow, alloc_eq_grow, grow_grow]⟩
  clear hu0 hu1 x0 x1 y0 y1
  go_enter Tryz.func141, Tryz.ntmps141
  go_wp2_with fail
  rw [← hU, ← hS]
  clear hU hS
  refine wp_region_H (S := fun w' => w'.cell? ⟨S, 0, none⟩ = some (.int .i64 a) ∧ w'.cell? ⟨S, 1, none⟩ = some (.string s) ∧ w'.cell? ⟨S + 1, 0, none⟩ = some (.int .i64 a') ∧ w'.cell? ⟨S + 1, 1, none⟩ = some (.string s')) (by kernel_rfl) HX.out (fun hHeld => ?_)
  refine wpAnyH_take (i := 0) (v := ?va0) rfl (by kernel_rfl) (by kernel_rfl) (by kernel_rfl) (fun _ _ _ h => h) (Or.inl ⟨by rfl, ?hya0⟩) hHeld ?resta0
  case hya0 => (intro w' hSw; obtain ⟨k1, k2, k3, k4⟩ := hSw; go_simp; try with_reducible rfl)
  try simp only [Act.put, List.setIfInBounds_toArray, List.set_cons_zero, List.set_cons_succ]
  refine wpAnyH_take (i := 1) (v := ?va1) rfl (by kernel_rfl) (by kernel_rfl) (by kernel_rfl) (fun _ _ _ h => h) (Or.inl ⟨by rfl, ?hya1⟩) hHeld ?resta1
  case hya1 => (intro w' hSw; obtain ⟨k1, k2, k3, k4⟩ := hSw; go_simp; try with_reducible rfl)
  try simp only [Act.put, List.setIfInBounds_toArray, List.set_cons_zero, List.set_cons_succ]
  refine wpAnyH_take (i := 2) (v := ?va2) rfl (by kernel_rfl) (by kernel_rfl) (by kernel_rfl) (fun _ _ _ h => h) (Or.inl ⟨by rfl, ?hya2⟩) hHeld ?resta2
  case hya2 => (intro w' hSw; obtain ⟨k1, k2, k3, k4⟩ := hSw; go_simp; try with_reducible rfl)
  try simp only [Act.put, List.setIfInBounds_toArray, List.set_cons_zero, List.set_cons_succ]
  refine wpAnyH_take (i := 3) (v := ?va3) rfl (by kernel_rfl) (by kernel_rfl) (by kernel_rfl) (fun _ _ _ h => h) (Or.inl ⟨by rfl, ?hya3⟩) hHeld ?resta3
  case hya3 => (intro w' hSw; obtain ⟨k1, k2, k3, k4⟩ := hSw; go_simp; try with_reducible rfl)
  try simp only [Act.put, List.setIfInBounds_toArray, List.set_cons_zero, List.set_cons_succ]
  refine wpAnyH_take (i := 5) (v := ?va5) rfl (by kernel_rfl) (by kernel_rfl) (by kernel_rfl) (fun _ _ _ h => h) (Or.inl ⟨by rfl, ?hya5⟩) hHeld ?resta5
  case hya5 => (intro w' hSw; obtain ⟨k1, k2, k3, k4⟩ := hSw; go_simp; try with_reducible rfl)
  try simp only [Act.put, List.setIfInBounds_toArray, List.set_cons_zero, List.set_cons_succ]
  refine wpAnyH_take (i := 6) (v := ?va6) rfl (by kernel_rfl) (by kernel_rfl) (by kernel_rfl) (fun _ _ _ h => h) (Or.inl ⟨by rfl, ?hya6⟩) hHeld ?resta6
  case hya6 => (intro w' hSw; obtain ⟨k1, k2, k3, k4⟩ := hSw; go_simp; try with_reducible rfl)
  try simp only [Act.put, List.setIfInBounds_toArray, List.set_cons_zero, List.set_cons_succ]
  refine wpAnyH_take (i := 7) (v := ?va7) rfl (by kernel_rfl) (by kernel_rfl) (by kernel_rfl) (fun _ _ _ h => h) (Or.inl ⟨by rfl, ?hya7⟩) hHeld ?resta7
  case hya7 => (intro w' hSw; obtain ⟨k1, k2, k3, k4⟩ := hSw; go_simp; try with_reducible rfl)
  try simp only [Act.put, List.setIfInBounds_toArray, List.set_cons_zero, List.set_cons_succ]
  refine wpAnyH_take (i := 8) (v := ?va8) rfl (by kernel_rfl) (by kernel_rfl) (by kernel_rfl) (fun _ _ _ h => h) (Or.inl ⟨by rfl, ?hya8⟩) hHeld ?resta8
  case hya8 => (intro w' hSw; obtain ⟨k1, k2, k3, k4⟩ := hSw; go_simp; try with_reducible rfl)
  try simp only [Act.put, List.setIfInBounds_toArray, List.set_cons_zero, List.set_cons_succ]
  refine wpAnyH_one (i := 4) (by kernel_rfl) rfl (fun K hK => ?_)
  go_simp
  refine (cmpZ_any _ _ _).mono ?_
  rintro e w1 ⟨rfl, rfl⟩
  refine hK _ _ HX.out ?_
  clear hK K
  try simp only [Act.put, List.setIfInBounds_toArray, List.set_cons_zero, List.set_cons_succ]
  refine wpAnyH_one (i := 9) (by kernel_rfl) rfl (fun K hK => ?_)
  go_simp
  refine (cmpT_any _ _ _).mono ?_
  rintro e w1 ⟨rfl, rfl⟩
  refine hK _ _ HX.out ?_
  clear hK K
  try simp only [Act.put, List.setIfInBounds_toArray, List.set_cons_zero, List.set_cons_succ]
  refine wpAnyH_one (i := 10) (by kernel_rfl) rfl (fun K hK => ?_)
  go_simp
  obtain ⟨V, hV⟩ : ∃ V, V = (U.alloc (.cells #[.int .i64 (cmpZ a a'), .int .i64 (cmpT s.data.toList s'.data.toList)] 3)).drew := ⟨_, rfl⟩
  have hbV : Below U.drew.heap.size U.drew V := by rw [hV]; exact ⟨rfl, rfl, rfl, ((Below.refl U.heap.size U).alloc (Nat.le_refl _) _).size, ((Below.refl U.heap.size U).alloc (Nat.le_refl _) (.cells #[.int .i64 (cmpZ a a'), .int .i64 (cmpT s.data.toList s'.data.toList)] 3)).block⟩
  have hVn : V.heap[U.heap.size]? = some (.cells #[.int .i64 (cmpZ a a'), .int .i64 (cmpT s.data.toList s'.data.toList)] 3 (0, 0)) := by rw [hV]; exact heap_alloc_new U _
  have HV : Aside (∃ q os', V = grow (w.drewN q) os') := by
    obtain ⟨os, rfl⟩ := HU.out
    exact ⟨1, _, by rw [hV, alloc_eq_grow, grow_grow]; rfl⟩
  have g0 : V.cell? ⟨U.heap.size, 0, none⟩ = some (.int .i64 (cmpZ a a')) := by simp [World.cell?, hVn]
  have g1 : V.cell? ⟨U.heap.size, 1, none⟩ = some (.int .i64 (cmpT s.data.toList s'.data.toList)) := by simp [World.cell?, hVn]
  rw [← hV]
  have HY : Aside (V.cell? ⟨S, 0, none⟩ = some (.int .i64 a) ∧ V.cell? ⟨S, 1, none⟩ = some (.string s) ∧ V.cell? ⟨S + 1, 0, none⟩ = some (.int .i64 a') ∧ V.cell? ⟨S + 1, 1, none⟩ = some (.string s')) := ⟨cellHeld hbV HX.out.1, cellHeld hbV HX.out.2.1, cellHeld hbV HX.out.2.2.1, cellHeld hbV HX.out.2.2.2⟩
  refine hK _ _ HY.out ?_
  clear hK K hV hbV hVn
  try simp only [Act.put, List.setIfInBounds_toArray, List.set_cons_zero, List.set_cons_succ]
  refine wpAnyH_one (i := 11) (by kernel_rfl) rfl (fun K hK => ?_)
  go_simp
  refine (or_any V _ _ _ g0 g1).mono ?_
  rintro e w1 ⟨rfl, rfl⟩
  refine hK _ _ HY.out ?_
  clear hK K
  try simp only [Act.put, List.setIfInBounds_toArray, List.set_cons_zero, List.set_cons_succ]
  refine wpAnyH_one (i := 12) (by kernel_rfl) rfl (fun K hK => ?_)
  go_simp
  refine hK _ _ HY.out ?_
  clear hK K
  refine wpAnyH_done (by kernel_rfl) ?_ _
  clear hHeld
  go_wp2
  go_ret
  exact ⟨rfl, HV.out⟩
theorem cmp_laysM (blk off size : Nat) (w : World) : CmpLays Tryz.prog 141 #[] cellsM 3 cmpM blk off size w := fun _ _ _ _ x y => closureM x y _
theorem eg_cmpM : ∀ args w, (callFunc 141 args).run Tryz.prog w = .ok (.enter 141 args) w := enters_of Tryz.func141 (by kernel_rfl) rfl
theorem cellsM_len (x : Mrk) : (cellsM x).length = 3 := rfl
theorem cellsM_one (x : Mrk) : ∀ v ∈ cellsM x, v.oneCell' = true := by
  intro v hv
  simp only [cellsM, List.mem_cons, List.not_mem_nil, or_false] at hv
  rcases hv with rfl | rfl | rfl <;> rfl
theorem sortWorld_keepsM (w : World) (g n : Nat) (d : Array Mrk) (os : Array Obj) : Keeps (fun k => k = g) w (sortWorldK cellsM 3 w g 0 n d os) := by
  refine ⟨rfl, rfl, rfl, ?_, fun k hk hs => ?_⟩
  · simp [sortWorldK, putRowK, putRow, mapBlock, Sort.ahead, grow]
  · have hgk : g ≠ k := fun e => hs e.symm
    simp only [sortWorldK, putRowK, putRow, mapBlock, Sort.ahead, grow]
    rw [Array.getElem?_append_left (by simpa using hk)]
    simp [Array.getElem?_modify, hgk]
theorem holdsM {w : World} {base g cap n : Nat} {ps : List Mrk} (h : w.ownsRow base 137 3 (.slice (some ⟨g, 0, none⟩) n cap) n (flat cellsM ps)) (hn : n = ps.length) : HoldsK cellsM 3 w g 0 ps.toArray := fun j hj => by
  rw [size_flatK] at hj
  simp only [List.size_toArray] at hj
  have h1 : j / 3 < ps.length := by omega
  have h2 : j / 3 * 3 + j % 3 = j := by omega
  refine ⟨?_, by rw [Nat.zero_add]; exact h.frozenAt j⟩
  rw [Nat.zero_add, h.cellAt j (by omega), get_flatK _ _ _ _ (by simpa using hj)]
  have := flat_get (enc := cellsM) cellsM_len (L := ps) (i := j / 3) (c := j % 3) (x := ps[j / 3]) (List.getElem?_eq_getElem h1) (by omega)
  rw [h2] at this
  rw [this, getElem!_pos ps.toArray (j / 3) (by simpa using h1), List.getElem_toArray, List.getElem?_eq_getElem (by rw [cellsM_len]; omega), getElem!_pos _ (j % 3) (by rw [cellsM_len]; omega)]
  rfl
theorem holds_cellsM {w : World} {g : Nat} {d : Array Mrk} (h : HoldsK cellsM 3 w g 0 d) (j : Nat) (u : Value) (hj : (flat cellsM d.toList)[j]? = some u) : w.cell? ⟨g, j, none⟩ = some u := by
  have hl := (List.getElem?_eq_some_iff.1 hj).1
  rw [flat_len cellsM_len, Array.length_toList] at hl
  have h1 : j / 3 < d.size := by omega
  have h2 : j / 3 * 3 + j % 3 = j := by omega
  have H := (h j (by rw [size_flatK]; omega)).1
  rw [Nat.zero_add, get_flatK _ _ _ _ (by omega)] at H
  have := flat_get (enc := cellsM) cellsM_len (L := d.toList) (i := j / 3) (c := j % 3) (x := d[j / 3]) (by rw [Array.getElem?_toList, Array.getElem?_eq_getElem h1]) (by omega)
  rw [h2, hj, List.getElem?_eq_getElem (by rw [cellsM_len]; omega)] at this
  rw [H, getElem!_pos d (j / 3) h1, getElem!_pos _ (j % 3) (by rw [cellsM_len]; omega), this]
  rfl
theorem sortMk (w : World) (base g cap : Nat) (ps : List Mrk) (hown : w.ownsRow base 137 3 (.slice (some ⟨g, 0, none⟩) ps.length cap) ps.length (flat cellsM ps)) (hl : ps.length ≤ 100000) :
    Calls Tryz.prog 140 #[.slice (some ⟨g, 0, none⟩) ps.length cap, .func (.func 141) #[] #[]] w fun e w' => e = .returned (.tuple #[]) ∧ ∃ qs : List Mrk, qs.Perm ps ∧ qs.Pairwise (fun a b => ¬ KLt (keyM b) (keyM a)) ∧ (∀ j u, (flat cellsM qs)[j]? = some u → w'.cell? ⟨g, j, none⟩ = some u) ∧ Keeps (fun k => k = g) w w' := by
  have hH := holdsM hown rfl
  have hblk : g < w.heap.size := (hown.lt g rfl).2
  have h := AnyQ.slices_SortFunc sortMarks 3 Tryz.isAgg137 Tryz.sizeOf137 cellsM cellsM_len cellsM_one cmpM swo_cmpM 141 #[] g 0 cap ps.toArray w eg_cmpM (cmp_laysM g 0 ps.toArray.size w) hH hblk (by simp; omega)
  refine Calls.mono h ?_
  rintro e w' ⟨rfl, d', n, os, hp, hs, rfl⟩
  simp only [List.size_toArray] at hp hs
  have hsz : d'.size = ps.length := by have := hp.1; simpa using this
  have hperm : d'.toList.Perm ps := by
    have := hp.2.2
    simp only [Array.toList_extract] at this
    rw [List.extract_eq_take_drop, List.extract_eq_take_drop, List.drop_zero, List.drop_zero, Nat.sub_zero, List.take_of_length_le (by simp [hsz]), List.take_of_length_le (by simp)] at this
    exact this
  refine ⟨rfl, d'.toList, hperm, ?_, ?_, sortWorld_keepsM w g n d' os⟩
  · rw [List.pairwise_iff_getElem]
    intro i j hi hj hij
    have hi' : i < d'.size := by simpa using hi
    have hj' : j < d'.size := by simpa using hj
    have := hs i j (Nat.zero_le _) hij (by omega)
    rw [ltOf_cmpM, getElem!_pos d' i hi', getElem!_pos d' j hj'] at this
    have := of_decide_eq_false this
    simpa using this
  · exact holds_cellsM ((show SWK cellsM 3 w g 0 d' _ from ⟨n, os, rfl⟩).holds hblk hH (by rw [hsz]; simp))
theorem sortMk_none (p : Option Addr) (cap : Nat) (fv : Value) (w : World) : Calls Tryz.prog 140 #[.slice p 0 cap, fv] w fun e w' => e = .returned (.tuple #[]) ∧ w' = w :=
  AnyF.slices_SortFunc_none sortMarks p cap fv w
end Go.Proofs.YtcggmagdndhkbaaGreatDoor
end
section
set_option linter.unusedVariables false
set_option linter.unusedSimpArgs false
namespace Go.Proofs.YtcggmagdndhkbaaGreatDoor
open Go.Shelf Go.RowKit Go.Lib Go.Sort
def cmpN (x y : OpX) : Int := cmpZ x.2.2.1 y.2.2.1
theorem ltOf_cmpN (x y : OpX) : ltOf cmpN x y = decide (x.2.2.1 < y.2.2.1) := by
  unfold ltOf cmpN cmpZ
  by_cases h1 : x.2.2.1 < y.2.2.1
  · simp [h1]
  · rw [if_neg h1]
    by_cases h2 : y.2.2.1 < x.2.2.1 <;> simp [h1, h2]
theorem swo_cmpN : SWO (ltOf cmpN) where
  irrefl x := by rw [ltOf_cmpN]; exact decide_eq_false (by omega)
  trans x y z h1 h2 := by
    rw [ltOf_cmpN] at *
    have := of_decide_eq_true h1
    have := of_decide_eq_true h2
    exact decide_eq_true (by omega)
  ntrans x y z h1 h2 := by
    rw [ltOf_cmpN] at *
    have := of_decide_eq_false h1
    have := of_decide_eq_false h2
    exact decide_eq_false (by omega)
set_option maxRecDepth 100000 in
set_option maxHeartbeats 1000000 in
theorem closureN (x y : OpX) (w : World) : Calls Tryz.prog 112 (#[.agg (encX x).toArray, .agg (encX y).toArray] ++ #[]) w fun e w' => e = .returned (.int .i64 (cmpN x y)) ∧ ∃ q os', w' = grow (w.drewN q) os' := by
  obtain ⟨t, b, n, k, nd, o, s, v⟩ := x
  obtain ⟨t', b', n', k', nd', o', s', v'⟩ := y
  unfold encX cmpN
  show Calls Tryz.prog 112 #[.agg #[.int .i64 t, .int .i64 b, .int .i64 n, .int .u8 (k : Int), .int .i64 nd, .int .i64 o, .string s, .string v], .agg #[.int .i64 t', .int .i64 b', .int .i64 n', .int .u8 (k' : Int), .int .i64 nd', .int .i64 o', .string s', .string v']] w _
  go_enter Tryz.func112, Tryz.ntmps112
  go_wp2_with (go_at_call 113; refine (cmpZ_any _ _ _).mono ?_; rintro e w' ⟨rfl, rfl⟩)
  go_ret
  exact ⟨rfl, 0, #[.cells #[.int .i64 t, .int .i64 b, .int .i64 n, .int .u8 (k : Int), .int .i64 nd, .int .i64 o, .string s, .string v] 31] ++ #[.cells #[.int .i64 t', .int .i64 b', .int .i64 n', .int .u8 (k' : Int), .int .i64 nd', .int .i64 o', .string s', .string v'] 31], by rw [alloc_eq_grow, alloc_eq_grow, grow_grow]; rfl⟩
theorem cmp_laysN (blk off size : Nat) (w : World) : CmpLays Tryz.prog 112 #[] encX 8 cmpN blk off size w := fun _ _ _ _ x y => closureN x y _
theorem eg_cmpN : ∀ args w, (callFunc 112 args).run Tryz.prog w = .ok (.enter 112 args) w := enters_of Tryz.func112 (by kernel_rfl) rfl
theorem sortWorld_keepsN (w : World) (g n : Nat) (d : Array OpX) (os : Array Obj) : Keeps (fun k => k = g) w (sortWorldK encX 8 w g 0 n d os) := by
  refine ⟨rfl, rfl, rfl, ?_, fun k hk hs => ?_⟩
  · simp [sortWorldK, putRowK, putRow, mapBlock, Sort.ahead, grow]
  · have hgk : g ≠ k := fun e => hs e.symm
    simp only [sortWorldK, putRowK, putRow, mapBlock, Sort.ahead, grow]
    rw [Array.getElem?_append_left (by simpa using hk)]
    simp [Array.getElem?_modify, hgk]
theorem holdsN {w : World} {base g cap n : Nat} {ps : List OpX} (h : w.ownsRow base 31 8 (.slice (some ⟨g, 0, none⟩) n cap) n (cellsOf ps)) (hn : n = ps.length) : HoldsK encX 8 w g 0 ps.toArray := fun j hj => by
  rw [size_flatK] at hj
  simp only [List.size_toArray] at hj
  have h1 : j / 8 < ps.length := by omega
  have h2 : j / 8 * 8 + j % 8 = j := by omega
  refine ⟨?_, by rw [Nat.zero_add]; exact h.frozenAt j⟩
  rw [Nat.zero_add, h.cellAt j (by omega), get_flatK _ _ _ _ (by simpa using hj)]
  have := cellsOf_get ps (j / 8) (j % 8) h1 (by omega)
  rw [h2] at this
  rw [this, getElem!_pos ps.toArray (j / 8) (by simpa using h1), List.getElem_toArray, getElem!_pos ps (j / 8) h1]
  rfl
theorem holds_cellsN {w : World} {g : Nat} {d : Array OpX} (h : HoldsK encX 8 w g 0 d) (j : Nat) (u : Value) (hj : (cellsOf d.toList)[j]? = some u) : w.cell? ⟨g, j, none⟩ = some u := by
  have hl := (List.getElem?_eq_some_iff.1 hj).1
  rw [cellsOf_len, Array.length_toList] at hl
  have h1 : j / 8 < d.size := by omega
  have h2 : j / 8 * 8 + j % 8 = j := by omega
  have H := (h j (by rw [size_flatK]; omega)).1
  rw [Nat.zero_add, get_flatK _ _ _ _ (by omega)] at H
  have := cellsOf_get d.toList (j / 8) (j % 8) (by rw [Array.length_toList]; exact h1) (by omega)
  rw [h2, hj, getElem!_pos d.toList (j / 8) (by rw [Array.length_toList]; exact h1)] at this
  rw [H, getElem!_pos d (j / 8) h1, this]
  simp
theorem sortNm (w : World) (base g cap : Nat) (ps : List OpX) (hown : w.ownsRow base 31 8 (.slice (some ⟨g, 0, none⟩) ps.length cap) ps.length (cellsOf ps)) (hl : ps.length ≤ 100000) :
    Calls Tryz.prog 176 #[.slice (some ⟨g, 0, none⟩) ps.length cap, .func (.func 112) #[] #[]] w fun e w' => e = .returned (.tuple #[]) ∧ ∃ qs : List OpX, qs.Perm ps ∧ qs.Pairwise (fun a b => a.2.2.1 ≤ b.2.2.1) ∧ (∀ j u, (cellsOf qs)[j]? = some u → w'.cell? ⟨g, j, none⟩ = some u) ∧ Keeps (fun k => k = g) w w' := by
  have hH := holdsN hown rfl
  have hblk : g < w.heap.size := (hown.lt g rfl).2
  have h := AnyQ.slices_SortFunc sortNums 8 Tryz.isAgg31 Tryz.sizeOf31 encX encX_len encX_one cmpN swo_cmpN 112 #[] g 0 cap ps.toArray w eg_cmpN (cmp_laysN g 0 ps.toArray.size w) hH hblk (by simp; omega)
  refine Calls.mono h ?_
  rintro e w' ⟨rfl, d', n, os, hp, hs, rfl⟩
  simp only [List.size_toArray] at hp hs
  have hsz : d'.size = ps.length := by have := hp.1; simpa using this
  have hperm : d'.toList.Perm ps := by
    have := hp.2.2
    simp only [Array.toList_extract] at this
    rw [List.extract_eq_take_drop, List.extract_eq_take_drop, List.drop_zero, List.drop_zero, Nat.sub_zero, List.take_of_length_le (by simp [hsz]), List.take_of_length_le (by simp)] at this
    exact this
  refine ⟨rfl, d'.toList, hperm, ?_, ?_, sortWorld_keepsN w g n d' os⟩
  · rw [List.pairwise_iff_getElem]
    intro i j hi hj hij
    have hi' : i < d'.size := by simpa using hi
    have hj' : j < d'.size := by simpa using hj
    have := hs i j (Nat.zero_le _) hij (by omega)
    rw [ltOf_cmpN, getElem!_pos d' i hi', getElem!_pos d' j hj'] at this
    have := of_decide_eq_false this
    simp only [Array.getElem_toList]
    omega
  · exact holds_cellsN ((show SWK encX 8 w g 0 d' _ from ⟨n, os, rfl⟩).holds hblk hH (by rw [hsz]; simp))
theorem sortNm_none (p : Option Addr) (cap : Nat) (fv : Value) (w : World) : Calls Tryz.prog 176 #[.slice p 0 cap, fv] w fun e w' => e = .returned (.tuple #[]) ∧ w' = w :=
  AnyF.slices_SortFunc_none sortNums p cap fv w
end Go.Proofs.YtcggmagdndhkbaaGreatDoor
end
section
namespace Go.Proofs.YtcggmagdndhkbaaGreatDoor
open Go Go.Maps
abbrev TSta := Int → Option Nat
def noT : TSta := fun _ => none
def encT_ (p : Option Nat) : Value := .pointer (p.map fun b => ⟨b, 0, none⟩)
def datT (p : Option Nat) : DataW Unit := match p with
  | none => .agg []
  | some b => .agg [.lit (.int .i64 (b : Int))]
theorem datT_inj {p q : Option Nat} (h : datT p = datT q) : p = q := by
  cases p <;> cases q <;> simp [datT] at h ⊢
  omega
def ptrR (v : Value) : Option (DataW Unit × List MemPlace) := match v with
  | .pointer none => some (datT none, [])
  | .pointer (some ⟨b, 0, none⟩) => some (datT (some b), [])
  | _ => none
theorem ptrR_mk (p : Option Nat) : ptrR (encT_ p) = some (datT p, []) := by cases p <;> rfl
theorem ptrR_inv {v : Value} {z : DataW Unit × List MemPlace} (h : ptrR v = some z) : ∃ p, v = encT_ p ∧ z = (datT p, []) := by
  unfold ptrR at h
  split at h
  · cases h; exact ⟨none, rfl, rfl⟩
  · cases h; exact ⟨some _, rfl, rfl⟩
  · cases h
def ReadsT (D : DataW Unit) (f : TSta) : Prop := ∀ k, Wf k → match f k with
  | none => has D (.int .i64 k) = false
  | some p => ∀ z, D.atKey (.int .i64 k) z = datT (some p)
theorem ReadsT.gone {D : DataW Unit} {f : TSta} (h : ReadsT D f) {k : Int} (hk : Wf k) (hf : f k = none) : has D (.int .i64 k) = false := by
  have := h k hk; rw [hf] at this; exact this
theorem ReadsT.held {D : DataW Unit} {f : TSta} (h : ReadsT D f) {k : Int} (hk : Wf k) {p : Nat} (hf : f k = some p) (z : DataW Unit) : D.atKey (.int .i64 k) z = datT (some p) := by
  have := h k hk; rw [hf] at this; exact this z
theorem ReadsT.has {D : DataW Unit} {f : TSta} (h : ReadsT D f) {k : Int} (hk : Wf k) : Maps.has D (.int .i64 k) = (f k).isSome := by
  cases hf : f k with
  | none => rw [h.gone hk hf]; rfl
  | some p => rw [has_true_of_atKey (h.held hk hf)]; rfl
theorem ReadsT.at {D : DataW Unit} {f : TSta} (h : ReadsT D f) {k : Int} (hk : Wf k) : D.atKey (.int .i64 k) (datT none) = datT (f k) := by
  cases hf : f k with
  | none => rw [atKey_of_not_has (h.gone hk hf)]
  | some p => rw [h.held hk hf]
theorem readsT_put {D : DataW Unit} {f : TSta} (h : ReadsT D f) (hD : IsMap D) (k : Int) (p : Nat) : ReadsT (D.put (.int .i64 k) (datT (some p))) (fun x => if x = k then some p else f x) := by
  intro x hx
  dsimp only
  by_cases e : x = k
  · subst e
    rw [if_pos rfl]
    exact fun z => atKey_put_same hD (show WideAt.IsKeyLit (.int .i64 x) from trivial) _ _
  · rw [if_neg e]
    cases hf : f x with
    | none => rw [has_put_other (lit_ne e)]; exact h.gone hx hf
    | some q => intro z; rw [atKey_put_other (lit_ne e)]; exact h.held hx hf z
def GoodT (f : TSta) : Prop := ∀ k p, f k = some p → Wf k
structure TMapAt (w : World) (b n : Nat) (f : TSta) : Prop where
  reads : ∃ D, w.ownsMap Tryz.prog 3 ptrR b n D ∧ ReadsT D f
  good : GoodT f
theorem TMapAt.lt {w : World} {b n : Nat} {f : TSta} (h : TMapAt w b n f) : b < w.heap.size := by
  obtain ⟨D, h, _⟩ := h.reads; exact h.lt
theorem TMapAt.same {w w' : World} {b n : Nat} {f : TSta} (h : TMapAt w b n f) (e : w'.heap[b]? = w.heap[b]?) : TMapAt w' b n f := by
  obtain ⟨⟨D, ⟨es, clock, hb, F⟩, r⟩, g⟩ := h
  exact ⟨⟨D, ⟨es, clock, e.trans hb, F⟩, r⟩, g⟩
theorem tmapAt_made (w : World) : TMapAt (w.alloc (.map #[] 0)) w.heap.size 0 noT :=
  ⟨⟨_, World.ownsMap_made w Tryz.prog 3 ptrR, fun _ _ => rfl⟩, fun k p h => by cases h⟩
theorem zeroPtrL (w : World) : (zeroValue 119).run Tryz.prog w = .ok (encT_ none) w := Tryz.zeroValue119 w
theorem TMapAt.look {w : World} {b n : Nat} {f : TSta} (h : TMapAt w b n f) {k : Int} (hk : Wf k) :
    (Instr.lookup 81 (.map (some b)) (.int .i64 k) true).run Tryz.prog w = .ok (.tuple #[encT_ (f k), .bool (f k).isSome]) w := by
  obtain ⟨⟨D, h, r⟩, _⟩ := h
  obtain ⟨v, ps, hrun, hv⟩ := h.look_ok (int_keyed Tryz.underlying3) Tryz.underlying81 (zeroPtrL w) (ptrR_mk none) (keyOf_int_mk Tryz.underlying3 hk)
  obtain ⟨p, rfl, hp⟩ := ptrR_inv hv
  rw [r.at hk, Prod.mk.injEq] at hp
  rw [hrun, r.has hk, datT_inj hp.1]
theorem TMapAt.look1 {w : World} {b n : Nat} {f : TSta} (h : TMapAt w b n f) {k : Int} (hk : Wf k) :
    (Instr.lookup 81 (.map (some b)) (.int .i64 k) false).run Tryz.prog w = .ok (encT_ (f k)) w := by
  obtain ⟨⟨D, h, r⟩, _⟩ := h
  obtain ⟨v, ps, hrun, hv⟩ := h.lookup (int_keyed Tryz.underlying3) Tryz.underlying81 (zeroPtrL w) (ptrR_mk none) (keyOf_int_mk Tryz.underlying3 hk)
  obtain ⟨p, rfl, hp⟩ := ptrR_inv hv
  rw [r.at hk, Prod.mk.injEq] at hp
  rw [hrun, datT_inj hp.1]
theorem TMapAt.store {w : World} {b n : Nat} {f : TSta} (h : TMapAt w b n f) (hn : n < maxLen) {k : Int} (hk : Wf k) (p : Nat) :
    ∃ w', (Instr.mapUpdate 81 (.map (some b)) (.int .i64 k) (encT_ (some p))).run Tryz.prog w = .ok () w' ∧ TMapAt w' b (n + 1) (fun x => if x = k then some p else f x) ∧ w.mapTurned w' b := by
  obtain ⟨⟨D, h, r⟩, g⟩ := h
  obtain ⟨w', hrun, h', ht⟩ := h.store (int_keyed Tryz.underlying3) Tryz.underlying81 hn (keyOf_int_mk Tryz.underlying3 hk) (ptrR_mk (some p))
  refine ⟨w', hrun, ⟨⟨_, h', readsT_put r h.isMap k p⟩, fun x q hx => ?_⟩, ht⟩
  split at hx
  · rename_i e; rw [e]; exact hk
  · exact g x q hx
end Go.Proofs.YtcggmagdndhkbaaGreatDoor
end
