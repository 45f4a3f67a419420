import Derived.Test.YtehighgebbdenaaGreatDoorVp04
import Derived.Test.YtehighgebbdenaaGreatDoorVp06
import Derived.Test.YtehighgebbdenaaGreatDoorVp13
import Derived.Test.YtehighgebbdenaaGreatDoorVp21
import Derived.Test.YtehighgebbdenaaGreatDoorProg
import Derived.Shelf.SlLaysF0
import Derived.KernelRfl
section
namespace Go.Proofs.YtehighgebbdenaaGreatDoor
open Go.Shelf
set_option maxRecDepth 100000
def sortNums_ren : Ren := ⟨fun | 6 => 182 | 14 => 224 | 15 => 203 | 20 => 225 | 21 => 274 | 22 => 275 | 23 => 276 | 24 => 277 | 25 => 278 | 26 => 279 | 27 => 280 | 28 => 252 | 29 => 253 | 46 => 304 | 47 => 290 | 48 => 291 | 49 => 305 | 50 => 306 | 57 => 317 | n => n, fun | 0 => 0 | 3 => 3 | 4 => 4 | 5 => 5 | 9 => 9 | 22 => 32 | 24 => 38 | 25 => 210 | 39 => 295 | 45 => 344 | 46 => 345 | 50 => 88 | 53 => 351 | 55 => 336 | 66 => 371 | 70 => 375 | 76 => 390 | 77 => 113 | n => n, fun n => n⟩
theorem sortNums : SlLaysF0.n6 Tryz.prog sortNums_ren where
  mixed := by kernel_rfl
  f6 := ⟨ "slices.SortFunc[[]concordat/api.Op,concordat/api.Op]", by kernel_rfl, Tryz.func182.trans (congrArg some (by kernel_rfl))⟩
  f14 := ⟨ "slices.pdqsortCmpFunc[concordat/api.Op]", by kernel_rfl, Tryz.func224.trans (congrArg some (by kernel_rfl))⟩
  f15 := Tryz.func203.trans (congrArg some (by kernel_rfl))
  f20 := ⟨ "slices.insertionSortCmpFunc[concordat/api.Op]", by kernel_rfl, Tryz.func225.trans (congrArg some (by kernel_rfl))⟩
  f21 := ⟨ "slices.heapSortCmpFunc[concordat/api.Op]", by kernel_rfl, Tryz.func274.trans (congrArg some (by kernel_rfl))⟩
  f22 := ⟨ "slices.breakPatternsCmpFunc[concordat/api.Op]", by kernel_rfl, Tryz.func275.trans (congrArg some (by kernel_rfl))⟩
  f23 := ⟨ "slices.choosePivotCmpFunc[concordat/api.Op]", by kernel_rfl, Tryz.func276.trans (congrArg some (by kernel_rfl))⟩
  f24 := ⟨ "slices.reverseRangeCmpFunc[concordat/api.Op]", by kernel_rfl, Tryz.func277.trans (congrArg some (by kernel_rfl))⟩
  f25 := ⟨ "slices.partialInsertionSortCmpFunc[concordat/api.Op]", by kernel_rfl, Tryz.func278.trans (congrArg some (by kernel_rfl))⟩
  f26 := ⟨ "slices.partitionEqualCmpFunc[concordat/api.Op]", by kernel_rfl, Tryz.func279.trans (congrArg some (by kernel_rfl))⟩
  f27 := ⟨ "slices.partitionCmpFunc[concordat/api.Op]", by kernel_rfl, Tryz.func280.trans (congrArg some (by kernel_rfl))⟩
  f28 := Tryz.func252.trans (congrArg some (by kernel_rfl))
  f29 := Tryz.func253.trans (congrArg some (by kernel_rfl))
  f46 := ⟨ "slices.siftDownCmpFunc[concordat/api.Op]", by kernel_rfl, Tryz.func304.trans (congrArg some (by kernel_rfl))⟩
  f47 := Tryz.func290.trans (congrArg some (by kernel_rfl))
  f48 := Tryz.func291.trans (congrArg some (by kernel_rfl))
  f49 := ⟨ "slices.medianAdjacentCmpFunc[concordat/api.Op]", by kernel_rfl, Tryz.func305.trans (congrArg some (by kernel_rfl))⟩
  f50 := ⟨ "slices.medianCmpFunc[concordat/api.Op]", by kernel_rfl, Tryz.func306.trans (congrArg some (by kernel_rfl))⟩
  f57 := ⟨ "slices.order2CmpFunc[concordat/api.Op]", by kernel_rfl, Tryz.func317.trans (congrArg some (by kernel_rfl))⟩
  t0 := Tryz.underlying0
  a0 := Tryz.isAgg0
  z0 := Tryz.sizeOf0
  v0 := Tryz.zeroValue0
  t3 := Tryz.underlying3
  a3 := Tryz.isAgg3
  z3 := Tryz.sizeOf3
  v3 := Tryz.zeroValue3
  t4 := Tryz.underlying4
  a4 := Tryz.isAgg4
  z4 := Tryz.sizeOf4
  v4 := Tryz.zeroValue4
  t5 := Tryz.underlying5
  a5 := Tryz.isAgg5
  z5 := Tryz.sizeOf5
  v5 := Tryz.zeroValue5
  t9 := Tryz.underlying9
  a9 := Tryz.isAgg9
  z9 := Tryz.sizeOf9
  v9 := Tryz.zeroValue9
  t22 := Tryz.underlying32
  a22 := Tryz.isAgg32
  z22 := Tryz.sizeOf32
  v22 := Tryz.zeroValue32
  t25 := Tryz.underlying210
  a25 := Tryz.isAgg210
  z25 := Tryz.sizeOf210
  v25 := Tryz.zeroValue210
  t39 := Tryz.underlying295
  a39 := Tryz.isAgg295
  z39 := Tryz.sizeOf295
  v39 := Tryz.zeroValue295
  t45 := Tryz.underlying344
  a45 := Tryz.isAgg344
  z45 := Tryz.sizeOf344
  v45 := Tryz.zeroValue344
  t46 := Tryz.underlying345
  a46 := Tryz.isAgg345
  z46 := Tryz.sizeOf345
  v46 := Tryz.zeroValue345
  t50 := Tryz.underlying88
  a50 := Tryz.isAgg88
  z50 := Tryz.sizeOf88
  v50 := Tryz.zeroValue88
  t53 := Tryz.underlying351
  a53 := Tryz.isAgg351
  z53 := Tryz.sizeOf351
  v53 := Tryz.zeroValue351
  t55 := Tryz.underlying336
  a55 := Tryz.isAgg336
  z55 := Tryz.sizeOf336
  v55 := Tryz.zeroValue336
  t66 := Tryz.underlying371
  a66 := Tryz.isAgg371
  z66 := Tryz.sizeOf371
  v66 := Tryz.zeroValue371
  t70 := Tryz.underlying375
  a70 := Tryz.isAgg375
  z70 := Tryz.sizeOf375
  v70 := Tryz.zeroValue375
  t76 := Tryz.underlying390
  a76 := Tryz.isAgg390
  z76 := Tryz.sizeOf390
  v76 := Tryz.zeroValue390
  t77 := Tryz.underlying113
  a77 := Tryz.isAgg113
  z77 := Tryz.sizeOf113
  v77 := Tryz.zeroValue113
end Go.Proofs.YtehighgebbdenaaGreatDoor
end
section
set_option linter.unusedVariables false
set_option linter.unusedSimpArgs false
namespace Go.Proofs.YtehighgebbdenaaGreatDoor
open Go.Shelf Go.RowKit Go.Lib Go.Sort
def cmpN (x y : OpX) : Int := cmpZ x.2.2.1 y.2.2.1
theorem ltOf_cmpN (x y : OpX) : ltOf cmpN x y = decide (x.2.2.1 < y.2.2.1) := by
  unfold ltOf cmpN cmpZ
  by_cases h1 : x.2.2.1 < y.2.2.1
  · simp [h1]
  · rw [if_neg h1]
    by_cases h2 : y.2.2.1 < x.2.2.1 <;> simp [h1, h2]
theorem swo_cmpN : SWO (ltOf cmpN) where
  irrefl x := by rw [ltOf_cmpN]; exact decide_eq_false (by omega)
  trans x y z h1 h2 := by
    rw [ltOf_cmpN] at *
    have := of_decide_eq_true h1
    have := of_decide_eq_true h2
    exact decide_eq_true (by omega)
  ntrans x y z h1 h2 := by
    rw [ltOf_cmpN] at *
    have := of_decide_eq_false h1
    have := of_decide_eq_false h2
    exact decide_eq_false (by omega)
set_option maxRecDepth 100000 in
set_option maxHeartbeats 1000000 in
theorem closureN (x y : OpX) (w : World) : Calls Tryz.prog 114 (#[.agg (encX x).toArray, .agg (encX y).toArray] ++ #[]) w fun e w' => e = .returned (.int .i64 (cmpN x y)) ∧ ∃ q os', w' = grow (w.drewN q) os' := by
  obtain ⟨t, b, n, k, nd, o, s, v⟩ := x
  obtain ⟨t', b', n', k', nd', o', s', v'⟩ := y
  unfold encX cmpN
  show Calls Tryz.prog 114 #[.agg #[.int .i64 t, .int .i64 b, .int .i64 n, .int .u8 (k : Int), .int .i64 nd, .int .i64 o, .string s, .string v], .agg #[.int .i64 t', .int .i64 b', .int .i64 n', .int .u8 (k' : Int), .int .i64 nd', .int .i64 o', .string s', .string v']] w _
  go_enter Tryz.func114, Tryz.ntmps114
  go_wp2_with (go_at_call 103; refine (cmpZ_any _ _ _).mono ?_; rintro e w' ⟨rfl, rfl⟩)
  go_ret
  exact ⟨rfl, 0, #[.cells #[.int .i64 t, .int .i64 b, .int .i64 n, .int .u8 (k : Int), .int .i64 nd, .int .i64 o, .string s, .string v] 38] ++ #[.cells #[.int .i64 t', .int .i64 b', .int .i64 n', .int .u8 (k' : Int), .int .i64 nd', .int .i64 o', .string s', .string v'] 38], by rw [alloc_eq_grow, alloc_eq_grow, grow_grow]; rfl⟩
theorem cmp_laysN (blk off size : Nat) (w : World) : CmpLays Tryz.prog 114 #[] encX 8 cmpN blk off size w := fun _ _ _ _ x y => closureN x y _
theorem eg_cmpN : ∀ args w, (callFunc 114 args).run Tryz.prog w = .ok (.enter 114 args) w := enters_of Tryz.func114 (by kernel_rfl) rfl
theorem sortWorld_keepsN (w : World) (g n : Nat) (d : Array OpX) (os : Array Obj) : Keeps (fun k => k = g) w (sortWorldK encX 8 w g 0 n d os) := by
  refine ⟨rfl, rfl, rfl, ?_, fun k hk hs => ?_⟩
  · simp [sortWorldK, putRowK, putRow, mapBlock, Sort.ahead, grow]
  · have hgk : g ≠ k := fun e => hs e.symm
    simp only [sortWorldK, putRowK, putRow, mapBlock, Sort.ahead, grow]
    rw [Array.getElem?_append_left (by simpa using hk)]
    simp [Array.getElem?_modify, hgk]
theorem holdsN {w : World} {base g cap n : Nat} {ps : List OpX} (h : w.ownsRow base 38 8 (.slice (some ⟨g, 0, none⟩) n cap) n (cellsOf ps)) (hn : n = ps.length) : HoldsK encX 8 w g 0 ps.toArray := fun j hj => by
  rw [size_flatK] at hj
  simp only [List.size_toArray] at hj
  have h1 : j / 8 < ps.length := by omega
  have h2 : j / 8 * 8 + j % 8 = j := by omega
  refine ⟨?_, by rw [Nat.zero_add]; exact h.frozenAt j⟩
  rw [Nat.zero_add, h.cellAt j (by omega), get_flatK _ _ _ _ (by simpa using hj)]
  have := cellsOf_get ps (j / 8) (j % 8) h1 (by omega)
  rw [h2] at this
  rw [this, getElem!_pos ps.toArray (j / 8) (by simpa using h1), List.getElem_toArray, getElem!_pos ps (j / 8) h1]
  rfl
theorem holds_cellsN {w : World} {g : Nat} {d : Array OpX} (h : HoldsK encX 8 w g 0 d) (j : Nat) (u : Value) (hj : (cellsOf d.toList)[j]? = some u) : w.cell? ⟨g, j, none⟩ = some u := by
  have hl := (List.getElem?_eq_some_iff.1 hj).1
  rw [cellsOf_len, Array.length_toList] at hl
  have h1 : j / 8 < d.size := by omega
  have h2 : j / 8 * 8 + j % 8 = j := by omega
  have H := (h j (by rw [size_flatK]; omega)).1
  rw [Nat.zero_add, get_flatK _ _ _ _ (by omega)] at H
  have := cellsOf_get d.toList (j / 8) (j % 8) (by rw [Array.length_toList]; exact h1) (by omega)
  rw [h2, hj, getElem!_pos d.toList (j / 8) (by rw [Array.length_toList]; exact h1)] at this
  rw [H, getElem!_pos d (j / 8) h1, this]
  simp
theorem sortNm (w : World) (base g cap : Nat) (ps : List OpX) (hown : w.ownsRow base 38 8 (.slice (some ⟨g, 0, none⟩) ps.length cap) ps.length (cellsOf ps)) (hl : ps.length ≤ 100000) :
    Calls Tryz.prog 182 #[.slice (some ⟨g, 0, none⟩) ps.length cap, .func (.func 114) #[] #[]] w fun e w' => e = .returned (.tuple #[]) ∧ ∃ qs : List OpX, qs.Perm ps ∧ qs.Pairwise (fun a b => a.2.2.1 ≤ b.2.2.1) ∧ (∀ j u, (cellsOf qs)[j]? = some u → w'.cell? ⟨g, j, none⟩ = some u) ∧ Keeps (fun k => k = g) w w' := by
  have hH := holdsN hown rfl
  have hblk : g < w.heap.size := (hown.lt g rfl).2
  have h := AnyQ.slices_SortFunc sortNums 8 Tryz.isAgg38 Tryz.sizeOf38 encX encX_len encX_one cmpN swo_cmpN 114 #[] g 0 cap ps.toArray w eg_cmpN (cmp_laysN g 0 ps.toArray.size w) hH hblk (by simp; omega)
  refine Calls.mono h ?_
  rintro e w' ⟨rfl, d', n, os, hp, hs, rfl⟩
  simp only [List.size_toArray] at hp hs
  have hsz : d'.size = ps.length := by have := hp.1; simpa using this
  have hperm : d'.toList.Perm ps := by
    have := hp.2.2
    simp only [Array.toList_extract] at this
    rw [List.extract_eq_take_drop, List.extract_eq_take_drop, List.drop_zero, List.drop_zero, Nat.sub_zero, List.take_of_length_le (by simp [hsz]), List.take_of_length_le (by simp)] at this
    exact this
  refine ⟨rfl, d'.toList, hperm, ?_, ?_, sortWorld_keepsN w g n d' os⟩
  · rw [List.pairwise_iff_getElem]
    intro i j hi hj hij
    have hi' : i < d'.size := by simpa using hi
    have hj' : j < d'.size := by simpa using hj
    have := hs i j (Nat.zero_le _) hij (by omega)
    rw [ltOf_cmpN, getElem!_pos d' i hi', getElem!_pos d' j hj'] at this
    have := of_decide_eq_false this
    simp only [Array.getElem_toList]
    omega
  · exact holds_cellsN ((show SWK encX 8 w g 0 d' _ from ⟨n, os, rfl⟩).holds hblk hH (by rw [hsz]; simp))
theorem sortNm_none (p : Option Addr) (cap : Nat) (fv : Value) (w : World) : Calls Tryz.prog 182 #[.slice p 0 cap, fv] w fun e w' => e = .returned (.tuple #[]) ∧ w' = w :=
  AnyF.slices_SortFunc_none sortNums p cap fv w
end Go.Proofs.YtehighgebbdenaaGreatDoor
end
section
set_option linter.unusedVariables false
namespace Go.Proofs.YtehighgebbdenaaGreatDoor
open Go.RowKit Go.Shelf Go.Maps
theorem append_in {P : Program} (w : World) (base : Nat) (t ty e : TypeId) (i : TypeInfo) (z : Value) (size bytes : Nat) (ht : P.underlying t = some (.slice e)) (hi : P.info? e = some i) (hz : i.zero = some z)
    (hsize : i.size = size) (hby : i.bytes = bytes) (hzs : z.cells.size = size) (hsz : 0 < size)
    (v : Value) (n : Nat) (xs : List Value) (hown : w.ownsRow base e size v n xs)
    (a : Addr) (m c : Nat) (hm0 : 0 < m) (news : List Value) (hl : news.length = m * size) (hnews : ∀ j u, news[j]? = some u → w.cell? (a.add j) = some u) (h1 : ∀ u ∈ news, u.oneCell' = true)
    (h63 : n + m ≤ maxLen) (hbytes : (n + m) * bytes ≤ 140737488355328) (hbase : base ≤ w.heap.size) :
    ∃ v' w', (Builtin.append_ #[t, t] ty #[v, .slice (some a) m c]).run P w = .ok v' w' ∧ w'.ownsRow base e size v' (n + m) (xs ++ news) ∧ w.grownBy w' v.ownBlock ∧
      ((∃ g cap, v = .slice (some ⟨g, 0, none⟩) n cap ∧ v' = .slice (some ⟨g, 0, none⟩) (n + m) cap) ∨ (v'.ownBlock = some w.heap.size ∧ w.grownBy w' none)) := by
  obtain ⟨v', w', hrun, h', hg', -⟩ := run_append_own (P := P) w base t ty e i z size bytes ht hi hz hsize hby hzs hsz v n xs hown a m c news hl hnews h1 h63 hbytes hbase
  refine ⟨v', w', hrun, h', hg', ?_⟩
  subst hsize
  subst hby
  have hsmall : n + m ≤ 9223372036854775807 := by simp only [maxLen] at h63; omega
  rcases hown.2 with ⟨rfl, rfl⟩ | ⟨g, cap, cur, rfl, hbg, hg, hnc, hcm, hcs, htake⟩
  · have hr := run_append_nil (P := P) w t ty e i z ht hi hz a m c news hl hnews (by omega) (by omega) (by have hb := hbytes; simp only [Nat.zero_add] at hb; omega)
    rw [hr] at hrun
    simp only [Result.ok.injEq] at hrun
    right
    rw [← hrun.1, ← hrun.2]
    exact ⟨rfl, rfl, rfl, rfl, by simp, fun k hk _ => Below.heap_alloc w.drew _ k hk⟩
  · by_cases hroom : n + m ≤ cap
    · have hfit : n * i.size + news.length ≤ cur.size := by rw [hl, hcs, ← Nat.add_mul]; exact Nat.mul_le_mul_right _ hroom
      have hr := run_append_room (P := P) w t ty e i ht hi g n cap cur hg a m c news hl hnews h1 hroom hfit
      rw [hr] at hrun
      simp only [Result.ok.injEq] at hrun
      exact .inl ⟨g, cap, rfl, hrun.1.symm⟩
    · have holds : ∀ j u, xs[j]? = some u → w.cell? ((⟨g, 0, none⟩ : Addr).add j) = some u := hown.cells (g := g) rfl
      have hr := run_append_grow (P := P) w t ty e i z ht hi hz ⟨g, 0, none⟩ n cap xs hown.1 holds a m c news hl hnews (by omega) (by omega) (growslice_fits (by omega) hbytes)
      rw [hr] at hrun
      simp only [Result.ok.injEq] at hrun
      right
      rw [← hrun.1, ← hrun.2]
      exact ⟨rfl, rfl, rfl, rfl, by simp, fun k hk _ => Below.heap_alloc w.drew _ k hk⟩
theorem owns_prefix {w : World} {base g cap n m : Nat} {xs ys : List OpX} (h : w.ownsRow base 38 8 (.slice (some ⟨g, 0, none⟩) m cap) m (cellsOf (xs ++ ys))) (hn : n = xs.length) (hm : m = n + ys.length) : w.ownsRow base 38 8 (.slice (some ⟨g, 0, none⟩) n cap) n (cellsOf xs) := by
  refine ⟨by rw [cellsOf_len, hn], .inr ?_⟩
  rcases h.2 with ⟨h1, _⟩ | ⟨g', cap', cur, e, h1, h2, h3, h4, h5, h6⟩
  · cases h1
  · cases e
    refine ⟨g, cap, cur, rfl, h1, h2, by omega, h4, h5, ?_⟩
    have := congrArg (List.take (n * 8)) h6
    rw [List.take_take, Nat.min_eq_left (by omega), cellsOf_app, List.take_append_of_le_length (by rw [cellsOf_len]; omega)] at this
    rw [this, List.take_of_length_le (by rw [cellsOf_len]; omega)]
set_option maxHeartbeats 1000000 in
theorem sortedNum_any (w : World) (Bs g off cap : Nat) (ao : Option Addr) (L : List OpX) (hlen : L.length ≤ 1000) (hao : L = [] ∨ ao = some ⟨g, off, none⟩) (hBs : Bs < w.heap.size) (hg : g < w.heap.size) (hc : w.cell? ⟨Bs, 0, none⟩ = some (.slice ao L.length cap)) (hI : OpsRow w g off L) :
    Calls Tryz.prog 112 #[.func (.func 183) #[] #[.pointer (some ⟨Bs, 0, none⟩)], .func (.func 114) #[] #[]] w fun e w' => ∃ fa fc qs, e = .returned (.slice fa L.length fc) ∧ qs.Perm L ∧ qs.Pairwise (fun a b => numO a ≤ numO b) ∧ OpsIn w' fa qs ∧ (∀ a, fa = some a → w.heap.size ≤ a.block) ∧ Below w.heap.size w w' := by
  have hcl := collectOps_any w Bs g off cap ao L hlen hao hBs hg hc hI
  go_enter Tryz.func112, Tryz.ntmps112
  go_wp2_with fail
  refine hcl.mono ?_
  clear hcl
  rintro e w1 ⟨v, rfl, hown, hb⟩
  rcases hown.2 with ⟨rfl, h0⟩ | ⟨g', cap', cur, rfl, hbg, -⟩
  · have hps : L = [] := List.length_eq_zero_iff.1 h0
    have HB : Aside (Below w.heap.size w w1 ∧ L = []) := ⟨hb, hps⟩
    clear hown hb hps h0
    go_wp2_with (go_at_call 182; refine (sortNm_none none 0 _ _).mono ?_; rintro e w' ⟨rfl, rfl⟩)
    go_ret
    exact ⟨none, 0, [], by rw [HB.out.2]; rfl, by rw [HB.out.2], List.Pairwise.nil, .inl rfl, fun a e => absurd e (by simp), HB.out.1⟩
  · have hs := sortNm w1 w.heap.size g' cap' L hown (by omega)
    have hgl := (hown.lt g' rfl).2
    have HH : Aside (Below w.heap.size w w1 ∧ w.heap.size ≤ g' ∧ g' < w1.heap.size) := ⟨hb, hbg, hgl⟩
    clear hown hb hbg hgl
    go_wp2_with fail
    refine hs.mono ?_
    clear hs
    rintro e w2 ⟨rfl, qs, hp, hpw, hcells, hk⟩
    have H2 : Aside (qs.Perm L ∧ qs.Pairwise (fun a b => numO a ≤ numO b) ∧ OpsIn w2 (some ⟨g', 0, none⟩) qs ∧ Below w.heap.size w w2) := ⟨hp, hpw, .inr ⟨g', 0, rfl, fun j u hj => by rw [Nat.zero_add]; exact hcells j u hj⟩, HH.out.1.trans (hk.below HH.out.1.size (fun k e => by have := HH.out.2.1; omega))⟩
    clear hp hpw hcells hk
    go_wp2
    go_ret
    exact ⟨_, _, qs, rfl, H2.out.1, H2.out.2.1, H2.out.2.2.1, fun a e => by cases e; exact HH.out.2.1, H2.out.2.2.2⟩
theorem FreshK.perm {S F G : List OpX} (h : FreshK S F) (e : G.Perm F) : FreshK S G :=
  ⟨fun x hx => h.ok x (e.mem_iff.1 hx), fun x hx => h.off x (e.mem_iff.1 hx), (e.pairwise_iff (fun {a b} h q => h ⟨q.1.symm, q.2.symm⟩)).2 h.one⟩
end Go.Proofs.YtehighgebbdenaaGreatDoor
end
