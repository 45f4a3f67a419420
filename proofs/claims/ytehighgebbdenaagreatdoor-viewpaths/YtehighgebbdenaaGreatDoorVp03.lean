import Derived.Test.YtehighgebbdenaaGreatDoorVp01
import Derived.Test.YtehighgebbdenaaGreatDoorVp02
import Derived.Maps.RangeWalk
import Derived.Sort.MapsRangeIn
import Derived.RangeFuncMany
import Derived.Test.YtehighgebbdenaaGreatDoorProg
import Derived.Shelf.SlLaysF0
import Derived.KernelRfl
import Derived.Shelf.SlSortCmp.WholeK
import Derived.Shelf.SlSortCmp.NoneTotal
import Derived.WalkKit
import Derived.Deep.LoopGhost
import Derived.Deep.QuietTactic
import Derived.BigQuiet
import Derived.WalkSmall
import Derived.RegionTactic
import Derived.Laws.Pointers
import Derived.Carry
import Derived.Lib.Hide
section
namespace Go.Proofs.YtehighgebbdenaaGreatDoor
open Go.RowKit Go.Shelf Go.Maps
open scoped Classical
attribute [local go_sem] Oper.semAt_some
def AllP (f : Sta) (ps : List Plc) : Prop := (ps.map (·.1)).Nodup ∧ ∀ p, p ∈ ps ↔ f p.1 = some p
theorem AllP.places {f : Sta} {ps qs : List Plc} (h : AllP f ps) (hp : qs.Perm ps) (hs : qs.Pairwise (fun a b => ¬ b.1 < a.1)) : IsPlaces f qs := by
  refine ⟨?_, fun p => (hp.mem_iff).trans (h.2 p)⟩
  have hn : (qs.map (·.1)).Nodup := (hp.map _).nodup_iff.2 h.1
  have hn' : qs.Pairwise (fun a b => a.1 ≠ b.1) := List.pairwise_map.1 hn
  exact (hs.and hn').imp (fun {a b} h => by have h1 := h.1; have h2 := h.2; omega)
def CollP (D : DataW Unit) (f : Sta) (left : Lit → Bool) (ps : List Plc) : Prop :=
  (ps.map (·.1)).Nodup ∧ (∀ p ∈ ps, f p.1 = some p ∧ left (.int .i64 p.1) = false) ∧ ∀ k, Wf k → has D (.int .i64 k) = true → left (.int .i64 k) = false → k ∈ ps.map (·.1)
theorem collP_start (D : DataW Unit) (f : Sta) : CollP D f (has D) [] := ⟨List.nodup_nil, fun p hp => by simp at hp, fun k _ h1 h2 => by rw [h1] at h2; cases h2⟩
theorem same_int (a b : Int) : Lit.sameKey (.int .i64 a) (.int .i64 b) = decide (a = b) := by
  by_cases h : a = b
  · subst h
    rw [WideAt.sameKey_self (show WideAt.IsKeyLit (.int .i64 a) from trivial)]
    simp
  · rw [sameKey_ne (lit_ne h)]
    simp [h]
theorem CollP.step {D : DataW Unit} {f : Sta} {left : Lit → Bool} {ps : List Plc} (h : CollP D f left ps) {x : Int} {c : Plc} (hl : left (.int .i64 x) = true) (hf : f x = some c) (hk : c.1 = x) : CollP D f (fun z => left z && !z.sameKey (.int .i64 x)) (ps ++ [c]) := by
  obtain ⟨h1, h2, h3⟩ := h
  refine ⟨?_, fun p hp => ?_, fun k hw hh hlk => ?_⟩
  · rw [List.map_append, List.nodup_append]
    refine ⟨h1, by simp, fun a ha b hb => ?_⟩
    simp only [List.map_cons, List.map_nil, List.mem_singleton] at hb
    subst hb
    intro e
    obtain ⟨p, hp, rfl⟩ := List.mem_map.1 ha
    have := (h2 p hp).2
    rw [e, hk, hl] at this
    cases this
  · rcases List.mem_append.1 hp with hp | hp
    · have := h2 p hp
      exact ⟨this.1, by show (left (.int .i64 p.1) && _) = false; rw [this.2]; rfl⟩
    · simp only [List.mem_singleton] at hp
      subst hp
      refine ⟨by rw [hk]; exact hf, ?_⟩
      show (left (.int .i64 p.1) && !Lit.sameKey (.int .i64 p.1) (.int .i64 x)) = false
      rw [hk, same_int]
      simp
  · have hlk : (left (.int .i64 k) && !Lit.sameKey (.int .i64 k) (.int .i64 x)) = false := hlk
    rw [same_int] at hlk
    rw [List.map_append]
    by_cases e : k = x
    · subst e
      simp [hk]
    · refine List.mem_append_left _ (h3 k hw hh ?_)
      simpa [e] using hlk
theorem CollP.all {D : DataW Unit} {f : Sta} {left : Lit → Bool} {ps : List Plc} (h : CollP D f left ps) (hr : ReadsAs D f) (G : Good f) (hl : ∀ kl, left kl = false) : AllP f ps := by
  refine ⟨h.1, fun p => ⟨fun hp => (h.2.1 p hp).1, fun hp => ?_⟩⟩
  have hw := wf_key G hp
  have hm := h.2.2 p.1 hw (by rw [hr.has hw, hp]; rfl) (hl _)
  obtain ⟨q, hq, e⟩ := List.mem_map.1 hm
  have := (h.2.1 q hq).1
  rw [e, hp] at this
  cases this
  exact hq
theorem at_some {D : DataW Unit} {f : Sta} (hr : ReadsAs D f) (G : Good f) {x : Int} {c : Plc} (hw : Wf x) (hat : ∀ zd, D.atKey (.int .i64 x) zd = dat c) : f x = some c ∧ c.1 = x := by
  have hh := hr.has hw
  rw [has_true_of_atKey hat] at hh
  cases hf : f x with
  | none => rw [hf] at hh; cases hh
  | some p =>
    have := hr.some hw hf .nil
    rw [hat] at this
    rw [dat_inj this]
    exact ⟨rfl, G.key x p hf⟩
set_option maxRecDepth 100000 in
set_option maxHeartbeats 2000000 in
theorem values1_in (F : Fence) (n : Nat) (h8 : F.fn 167) (hro : F.round = none) (hn : 1 ≤ n) (l Bm b nn : Nat) (D0 : DataW Unit) (f : Sta) (hr : ReadsAs D0 f) (G : Good f) (J Jx : List Plc → World → Prop)
    (hY : ∀ pre x W, J pre W → pre.length < nn → YieldAt F (n - 1) Tryz.prog l #[encP x] W fun e W' =>
      (e = .returned (.bool true) ∧ J (pre ++ [x]) W' ∧ KeepsWalks W W') ∨ (e = .returned (.bool false) ∧ Jx (pre ++ [x]) W'))
    (W : World) (hJ : AbidesFrom W.heap.size J) (hm : W.cell? ⟨Bm, 0, none⟩ = some (.map (some b))) (hown : W.ownsMap Tryz.prog 3 plcR b nn D0) (h0 : J [] W) :
    CallsIn F n Tryz.prog 167 #[.func (.yield l) #[] #[], .pointer (some ⟨Bm, 0, none⟩)] W fun e W' => (∃ v, e = .returned v) ∧
      ((∃ xs, AllP f xs ∧ J xs W') ∨ (∃ pre, True ∧ Jx pre W')) := by
  refine callsIn_of_wp Tryz.func167 rfl h8 ?_ hro
  simp only [Tryz.ntmps167, List.size_toArray, List.length_cons, List.length_nil, Nat.reduceAdd, Nat.reduceSub, Array.replicate_succ, Array.replicate_zero, List.push_toArray, List.append_toArray, List.nil_append, List.cons_append]
  have hsn := hown.size_le
  gi_wp2_with (first
    | (gi_at_range; refine wpListIn_range_own _ rfl _ 184 rfl 3 106 (int_keyed Tryz.underlying3) Tryz.underlying184 _ b nn _ rfl hown ?_; intro w0 hrg0 hg0 hs0)
    | gi_in)
  go_frame
  gi_loopw [4] (fun _ wr => ∃ (left : Lit → Bool) (cnt : Nat) (ps : List Plc), wr.ranges Tryz.prog 3 plcR b W.heap.size nn D0 left cnt ∧ ps.length + cnt ≤ nn ∧ CollP D0 f left ps ∧ J ps wr)
    (fun _ wr => wr.rangeLeft b W.heap.size)
  case atStart =>
    exact ⟨_, _, [], hrg0, by simpa using hsn, collP_start D0 f, hJ [] W w0 none h0 hg0 (fun r e => by cases e)⟩
  case round =>
    obtain ⟨left, cnt, ps, hrg, hcs, hC, hJs⟩ := hrel
    gi_wp2_with (first
      | (gi_at_next; refine wpListIn_next_ranges _ rfl _ rfl 3 (int_keyed Tryz.underlying3) plcR (Value.int .i64) encP (fun key kl hk => by obtain ⟨x, hx, _⟩ := Maps.keyOf_int_inv Tryz.underlying3 hk; exact ⟨x, hx⟩) (fun v y hv => by obtain ⟨c, rfl, _⟩ := plcR_inv hv; exact ⟨c, rfl⟩) b W.heap.size nn _ _ _ rfl hrg ?_ ?_)
      | gi_in)
    · intro hc0 hl0
      gi_wp2
      go_end0
      exact ⟨⟨_, rfl⟩, .inl ⟨ps, hC.all hr G hl0, hJs⟩⟩
    · intro x c1 c2 c3 kl yd yp w2 cnt2 hkey hlk hv hat hrg2 hlt hg2 hs2 hen
      obtain ⟨x', ex, rfl, hwx⟩ := Maps.keyOf_int_inv Tryz.underlying3 hkey
      obtain rfl : x = x' := by simpa using ex
      obtain ⟨c', ec, ez⟩ := plcR_inv hv
      obtain rfl : (c1, c2, c3) = c' := encP_inj ec
      obtain rfl : yd = dat (c1, c2, c3) := (Prod.mk.inj ez).1
      obtain ⟨hfx, hcx⟩ := at_some hr G hwx hat
      have hcx : c1 = x := hcx
      subst hcx
      have hJ2 : J ps w2 := hJ ps wr w2 (some W.heap.size) hJs hg2 (fun r e => by cases e; exact ⟨Nat.le_refl _, hrg.iter_walk⟩)
      have hJ3 : J ps (w2.alloc (.cells #[.int .i64 c1, .int .i64 c2, .string c3] 106)) := hJ ps w2 _ none hJ2 (World.grownBy_alloc w2 _ none) (fun r e => by cases e)
      obtain ⟨fn, tmps, assign, body, hy, hR⟩ := hY ps (c1, c2, c3) _ hJ3 (by omega)
      unfold encP at hy hen
      dsimp only at hy hen
      have hrg3 := hrg2.alloc (.cells #[.int .i64 c1, .int .i64 c2, .string c3] 106)
      have hC2 := hC.step hlk hfx rfl
      have H3 : Aside (RoundIn F (n - 1) Tryz.prog l fn tmps assign body _ _) := hR
      clear hs2 hR hJ2 hJ3
      unfold encP
      dsimp only
      gi_wp2
      refine RoundIn.mono H3.out ?_
      rintro e W3 (⟨rfl, hJ4, hk4⟩ | ⟨rfl, hJx4⟩)
      · gi_wp2
        have hrg4 := hrg3.of_walks hk4
        go_roundw
        case rel => exact ⟨_, cnt2, ps ++ [(c1, c2, c3)], hrg4, by simp; omega, hC2, hJ4⟩
        case measure => rw [hrg4.left_eq, hrg.left_eq]; exact hlt
      · gi_wp2
        refine bodyPost_ret (results_none rfl _ _ _) rfl ?_
        exact ⟨⟨_, rfl⟩, .inr ⟨ps ++ [(c1, c2, c3)], trivial, hJx4⟩⟩
set_option maxHeartbeats 1000000 in
theorem values_in (F : Fence) (n : Nat) (hf : F.fn 101) (hro : F.round = none) (mb : Option Nat) (w : World) :
    CallsIn F n Tryz.prog 101 #[.map mb] w fun e w' => e = .returned (.func (.func 167) #[] #[.pointer (some ⟨w.heap.size, 0, none⟩)]) ∧ w' = w.alloc (.cells #[.map mb] 184) := by
  refine callsIn_of_wp Tryz.func101 rfl hf ?_ hro
  simp only [Tryz.ntmps101, List.size_toArray, List.length_cons, List.length_nil, Nat.reduceAdd, Nat.reduceSub, Array.replicate_succ, Array.replicate_zero, List.push_toArray, List.append_toArray, List.nil_append, List.cons_append]
  gi_wp2
  go_ret
  exact ⟨rfl, rfl⟩
theorem values_stops (F : Fence) (n : Nat) (h8 : F.fn 167) (hro : F.round = none) (hn : 1 ≤ n) (Bm b nn : Nat) (f : Sta) (G : Good f) (w : World) (hBm : Bm < w.heap.size) (hm : w.cell? ⟨Bm, 0, none⟩ = some (.map (some b))) (hM : MapAt Tryz.prog 3 w b nn f) :
    SeqStopsK F n Tryz.prog 167 #[.pointer (some ⟨Bm, 0, none⟩)] (fun x : Plc => #[encP x]) KeepsWalks (fun xs => AllP f xs) (fun _ => True) nn w := fun l J Jx W hW hJ _ hY h0 => by
  have hbl := hM.lt
  obtain ⟨D, hown, hr⟩ := hM.same (hW.block b hbl)
  exact values1_in F n h8 hro hn l Bm b nn D f hr G J Jx hY W hJ ((hW.cell (p := ⟨Bm, 0, none⟩) hBm).trans hm) hown h0
end Go.Proofs.YtehighgebbdenaaGreatDoor
end
section
namespace Go.Proofs.YtehighgebbdenaaGreatDoor
open Go.Shelf
set_option maxRecDepth 100000
def sortLays_ren : Ren := ⟨fun | 6 => 157 | 14 => 209 | 15 => 203 | 20 => 262 | 21 => 263 | 22 => 264 | 23 => 265 | 24 => 266 | 25 => 267 | 26 => 268 | 27 => 269 | 28 => 252 | 29 => 253 | 46 => 297 | 47 => 290 | 48 => 291 | 49 => 298 | 50 => 299 | 57 => 314 | n => n, fun | 0 => 0 | 3 => 3 | 4 => 4 | 5 => 5 | 9 => 9 | 22 => 103 | 24 => 106 | 25 => 189 | 39 => 295 | 45 => 344 | 46 => 345 | 50 => 88 | 53 => 351 | 55 => 336 | 66 => 371 | 70 => 375 | 76 => 390 | 77 => 113 | n => n, fun n => n⟩
theorem sortLays : SlLaysF0.n6 Tryz.prog sortLays_ren where
  mixed := by kernel_rfl
  f6 := ⟨ "slices.SortFunc[[]concordat/tree.Place,concordat/tree.Place]", by kernel_rfl, Tryz.func157.trans (congrArg some (by kernel_rfl))⟩
  f14 := ⟨ "slices.pdqsortCmpFunc[concordat/tree.Place]", by kernel_rfl, Tryz.func209.trans (congrArg some (by kernel_rfl))⟩
  f15 := Tryz.func203.trans (congrArg some (by kernel_rfl))
  f20 := ⟨ "slices.insertionSortCmpFunc[concordat/tree.Place]", by kernel_rfl, Tryz.func262.trans (congrArg some (by kernel_rfl))⟩
  f21 := ⟨ "slices.heapSortCmpFunc[concordat/tree.Place]", by kernel_rfl, Tryz.func263.trans (congrArg some (by kernel_rfl))⟩
  f22 := ⟨ "slices.breakPatternsCmpFunc[concordat/tree.Place]", by kernel_rfl, Tryz.func264.trans (congrArg some (by kernel_rfl))⟩
  f23 := ⟨ "slices.choosePivotCmpFunc[concordat/tree.Place]", by kernel_rfl, Tryz.func265.trans (congrArg some (by kernel_rfl))⟩
  f24 := ⟨ "slices.reverseRangeCmpFunc[concordat/tree.Place]", by kernel_rfl, Tryz.func266.trans (congrArg some (by kernel_rfl))⟩
  f25 := ⟨ "slices.partialInsertionSortCmpFunc[concordat/tree.Place]", by kernel_rfl, Tryz.func267.trans (congrArg some (by kernel_rfl))⟩
  f26 := ⟨ "slices.partitionEqualCmpFunc[concordat/tree.Place]", by kernel_rfl, Tryz.func268.trans (congrArg some (by kernel_rfl))⟩
  f27 := ⟨ "slices.partitionCmpFunc[concordat/tree.Place]", by kernel_rfl, Tryz.func269.trans (congrArg some (by kernel_rfl))⟩
  f28 := Tryz.func252.trans (congrArg some (by kernel_rfl))
  f29 := Tryz.func253.trans (congrArg some (by kernel_rfl))
  f46 := ⟨ "slices.siftDownCmpFunc[concordat/tree.Place]", by kernel_rfl, Tryz.func297.trans (congrArg some (by kernel_rfl))⟩
  f47 := Tryz.func290.trans (congrArg some (by kernel_rfl))
  f48 := Tryz.func291.trans (congrArg some (by kernel_rfl))
  f49 := ⟨ "slices.medianAdjacentCmpFunc[concordat/tree.Place]", by kernel_rfl, Tryz.func298.trans (congrArg some (by kernel_rfl))⟩
  f50 := ⟨ "slices.medianCmpFunc[concordat/tree.Place]", by kernel_rfl, Tryz.func299.trans (congrArg some (by kernel_rfl))⟩
  f57 := ⟨ "slices.order2CmpFunc[concordat/tree.Place]", by kernel_rfl, Tryz.func314.trans (congrArg some (by kernel_rfl))⟩
  t0 := Tryz.underlying0
  a0 := Tryz.isAgg0
  z0 := Tryz.sizeOf0
  v0 := Tryz.zeroValue0
  t3 := Tryz.underlying3
  a3 := Tryz.isAgg3
  z3 := Tryz.sizeOf3
  v3 := Tryz.zeroValue3
  t4 := Tryz.underlying4
  a4 := Tryz.isAgg4
  z4 := Tryz.sizeOf4
  v4 := Tryz.zeroValue4
  t5 := Tryz.underlying5
  a5 := Tryz.isAgg5
  z5 := Tryz.sizeOf5
  v5 := Tryz.zeroValue5
  t9 := Tryz.underlying9
  a9 := Tryz.isAgg9
  z9 := Tryz.sizeOf9
  v9 := Tryz.zeroValue9
  t22 := Tryz.underlying103
  a22 := Tryz.isAgg103
  z22 := Tryz.sizeOf103
  v22 := Tryz.zeroValue103
  t25 := Tryz.underlying189
  a25 := Tryz.isAgg189
  z25 := Tryz.sizeOf189
  v25 := Tryz.zeroValue189
  t39 := Tryz.underlying295
  a39 := Tryz.isAgg295
  z39 := Tryz.sizeOf295
  v39 := Tryz.zeroValue295
  t45 := Tryz.underlying344
  a45 := Tryz.isAgg344
  z45 := Tryz.sizeOf344
  v45 := Tryz.zeroValue344
  t46 := Tryz.underlying345
  a46 := Tryz.isAgg345
  z46 := Tryz.sizeOf345
  v46 := Tryz.zeroValue345
  t50 := Tryz.underlying88
  a50 := Tryz.isAgg88
  z50 := Tryz.sizeOf88
  v50 := Tryz.zeroValue88
  t53 := Tryz.underlying351
  a53 := Tryz.isAgg351
  z53 := Tryz.sizeOf351
  v53 := Tryz.zeroValue351
  t55 := Tryz.underlying336
  a55 := Tryz.isAgg336
  z55 := Tryz.sizeOf336
  v55 := Tryz.zeroValue336
  t66 := Tryz.underlying371
  a66 := Tryz.isAgg371
  z66 := Tryz.sizeOf371
  v66 := Tryz.zeroValue371
  t70 := Tryz.underlying375
  a70 := Tryz.isAgg375
  z70 := Tryz.sizeOf375
  v70 := Tryz.zeroValue375
  t76 := Tryz.underlying390
  a76 := Tryz.isAgg390
  z76 := Tryz.sizeOf390
  v76 := Tryz.zeroValue390
  t77 := Tryz.underlying113
  a77 := Tryz.isAgg113
  z77 := Tryz.sizeOf113
  v77 := Tryz.zeroValue113
end Go.Proofs.YtehighgebbdenaaGreatDoor
end
section
namespace Go.Proofs.YtehighgebbdenaaGreatDoor
open Go.Shelf Go.RowKit Go.Lib Go.Sort
def cmpI (a b : Int) : Int := if a < b then -1 else if b < a then 1 else 0
set_option maxHeartbeats 400000 in
theorem isNaN_any (a : Int) (w : World) : Calls Tryz.prog 168 #[.int .i64 a] w fun e w' => e = .returned (.bool false) ∧ w' = w := by
  have d0 : (a != a) = false := by simp
  go_enter Tryz.func168, Tryz.ntmps168
  go_wp2
  go_ret
  exact ⟨rfl, rfl⟩
set_option maxHeartbeats 400000 in
theorem compare_any (a b : Int) (w : World) : Calls Tryz.prog 103 #[.int .i64 a, .int .i64 b] w fun e w' => e = .returned (.int .i64 (cmpI a b)) ∧ w' = w := by
  unfold cmpI
  by_cases h1 : a < b
  · have d1 : decide (a < b) = true := decide_eq_true h1
    rw [if_pos h1]
    go_enter Tryz.func103, Tryz.ntmps103
    go_wp2_with (go_at_call 168; refine (isNaN_any _ _).mono ?_; rintro e w' ⟨rfl, rfl⟩)
    go_ret
    exact ⟨rfl, rfl⟩
  · have d1 : decide (a < b) = false := decide_eq_false h1
    rw [if_neg h1]
    by_cases h2 : b < a
    · have d2 : decide (b < a) = true := decide_eq_true h2
      rw [if_pos h2]
      go_enter Tryz.func103, Tryz.ntmps103
      go_wp2_with (go_at_call 168; refine (isNaN_any _ _).mono ?_; rintro e w' ⟨rfl, rfl⟩)
      go_ret
      exact ⟨rfl, rfl⟩
    · have d2 : decide (b < a) = false := decide_eq_false h2
      rw [if_neg h2]
      go_enter Tryz.func103, Tryz.ntmps103
      go_wp2_with (go_at_call 168; refine (isNaN_any _ _).mono ?_; rintro e w' ⟨rfl, rfl⟩)
      go_ret
      exact ⟨rfl, rfl⟩
def cmpP (x y : Plc) : Int := cmpI x.1 y.1
theorem ltOf_cmpP (x y : Plc) : ltOf cmpP x y = decide (x.1 < y.1) := by
  unfold ltOf cmpP cmpI
  by_cases h1 : x.1 < y.1
  · simp [h1]
  · rw [if_neg h1]
    by_cases h2 : y.1 < x.1 <;> simp [h1, h2]
theorem swo_cmpP : SWO (ltOf cmpP) where
  irrefl x := by rw [ltOf_cmpP]; simp
  trans x y z h1 h2 := by rw [ltOf_cmpP] at *; simp at *; omega
  ntrans x y z h1 h2 := by rw [ltOf_cmpP] at *; simp at *; omega
set_option maxHeartbeats 400000 in
theorem closureP (x y : Plc) (w : World) : Calls Tryz.prog 102 (#[.agg (cellsP x).toArray, .agg (cellsP y).toArray] ++ #[]) w fun e w' => e = .returned (.int .i64 (cmpP x y)) ∧ ∃ q os', w' = grow (w.drewN q) os' := by
  have hc : ∀ w', Calls Tryz.prog 103 #[.int .i64 x.1, .int .i64 y.1] w' fun e w'' => e = .returned (.int .i64 (cmpP x y)) ∧ w'' = w' := fun w' => compare_any _ _ _
  unfold cellsP
  go_enter Tryz.func102, Tryz.ntmps102
  go_wp2_with (go_at_call 103; refine (hc _).mono ?_; rintro e w' ⟨rfl, rfl⟩)
  go_ret
  exact ⟨rfl, 0, _, by rw [alloc_eq_grow, alloc_eq_grow, grow_grow]; rfl⟩
theorem cmp_laysP (blk off size : Nat) (w : World) : CmpLays Tryz.prog 102 #[] cellsP 3 cmpP blk off size w := fun _ _ _ _ x y => closureP x y _
theorem eg_cmpP : ∀ args w, (callFunc 102 args).run Tryz.prog w = .ok (.enter 102 args) w := enters_of Tryz.func102 (by kernel_rfl) rfl
theorem cellsP_len (x : Plc) : (cellsP x).length = 3 := rfl
theorem cellsP_one (x : Plc) : ∀ v ∈ cellsP x, v.oneCell' = true := by
  intro v hv
  simp only [cellsP, List.mem_cons, List.not_mem_nil, or_false] at hv
  rcases hv with rfl | rfl | rfl <;> rfl
theorem sortWorld_keeps (w : World) (g n : Nat) (d : Array Plc) (os : Array Obj) : Keeps (fun k => k = g) w (sortWorldK cellsP 3 w g 0 n d os) := by
  refine ⟨rfl, rfl, rfl, ?_, fun k hk hs => ?_⟩
  · simp [sortWorldK, putRowK, putRow, mapBlock, Sort.ahead, grow]
  · have hgk : g ≠ k := fun e => hs e.symm
    simp only [sortWorldK, putRowK, putRow, mapBlock, Sort.ahead, grow]
    rw [Array.getElem?_append_left (by simpa using hk)]
    simp [Array.getElem?_modify, hgk]
theorem holdsP {w : World} {base g cap n : Nat} {ps : List Plc} (h : w.ownsRow base 106 3 (.slice (some ⟨g, 0, none⟩) n cap) n (flat cellsP ps)) (hn : n = ps.length) : HoldsK cellsP 3 w g 0 ps.toArray := fun j hj => by
  rw [size_flatK] at hj
  simp only [List.size_toArray] at hj
  have h1 : j / 3 < ps.length := by omega
  have h2 : j / 3 * 3 + j % 3 = j := by omega
  refine ⟨?_, by rw [Nat.zero_add]; exact h.frozenAt j⟩
  rw [Nat.zero_add, h.cellAt j (by omega), get_flatK _ _ _ _ (by simpa using hj)]
  have := flat_get (enc := cellsP) cellsP_len (L := ps) (i := j / 3) (c := j % 3) (x := ps[j / 3]) (List.getElem?_eq_getElem h1) (by omega)
  rw [h2] at this
  rw [this, getElem!_pos ps.toArray (j / 3) (by simpa using h1), List.getElem_toArray, List.getElem?_eq_getElem (by rw [cellsP_len]; omega), getElem!_pos _ (j % 3) (by rw [cellsP_len]; omega)]
  rfl
theorem holds_cells {w : World} {g : Nat} {d : Array Plc} (h : HoldsK cellsP 3 w g 0 d) (j : Nat) (u : Value) (hj : (flat cellsP d.toList)[j]? = some u) : w.cell? ⟨g, j, none⟩ = some u := by
  have hl := (List.getElem?_eq_some_iff.1 hj).1
  rw [flat_len cellsP_len, Array.length_toList] at hl
  have h1 : j / 3 < d.size := by omega
  have h2 : j / 3 * 3 + j % 3 = j := by omega
  have H := (h j (by rw [size_flatK]; omega)).1
  rw [Nat.zero_add, get_flatK _ _ _ _ (by omega)] at H
  have := flat_get (enc := cellsP) cellsP_len (L := d.toList) (i := j / 3) (c := j % 3) (x := d[j / 3]) (by rw [Array.getElem?_toList, Array.getElem?_eq_getElem h1]) (by omega)
  rw [h2, hj, List.getElem?_eq_getElem (by rw [cellsP_len]; omega)] at this
  rw [H, getElem!_pos d (j / 3) h1, getElem!_pos _ (j % 3) (by rw [cellsP_len]; omega), this]
  rfl
theorem sortPl (w : World) (base g cap : Nat) (ps : List Plc) (hown : w.ownsRow base 106 3 (.slice (some ⟨g, 0, none⟩) ps.length cap) ps.length (flat cellsP ps)) (hl : ps.length ≤ 100000) :
    Calls Tryz.prog 157 #[.slice (some ⟨g, 0, none⟩) ps.length cap, .func (.func 102) #[] #[]] w fun e w' => e = .returned (.tuple #[]) ∧ ∃ qs : List Plc, qs.Perm ps ∧ qs.Pairwise (fun a b => ¬ b.1 < a.1) ∧ (∀ j u, (flat cellsP qs)[j]? = some u → w'.cell? ⟨g, j, none⟩ = some u) ∧ Keeps (fun k => k = g) w w' := by
  have hH := holdsP hown rfl
  have hblk : g < w.heap.size := (hown.lt g rfl).2
  have h := AnyQ.slices_SortFunc sortLays 3 Tryz.isAgg106 Tryz.sizeOf106 cellsP cellsP_len cellsP_one cmpP swo_cmpP 102 #[] g 0 cap ps.toArray w eg_cmpP (cmp_laysP g 0 ps.toArray.size w) hH hblk (by simp; omega)
  refine Calls.mono h ?_
  rintro e w' ⟨rfl, d', n, os, hp, hs, rfl⟩
  simp only [List.size_toArray] at hp hs
  have hsz : d'.size = ps.length := by have := hp.1; simpa using this
  have hperm : d'.toList.Perm ps := by
    have := hp.2.2
    simp only [Array.toList_extract] at this
    rw [List.extract_eq_take_drop, List.extract_eq_take_drop, List.drop_zero, List.drop_zero, Nat.sub_zero, List.take_of_length_le (by simp [hsz]), List.take_of_length_le (by simp)] at this
    exact this
  refine ⟨rfl, d'.toList, hperm, ?_, ?_, sortWorld_keeps w g n d' os⟩
  · rw [List.pairwise_iff_getElem]
    intro i j hi hj hij
    have hi' : i < d'.size := by simpa using hi
    have hj' : j < d'.size := by simpa using hj
    have := hs i j (Nat.zero_le _) hij (by omega)
    rw [ltOf_cmpP, getElem!_pos d' i hi', getElem!_pos d' j hj'] at this
    simpa using this
  · exact holds_cells ((show SWK cellsP 3 w g 0 d' _ from ⟨n, os, rfl⟩).holds hblk hH (by rw [hsz]; simp))
theorem sortPl_none (p : Option Addr) (cap : Nat) (fv : Value) (w : World) : Calls Tryz.prog 157 #[.slice p 0 cap, fv] w fun e w' => e = .returned (.tuple #[]) ∧ w' = w :=
  AnyF.slices_SortFunc_none sortLays p cap fv w
end Go.Proofs.YtehighgebbdenaaGreatDoor
end
section
namespace Go.Proofs.YtehighgebbdenaaGreatDoor
open Go.RowKit Go.Maps
theorem zeroPl (w : World) : (zeroValue 106).run Tryz.prog w = .ok (encP zeroP) w := Tryz.zeroValue106 w
theorem MapAt.looks {w : World} {b n : Nat} {f : Sta} (h : MapAt Tryz.prog 3 w b n f) {k : Int} (hk : Wf k) :
    (Instr.lookup 184 (.map (some b)) (.int .i64 k) true).run Tryz.prog w = .ok (.tuple #[encP ((f k).getD zeroP), .bool (f k).isSome]) w :=
  h.look Tryz.underlying3 Tryz.underlying184 (zeroPl w) hk
theorem MapAt.looks1 {w : World} {b n : Nat} {f : Sta} (h : MapAt Tryz.prog 3 w b n f) {k : Int} (hk : Wf k) :
    (Instr.lookup 184 (.map (some b)) (.int .i64 k) false).run Tryz.prog w = .ok (encP ((f k).getD zeroP)) w :=
  h.look1 Tryz.underlying3 Tryz.underlying184 (zeroPl w) hk
set_option maxHeartbeats 400000 in
theorem treeNew (w : World) : Calls Tryz.prog 46 #[] w fun e w' => e = .returned (.pointer (some ⟨w.heap.size + 1, 0, none⟩)) ∧ w' = (w.alloc (.map #[] 0)).alloc (.cells #[.map (some w.heap.size), .slice none 0 0] 187) := by
  have hmm := @run_makeMap Tryz.prog
  go_enter Tryz.func46, Tryz.ntmps46
  go_wp2
  go_ret
  exact ⟨rfl, rfl⟩
end Go.Proofs.YtehighgebbdenaaGreatDoor
end
section
namespace Go.Proofs.YtehighgebbdenaaGreatDoor
open Go.RowKit Go.Maps
def PlcAt (w : World) (b : Nat) (p : Plc) : Prop := w.heap[b]? = some (.cells #[.int .i64 p.1, .int .i64 p.2.1, .string p.2.2] 106 (0, 0))
theorem PlcAt.lt {w : World} {b : Nat} {p : Plc} (h : PlcAt w b p) : b < w.heap.size := (Array.getElem?_eq_some_iff.1 h).1
theorem PlcAt.c0 {w : World} {b : Nat} {p : Plc} (h : PlcAt w b p) : w.cell? ⟨b, 0, none⟩ = some (.int .i64 p.1) := by unfold PlcAt at h; simp [World.cell?, h]
theorem PlcAt.c1 {w : World} {b : Nat} {p : Plc} (h : PlcAt w b p) : w.cell? ⟨b, 1, none⟩ = some (.int .i64 p.2.1) := by unfold PlcAt at h; simp [World.cell?, h]
theorem PlcAt.c2 {w : World} {b : Nat} {p : Plc} (h : PlcAt w b p) : w.cell? ⟨b, 2, none⟩ = some (.string p.2.2) := by unfold PlcAt at h; simp [World.cell?, h]
theorem PlcAt.fz {w : World} {b : Nat} {p : Plc} (h : PlcAt w b p) (o : Nat) : w.frozen? ⟨b, o, none⟩ = false := by unfold PlcAt at h; simp [World.frozen?, h]
theorem PlcAt.same {w w' : World} {b : Nat} {p : Plc} (h : PlcAt w b p) (e : w'.heap[b]? = w.heap[b]?) : PlcAt w' b p := e.trans h
theorem PlcAt.stored {w : World} {b : Nat} {p : Plc} (h : PlcAt w b p) (q : Plc) : PlcAt (((w.setCell ⟨b, 0, none⟩ (.int .i64 q.1)).setCell ⟨b, 1, none⟩ (.int .i64 q.2.1)).setCell ⟨b, 2, none⟩ (.string q.2.2)) b q := by
  have h0 := heap_setCell_same w b 0 _ _ (.int .i64 q.1) h
  have h1 := heap_setCell_same _ b 1 _ _ (.int .i64 q.2.1) h0
  exact heap_setCell_same _ b 2 _ _ (.string q.2.2) h1
theorem PlcAt.storedBelow {w w' : World} {B b : Nat} (q : Plc) (h : Below B w w') (hb : B ≤ b) : Below B w (((w'.setCell ⟨b, 0, none⟩ (.int .i64 q.1)).setCell ⟨b, 1, none⟩ (.int .i64 q.2.1)).setCell ⟨b, 2, none⟩ (.string q.2.2)) :=
  ((h.setCell (p := ⟨b, 0, none⟩) hb _).setCell (p := ⟨b, 1, none⟩) hb _).setCell (p := ⟨b, 2, none⟩) hb _
theorem MapAt.below {w w' : World} {b n : Nat} {f : Sta} (h : MapAt Tryz.prog 3 w b n f) {B : Nat} (hb : Below B w w') (hB : b < B) : MapAt Tryz.prog 3 w' b n f := h.same (hb.block b hB)
set_option maxRecDepth 100000 in
set_option maxHeartbeats 1000000 in
theorem inside_is (w : World) (bt bm n : Nat) (f : Sta) (node of : Int) (z : Bool) (hz : z = true ↔ Ins f node of) (ht : w.cell? ⟨bt, 0, none⟩ = some (.map (some bm))) (hm : MapAt Tryz.prog 3 w bm n f) (G : Good f) (hk : Wf node) :
    Calls Tryz.prog 96 #[.pointer (some ⟨bt, 0, none⟩), .int .i64 node, .int .i64 of] w fun e w' => e = .returned (.bool z) ∧ Below w.heap.size w w' := by
  have hbt : bt < w.heap.size := block_lt_of_cell ht
  obtain ⟨d, hd⟩ := G.rank
  have hl := hm.looks hk
  unfold encP at hl
  go_enter Tryz.func96, Tryz.ntmps96
  go_wp2
  obtain ⟨w0, hw0⟩ : ∃ w0, w0 = w.alloc (.cells #[.int .i64 ((f node).getD zeroP).1, .int .i64 ((f node).getD zeroP).2.1, .string ((f node).getD zeroP).2.2] 106) := ⟨_, rfl⟩
  have hp0 : PlcAt w0 w.heap.size ((f node).getD zeroP) := by rw [hw0]; exact heap_alloc_new w _
  have hb0 : Below w.heap.size w w0 := by rw [hw0]; exact (Below.refl _ w).alloc (Nat.le_refl _) _
  rw [← hw0]
  clear hw0 hl
  go_loopg [7, 8] (d node + 1) (fun kx s7 s8 wr => ∃ (b7 : Nat) (cur : Int), s7 = .pointer (some ⟨b7, 0, none⟩) ∧ s8 = .bool (f cur).isSome ∧ w.heap.size ≤ b7 ∧ PlcAt wr b7 ((f cur).getD zeroP) ∧ Wf cur ∧ (Ins f cur of ↔ Ins f node of) ∧ Below w.heap.size w wr ∧ (∀ p, f cur = some p → d cur < kx))
  case atStart => exact ⟨w.heap.size, node, rfl, rfl, Nat.le_refl _, hp0, hk, Iff.rfl, hb0, fun _ _ => Nat.lt_succ_self _⟩
  case round =>
    obtain ⟨b7, cur, rfl, rfl, hb7, hp, hkc, hi, hb, hkx⟩ := hrel
    clear hp0 hb0 w0
    have ht1 := (hb.cell (p := ⟨bt, 0, none⟩) hbt).trans ht
    have hm1 := hm.below hb hm.lt
    cases hf : f cur with
    | none =>
      have hno : z = false := by
        cases z with
        | false => rfl
        | true => exact absurd (hi.2 (hz.1 rfl)) (ins_none hf)
      subst hno
      rw [hf] at hp
      simp only [Option.isSome_none]
      go_wp2
      go_ret
      exact ⟨rfl, hb⟩
    | some p =>
      rw [hf] at hp
      simp only [Option.isSome_some]
      have hc1 : wr.cell? ⟨b7, 1, none⟩ = some (.int .i64 p.2.1) := hp.c1
      by_cases he : p.2.1 = of
      · have hyes : z = true := hz.2 (hi.1 ((ins_some hf).2 (.inl he)))
        subst hyes
        have q0 : decide (p.2.1 = of) = true := decide_eq_true he
        go_wp2
        go_ret
        exact ⟨rfl, hb⟩
      · have q0 : decide (p.2.1 = of) = false := decide_eq_false he
        have hkn : Wf p.2.1 := (wf_fine (G.fine cur p hf)).2
        have hc0 := hp.c0
        have hc2 := hp.c2
        go_wp2
        obtain ⟨w1, hw1⟩ : ∃ w1, w1 = wr.alloc (.cells #[.int .i64 p.1, .int .i64 p.2.1, .string p.2.2] 106) := ⟨_, rfl⟩
        have hp1 : PlcAt w1 wr.heap.size p := by rw [hw1]; exact heap_alloc_new wr _
        have hb1 : Below w.heap.size w w1 := by rw [hw1]; exact hb.alloc hb.size _
        have hs1 : w.heap.size ≤ wr.heap.size := hb.size
        rw [← hw1]
        obtain ⟨b8, hb8⟩ : ∃ b8, b8 = wr.heap.size := ⟨_, rfl⟩
        rw [← hb8] at hp1 hs1 ⊢
        have ht2 := (hb1.cell (p := ⟨bt, 0, none⟩) hbt).trans ht
        have hm2 := hm.below hb1 hm.lt
        have hl2 := hm2.looks hkn
        have hl3 := (show MapAt Tryz.prog 3 w1.drew bm n f from hm2).looks hkn
        unfold encP at hl2 hl3
        have d0 := hp1.c0
        have d1 := hp1.c1
        have d2 := hp1.c2
        have z0 := hp1.fz 0
        have z1 := hp1.fz 1
        have z2 := hp1.fz 2
        have F : Aside (PlcAt w1 b8 p ∧ Below w.heap.size w w1 ∧ w.heap.size ≤ b8 ∧ Wf p.2.1) := ⟨hp1, hb1, hs1, hkn⟩
        clear hp hc0 hc1 hc2 hp1 hb1 hm2 hm1 ht1 hw1 hb8 hs1 hkn
        go_region
        go_wp2
        go_roundg (d cur)
        case measure => exact hkx p hf
        case rel => exact ⟨b8, p.2.1, rfl, rfl, F.out.2.2.1, F.out.1.stored _, F.out.2.2.2, (by rw [← hi, ins_some hf]; exact ⟨.inr, fun h => h.resolve_left he⟩), (PlcAt.storedBelow _ F.out.2.1 F.out.2.2.1).drew, fun _ _ => hd cur p hf⟩
end Go.Proofs.YtehighgebbdenaaGreatDoor
end
