/- cmp.Compare at numbers, the closure of Places, and slices.SortFunc at places. -/
import Derived.Test.YtnfhbmgkiknaaaaDoorSortLays
import Derived.Test.YtnfhbmgkiknaaaaDoorFlatK
import Derived.Test.YtnfhbmgkiknaaaaDoorTreeMap
import Derived.Shelf.SlSortCmp.WholeK
import Derived.Shelf.SlSortCmp.NoneTotal
import Derived.WalkKit
import Derived.Deep.LoopGhost
namespace Go.Proofs.YtnfhbmgkiknaaaaDoor
open Go.Shelf Go.RowKit Go.Lib Go.Sort

def cmpI (a b : Int) : Int := if a < b then -1 else if b < a then 1 else 0

set_option maxHeartbeats 400000 in
theorem isNaN_any (a : Int) (w : World) : Calls Tryd.prog 114 #[.int .i64 a] w fun e w' => e = .returned (.bool false) ∧ w' = w := by
  have d0 : (a != a) = false := by simp
  go_enter Tryd.func114, Tryd.ntmps114
  go_wp2
  go_ret
  exact ⟨rfl, rfl⟩

set_option maxHeartbeats 400000 in
theorem compare_any (a b : Int) (w : World) : Calls Tryd.prog 89 #[.int .i64 a, .int .i64 b] w fun e w' => e = .returned (.int .i64 (cmpI a b)) ∧ w' = w := by
  unfold cmpI
  by_cases h1 : a < b
  · have d1 : decide (a < b) = true := decide_eq_true h1
    rw [if_pos h1]
    go_enter Tryd.func89, Tryd.ntmps89
    go_wp2_with (go_at_call 114; refine (isNaN_any _ _).mono ?_; rintro e w' ⟨rfl, rfl⟩)
    go_ret
    exact ⟨rfl, rfl⟩
  · have d1 : decide (a < b) = false := decide_eq_false h1
    rw [if_neg h1]
    by_cases h2 : b < a
    · have d2 : decide (b < a) = true := decide_eq_true h2
      rw [if_pos h2]
      go_enter Tryd.func89, Tryd.ntmps89
      go_wp2_with (go_at_call 114; refine (isNaN_any _ _).mono ?_; rintro e w' ⟨rfl, rfl⟩)
      go_ret
      exact ⟨rfl, rfl⟩
    · have d2 : decide (b < a) = false := decide_eq_false h2
      rw [if_neg h2]
      go_enter Tryd.func89, Tryd.ntmps89
      go_wp2_with (go_at_call 114; refine (isNaN_any _ _).mono ?_; rintro e w' ⟨rfl, rfl⟩)
      go_ret
      exact ⟨rfl, rfl⟩

def cmpP (x y : Plc) : Int := cmpI x.1 y.1
theorem ltOf_cmpP (x y : Plc) : ltOf cmpP x y = decide (x.1 < y.1) := by
  unfold ltOf cmpP cmpI
  by_cases h1 : x.1 < y.1
  · simp [h1]
  · rw [if_neg h1]
    by_cases h2 : y.1 < x.1 <;> simp [h1, h2]
theorem swo_cmpP : SWO (ltOf cmpP) where
  irrefl x := by rw [ltOf_cmpP]; simp
  trans x y z h1 h2 := by rw [ltOf_cmpP] at *; simp at *; omega
  ntrans x y z h1 h2 := by rw [ltOf_cmpP] at *; simp at *; omega

set_option maxHeartbeats 400000 in
theorem closureP (x y : Plc) (w : World) : Calls Tryd.prog 88 (#[.agg (cellsP x).toArray, .agg (cellsP y).toArray] ++ #[]) w fun e w' => e = .returned (.int .i64 (cmpP x y)) ∧ ∃ q os', w' = grow (w.drewN q) os' := by
  have hc : ∀ w', Calls Tryd.prog 89 #[.int .i64 x.1, .int .i64 y.1] w' fun e w'' => e = .returned (.int .i64 (cmpP x y)) ∧ w'' = w' := fun w' => compare_any _ _ _
  unfold cellsP
  go_enter Tryd.func88, Tryd.ntmps88
  go_wp2_with (go_at_call 89; refine (hc _).mono ?_; rintro e w' ⟨rfl, rfl⟩)
  go_ret
  exact ⟨rfl, 0, _, by rw [alloc_eq_grow, alloc_eq_grow, grow_grow]; rfl⟩
theorem cmp_laysP (blk off size : Nat) (w : World) : CmpLays Tryd.prog 88 #[] cellsP 3 cmpP blk off size w := fun _ _ _ _ x y => closureP x y _
theorem eg_cmpP : ∀ args w, (callFunc 88 args).run Tryd.prog w = .ok (.enter 88 args) w := enters_of Tryd.func88 (by kernel_rfl) rfl
theorem cellsP_len (x : Plc) : (cellsP x).length = 3 := rfl
theorem cellsP_one (x : Plc) : ∀ v ∈ cellsP x, v.oneCell' = true := by
  intro v hv
  simp only [cellsP, List.mem_cons, List.not_mem_nil, or_false] at hv
  rcases hv with rfl | rfl | rfl <;> rfl
theorem sortWorld_keeps (w : World) (g n : Nat) (d : Array Plc) (os : Array Obj) : Keeps (fun k => k = g) w (sortWorldK cellsP 3 w g 0 n d os) := by
  refine ⟨rfl, rfl, rfl, ?_, fun k hk hs => ?_⟩
  · simp [sortWorldK, putRowK, putRow, mapBlock, Sort.ahead, grow]
  · have hgk : g ≠ k := fun e => hs e.symm
    simp only [sortWorldK, putRowK, putRow, mapBlock, Sort.ahead, grow]
    rw [Array.getElem?_append_left (by simpa using hk)]
    simp [Array.getElem?_modify, hgk]

/-- A row of places, as the sort holds it. -/
theorem holdsP {w : World} {base g cap n : Nat} {ps : List Plc} (h : w.ownsRow base 95 3 (.slice (some ⟨g, 0, none⟩) n cap) n (flat cellsP ps)) (hn : n = ps.length) : HoldsK cellsP 3 w g 0 ps.toArray := fun j hj => by
  rw [size_flatK] at hj
  simp only [List.size_toArray] at hj
  have h1 : j / 3 < ps.length := by omega
  have h2 : j / 3 * 3 + j % 3 = j := by omega
  refine ⟨?_, by rw [Nat.zero_add]; exact h.frozenAt j⟩
  rw [Nat.zero_add, h.cellAt j (by omega), get_flatK _ _ _ _ (by simpa using hj)]
  have := flat_get (enc := cellsP) cellsP_len (L := ps) (i := j / 3) (c := j % 3) (x := ps[j / 3]) (List.getElem?_eq_getElem h1) (by omega)
  rw [h2] at this
  rw [this, getElem!_pos ps.toArray (j / 3) (by simpa using h1), List.getElem_toArray, List.getElem?_eq_getElem (by rw [cellsP_len]; omega), getElem!_pos _ (j % 3) (by rw [cellsP_len]; omega)]
  rfl
theorem holds_cells {w : World} {g : Nat} {d : Array Plc} (h : HoldsK cellsP 3 w g 0 d) (j : Nat) (u : Value) (hj : (flat cellsP d.toList)[j]? = some u) : w.cell? ⟨g, j, none⟩ = some u := by
  have hl := (List.getElem?_eq_some_iff.1 hj).1
  rw [flat_len cellsP_len, Array.length_toList] at hl
  have h1 : j / 3 < d.size := by omega
  have h2 : j / 3 * 3 + j % 3 = j := by omega
  have H := (h j (by rw [size_flatK]; omega)).1
  rw [Nat.zero_add, get_flatK _ _ _ _ (by omega)] at H
  have := flat_get (enc := cellsP) cellsP_len (L := d.toList) (i := j / 3) (c := j % 3) (x := d[j / 3]) (by rw [Array.getElem?_toList, Array.getElem?_eq_getElem h1]) (by omega)
  rw [h2, hj, List.getElem?_eq_getElem (by rw [cellsP_len]; omega)] at this
  rw [H, getElem!_pos d (j / 3) h1, getElem!_pos _ (j % 3) (by rw [cellsP_len]; omega), this]
  rfl

/-- slices.SortFunc(s, cmp) at places: the same ones, by their nodes. -/
theorem sortPl (w : World) (base g cap : Nat) (ps : List Plc) (hown : w.ownsRow base 95 3 (.slice (some ⟨g, 0, none⟩) ps.length cap) ps.length (flat cellsP ps)) (hl : ps.length ≤ 100000) :
    Calls Tryd.prog 112 #[.slice (some ⟨g, 0, none⟩) ps.length cap, .func (.func 88) #[] #[]] w fun e w' => e = .returned (.tuple #[]) ∧ ∃ qs : List Plc, qs.Perm ps ∧ qs.Pairwise (fun a b => ¬ b.1 < a.1) ∧ (∀ j u, (flat cellsP qs)[j]? = some u → w'.cell? ⟨g, j, none⟩ = some u) ∧ Keeps (fun k => k = g) w w' := by
  have hH := holdsP hown rfl
  have hblk : g < w.heap.size := (hown.lt g rfl).2
  have h := AnyQ.slices_SortFunc sortLays 3 Tryd.isAgg95 Tryd.sizeOf95 cellsP cellsP_len cellsP_one cmpP swo_cmpP 88 #[] g 0 cap ps.toArray w eg_cmpP (cmp_laysP g 0 ps.toArray.size w) hH hblk (by simp; omega)
  refine Calls.mono h ?_
  rintro e w' ⟨rfl, d', n, os, hp, hs, rfl⟩
  simp only [List.size_toArray] at hp hs
  have hsz : d'.size = ps.length := by have := hp.1; simpa using this
  have hperm : d'.toList.Perm ps := by
    have := hp.2.2
    simp only [Array.toList_extract] at this
    rw [List.extract_eq_take_drop, List.extract_eq_take_drop, List.drop_zero, List.drop_zero, Nat.sub_zero, List.take_of_length_le (by simp [hsz]), List.take_of_length_le (by simp)] at this
    exact this
  refine ⟨rfl, d'.toList, hperm, ?_, ?_, sortWorld_keeps w g n d' os⟩
  · rw [List.pairwise_iff_getElem]
    intro i j hi hj hij
    have hi' : i < d'.size := by simpa using hi
    have hj' : j < d'.size := by simpa using hj
    have := hs i j (Nat.zero_le _) hij (by omega)
    rw [ltOf_cmpP, getElem!_pos d' i hi', getElem!_pos d' j hj'] at this
    simpa using this
  · exact holds_cells ((show SWK cellsP 3 w g 0 d' _ from ⟨n, os, rfl⟩).holds hblk hH (by rw [hsz]; simp))
theorem sortPl_none (p : Option Addr) (cap : Nat) (fv : Value) (w : World) : Calls Tryd.prog 112 #[.slice p 0 cap, fv] w fun e w' => e = .returned (.tuple #[]) ∧ w' = w :=
  AnyF.slices_SortFunc_none sortLays p cap fv w
end Go.Proofs.YtnfhbmgkiknaaaaDoor
