/- cmp.Compare at numbers and at texts, cmp.Or, the closure of Marks, and slices.SortFunc at marks. -/
import Derived.Test.YtfpmmgboodcfiaaDoorMarkLays
import Derived.Test.YtfpmmgboodcfiaaDoorFlatK
import Derived.Test.YtfpmmgboodcfiaaDoorCellColl
import Derived.Shelf.SlSortCmp.WholeK
import Derived.Shelf.SlSortCmp.NoneTotal
import Derived.WalkKit
import Derived.Deep.LoopGhost
import Derived.LoopN
import Derived.Laws.Cover1
import Derived.Lib.Hide
import Derived.Test.YtfpmmgboodcfiaaDoorHeldOne
import Derived.Test.YtfpmmgboodcfiaaDoorRowAt
import Derived.Sort.Grow
set_option linter.unusedVariables false
set_option linter.unusedSimpArgs false
namespace Go.Proofs.YtfpmmgboodcfiaaDoor
open Go.Shelf Go.RowKit Go.Lib Go.Sort

def cmpZ (a b : Int) : Int := if a < b then -1 else if b < a then 1 else 0
def cmpT (a b : List UInt8) : Int := if a < b then -1 else if b < a then 1 else 0
def orZ (a b : Int) : Int := if a = 0 then b else a
def cmpM (x y : Mrk) : Int := orZ (cmpZ x.1 y.1) (cmpT x.2.1.data.toList y.2.1.data.toList)
theorem ltOf_cmpM (x y : Mrk) : ltOf cmpM x y = decide (KLt (keyM x) (keyM y)) := by
  unfold ltOf cmpM orZ cmpZ
  by_cases h1 : x.1 < y.1
  · simp [h1]
  · rw [if_neg h1]
    by_cases h2 : y.1 < x.1
    · have h3 : x.1 ≠ y.1 := by omega
      simp [h1, h2, h3]
    · have h3 : x.1 = y.1 := by omega
      rw [if_neg h2, if_pos rfl]
      unfold cmpT
      by_cases h4 : x.2.1.data.toList < y.2.1.data.toList
      · simp [h3, h4]
      · rw [if_neg h4]
        by_cases h5 : y.2.1.data.toList < x.2.1.data.toList <;> simp [h3, h4, h5]
theorem swo_cmpM : SWO (ltOf cmpM) where
  irrefl x := by rw [ltOf_cmpM]; exact decide_eq_false klt_irrefl
  trans x y z h1 h2 := by
    rw [ltOf_cmpM] at *
    exact decide_eq_true (klt_trans (of_decide_eq_true h1) (of_decide_eq_true h2))
  ntrans x y z h1 h2 := by
    rw [ltOf_cmpM] at *
    have k1 := of_decide_eq_false h1
    have k2 := of_decide_eq_false h2
    refine decide_eq_false fun h => ?_
    by_cases e : keyM x = keyM y
    · rw [e] at h; exact k2 h
    · rcases klt_total e with q | q
      · exact k1 q
      · exact k2 (klt_trans q h)

def cellsM (m : Mrk) : List Value := [.int .i64 m.1, .string m.2.1, .string m.2.2]

set_option maxHeartbeats 400000 in
theorem nanI (a : Int) (w : World) : Calls Tryd.prog 41 #[.int .i64 a] w fun e w' => e = .returned (.bool false) ∧ w' = w := by
  have d0 : (a != a) = false := by simp
  go_enter Tryd.func41, Tryd.ntmps41
  go_wp2
  go_ret
  exact ⟨rfl, rfl⟩

set_option maxHeartbeats 400000 in
theorem nanT (a : ByteArray) (w : World) : Calls Tryd.prog 42 #[.string a] w fun e w' => e = .returned (.bool false) ∧ w' = w := by
  go_enter Tryd.func42, Tryd.ntmps42
  go_wp2
  go_ret
  exact ⟨by simp, rfl⟩

set_option maxHeartbeats 400000 in
theorem cmpZ_any (a b : Int) (w : World) : Calls Tryd.prog 24 #[.int .i64 a, .int .i64 b] w fun e w' => e = .returned (.int .i64 (cmpZ a b)) ∧ w' = w := by
  unfold cmpZ
  by_cases h1 : a < b
  · have d1 : decide (a < b) = true := decide_eq_true h1
    rw [if_pos h1]
    go_enter Tryd.func24, Tryd.ntmps24
    go_wp2_with (go_at_call 41; refine (nanI _ _).mono ?_; rintro e w' ⟨rfl, rfl⟩)
    go_ret
    exact ⟨rfl, rfl⟩
  · have d1 : decide (a < b) = false := decide_eq_false h1
    rw [if_neg h1]
    by_cases h2 : b < a
    · have d2 : decide (b < a) = true := decide_eq_true h2
      rw [if_pos h2]
      go_enter Tryd.func24, Tryd.ntmps24
      go_wp2_with (go_at_call 41; refine (nanI _ _).mono ?_; rintro e w' ⟨rfl, rfl⟩)
      go_ret
      exact ⟨rfl, rfl⟩
    · have d2 : decide (b < a) = false := decide_eq_false h2
      rw [if_neg h2]
      go_enter Tryd.func24, Tryd.ntmps24
      go_wp2_with (go_at_call 41; refine (nanI _ _).mono ?_; rintro e w' ⟨rfl, rfl⟩)
      go_ret
      exact ⟨rfl, rfl⟩

set_option maxHeartbeats 400000 in
theorem cmpT_any (a b : ByteArray) (w : World) : Calls Tryd.prog 25 #[.string a, .string b] w fun e w' => e = .returned (.int .i64 (cmpT a.data.toList b.data.toList)) ∧ w' = w := by
  unfold cmpT
  by_cases h1 : a.data.toList < b.data.toList
  · have d1 : Op.bytesLess a.toList b.toList = true := (less_bytes _ _).trans <| decide_eq_true h1
    rw [if_pos h1]
    go_enter Tryd.func25, Tryd.ntmps25
    go_wp2_with (go_at_call 42; refine (nanT _ _).mono ?_; rintro e w' ⟨rfl, rfl⟩)
    go_ret
    exact ⟨rfl, rfl⟩
  · have d1 : Op.bytesLess a.toList b.toList = false := (less_bytes _ _).trans <| decide_eq_false h1
    rw [if_neg h1]
    by_cases h2 : b.data.toList < a.data.toList
    · have d2 : (a.toList == b.toList) = false := by
        rw [ByteArray.toList_eq, ByteArray.toList_eq]
        exact beq_false_of_ne (fun e => by rw [e] at h2; exact List.lt_irrefl _ h2)
      rw [if_pos h2]
      go_enter Tryd.func25, Tryd.ntmps25
      go_wp2_with (go_at_call 42; refine (nanT _ _).mono ?_; rintro e w' ⟨rfl, rfl⟩)
      go_ret
      exact ⟨rfl, rfl⟩
    · have d2 : (a.toList == b.toList) = true := by
        rw [ByteArray.toList_eq, ByteArray.toList_eq]
        by_cases e : a.data.toList = b.data.toList
        · rw [e]; simp
        · rcases bytesTotal e with q | q
          · exact absurd q h1
          · exact absurd q h2
      rw [if_neg h2]
      go_enter Tryd.func25, Tryd.ntmps25
      go_wp2_with (go_at_call 42; refine (nanT _ _).mono ?_; rintro e w' ⟨rfl, rfl⟩)
      go_ret
      exact ⟨rfl, rfl⟩

set_option maxHeartbeats 400000 in
/-- cmp.Or of two numbers: the first that is not 0. -/
theorem or_any (w : World) (g : Nat) (a b : Int) (h0 : w.cell? ⟨g, 0, none⟩ = some (.int .i64 a)) (h1 : w.cell? ⟨g, 1, none⟩ = some (.int .i64 b)) :
    Calls Tryd.prog 23 #[.slice (some ⟨g, 0, none⟩) 2 2] w fun e w' => e = .returned (.int .i64 (orZ a b)) ∧ w' = w := by
  unfold orZ
  by_cases ha : a = 0
  · rw [if_pos ha]
    have da : (a != 0) = false := by simp [ha]
    clear ha
    by_cases hb : b = 0
    · have db : (b != 0) = false := by simp [hb]
      have HB := Lib.hid hb
      clear hb
      go_enter Tryd.func23, Tryd.ntmps23
      go_wp2
      refine wp_loop_rounds 3 ?_
      rw [rounds_succ]
      go_wp2
      rw [rounds_succ]
      go_wp2
      rw [rounds_succ]
      go_wp2
      go_ret
      exact ⟨by rw [HB.out]; rfl, rfl⟩
    · have db : (b != 0) = true := by simp [hb]
      clear hb
      go_enter Tryd.func23, Tryd.ntmps23
      go_wp2
      refine wp_loop_rounds 2 ?_
      rw [rounds_succ]
      go_wp2
      rw [rounds_succ]
      go_wp2
      go_ret
      exact ⟨rfl, rfl⟩
  · rw [if_neg ha]
    have da : (a != 0) = true := by simp [ha]
    clear ha
    go_enter Tryd.func23, Tryd.ntmps23
    go_wp2
    refine wp_loop_rounds 1 ?_
    rw [rounds_succ]
    go_wp2
    go_ret
    exact ⟨rfl, rfl⟩

set_option maxRecDepth 100000 in
set_option maxHeartbeats 1000000 in
theorem closureM (x y : Mrk) (w : World) : Calls Tryd.prog 22 (#[.agg (cellsM x).toArray, .agg (cellsM y).toArray] ++ #[]) w fun e w' => e = .returned (.int .i64 (cmpM x y)) ∧ ∃ q os', w' = grow (w.drewN q) os' := by
  obtain ⟨a, s, c⟩ := x
  obtain ⟨a', s', c'⟩ := y
  unfold cellsM
  dsimp only
  obtain ⟨S, hS⟩ : ∃ S, S = w.heap.size := ⟨_, rfl⟩
  obtain ⟨U, hU⟩ : ∃ U, U = (w.alloc (.cells #[.int .i64 a, .string s, .string c] 52)).alloc (.cells #[.int .i64 a', .string s', .string c'] 52) := ⟨_, rfl⟩
  have hu1 : U.heap[S + 1]? = some (.cells #[.int .i64 a', .string s', .string c'] 52 (0, 0)) := by
    have := heap_alloc_new (w.alloc (.cells #[.int .i64 a, .string s, .string c] 52)) (.cells #[.int .i64 a', .string s', .string c'] 52)
    rw [World.size_alloc] at this
    rw [hU, hS]
    exact this
  have hu0 : U.heap[S]? = some (.cells #[.int .i64 a, .string s, .string c] 52 (0, 0)) := by
    rw [hU, hS, Below.heap_alloc _ _ _ (by simp)]
    exact heap_alloc_new w _
  have x0 : U.drew.cell? ⟨S, 0, none⟩ = some (.int .i64 a) := by show U.cell? _ = _; simp [World.cell?, hu0]
  have x1 : U.drew.cell? ⟨S, 1, none⟩ = some (.string s) := by show U.cell? _ = _; simp [World.cell?, hu0]
  have y0 : U.drew.cell? ⟨S + 1, 0, none⟩ = some (.int .i64 a') := by show U.cell? _ = _; simp [World.cell?, hu1]
  have y1 : U.drew.cell? ⟨S + 1, 1, none⟩ = some (.string s') := by show U.cell? _ = _; simp [World.cell?, hu1]
  have HX : Aside (U.drew.cell? ⟨S, 0, none⟩ = some (.int .i64 a) ∧ U.drew.cell? ⟨S, 1, none⟩ = some (.string s) ∧ U.drew.cell? ⟨S + 1, 0, none⟩ = some (.int .i64 a') ∧ U.drew.cell? ⟨S + 1, 1, none⟩ = some (.string s')) := ⟨x0, x1, y0, y1⟩
  have HU : Aside (∃ os, U = grow w os) := ⟨_, by rw [hU, alloc_eq_grow, alloc_eq_grow, grow_grow]⟩
  clear hu0 hu1 x0 x1 y0 y1
  go_enter Tryd.func22, Tryd.ntmps22
  go_wp2_with fail
  rw [← hU, ← hS]
  clear hU hS
  refine wp_region_H (S := fun w' => w'.cell? ⟨S, 0, none⟩ = some (.int .i64 a) ∧ w'.cell? ⟨S, 1, none⟩ = some (.string s) ∧ w'.cell? ⟨S + 1, 0, none⟩ = some (.int .i64 a') ∧ w'.cell? ⟨S + 1, 1, none⟩ = some (.string s')) (by kernel_rfl) HX.out (fun hHeld => ?_)
  refine wpAnyH_take (i := 0) (v := ?va0) rfl (by kernel_rfl) (by kernel_rfl) (by kernel_rfl) (fun _ _ _ h => h) (Or.inl ⟨by rfl, ?hya0⟩) hHeld ?resta0
  case hya0 => (intro w' hSw; obtain ⟨k1, k2, k3, k4⟩ := hSw; go_simp; try with_reducible rfl)
  try simp only [Act.put, List.setIfInBounds_toArray, List.set_cons_zero, List.set_cons_succ]
  refine wpAnyH_take (i := 1) (v := ?va1) rfl (by kernel_rfl) (by kernel_rfl) (by kernel_rfl) (fun _ _ _ h => h) (Or.inl ⟨by rfl, ?hya1⟩) hHeld ?resta1
  case hya1 => (intro w' hSw; obtain ⟨k1, k2, k3, k4⟩ := hSw; go_simp; try with_reducible rfl)
  try simp only [Act.put, List.setIfInBounds_toArray, List.set_cons_zero, List.set_cons_succ]
  refine wpAnyH_take (i := 2) (v := ?va2) rfl (by kernel_rfl) (by kernel_rfl) (by kernel_rfl) (fun _ _ _ h => h) (Or.inl ⟨by rfl, ?hya2⟩) hHeld ?resta2
  case hya2 => (intro w' hSw; obtain ⟨k1, k2, k3, k4⟩ := hSw; go_simp; try with_reducible rfl)
  try simp only [Act.put, List.setIfInBounds_toArray, List.set_cons_zero, List.set_cons_succ]
  refine wpAnyH_take (i := 3) (v := ?va3) rfl (by kernel_rfl) (by kernel_rfl) (by kernel_rfl) (fun _ _ _ h => h) (Or.inl ⟨by rfl, ?hya3⟩) hHeld ?resta3
  case hya3 => (intro w' hSw; obtain ⟨k1, k2, k3, k4⟩ := hSw; go_simp; try with_reducible rfl)
  try simp only [Act.put, List.setIfInBounds_toArray, List.set_cons_zero, List.set_cons_succ]
  refine wpAnyH_take (i := 5) (v := ?va5) rfl (by kernel_rfl) (by kernel_rfl) (by kernel_rfl) (fun _ _ _ h => h) (Or.inl ⟨by rfl, ?hya5⟩) hHeld ?resta5
  case hya5 => (intro w' hSw; obtain ⟨k1, k2, k3, k4⟩ := hSw; go_simp; try with_reducible rfl)
  try simp only [Act.put, List.setIfInBounds_toArray, List.set_cons_zero, List.set_cons_succ]
  refine wpAnyH_take (i := 6) (v := ?va6) rfl (by kernel_rfl) (by kernel_rfl) (by kernel_rfl) (fun _ _ _ h => h) (Or.inl ⟨by rfl, ?hya6⟩) hHeld ?resta6
  case hya6 => (intro w' hSw; obtain ⟨k1, k2, k3, k4⟩ := hSw; go_simp; try with_reducible rfl)
  try simp only [Act.put, List.setIfInBounds_toArray, List.set_cons_zero, List.set_cons_succ]
  refine wpAnyH_take (i := 7) (v := ?va7) rfl (by kernel_rfl) (by kernel_rfl) (by kernel_rfl) (fun _ _ _ h => h) (Or.inl ⟨by rfl, ?hya7⟩) hHeld ?resta7
  case hya7 => (intro w' hSw; obtain ⟨k1, k2, k3, k4⟩ := hSw; go_simp; try with_reducible rfl)
  try simp only [Act.put, List.setIfInBounds_toArray, List.set_cons_zero, List.set_cons_succ]
  refine wpAnyH_take (i := 8) (v := ?va8) rfl (by kernel_rfl) (by kernel_rfl) (by kernel_rfl) (fun _ _ _ h => h) (Or.inl ⟨by rfl, ?hya8⟩) hHeld ?resta8
  case hya8 => (intro w' hSw; obtain ⟨k1, k2, k3, k4⟩ := hSw; go_simp; try with_reducible rfl)
  try simp only [Act.put, List.setIfInBounds_toArray, List.set_cons_zero, List.set_cons_succ]
  refine wpAnyH_one (i := 4) (by kernel_rfl) rfl (fun K hK => ?_)
  go_simp
  refine (cmpZ_any _ _ _).mono ?_
  rintro e w1 ⟨rfl, rfl⟩
  refine hK _ _ HX.out ?_
  clear hK K
  try simp only [Act.put, List.setIfInBounds_toArray, List.set_cons_zero, List.set_cons_succ]
  refine wpAnyH_one (i := 9) (by kernel_rfl) rfl (fun K hK => ?_)
  go_simp
  refine (cmpT_any _ _ _).mono ?_
  rintro e w1 ⟨rfl, rfl⟩
  refine hK _ _ HX.out ?_
  clear hK K
  try simp only [Act.put, List.setIfInBounds_toArray, List.set_cons_zero, List.set_cons_succ]
  refine wpAnyH_one (i := 10) (by kernel_rfl) rfl (fun K hK => ?_)
  go_simp
  obtain ⟨V, hV⟩ : ∃ V, V = (U.alloc (.cells #[.int .i64 (cmpZ a a'), .int .i64 (cmpT s.data.toList s'.data.toList)] 3)).drew := ⟨_, rfl⟩
  have hbV : Below U.drew.heap.size U.drew V := by rw [hV]; exact ⟨rfl, rfl, rfl, ((Below.refl U.heap.size U).alloc (Nat.le_refl _) _).size, ((Below.refl U.heap.size U).alloc (Nat.le_refl _) (.cells #[.int .i64 (cmpZ a a'), .int .i64 (cmpT s.data.toList s'.data.toList)] 3)).block⟩
  have hVn : V.heap[U.heap.size]? = some (.cells #[.int .i64 (cmpZ a a'), .int .i64 (cmpT s.data.toList s'.data.toList)] 3 (0, 0)) := by rw [hV]; exact heap_alloc_new U _
  have HV : Aside (∃ q os', V = grow (w.drewN q) os') := by
    obtain ⟨os, rfl⟩ := HU.out
    exact ⟨1, _, by rw [hV, alloc_eq_grow, grow_grow]; rfl⟩
  have g0 : V.cell? ⟨U.heap.size, 0, none⟩ = some (.int .i64 (cmpZ a a')) := by simp [World.cell?, hVn]
  have g1 : V.cell? ⟨U.heap.size, 1, none⟩ = some (.int .i64 (cmpT s.data.toList s'.data.toList)) := by simp [World.cell?, hVn]
  rw [← hV]
  have HY : Aside (V.cell? ⟨S, 0, none⟩ = some (.int .i64 a) ∧ V.cell? ⟨S, 1, none⟩ = some (.string s) ∧ V.cell? ⟨S + 1, 0, none⟩ = some (.int .i64 a') ∧ V.cell? ⟨S + 1, 1, none⟩ = some (.string s')) := ⟨cellHeld hbV HX.out.1, cellHeld hbV HX.out.2.1, cellHeld hbV HX.out.2.2.1, cellHeld hbV HX.out.2.2.2⟩
  refine hK _ _ HY.out ?_
  clear hK K hV hbV hVn
  try simp only [Act.put, List.setIfInBounds_toArray, List.set_cons_zero, List.set_cons_succ]
  refine wpAnyH_one (i := 11) (by kernel_rfl) rfl (fun K hK => ?_)
  go_simp
  refine (or_any V _ _ _ g0 g1).mono ?_
  rintro e w1 ⟨rfl, rfl⟩
  refine hK _ _ HY.out ?_
  clear hK K
  try simp only [Act.put, List.setIfInBounds_toArray, List.set_cons_zero, List.set_cons_succ]
  refine wpAnyH_one (i := 12) (by kernel_rfl) rfl (fun K hK => ?_)
  go_simp
  refine hK _ _ HY.out ?_
  clear hK K
  refine wpAnyH_done (by kernel_rfl) ?_ _
  clear hHeld
  go_wp2
  go_ret
  exact ⟨rfl, HV.out⟩
theorem cmp_laysM (blk off size : Nat) (w : World) : CmpLays Tryd.prog 22 #[] cellsM 3 cmpM blk off size w := fun _ _ _ _ x y => closureM x y _
theorem eg_cmpM : ∀ args w, (callFunc 22 args).run Tryd.prog w = .ok (.enter 22 args) w := enters_of Tryd.func22 (by kernel_rfl) rfl
theorem cellsM_len (x : Mrk) : (cellsM x).length = 3 := rfl
theorem cellsM_one (x : Mrk) : ∀ v ∈ cellsM x, v.oneCell' = true := by
  intro v hv
  simp only [cellsM, List.mem_cons, List.not_mem_nil, or_false] at hv
  rcases hv with rfl | rfl | rfl <;> rfl
theorem sortWorld_keepsM (w : World) (g n : Nat) (d : Array Mrk) (os : Array Obj) : Keeps (fun k => k = g) w (sortWorldK cellsM 3 w g 0 n d os) := by
  refine ⟨rfl, rfl, rfl, ?_, fun k hk hs => ?_⟩
  · simp [sortWorldK, putRowK, putRow, mapBlock, Sort.ahead, grow]
  · have hgk : g ≠ k := fun e => hs e.symm
    simp only [sortWorldK, putRowK, putRow, mapBlock, Sort.ahead, grow]
    rw [Array.getElem?_append_left (by simpa using hk)]
    simp [Array.getElem?_modify, hgk]

/-- A row of marks, as the sort holds it. -/
theorem holdsM {w : World} {base g cap n : Nat} {ps : List Mrk} (h : w.ownsRow base 52 3 (.slice (some ⟨g, 0, none⟩) n cap) n (flat cellsM ps)) (hn : n = ps.length) : HoldsK cellsM 3 w g 0 ps.toArray := fun j hj => by
  rw [size_flatK] at hj
  simp only [List.size_toArray] at hj
  have h1 : j / 3 < ps.length := by omega
  have h2 : j / 3 * 3 + j % 3 = j := by omega
  refine ⟨?_, by rw [Nat.zero_add]; exact h.frozenAt j⟩
  rw [Nat.zero_add, h.cellAt j (by omega), get_flatK _ _ _ _ (by simpa using hj)]
  have := flat_get (enc := cellsM) cellsM_len (L := ps) (i := j / 3) (c := j % 3) (x := ps[j / 3]) (List.getElem?_eq_getElem h1) (by omega)
  rw [h2] at this
  rw [this, getElem!_pos ps.toArray (j / 3) (by simpa using h1), List.getElem_toArray, List.getElem?_eq_getElem (by rw [cellsM_len]; omega), getElem!_pos _ (j % 3) (by rw [cellsM_len]; omega)]
  rfl
theorem holds_cellsM {w : World} {g : Nat} {d : Array Mrk} (h : HoldsK cellsM 3 w g 0 d) (j : Nat) (u : Value) (hj : (flat cellsM d.toList)[j]? = some u) : w.cell? ⟨g, j, none⟩ = some u := by
  have hl := (List.getElem?_eq_some_iff.1 hj).1
  rw [flat_len cellsM_len, Array.length_toList] at hl
  have h1 : j / 3 < d.size := by omega
  have h2 : j / 3 * 3 + j % 3 = j := by omega
  have H := (h j (by rw [size_flatK]; omega)).1
  rw [Nat.zero_add, get_flatK _ _ _ _ (by omega)] at H
  have := flat_get (enc := cellsM) cellsM_len (L := d.toList) (i := j / 3) (c := j % 3) (x := d[j / 3]) (by rw [Array.getElem?_toList, Array.getElem?_eq_getElem h1]) (by omega)
  rw [h2, hj, List.getElem?_eq_getElem (by rw [cellsM_len]; omega)] at this
  rw [H, getElem!_pos d (j / 3) h1, getElem!_pos _ (j % 3) (by rw [cellsM_len]; omega), this]
  rfl

/-- slices.SortFunc(s, cmp) at marks: the same ones, by node, then name. -/
theorem sortMk (w : World) (base g cap : Nat) (ps : List Mrk) (hown : w.ownsRow base 52 3 (.slice (some ⟨g, 0, none⟩) ps.length cap) ps.length (flat cellsM ps)) (hl : ps.length ≤ 100000) :
    Calls Tryd.prog 21 #[.slice (some ⟨g, 0, none⟩) ps.length cap, .func (.func 22) #[] #[]] w fun e w' => e = .returned (.tuple #[]) ∧ ∃ qs : List Mrk, qs.Perm ps ∧ qs.Pairwise (fun a b => ¬ KLt (keyM b) (keyM a)) ∧ (∀ j u, (flat cellsM qs)[j]? = some u → w'.cell? ⟨g, j, none⟩ = some u) ∧ Keeps (fun k => k = g) w w' := by
  have hH := holdsM hown rfl
  have hblk : g < w.heap.size := (hown.lt g rfl).2
  have h := AnyQ.slices_SortFunc sortMarks 3 Tryd.isAgg52 Tryd.sizeOf52 cellsM cellsM_len cellsM_one cmpM swo_cmpM 22 #[] g 0 cap ps.toArray w eg_cmpM (cmp_laysM g 0 ps.toArray.size w) hH hblk (by simp; omega)
  refine Calls.mono h ?_
  rintro e w' ⟨rfl, d', n, os, hp, hs, rfl⟩
  simp only [List.size_toArray] at hp hs
  have hsz : d'.size = ps.length := by have := hp.1; simpa using this
  have hperm : d'.toList.Perm ps := by
    have := hp.2.2
    simp only [Array.toList_extract] at this
    rw [List.extract_eq_take_drop, List.extract_eq_take_drop, List.drop_zero, List.drop_zero, Nat.sub_zero, List.take_of_length_le (by simp [hsz]), List.take_of_length_le (by simp)] at this
    exact this
  refine ⟨rfl, d'.toList, hperm, ?_, ?_, sortWorld_keepsM w g n d' os⟩
  · rw [List.pairwise_iff_getElem]
    intro i j hi hj hij
    have hi' : i < d'.size := by simpa using hi
    have hj' : j < d'.size := by simpa using hj
    have := hs i j (Nat.zero_le _) hij (by omega)
    rw [ltOf_cmpM, getElem!_pos d' i hi', getElem!_pos d' j hj'] at this
    have := of_decide_eq_false this
    simpa using this
  · exact holds_cellsM ((show SWK cellsM 3 w g 0 d' _ from ⟨n, os, rfl⟩).holds hblk hH (by rw [hsz]; simp))
theorem sortMk_none (p : Option Addr) (cap : Nat) (fv : Value) (w : World) : Calls Tryd.prog 21 #[.slice p 0 cap, fv] w fun e w' => e = .returned (.tuple #[]) ∧ w' = w :=
  AnyF.slices_SortFunc_none sortMarks p cap fv w
end Go.Proofs.YtfpmmgboodcfiaaDoor
