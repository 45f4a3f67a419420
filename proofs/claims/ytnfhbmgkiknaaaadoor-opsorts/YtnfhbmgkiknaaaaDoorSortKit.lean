/- The comparison of package op's Sort, and operations as the sort's elements (each with the place at which it stood), over the translation. -/
import Derived.Test.YtnfhbmgkiknaaaaDoorStampWalks
import Derived.Test.YtnfhbmgkiknaaaaDoorOpRow
import Derived.Test.YtnfhbmgkiknaaaaDoorSortPure
import Derived.Shelf.SlSortCmp.KitK
import Derived.Deep.LoopGhost
import Derived.Lib.Hide
import Derived.Lib.AppendIntMem
namespace Go.Proofs.YtnfhbmgkiknaaaaDoor
open Go.Shelf Go.RowKit Go.Lib Go.Sort

def encT (x : OpX × Nat) : List Value := encX x.1
theorem encT_len (x : OpX × Nat) : (encT x).length = 8 := rfl
theorem encT_one (x : OpX × Nat) : ∀ v ∈ encT x, v.oneCell' = true := by
  intro v hv
  simp [encT, encX] at hv
  rcases hv with rfl | rfl | rfl | rfl | rfl | rfl | rfl | rfl <;> rfl
def ltX (x y : OpX) : Bool := lessB x.1 x.2.1 y.1 y.2.1
def cmpX (x y : OpX × Nat) : Int := if ltX x.1 y.1 then -1 else if ltX y.1 x.1 then 1 else 0
theorem cmpX_lt (x y : OpX × Nat) : decide (cmpX x y < 0) = tlt ltX x y := by
  unfold cmpX tlt
  cases h : ltX x.1 y.1 with
  | true => rfl
  | false =>
    simp only [Bool.false_eq_true, if_false]
    split <;> rfl
theorem ltOf_cmpX : ltOf cmpX = tlt ltX := by
  funext x y
  exact cmpX_lt x y
theorem lessB_is (t b t' b' : Int) : lessB t b t' b' = decide (t < t' ∨ (t = t' ∧ b < b')) := by
  unfold lessB
  by_cases h : t = t'
  · subst h; simp
  · rw [if_neg h]; simp [h]
theorem ltX_swo : SWO ltX where
  irrefl x := by unfold ltX; rw [lessB_is]; simp
  trans x y z h1 h2 := by unfold ltX at *; rw [lessB_is] at *; simp at *; omega
  ntrans x y z h1 h2 := by unfold ltX at *; rw [lessB_is] at *; simp at *; omega

theorem grows_trans {w w1 w2 : World} (h1 : ∃ q os, w1 = grow (w.drewN q) os) (h2 : ∃ q os, w2 = grow (w1.drewN q) os) : ∃ q os, w2 = grow (w.drewN q) os := by
  obtain ⟨q, os, rfl⟩ := h1
  obtain ⟨q', os', rfl⟩ := h2
  exact ⟨q + q', os ++ os', by rw [← grow_grow, ← World.drewN_drewN]; rfl⟩

/-- Less, and what it lays. -/
theorem less_grow (t b t' b' : Int) (w : World) :
    Calls Tryd.prog 18 #[.agg #[.int .i64 t, .int .i64 b], .agg #[.int .i64 t', .int .i64 b']] w fun e w' => e = .returned (.bool (lessB t b t' b')) ∧ ∃ q os, w' = grow (w.drewN q) os := by
  unfold lessB
  by_cases h : t = t'
  · have hd : (t != t') = false := by simp [h]
    rw [if_pos h]
    clear h
    go_enter Tryd.func18, Tryd.ntmps18
    go_wp2
    go_ret
    exact ⟨rfl, 0, _, by rw [alloc_eq_grow, alloc_eq_grow, grow_grow]; rfl⟩
  · have hd : (t != t') = true := by simp [h]
    rw [if_neg h]
    clear h
    go_enter Tryd.func18, Tryd.ntmps18
    go_wp2
    go_ret
    exact ⟨rfl, 0, _, by rw [alloc_eq_grow, alloc_eq_grow, grow_grow]; rfl⟩

theorem less_is (t b t' b' : Int) (z : Bool) (w : World) (hz : lessB t b t' b' = z) :
    Calls Tryd.prog 18 #[.agg #[.int .i64 t, .int .i64 b], .agg #[.int .i64 t', .int .i64 b']] w fun e w' => e = .returned (.bool z) ∧ ∃ q os, w' = grow (w.drewN q) os := by rw [← hz]; exact less_grow t b t' b' w

theorem below_grows {w w' : World} (h : ∃ q os, w' = grow (w.drewN q) os) : Below w.heap.size w w' := by
  obtain ⟨q, os, rfl⟩ := h
  exact Lib.below_grow _ _ (Nat.le_refl _) _ _

set_option maxRecDepth 100000 in
set_option maxHeartbeats 2000000 in
/-- The closure of Sort. -/
theorem closure_any (x y : OpX × Nat) (w : World) :
    Calls Tryd.prog 75 #[.agg (encT x).toArray, .agg (encT y).toArray] w fun e w' => e = .returned (.int .i64 (cmpX x y)) ∧ ∃ q os, w' = grow (w.drewN q) os := by
  obtain ⟨⟨t, b, n, k, node, other, name, value⟩, i⟩ := x
  obtain ⟨⟨t', b', n', k', node', other', name', value'⟩, i'⟩ := y
  have hg : ∃ q os, ((w.alloc (.cells #[.int .i64 t, .int .i64 b, .int .i64 n, .int .u8 (k : Int), .int .i64 node, .int .i64 other, .string name, .string value] 77)).alloc (.cells #[.int .i64 t', .int .i64 b', .int .i64 n', .int .u8 (k' : Int), .int .i64 node', .int .i64 other', .string name', .string value'] 77)) = grow (w.drewN q) os := ⟨0, _, by rw [alloc_eq_grow, alloc_eq_grow, grow_grow]; rfl⟩
  have c0 : ((w.alloc (.cells #[.int .i64 t, .int .i64 b, .int .i64 n, .int .u8 (k : Int), .int .i64 node, .int .i64 other, .string name, .string value] 77)).alloc (.cells #[.int .i64 t', .int .i64 b', .int .i64 n', .int .u8 (k' : Int), .int .i64 node', .int .i64 other', .string name', .string value'] 77)).cell? ⟨w.heap.size, 0, none⟩ = some (.int .i64 t) := by simp [go_sem]
  have c1 : ((w.alloc (.cells #[.int .i64 t, .int .i64 b, .int .i64 n, .int .u8 (k : Int), .int .i64 node, .int .i64 other, .string name, .string value] 77)).alloc (.cells #[.int .i64 t', .int .i64 b', .int .i64 n', .int .u8 (k' : Int), .int .i64 node', .int .i64 other', .string name', .string value'] 77)).cell? ⟨w.heap.size, 1, none⟩ = some (.int .i64 b) := by simp [go_sem]
  have c2 : ((w.alloc (.cells #[.int .i64 t, .int .i64 b, .int .i64 n, .int .u8 (k : Int), .int .i64 node, .int .i64 other, .string name, .string value] 77)).alloc (.cells #[.int .i64 t', .int .i64 b', .int .i64 n', .int .u8 (k' : Int), .int .i64 node', .int .i64 other', .string name', .string value'] 77)).cell? ⟨w.heap.size + 1, 0, none⟩ = some (.int .i64 t') := by simp [go_sem]
  have c3 : ((w.alloc (.cells #[.int .i64 t, .int .i64 b, .int .i64 n, .int .u8 (k : Int), .int .i64 node, .int .i64 other, .string name, .string value] 77)).alloc (.cells #[.int .i64 t', .int .i64 b', .int .i64 n', .int .u8 (k' : Int), .int .i64 node', .int .i64 other', .string name', .string value'] 77)).cell? ⟨w.heap.size + 1, 1, none⟩ = some (.int .i64 b') := by simp [go_sem]
  unfold cmpX ltX
  simp only [encT, encX]
  cases h1 : lessB t b t' b' with
  | true =>
    have H1 := Lib.hid h1
    clear h1
    go_enter Tryd.func75, Tryd.ntmps75
    go_wp2_with fail
    generalize ((w.alloc (.cells #[.int .i64 t, .int .i64 b, .int .i64 n, .int .u8 (k : Int), .int .i64 node, .int .i64 other, .string name, .string value] 77)).alloc (.cells #[.int .i64 t', .int .i64 b', .int .i64 n', .int .u8 (k' : Int), .int .i64 node', .int .i64 other', .string name', .string value'] 77)) = u at hg c0 c1 c2 c3 ⊢
    refine (less_is _ _ _ _ true _ H1.out).mono ?_
    rintro e w1 ⟨rfl, hb⟩
    have hg1 := grows_trans hg hb
    clear hb c0 c1 c2 c3
    go_wp2
    go_ret
    exact ⟨rfl, hg1⟩
  | false =>
    have H1 := Lib.hid h1
    clear h1
    cases h2 : lessB t' b' t b with
    | true =>
      have H2 := Lib.hid h2
      clear h2
      go_enter Tryd.func75, Tryd.ntmps75
      go_wp2_with fail
      generalize ((w.alloc (.cells #[.int .i64 t, .int .i64 b, .int .i64 n, .int .u8 (k : Int), .int .i64 node, .int .i64 other, .string name, .string value] 77)).alloc (.cells #[.int .i64 t', .int .i64 b', .int .i64 n', .int .u8 (k' : Int), .int .i64 node', .int .i64 other', .string name', .string value'] 77)) = u at hg c0 c1 c2 c3 ⊢
      refine (less_is _ _ _ _ false _ H1.out).mono ?_
      rintro e w1 ⟨rfl, hb⟩
      have hg1 := grows_trans hg hb
      have e0 := cellKept (below_grows hb) c0
      have e1 := cellKept (below_grows hb) c1
      have e2 := cellKept (below_grows hb) c2
      have e3 := cellKept (below_grows hb) c3
      clear hb c0 c1 c2 c3 hg
      go_wp2_with fail
      refine (less_is _ _ _ _ true _ H2.out).mono ?_
      rintro e w2 ⟨rfl, hb⟩
      have hg2 := grows_trans hg1 hb
      clear hb e0 e1 e2 e3 hg1
      go_wp2
      go_ret
      exact ⟨rfl, hg2⟩
    | false =>
      have H2 := Lib.hid h2
      clear h2
      go_enter Tryd.func75, Tryd.ntmps75
      go_wp2_with fail
      generalize ((w.alloc (.cells #[.int .i64 t, .int .i64 b, .int .i64 n, .int .u8 (k : Int), .int .i64 node, .int .i64 other, .string name, .string value] 77)).alloc (.cells #[.int .i64 t', .int .i64 b', .int .i64 n', .int .u8 (k' : Int), .int .i64 node', .int .i64 other', .string name', .string value'] 77)) = u at hg c0 c1 c2 c3 ⊢
      refine (less_is _ _ _ _ false _ H1.out).mono ?_
      rintro e w1 ⟨rfl, hb⟩
      have hg1 := grows_trans hg hb
      have e0 := cellKept (below_grows hb) c0
      have e1 := cellKept (below_grows hb) c1
      have e2 := cellKept (below_grows hb) c2
      have e3 := cellKept (below_grows hb) c3
      clear hb c0 c1 c2 c3 hg
      go_wp2_with fail
      refine (less_is _ _ _ _ false _ H2.out).mono ?_
      rintro e w2 ⟨rfl, hb⟩
      have hg2 := grows_trans hg1 hb
      clear hb e0 e1 e2 e3 hg1
      go_wp2
      go_ret
      exact ⟨rfl, hg2⟩

theorem cmp_lays (blk off size : Nat) (w : World) : CmpLays Tryd.prog 75 #[] encT 8 cmpX blk off size w := fun _ _ _ _ x y => closure_any x y _
theorem eg_cmp : ∀ args w, (callFunc 75 args).run Tryd.prog w = .ok (.enter 75 args) w := enters_of Tryd.func75 (by kernel_rfl) rfl
end Go.Proofs.YtnfhbmgkiknaaaaDoor
