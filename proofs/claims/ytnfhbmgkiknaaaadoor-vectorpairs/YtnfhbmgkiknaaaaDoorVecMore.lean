/- Contracts of the vector's other functions on numbers: the program's Order, Lacks and Check of a vector that is out of bounds; the reference's VectorFault, Fine and Bare; the law's tame and faulted. -/
import Derived.Test.YtnfhbmgkiknaaaaDoorVecText
import Derived.Test.YtnfhbmgkiknaaaaDoorVecPure
import Derived.Test.YtnfhbmgkiknaaaaDoorCodeWalks
namespace Go.Proofs.YtnfhbmgkiknaaaaDoor
open Go.RowKit

set_option maxRecDepth 100000 in
set_option maxHeartbeats 1000000 in
theorem tame_0lo (a0 a1 a2 a3 : Int) (w : World) (hb : a0 < -1099511627776) :
    Calls Tryd.prog 30 #[.agg #[.int .i64 a0, .int .i64 a1, .int .i64 a2, .int .i64 a3]] w fun e w' => e = .returned (.bool false) ∧ Below w.heap.size w w' := by
  go_enter Tryd.func30, Tryd.ntmps30
  go_wp2
  refine wp_loop_rounds 5 ?_
  rw [rounds_succ]; go_wp2
  go_ret
  exact ⟨rfl, (Below.refl _ _).alloc (Nat.le_refl _) _⟩

set_option maxRecDepth 100000 in
set_option maxHeartbeats 1000000 in
theorem tame_0hi (a0 a1 a2 a3 : Int) (w : World) (l0 : -1099511627776 ≤ a0) (hb : 1099511627776 < a0) :
    Calls Tryd.prog 30 #[.agg #[.int .i64 a0, .int .i64 a1, .int .i64 a2, .int .i64 a3]] w fun e w' => e = .returned (.bool false) ∧ Below w.heap.size w w' := by
  go_enter Tryd.func30, Tryd.ntmps30
  go_wp2
  refine wp_loop_rounds 5 ?_
  rw [rounds_succ]; go_wp2
  go_ret
  exact ⟨rfl, (Below.refl _ _).alloc (Nat.le_refl _) _⟩

set_option maxRecDepth 100000 in
set_option maxHeartbeats 1000000 in
theorem tame_1lo (a0 a1 a2 a3 : Int) (w : World) (l0 : -1099511627776 ≤ a0) (g0 : a0 ≤ 1099511627776) (hb : a1 < -1099511627776) :
    Calls Tryd.prog 30 #[.agg #[.int .i64 a0, .int .i64 a1, .int .i64 a2, .int .i64 a3]] w fun e w' => e = .returned (.bool false) ∧ Below w.heap.size w w' := by
  go_enter Tryd.func30, Tryd.ntmps30
  go_wp2
  refine wp_loop_rounds 5 ?_
  rw [rounds_succ]; go_wp2
  rw [rounds_succ]; go_wp2
  go_ret
  exact ⟨rfl, (Below.refl _ _).alloc (Nat.le_refl _) _⟩

set_option maxRecDepth 100000 in
set_option maxHeartbeats 1000000 in
theorem tame_1hi (a0 a1 a2 a3 : Int) (w : World) (l0 : -1099511627776 ≤ a0) (g0 : a0 ≤ 1099511627776) (l1 : -1099511627776 ≤ a1) (hb : 1099511627776 < a1) :
    Calls Tryd.prog 30 #[.agg #[.int .i64 a0, .int .i64 a1, .int .i64 a2, .int .i64 a3]] w fun e w' => e = .returned (.bool false) ∧ Below w.heap.size w w' := by
  go_enter Tryd.func30, Tryd.ntmps30
  go_wp2
  refine wp_loop_rounds 5 ?_
  rw [rounds_succ]; go_wp2
  rw [rounds_succ]; go_wp2
  go_ret
  exact ⟨rfl, (Below.refl _ _).alloc (Nat.le_refl _) _⟩

set_option maxRecDepth 100000 in
set_option maxHeartbeats 1000000 in
theorem tame_2lo (a0 a1 a2 a3 : Int) (w : World) (l0 : -1099511627776 ≤ a0) (g0 : a0 ≤ 1099511627776) (l1 : -1099511627776 ≤ a1) (g1 : a1 ≤ 1099511627776) (hb : a2 < -1099511627776) :
    Calls Tryd.prog 30 #[.agg #[.int .i64 a0, .int .i64 a1, .int .i64 a2, .int .i64 a3]] w fun e w' => e = .returned (.bool false) ∧ Below w.heap.size w w' := by
  go_enter Tryd.func30, Tryd.ntmps30
  go_wp2
  refine wp_loop_rounds 5 ?_
  rw [rounds_succ]; go_wp2
  rw [rounds_succ]; go_wp2
  rw [rounds_succ]; go_wp2
  go_ret
  exact ⟨rfl, (Below.refl _ _).alloc (Nat.le_refl _) _⟩

set_option maxRecDepth 100000 in
set_option maxHeartbeats 1000000 in
theorem tame_2hi (a0 a1 a2 a3 : Int) (w : World) (l0 : -1099511627776 ≤ a0) (g0 : a0 ≤ 1099511627776) (l1 : -1099511627776 ≤ a1) (g1 : a1 ≤ 1099511627776) (l2 : -1099511627776 ≤ a2) (hb : 1099511627776 < a2) :
    Calls Tryd.prog 30 #[.agg #[.int .i64 a0, .int .i64 a1, .int .i64 a2, .int .i64 a3]] w fun e w' => e = .returned (.bool false) ∧ Below w.heap.size w w' := by
  go_enter Tryd.func30, Tryd.ntmps30
  go_wp2
  refine wp_loop_rounds 5 ?_
  rw [rounds_succ]; go_wp2
  rw [rounds_succ]; go_wp2
  rw [rounds_succ]; go_wp2
  go_ret
  exact ⟨rfl, (Below.refl _ _).alloc (Nat.le_refl _) _⟩

set_option maxRecDepth 100000 in
set_option maxHeartbeats 1000000 in
theorem tame_3lo (a0 a1 a2 a3 : Int) (w : World) (l0 : -1099511627776 ≤ a0) (g0 : a0 ≤ 1099511627776) (l1 : -1099511627776 ≤ a1) (g1 : a1 ≤ 1099511627776) (l2 : -1099511627776 ≤ a2) (g2 : a2 ≤ 1099511627776) (hb : a3 < -1099511627776) :
    Calls Tryd.prog 30 #[.agg #[.int .i64 a0, .int .i64 a1, .int .i64 a2, .int .i64 a3]] w fun e w' => e = .returned (.bool false) ∧ Below w.heap.size w w' := by
  go_enter Tryd.func30, Tryd.ntmps30
  go_wp2
  refine wp_loop_rounds 5 ?_
  rw [rounds_succ]; go_wp2
  rw [rounds_succ]; go_wp2
  rw [rounds_succ]; go_wp2
  rw [rounds_succ]; go_wp2
  go_ret
  exact ⟨rfl, (Below.refl _ _).alloc (Nat.le_refl _) _⟩

set_option maxRecDepth 100000 in
set_option maxHeartbeats 1000000 in
theorem tame_3hi (a0 a1 a2 a3 : Int) (w : World) (l0 : -1099511627776 ≤ a0) (g0 : a0 ≤ 1099511627776) (l1 : -1099511627776 ≤ a1) (g1 : a1 ≤ 1099511627776) (l2 : -1099511627776 ≤ a2) (g2 : a2 ≤ 1099511627776) (l3 : -1099511627776 ≤ a3) (hb : 1099511627776 < a3) :
    Calls Tryd.prog 30 #[.agg #[.int .i64 a0, .int .i64 a1, .int .i64 a2, .int .i64 a3]] w fun e w' => e = .returned (.bool false) ∧ Below w.heap.size w w' := by
  go_enter Tryd.func30, Tryd.ntmps30
  go_wp2
  refine wp_loop_rounds 5 ?_
  rw [rounds_succ]; go_wp2
  rw [rounds_succ]; go_wp2
  rw [rounds_succ]; go_wp2
  rw [rounds_succ]; go_wp2
  go_ret
  exact ⟨rfl, (Below.refl _ _).alloc (Nat.le_refl _) _⟩

set_option maxRecDepth 100000 in
set_option maxHeartbeats 1000000 in
theorem tame_4 (a0 a1 a2 a3 : Int) (w : World) (l0 : -1099511627776 ≤ a0) (g0 : a0 ≤ 1099511627776) (l1 : -1099511627776 ≤ a1) (g1 : a1 ≤ 1099511627776) (l2 : -1099511627776 ≤ a2) (g2 : a2 ≤ 1099511627776) (l3 : -1099511627776 ≤ a3) (g3 : a3 ≤ 1099511627776) :
    Calls Tryd.prog 30 #[.agg #[.int .i64 a0, .int .i64 a1, .int .i64 a2, .int .i64 a3]] w fun e w' => e = .returned (.bool true) ∧ Below w.heap.size w w' := by
  go_enter Tryd.func30, Tryd.ntmps30
  go_wp2
  refine wp_loop_rounds 5 ?_
  rw [rounds_succ]; go_wp2
  rw [rounds_succ]; go_wp2
  rw [rounds_succ]; go_wp2
  rw [rounds_succ]; go_wp2
  rw [rounds_succ]; go_wp2
  go_ret
  exact ⟨rfl, (Below.refl _ _).alloc (Nat.le_refl _) _⟩

/-- Are the numbers not too great for sums? -/
abbrev tameP (a0 a1 a2 a3 : Int) : Prop := (-1099511627776 ≤ a0 ∧ a0 ≤ 1099511627776) ∧ (-1099511627776 ≤ a1 ∧ a1 ≤ 1099511627776) ∧ (-1099511627776 ≤ a2 ∧ a2 ≤ 1099511627776) ∧ (-1099511627776 ≤ a3 ∧ a3 ≤ 1099511627776)

theorem tame_any (a0 a1 a2 a3 : Int) (w : World) : Calls Tryd.prog 30 #[.agg #[.int .i64 a0, .int .i64 a1, .int .i64 a2, .int .i64 a3]] w fun e w' => e = .returned (.bool (decide (tameP a0 a1 a2 a3))) ∧ Below w.heap.size w w' := by
  by_cases l0 : a0 < -1099511627776
  · rw [decide_eq_false (by unfold tameP; omega)]; exact tame_0lo a0 a1 a2 a3 w  (by omega)
  by_cases g0 : 1099511627776 < a0
  · rw [decide_eq_false (by unfold tameP; omega)]; exact tame_0hi a0 a1 a2 a3 w  (by omega) (by omega)
  by_cases l1 : a1 < -1099511627776
  · rw [decide_eq_false (by unfold tameP; omega)]; exact tame_1lo a0 a1 a2 a3 w (by omega) (by omega) (by omega)
  by_cases g1 : 1099511627776 < a1
  · rw [decide_eq_false (by unfold tameP; omega)]; exact tame_1hi a0 a1 a2 a3 w (by omega) (by omega) (by omega) (by omega)
  by_cases l2 : a2 < -1099511627776
  · rw [decide_eq_false (by unfold tameP; omega)]; exact tame_2lo a0 a1 a2 a3 w (by omega) (by omega) (by omega) (by omega) (by omega)
  by_cases g2 : 1099511627776 < a2
  · rw [decide_eq_false (by unfold tameP; omega)]; exact tame_2hi a0 a1 a2 a3 w (by omega) (by omega) (by omega) (by omega) (by omega) (by omega)
  by_cases l3 : a3 < -1099511627776
  · rw [decide_eq_false (by unfold tameP; omega)]; exact tame_3lo a0 a1 a2 a3 w (by omega) (by omega) (by omega) (by omega) (by omega) (by omega) (by omega)
  by_cases g3 : 1099511627776 < a3
  · rw [decide_eq_false (by unfold tameP; omega)]; exact tame_3hi a0 a1 a2 a3 w (by omega) (by omega) (by omega) (by omega) (by omega) (by omega) (by omega) (by omega)
  rw [decide_eq_true (by unfold tameP; omega)]; exact tame_4 a0 a1 a2 a3 w (by omega) (by omega) (by omega) (by omega) (by omega) (by omega) (by omega) (by omega)

set_option maxHeartbeats 400000 in
theorem fine_any (w : World) : Calls Tryd.prog 64 #[] w fun e w' => e = .returned (.agg #[.int .i64 0, .int .i64 (-1)]) ∧ Below w.heap.size w w' := by
  go_enter Tryd.func64, Tryd.ntmps64
  go_wp2
  refine bodyPost_ret (v := .agg #[.int .i64 0, .int .i64 (-1)]) (by simp [results, Tryd.results64, go_sem]) rfl ⟨rfl, ?_⟩
  exact (Below.refl _ _).alloc (Nat.le_refl _) _

set_option maxHeartbeats 400000 in
theorem bare_any (n : Int) (w : World) : Calls Tryd.prog 71 #[.int .i64 n] w fun e w' => e = .returned (.agg #[.int .i64 n, .int .i64 (-1)]) ∧ Below w.heap.size w w' := by
  go_enter Tryd.func71, Tryd.ntmps71
  go_wp2
  refine bodyPost_ret (v := .agg #[.int .i64 n, .int .i64 (-1)]) (by simp [results, Tryd.results71, go_sem]) rfl ⟨rfl, ?_⟩
  exact (Below.refl _ _).alloc (Nat.le_refl _) _

theorem vcellb {W w1 : World} (hb : Below W.heap.size W w1) : (∀ b o, b < W.heap.size → w1.cell? ⟨b, o, none⟩ = W.cell? ⟨b, o, none⟩) ∧ (∀ b o, b < W.heap.size → w1.frozen? ⟨b, o, none⟩ = W.frozen? ⟨b, o, none⟩) :=
  ⟨fun b o h => hb.cell (p := ⟨b, o, none⟩) h, fun b o h => hb.frozen (p := ⟨b, o, none⟩) h⟩

set_option maxRecDepth 100000 in
set_option maxHeartbeats 1000000 in
theorem vfault_0lo (a0 a1 a2 a3 : Int) (w : World) (hb : a0 < 0) :
    Calls Tryd.prog 35 #[.agg #[.int .i64 a0, .int .i64 a1, .int .i64 a2, .int .i64 a3]] w fun e w' => e = .returned (.agg #[.int .i64 2, .int .i64 0]) ∧ Below w.heap.size w w' := by
  go_enter Tryd.func35, Tryd.ntmps35
  go_wp2
  refine wp_loop_rounds 5 ?_
  rw [rounds_succ]; go_wp2
  refine bodyPost_ret (v := .agg #[.int .i64 2, .int .i64 0]) (by simp [results, Tryd.results35, go_sem]) rfl ⟨rfl, ?_⟩
  exact ((Below.refl _ _).alloc (Nat.le_refl _) _).alloc (by simp) _

set_option maxRecDepth 100000 in
set_option maxHeartbeats 1000000 in
theorem vfault_0hi (a0 a1 a2 a3 : Int) (w : World) (l0 : 0 ≤ a0) (hb : 400 < a0) :
    Calls Tryd.prog 35 #[.agg #[.int .i64 a0, .int .i64 a1, .int .i64 a2, .int .i64 a3]] w fun e w' => e = .returned (.agg #[.int .i64 2, .int .i64 0]) ∧ Below w.heap.size w w' := by
  go_enter Tryd.func35, Tryd.ntmps35
  go_wp2
  refine wp_loop_rounds 5 ?_
  rw [rounds_succ]; go_wp2
  refine bodyPost_ret (v := .agg #[.int .i64 2, .int .i64 0]) (by simp [results, Tryd.results35, go_sem]) rfl ⟨rfl, ?_⟩
  exact ((Below.refl _ _).alloc (Nat.le_refl _) _).alloc (by simp) _

set_option maxRecDepth 100000 in
set_option maxHeartbeats 1000000 in
theorem vfault_1lo (a0 a1 a2 a3 : Int) (w : World) (l0 : 0 ≤ a0) (g0 : a0 ≤ 400) (hb : a1 < 0) :
    Calls Tryd.prog 35 #[.agg #[.int .i64 a0, .int .i64 a1, .int .i64 a2, .int .i64 a3]] w fun e w' => e = .returned (.agg #[.int .i64 2, .int .i64 1]) ∧ Below w.heap.size w w' := by
  go_enter Tryd.func35, Tryd.ntmps35
  go_wp2
  refine wp_loop_rounds 5 ?_
  rw [rounds_succ]; go_wp2
  rw [rounds_succ]; go_wp2
  refine bodyPost_ret (v := .agg #[.int .i64 2, .int .i64 1]) (by simp [results, Tryd.results35, go_sem]) rfl ⟨rfl, ?_⟩
  exact ((Below.refl _ _).alloc (Nat.le_refl _) _).alloc (by simp) _

set_option maxRecDepth 100000 in
set_option maxHeartbeats 1000000 in
theorem vfault_1hi (a0 a1 a2 a3 : Int) (w : World) (l0 : 0 ≤ a0) (g0 : a0 ≤ 400) (l1 : 0 ≤ a1) (hb : 400 < a1) :
    Calls Tryd.prog 35 #[.agg #[.int .i64 a0, .int .i64 a1, .int .i64 a2, .int .i64 a3]] w fun e w' => e = .returned (.agg #[.int .i64 2, .int .i64 1]) ∧ Below w.heap.size w w' := by
  go_enter Tryd.func35, Tryd.ntmps35
  go_wp2
  refine wp_loop_rounds 5 ?_
  rw [rounds_succ]; go_wp2
  rw [rounds_succ]; go_wp2
  refine bodyPost_ret (v := .agg #[.int .i64 2, .int .i64 1]) (by simp [results, Tryd.results35, go_sem]) rfl ⟨rfl, ?_⟩
  exact ((Below.refl _ _).alloc (Nat.le_refl _) _).alloc (by simp) _

set_option maxRecDepth 100000 in
set_option maxHeartbeats 1000000 in
theorem vfault_2lo (a0 a1 a2 a3 : Int) (w : World) (l0 : 0 ≤ a0) (g0 : a0 ≤ 400) (l1 : 0 ≤ a1) (g1 : a1 ≤ 400) (hb : a2 < 0) :
    Calls Tryd.prog 35 #[.agg #[.int .i64 a0, .int .i64 a1, .int .i64 a2, .int .i64 a3]] w fun e w' => e = .returned (.agg #[.int .i64 2, .int .i64 2]) ∧ Below w.heap.size w w' := by
  go_enter Tryd.func35, Tryd.ntmps35
  go_wp2
  refine wp_loop_rounds 5 ?_
  rw [rounds_succ]; go_wp2
  rw [rounds_succ]; go_wp2
  rw [rounds_succ]; go_wp2
  refine bodyPost_ret (v := .agg #[.int .i64 2, .int .i64 2]) (by simp [results, Tryd.results35, go_sem]) rfl ⟨rfl, ?_⟩
  exact ((Below.refl _ _).alloc (Nat.le_refl _) _).alloc (by simp) _

set_option maxRecDepth 100000 in
set_option maxHeartbeats 1000000 in
theorem vfault_2hi (a0 a1 a2 a3 : Int) (w : World) (l0 : 0 ≤ a0) (g0 : a0 ≤ 400) (l1 : 0 ≤ a1) (g1 : a1 ≤ 400) (l2 : 0 ≤ a2) (hb : 400 < a2) :
    Calls Tryd.prog 35 #[.agg #[.int .i64 a0, .int .i64 a1, .int .i64 a2, .int .i64 a3]] w fun e w' => e = .returned (.agg #[.int .i64 2, .int .i64 2]) ∧ Below w.heap.size w w' := by
  go_enter Tryd.func35, Tryd.ntmps35
  go_wp2
  refine wp_loop_rounds 5 ?_
  rw [rounds_succ]; go_wp2
  rw [rounds_succ]; go_wp2
  rw [rounds_succ]; go_wp2
  refine bodyPost_ret (v := .agg #[.int .i64 2, .int .i64 2]) (by simp [results, Tryd.results35, go_sem]) rfl ⟨rfl, ?_⟩
  exact ((Below.refl _ _).alloc (Nat.le_refl _) _).alloc (by simp) _

set_option maxRecDepth 100000 in
set_option maxHeartbeats 1000000 in
theorem vfault_3lo (a0 a1 a2 a3 : Int) (w : World) (l0 : 0 ≤ a0) (g0 : a0 ≤ 400) (l1 : 0 ≤ a1) (g1 : a1 ≤ 400) (l2 : 0 ≤ a2) (g2 : a2 ≤ 400) (hb : a3 < 0) :
    Calls Tryd.prog 35 #[.agg #[.int .i64 a0, .int .i64 a1, .int .i64 a2, .int .i64 a3]] w fun e w' => e = .returned (.agg #[.int .i64 2, .int .i64 3]) ∧ Below w.heap.size w w' := by
  go_enter Tryd.func35, Tryd.ntmps35
  go_wp2
  refine wp_loop_rounds 5 ?_
  rw [rounds_succ]; go_wp2
  rw [rounds_succ]; go_wp2
  rw [rounds_succ]; go_wp2
  rw [rounds_succ]; go_wp2
  refine bodyPost_ret (v := .agg #[.int .i64 2, .int .i64 3]) (by simp [results, Tryd.results35, go_sem]) rfl ⟨rfl, ?_⟩
  exact ((Below.refl _ _).alloc (Nat.le_refl _) _).alloc (by simp) _

set_option maxRecDepth 100000 in
set_option maxHeartbeats 1000000 in
theorem vfault_3hi (a0 a1 a2 a3 : Int) (w : World) (l0 : 0 ≤ a0) (g0 : a0 ≤ 400) (l1 : 0 ≤ a1) (g1 : a1 ≤ 400) (l2 : 0 ≤ a2) (g2 : a2 ≤ 400) (l3 : 0 ≤ a3) (hb : 400 < a3) :
    Calls Tryd.prog 35 #[.agg #[.int .i64 a0, .int .i64 a1, .int .i64 a2, .int .i64 a3]] w fun e w' => e = .returned (.agg #[.int .i64 2, .int .i64 3]) ∧ Below w.heap.size w w' := by
  go_enter Tryd.func35, Tryd.ntmps35
  go_wp2
  refine wp_loop_rounds 5 ?_
  rw [rounds_succ]; go_wp2
  rw [rounds_succ]; go_wp2
  rw [rounds_succ]; go_wp2
  rw [rounds_succ]; go_wp2
  refine bodyPost_ret (v := .agg #[.int .i64 2, .int .i64 3]) (by simp [results, Tryd.results35, go_sem]) rfl ⟨rfl, ?_⟩
  exact ((Below.refl _ _).alloc (Nat.le_refl _) _).alloc (by simp) _

set_option maxRecDepth 100000 in
set_option maxHeartbeats 1000000 in
theorem vfault_4 (a0 a1 a2 a3 : Int) (w : World) (l0 : 0 ≤ a0) (g0 : a0 ≤ 400) (l1 : 0 ≤ a1) (g1 : a1 ≤ 400) (l2 : 0 ≤ a2) (g2 : a2 ≤ 400) (l3 : 0 ≤ a3) (g3 : a3 ≤ 400) :
    Calls Tryd.prog 35 #[.agg #[.int .i64 a0, .int .i64 a1, .int .i64 a2, .int .i64 a3]] w fun e w' => e = .returned (.agg #[.int .i64 0, .int .i64 (-1)]) ∧ Below w.heap.size w w' := by
  go_enter Tryd.func35, Tryd.ntmps35
  go_wp2
  refine wp_loop_rounds 5 ?_
  rw [rounds_succ]; go_wp2
  rw [rounds_succ]; go_wp2
  rw [rounds_succ]; go_wp2
  rw [rounds_succ]; go_wp2
  rw [rounds_succ]; go_wp2_with fail
  refine (fine_any _).mono ?_
  rintro e w1 ⟨rfl, hb⟩
  obtain ⟨hc, hf⟩ := vcellb hb
  have c0 : w1.cell? ⟨w.heap.size + 1, 0, none⟩ = some (.int .i64 0) := by rw [hc _ _ (by simp)]; simp [go_sem]
  have c1 : w1.cell? ⟨w.heap.size + 1, 1, none⟩ = some (.int .i64 0) := by rw [hc _ _ (by simp)]; simp [go_sem]
  have f0 : w1.frozen? ⟨w.heap.size + 1, 0, none⟩ = false := by rw [hf _ _ (by simp)]; simp [go_sem]
  have f1 : w1.frozen? ⟨w.heap.size + 1, 1, none⟩ = false := by rw [hf _ _ (by simp)]; simp [go_sem]
  have B1 : Below w.heap.size w w1 := (((Below.refl _ _).alloc (Nat.le_refl _) _).alloc (by simp) _).trans (hb.mono (by simp; omega))
  clear hb hc hf
  go_wp2
  refine bodyPost_ret (v := .agg #[.int .i64 0, .int .i64 (-1)]) (by simp [results, Tryd.results35, go_sem, c0, c1]) rfl ⟨rfl, ?_⟩
  exact (B1.setCell (by simp) _).setCell (by simp) _

set_option maxRecDepth 100000 in
set_option maxHeartbeats 1000000 in
theorem vcheck_0lo (a0 a1 a2 a3 : Int) (w : World) (u : TypeId) (x : Value) (hg : w.cell? ⟨1, 0, none⟩ = some (.iface u x)) (hb : a0 < 0) :
    Calls Tryd.prog 37 #[.agg #[.int .i64 a0, .int .i64 a1, .int .i64 a2, .int .i64 a3]] w fun e w' => e = .returned (.iface 29 (.pointer (some ⟨w.heap.size + 1, 0, none⟩))) ∧ w'.cell? ⟨w.heap.size + 1, 0, none⟩ = some (.int .i64 0) ∧ w'.cell? ⟨w.heap.size + 1, 1, none⟩ = some (.iface u x) ∧ w.heap.size + 2 ≤ w'.heap.size ∧ Below w.heap.size w w' := by
  have hz : 1 < w.heap.size := World.block_lt_of_cell? w ⟨1, 0, none⟩ hg
  have hg1 : ∀ o, (w.alloc o).cell? ⟨1, 0, none⟩ = some (.iface u x) := fun o => by rw [World.cell?_alloc_lt _ _ _ hz]; exact hg
  have i0 : ∀ w : World, (Instr.index 54 (.agg #[.int .i64 a0, .int .i64 a1, .int .i64 a2, .int .i64 a3]) (.int .i64 0)).run Tryd.prog w = .ok (.int .i64 a0) w := fun _ => by kernel_rfl
  have i1 : ∀ w : World, (Instr.index 54 (.agg #[.int .i64 a0, .int .i64 a1, .int .i64 a2, .int .i64 a3]) (.int .i64 1)).run Tryd.prog w = .ok (.int .i64 a1) w := fun _ => by kernel_rfl
  have i2 : ∀ w : World, (Instr.index 54 (.agg #[.int .i64 a0, .int .i64 a1, .int .i64 a2, .int .i64 a3]) (.int .i64 2)).run Tryd.prog w = .ok (.int .i64 a2) w := fun _ => by kernel_rfl
  have i3 : ∀ w : World, (Instr.index 54 (.agg #[.int .i64 a0, .int .i64 a1, .int .i64 a2, .int .i64 a3]) (.int .i64 3)).run Tryd.prog w = .ok (.int .i64 a3) w := fun _ => by kernel_rfl
  go_enter Tryd.func37, Tryd.ntmps37
  go_wp2
  refine wp_loop_rounds 5 ?_
  rw [rounds_succ]; go_wp2
  go_ret
  exact ⟨rfl, by simp [go_sem], by simp [go_sem], by simp, ((Below.refl _ _).alloc (Nat.le_refl _) _).alloc (by simp) _⟩

set_option maxRecDepth 100000 in
set_option maxHeartbeats 1000000 in
theorem vcheck_0hi (a0 a1 a2 a3 : Int) (w : World) (u : TypeId) (x : Value) (hg : w.cell? ⟨1, 0, none⟩ = some (.iface u x)) (l0 : 0 ≤ a0) (hb : 400 < a0) :
    Calls Tryd.prog 37 #[.agg #[.int .i64 a0, .int .i64 a1, .int .i64 a2, .int .i64 a3]] w fun e w' => e = .returned (.iface 29 (.pointer (some ⟨w.heap.size + 1, 0, none⟩))) ∧ w'.cell? ⟨w.heap.size + 1, 0, none⟩ = some (.int .i64 0) ∧ w'.cell? ⟨w.heap.size + 1, 1, none⟩ = some (.iface u x) ∧ w.heap.size + 2 ≤ w'.heap.size ∧ Below w.heap.size w w' := by
  have hz : 1 < w.heap.size := World.block_lt_of_cell? w ⟨1, 0, none⟩ hg
  have hg1 : ∀ o, (w.alloc o).cell? ⟨1, 0, none⟩ = some (.iface u x) := fun o => by rw [World.cell?_alloc_lt _ _ _ hz]; exact hg
  have i0 : ∀ w : World, (Instr.index 54 (.agg #[.int .i64 a0, .int .i64 a1, .int .i64 a2, .int .i64 a3]) (.int .i64 0)).run Tryd.prog w = .ok (.int .i64 a0) w := fun _ => by kernel_rfl
  have i1 : ∀ w : World, (Instr.index 54 (.agg #[.int .i64 a0, .int .i64 a1, .int .i64 a2, .int .i64 a3]) (.int .i64 1)).run Tryd.prog w = .ok (.int .i64 a1) w := fun _ => by kernel_rfl
  have i2 : ∀ w : World, (Instr.index 54 (.agg #[.int .i64 a0, .int .i64 a1, .int .i64 a2, .int .i64 a3]) (.int .i64 2)).run Tryd.prog w = .ok (.int .i64 a2) w := fun _ => by kernel_rfl
  have i3 : ∀ w : World, (Instr.index 54 (.agg #[.int .i64 a0, .int .i64 a1, .int .i64 a2, .int .i64 a3]) (.int .i64 3)).run Tryd.prog w = .ok (.int .i64 a3) w := fun _ => by kernel_rfl
  go_enter Tryd.func37, Tryd.ntmps37
  go_wp2
  refine wp_loop_rounds 5 ?_
  rw [rounds_succ]; go_wp2
  go_ret
  exact ⟨rfl, by simp [go_sem], by simp [go_sem], by simp, ((Below.refl _ _).alloc (Nat.le_refl _) _).alloc (by simp) _⟩

set_option maxRecDepth 100000 in
set_option maxHeartbeats 1000000 in
theorem vcheck_1lo (a0 a1 a2 a3 : Int) (w : World) (u : TypeId) (x : Value) (hg : w.cell? ⟨1, 0, none⟩ = some (.iface u x)) (l0 : 0 ≤ a0) (g0 : a0 ≤ 400) (hb : a1 < 0) :
    Calls Tryd.prog 37 #[.agg #[.int .i64 a0, .int .i64 a1, .int .i64 a2, .int .i64 a3]] w fun e w' => e = .returned (.iface 29 (.pointer (some ⟨w.heap.size + 1, 0, none⟩))) ∧ w'.cell? ⟨w.heap.size + 1, 0, none⟩ = some (.int .i64 1) ∧ w'.cell? ⟨w.heap.size + 1, 1, none⟩ = some (.iface u x) ∧ w.heap.size + 2 ≤ w'.heap.size ∧ Below w.heap.size w w' := by
  have hz : 1 < w.heap.size := World.block_lt_of_cell? w ⟨1, 0, none⟩ hg
  have hg1 : ∀ o, (w.alloc o).cell? ⟨1, 0, none⟩ = some (.iface u x) := fun o => by rw [World.cell?_alloc_lt _ _ _ hz]; exact hg
  have i0 : ∀ w : World, (Instr.index 54 (.agg #[.int .i64 a0, .int .i64 a1, .int .i64 a2, .int .i64 a3]) (.int .i64 0)).run Tryd.prog w = .ok (.int .i64 a0) w := fun _ => by kernel_rfl
  have i1 : ∀ w : World, (Instr.index 54 (.agg #[.int .i64 a0, .int .i64 a1, .int .i64 a2, .int .i64 a3]) (.int .i64 1)).run Tryd.prog w = .ok (.int .i64 a1) w := fun _ => by kernel_rfl
  have i2 : ∀ w : World, (Instr.index 54 (.agg #[.int .i64 a0, .int .i64 a1, .int .i64 a2, .int .i64 a3]) (.int .i64 2)).run Tryd.prog w = .ok (.int .i64 a2) w := fun _ => by kernel_rfl
  have i3 : ∀ w : World, (Instr.index 54 (.agg #[.int .i64 a0, .int .i64 a1, .int .i64 a2, .int .i64 a3]) (.int .i64 3)).run Tryd.prog w = .ok (.int .i64 a3) w := fun _ => by kernel_rfl
  go_enter Tryd.func37, Tryd.ntmps37
  go_wp2
  refine wp_loop_rounds 5 ?_
  rw [rounds_succ]; go_wp2
  rw [rounds_succ]; go_wp2
  go_ret
  exact ⟨rfl, by simp [go_sem], by simp [go_sem], by simp, ((Below.refl _ _).alloc (Nat.le_refl _) _).alloc (by simp) _⟩

set_option maxRecDepth 100000 in
set_option maxHeartbeats 1000000 in
theorem vcheck_1hi (a0 a1 a2 a3 : Int) (w : World) (u : TypeId) (x : Value) (hg : w.cell? ⟨1, 0, none⟩ = some (.iface u x)) (l0 : 0 ≤ a0) (g0 : a0 ≤ 400) (l1 : 0 ≤ a1) (hb : 400 < a1) :
    Calls Tryd.prog 37 #[.agg #[.int .i64 a0, .int .i64 a1, .int .i64 a2, .int .i64 a3]] w fun e w' => e = .returned (.iface 29 (.pointer (some ⟨w.heap.size + 1, 0, none⟩))) ∧ w'.cell? ⟨w.heap.size + 1, 0, none⟩ = some (.int .i64 1) ∧ w'.cell? ⟨w.heap.size + 1, 1, none⟩ = some (.iface u x) ∧ w.heap.size + 2 ≤ w'.heap.size ∧ Below w.heap.size w w' := by
  have hz : 1 < w.heap.size := World.block_lt_of_cell? w ⟨1, 0, none⟩ hg
  have hg1 : ∀ o, (w.alloc o).cell? ⟨1, 0, none⟩ = some (.iface u x) := fun o => by rw [World.cell?_alloc_lt _ _ _ hz]; exact hg
  have i0 : ∀ w : World, (Instr.index 54 (.agg #[.int .i64 a0, .int .i64 a1, .int .i64 a2, .int .i64 a3]) (.int .i64 0)).run Tryd.prog w = .ok (.int .i64 a0) w := fun _ => by kernel_rfl
  have i1 : ∀ w : World, (Instr.index 54 (.agg #[.int .i64 a0, .int .i64 a1, .int .i64 a2, .int .i64 a3]) (.int .i64 1)).run Tryd.prog w = .ok (.int .i64 a1) w := fun _ => by kernel_rfl
  have i2 : ∀ w : World, (Instr.index 54 (.agg #[.int .i64 a0, .int .i64 a1, .int .i64 a2, .int .i64 a3]) (.int .i64 2)).run Tryd.prog w = .ok (.int .i64 a2) w := fun _ => by kernel_rfl
  have i3 : ∀ w : World, (Instr.index 54 (.agg #[.int .i64 a0, .int .i64 a1, .int .i64 a2, .int .i64 a3]) (.int .i64 3)).run Tryd.prog w = .ok (.int .i64 a3) w := fun _ => by kernel_rfl
  go_enter Tryd.func37, Tryd.ntmps37
  go_wp2
  refine wp_loop_rounds 5 ?_
  rw [rounds_succ]; go_wp2
  rw [rounds_succ]; go_wp2
  go_ret
  exact ⟨rfl, by simp [go_sem], by simp [go_sem], by simp, ((Below.refl _ _).alloc (Nat.le_refl _) _).alloc (by simp) _⟩

set_option maxRecDepth 100000 in
set_option maxHeartbeats 1000000 in
theorem vcheck_2lo (a0 a1 a2 a3 : Int) (w : World) (u : TypeId) (x : Value) (hg : w.cell? ⟨1, 0, none⟩ = some (.iface u x)) (l0 : 0 ≤ a0) (g0 : a0 ≤ 400) (l1 : 0 ≤ a1) (g1 : a1 ≤ 400) (hb : a2 < 0) :
    Calls Tryd.prog 37 #[.agg #[.int .i64 a0, .int .i64 a1, .int .i64 a2, .int .i64 a3]] w fun e w' => e = .returned (.iface 29 (.pointer (some ⟨w.heap.size + 1, 0, none⟩))) ∧ w'.cell? ⟨w.heap.size + 1, 0, none⟩ = some (.int .i64 2) ∧ w'.cell? ⟨w.heap.size + 1, 1, none⟩ = some (.iface u x) ∧ w.heap.size + 2 ≤ w'.heap.size ∧ Below w.heap.size w w' := by
  have hz : 1 < w.heap.size := World.block_lt_of_cell? w ⟨1, 0, none⟩ hg
  have hg1 : ∀ o, (w.alloc o).cell? ⟨1, 0, none⟩ = some (.iface u x) := fun o => by rw [World.cell?_alloc_lt _ _ _ hz]; exact hg
  have i0 : ∀ w : World, (Instr.index 54 (.agg #[.int .i64 a0, .int .i64 a1, .int .i64 a2, .int .i64 a3]) (.int .i64 0)).run Tryd.prog w = .ok (.int .i64 a0) w := fun _ => by kernel_rfl
  have i1 : ∀ w : World, (Instr.index 54 (.agg #[.int .i64 a0, .int .i64 a1, .int .i64 a2, .int .i64 a3]) (.int .i64 1)).run Tryd.prog w = .ok (.int .i64 a1) w := fun _ => by kernel_rfl
  have i2 : ∀ w : World, (Instr.index 54 (.agg #[.int .i64 a0, .int .i64 a1, .int .i64 a2, .int .i64 a3]) (.int .i64 2)).run Tryd.prog w = .ok (.int .i64 a2) w := fun _ => by kernel_rfl
  have i3 : ∀ w : World, (Instr.index 54 (.agg #[.int .i64 a0, .int .i64 a1, .int .i64 a2, .int .i64 a3]) (.int .i64 3)).run Tryd.prog w = .ok (.int .i64 a3) w := fun _ => by kernel_rfl
  go_enter Tryd.func37, Tryd.ntmps37
  go_wp2
  refine wp_loop_rounds 5 ?_
  rw [rounds_succ]; go_wp2
  rw [rounds_succ]; go_wp2
  rw [rounds_succ]; go_wp2
  go_ret
  exact ⟨rfl, by simp [go_sem], by simp [go_sem], by simp, ((Below.refl _ _).alloc (Nat.le_refl _) _).alloc (by simp) _⟩

set_option maxRecDepth 100000 in
set_option maxHeartbeats 1000000 in
theorem vcheck_2hi (a0 a1 a2 a3 : Int) (w : World) (u : TypeId) (x : Value) (hg : w.cell? ⟨1, 0, none⟩ = some (.iface u x)) (l0 : 0 ≤ a0) (g0 : a0 ≤ 400) (l1 : 0 ≤ a1) (g1 : a1 ≤ 400) (l2 : 0 ≤ a2) (hb : 400 < a2) :
    Calls Tryd.prog 37 #[.agg #[.int .i64 a0, .int .i64 a1, .int .i64 a2, .int .i64 a3]] w fun e w' => e = .returned (.iface 29 (.pointer (some ⟨w.heap.size + 1, 0, none⟩))) ∧ w'.cell? ⟨w.heap.size + 1, 0, none⟩ = some (.int .i64 2) ∧ w'.cell? ⟨w.heap.size + 1, 1, none⟩ = some (.iface u x) ∧ w.heap.size + 2 ≤ w'.heap.size ∧ Below w.heap.size w w' := by
  have hz : 1 < w.heap.size := World.block_lt_of_cell? w ⟨1, 0, none⟩ hg
  have hg1 : ∀ o, (w.alloc o).cell? ⟨1, 0, none⟩ = some (.iface u x) := fun o => by rw [World.cell?_alloc_lt _ _ _ hz]; exact hg
  have i0 : ∀ w : World, (Instr.index 54 (.agg #[.int .i64 a0, .int .i64 a1, .int .i64 a2, .int .i64 a3]) (.int .i64 0)).run Tryd.prog w = .ok (.int .i64 a0) w := fun _ => by kernel_rfl
  have i1 : ∀ w : World, (Instr.index 54 (.agg #[.int .i64 a0, .int .i64 a1, .int .i64 a2, .int .i64 a3]) (.int .i64 1)).run Tryd.prog w = .ok (.int .i64 a1) w := fun _ => by kernel_rfl
  have i2 : ∀ w : World, (Instr.index 54 (.agg #[.int .i64 a0, .int .i64 a1, .int .i64 a2, .int .i64 a3]) (.int .i64 2)).run Tryd.prog w = .ok (.int .i64 a2) w := fun _ => by kernel_rfl
  have i3 : ∀ w : World, (Instr.index 54 (.agg #[.int .i64 a0, .int .i64 a1, .int .i64 a2, .int .i64 a3]) (.int .i64 3)).run Tryd.prog w = .ok (.int .i64 a3) w := fun _ => by kernel_rfl
  go_enter Tryd.func37, Tryd.ntmps37
  go_wp2
  refine wp_loop_rounds 5 ?_
  rw [rounds_succ]; go_wp2
  rw [rounds_succ]; go_wp2
  rw [rounds_succ]; go_wp2
  go_ret
  exact ⟨rfl, by simp [go_sem], by simp [go_sem], by simp, ((Below.refl _ _).alloc (Nat.le_refl _) _).alloc (by simp) _⟩

set_option maxRecDepth 100000 in
set_option maxHeartbeats 1000000 in
theorem vcheck_3lo (a0 a1 a2 a3 : Int) (w : World) (u : TypeId) (x : Value) (hg : w.cell? ⟨1, 0, none⟩ = some (.iface u x)) (l0 : 0 ≤ a0) (g0 : a0 ≤ 400) (l1 : 0 ≤ a1) (g1 : a1 ≤ 400) (l2 : 0 ≤ a2) (g2 : a2 ≤ 400) (hb : a3 < 0) :
    Calls Tryd.prog 37 #[.agg #[.int .i64 a0, .int .i64 a1, .int .i64 a2, .int .i64 a3]] w fun e w' => e = .returned (.iface 29 (.pointer (some ⟨w.heap.size + 1, 0, none⟩))) ∧ w'.cell? ⟨w.heap.size + 1, 0, none⟩ = some (.int .i64 3) ∧ w'.cell? ⟨w.heap.size + 1, 1, none⟩ = some (.iface u x) ∧ w.heap.size + 2 ≤ w'.heap.size ∧ Below w.heap.size w w' := by
  have hz : 1 < w.heap.size := World.block_lt_of_cell? w ⟨1, 0, none⟩ hg
  have hg1 : ∀ o, (w.alloc o).cell? ⟨1, 0, none⟩ = some (.iface u x) := fun o => by rw [World.cell?_alloc_lt _ _ _ hz]; exact hg
  have i0 : ∀ w : World, (Instr.index 54 (.agg #[.int .i64 a0, .int .i64 a1, .int .i64 a2, .int .i64 a3]) (.int .i64 0)).run Tryd.prog w = .ok (.int .i64 a0) w := fun _ => by kernel_rfl
  have i1 : ∀ w : World, (Instr.index 54 (.agg #[.int .i64 a0, .int .i64 a1, .int .i64 a2, .int .i64 a3]) (.int .i64 1)).run Tryd.prog w = .ok (.int .i64 a1) w := fun _ => by kernel_rfl
  have i2 : ∀ w : World, (Instr.index 54 (.agg #[.int .i64 a0, .int .i64 a1, .int .i64 a2, .int .i64 a3]) (.int .i64 2)).run Tryd.prog w = .ok (.int .i64 a2) w := fun _ => by kernel_rfl
  have i3 : ∀ w : World, (Instr.index 54 (.agg #[.int .i64 a0, .int .i64 a1, .int .i64 a2, .int .i64 a3]) (.int .i64 3)).run Tryd.prog w = .ok (.int .i64 a3) w := fun _ => by kernel_rfl
  go_enter Tryd.func37, Tryd.ntmps37
  go_wp2
  refine wp_loop_rounds 5 ?_
  rw [rounds_succ]; go_wp2
  rw [rounds_succ]; go_wp2
  rw [rounds_succ]; go_wp2
  rw [rounds_succ]; go_wp2
  go_ret
  exact ⟨rfl, by simp [go_sem], by simp [go_sem], by simp, ((Below.refl _ _).alloc (Nat.le_refl _) _).alloc (by simp) _⟩

set_option maxRecDepth 100000 in
set_option maxHeartbeats 1000000 in
theorem vcheck_3hi (a0 a1 a2 a3 : Int) (w : World) (u : TypeId) (x : Value) (hg : w.cell? ⟨1, 0, none⟩ = some (.iface u x)) (l0 : 0 ≤ a0) (g0 : a0 ≤ 400) (l1 : 0 ≤ a1) (g1 : a1 ≤ 400) (l2 : 0 ≤ a2) (g2 : a2 ≤ 400) (l3 : 0 ≤ a3) (hb : 400 < a3) :
    Calls Tryd.prog 37 #[.agg #[.int .i64 a0, .int .i64 a1, .int .i64 a2, .int .i64 a3]] w fun e w' => e = .returned (.iface 29 (.pointer (some ⟨w.heap.size + 1, 0, none⟩))) ∧ w'.cell? ⟨w.heap.size + 1, 0, none⟩ = some (.int .i64 3) ∧ w'.cell? ⟨w.heap.size + 1, 1, none⟩ = some (.iface u x) ∧ w.heap.size + 2 ≤ w'.heap.size ∧ Below w.heap.size w w' := by
  have hz : 1 < w.heap.size := World.block_lt_of_cell? w ⟨1, 0, none⟩ hg
  have hg1 : ∀ o, (w.alloc o).cell? ⟨1, 0, none⟩ = some (.iface u x) := fun o => by rw [World.cell?_alloc_lt _ _ _ hz]; exact hg
  have i0 : ∀ w : World, (Instr.index 54 (.agg #[.int .i64 a0, .int .i64 a1, .int .i64 a2, .int .i64 a3]) (.int .i64 0)).run Tryd.prog w = .ok (.int .i64 a0) w := fun _ => by kernel_rfl
  have i1 : ∀ w : World, (Instr.index 54 (.agg #[.int .i64 a0, .int .i64 a1, .int .i64 a2, .int .i64 a3]) (.int .i64 1)).run Tryd.prog w = .ok (.int .i64 a1) w := fun _ => by kernel_rfl
  have i2 : ∀ w : World, (Instr.index 54 (.agg #[.int .i64 a0, .int .i64 a1, .int .i64 a2, .int .i64 a3]) (.int .i64 2)).run Tryd.prog w = .ok (.int .i64 a2) w := fun _ => by kernel_rfl
  have i3 : ∀ w : World, (Instr.index 54 (.agg #[.int .i64 a0, .int .i64 a1, .int .i64 a2, .int .i64 a3]) (.int .i64 3)).run Tryd.prog w = .ok (.int .i64 a3) w := fun _ => by kernel_rfl
  go_enter Tryd.func37, Tryd.ntmps37
  go_wp2
  refine wp_loop_rounds 5 ?_
  rw [rounds_succ]; go_wp2
  rw [rounds_succ]; go_wp2
  rw [rounds_succ]; go_wp2
  rw [rounds_succ]; go_wp2
  go_ret
  exact ⟨rfl, by simp [go_sem], by simp [go_sem], by simp, ((Below.refl _ _).alloc (Nat.le_refl _) _).alloc (by simp) _⟩

/-- The reference's fault of a vector that is out of bounds. -/
theorem vfault_bad (a0 a1 a2 a3 : Int) (k : Nat) (w : World) (h : badI a0 a1 a2 a3 = some k) :
    Calls Tryd.prog 35 #[.agg #[.int .i64 a0, .int .i64 a1, .int .i64 a2, .int .i64 a3]] w fun e w' => e = .returned (.agg #[.int .i64 2, .int .i64 k]) ∧ Below w.heap.size w w' := by
  unfold badI at h
  by_cases h0 : a0 < 0 ∨ 400 < a0
  · rw [if_pos h0] at h; obtain rfl := Option.some.inj h; by_cases hl : a0 < 0
    · exact vfault_0lo a0 a1 a2 a3 w  hl
    · exact vfault_0hi a0 a1 a2 a3 w  (by omega) (by omega)
  rw [if_neg h0] at h
  by_cases h1 : a1 < 0 ∨ 400 < a1
  · rw [if_pos h1] at h; obtain rfl := Option.some.inj h; by_cases hl : a1 < 0
    · exact vfault_1lo a0 a1 a2 a3 w (by omega) (by omega) hl
    · exact vfault_1hi a0 a1 a2 a3 w (by omega) (by omega) (by omega) (by omega)
  rw [if_neg h1] at h
  by_cases h2 : a2 < 0 ∨ 400 < a2
  · rw [if_pos h2] at h; obtain rfl := Option.some.inj h; by_cases hl : a2 < 0
    · exact vfault_2lo a0 a1 a2 a3 w (by omega) (by omega) (by omega) (by omega) hl
    · exact vfault_2hi a0 a1 a2 a3 w (by omega) (by omega) (by omega) (by omega) (by omega) (by omega)
  rw [if_neg h2] at h
  by_cases h3 : a3 < 0 ∨ 400 < a3
  · rw [if_pos h3] at h; obtain rfl := Option.some.inj h; by_cases hl : a3 < 0
    · exact vfault_3lo a0 a1 a2 a3 w (by omega) (by omega) (by omega) (by omega) (by omega) (by omega) hl
    · exact vfault_3hi a0 a1 a2 a3 w (by omega) (by omega) (by omega) (by omega) (by omega) (by omega) (by omega) (by omega)
  rw [if_neg h3] at h
  cases h

/-- Check of a vector that is out of bounds: a new Fault, at the first one. -/
theorem vcheck_bad (a0 a1 a2 a3 : Int) (k : Nat) (w : World) (u : TypeId) (x : Value) (hg : w.cell? ⟨1, 0, none⟩ = some (.iface u x)) (h : badI a0 a1 a2 a3 = some k) :
    Calls Tryd.prog 37 #[.agg #[.int .i64 a0, .int .i64 a1, .int .i64 a2, .int .i64 a3]] w fun e w' => e = .returned (.iface 29 (.pointer (some ⟨w.heap.size + 1, 0, none⟩))) ∧ w'.cell? ⟨w.heap.size + 1, 0, none⟩ = some (.int .i64 k) ∧ w'.cell? ⟨w.heap.size + 1, 1, none⟩ = some (.iface u x) ∧ w.heap.size + 2 ≤ w'.heap.size ∧ Below w.heap.size w w' := by
  unfold badI at h
  by_cases h0 : a0 < 0 ∨ 400 < a0
  · rw [if_pos h0] at h; obtain rfl := Option.some.inj h; by_cases hl : a0 < 0
    · exact vcheck_0lo a0 a1 a2 a3 w u x hg  hl
    · exact vcheck_0hi a0 a1 a2 a3 w u x hg  (by omega) (by omega)
  rw [if_neg h0] at h
  by_cases h1 : a1 < 0 ∨ 400 < a1
  · rw [if_pos h1] at h; obtain rfl := Option.some.inj h; by_cases hl : a1 < 0
    · exact vcheck_1lo a0 a1 a2 a3 w u x hg (by omega) (by omega) hl
    · exact vcheck_1hi a0 a1 a2 a3 w u x hg (by omega) (by omega) (by omega) (by omega)
  rw [if_neg h1] at h
  by_cases h2 : a2 < 0 ∨ 400 < a2
  · rw [if_pos h2] at h; obtain rfl := Option.some.inj h; by_cases hl : a2 < 0
    · exact vcheck_2lo a0 a1 a2 a3 w u x hg (by omega) (by omega) (by omega) (by omega) hl
    · exact vcheck_2hi a0 a1 a2 a3 w u x hg (by omega) (by omega) (by omega) (by omega) (by omega) (by omega)
  rw [if_neg h2] at h
  by_cases h3 : a3 < 0 ∨ 400 < a3
  · rw [if_pos h3] at h; obtain rfl := Option.some.inj h; by_cases hl : a3 < 0
    · exact vcheck_3lo a0 a1 a2 a3 w u x hg (by omega) (by omega) (by omega) (by omega) (by omega) (by omega) hl
    · exact vcheck_3hi a0 a1 a2 a3 w u x hg (by omega) (by omega) (by omega) (by omega) (by omega) (by omega) (by omega) (by omega)
  rw [if_neg h3] at h
  cases h

theorem badI_none (a0 a1 a2 a3 : Int) : badI a0 a1 a2 a3 = none ↔ (0 ≤ a0 ∧ a0 ≤ 400) ∧ (0 ≤ a1 ∧ a1 ≤ 400) ∧ (0 ≤ a2 ∧ a2 ≤ 400) ∧ (0 ≤ a3 ∧ a3 ≤ 400) := by
  unfold badI
  by_cases h0 : a0 < 0 ∨ 400 < a0
  · simp [h0]; omega
  by_cases h1 : a1 < 0 ∨ 400 < a1
  · simp [h0, h1]; omega
  by_cases h2 : a2 < 0 ∨ 400 < a2
  · simp [h0, h1, h2]; omega
  by_cases h3 : a3 < 0 ∨ 400 < a3
  · simp [h0, h1, h2, h3]; omega
  simp [h0, h1, h2, h3]; omega

end Go.Proofs.YtnfhbmgkiknaaaaDoor
