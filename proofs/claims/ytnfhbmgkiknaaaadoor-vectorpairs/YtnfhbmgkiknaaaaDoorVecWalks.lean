/- Contracts of package vector's functions on numbers (Join, Covers), over the translation. -/
import Derived.Test.YtnfhbmgkiknaaaaDoorProg
import Derived.WalkKit
import Derived.WalkSpells
import Derived.Below
import Derived.LaidEql
import Derived.LoopN
import Derived.KernelRfl
import Derived.ChangeKeysEq
import Derived.Deep.RegionHeld3
import Derived.Laws.StructEq
namespace Go.Proofs.YtnfhbmgkiknaaaaDoor
open Go.RowKit

/-- The greater one (a name of its own, so that no rule turns it). -/
def mx (a b : Int) : Int := max a b
theorem mx_le {a b c : Int} : mx a b ≤ c ↔ a ≤ c ∧ b ≤ c := Int.max_le
theorem mx_comm (a b : Int) : mx a b = mx b a := Int.max_comm a b
theorem mx_assoc (a b c : Int) : mx (mx a b) c = mx a (mx b c) := Int.max_assoc a b c
theorem mx_self (a : Int) : mx a a = a := Int.max_self a

set_option maxRecDepth 100000 in
set_option maxHeartbeats 1000000 in
theorem vjoin_any (a0 a1 a2 a3 b0 b1 b2 b3 : Int) (w : World) :
    Calls Tryd.prog 31 #[.agg #[.int .i64 a0, .int .i64 a1, .int .i64 a2, .int .i64 a3], .agg #[.int .i64 b0, .int .i64 b1, .int .i64 b2, .int .i64 b3]] w fun e w' => e = .returned (.agg #[.int .i64 (mx a0 b0), .int .i64 (mx a1 b1), .int .i64 (mx a2 b2), .int .i64 (mx a3 b3)]) ∧ Below w.heap.size w w' := by
  have i0 : ∀ w : World, (Instr.index 54 (.agg #[.int .i64 b0, .int .i64 b1, .int .i64 b2, .int .i64 b3]) (.int .i64 0)).run Tryd.prog w = .ok (.int .i64 b0) w := fun _ => by kernel_rfl
  have i1 : ∀ w : World, (Instr.index 54 (.agg #[.int .i64 b0, .int .i64 b1, .int .i64 b2, .int .i64 b3]) (.int .i64 1)).run Tryd.prog w = .ok (.int .i64 b1) w := fun _ => by kernel_rfl
  have i2 : ∀ w : World, (Instr.index 54 (.agg #[.int .i64 b0, .int .i64 b1, .int .i64 b2, .int .i64 b3]) (.int .i64 2)).run Tryd.prog w = .ok (.int .i64 b2) w := fun _ => by kernel_rfl
  have i3 : ∀ w : World, (Instr.index 54 (.agg #[.int .i64 b0, .int .i64 b1, .int .i64 b2, .int .i64 b3]) (.int .i64 3)).run Tryd.prog w = .ok (.int .i64 b3) w := fun _ => by kernel_rfl
  have hm : ∀ x y : Int, (if x < y then y else x) = mx x y := fun x y => by rw [mx, Int.max_def]; split <;> split <;> omega
  go_enter Tryd.func31, Tryd.ntmps31
  go_wp2
  refine wp_loop_rounds 5 ?_
  rw [rounds_succ]; go_wp2
  rw [rounds_succ]; go_wp2
  rw [rounds_succ]; go_wp2
  rw [rounds_succ]; go_wp2
  rw [rounds_succ]; go_wp2
  refine bodyPost_ret (v := .agg #[.int .i64 (mx a0 b0), .int .i64 (mx a1 b1), .int .i64 (mx a2 b2), .int .i64 (mx a3 b3)]) (by simp [results, Tryd.results31, go_sem]) rfl ⟨rfl, ?_⟩
  exact (((Below.refl _ _).alloc (Nat.le_refl _) _).alloc (by simp) _).alloc (by simp; omega) _

theorem eqVec (a0 a1 a2 a3 b0 b1 b2 b3 : Int) (w : World) : (Op.equalIn 10000 54 (.agg #[.int .i64 a0, .int .i64 a1, .int .i64 a2, .int .i64 a3]) (.agg #[.int .i64 b0, .int .i64 b1, .int .i64 b2, .int .i64 b3])).run Tryd.prog w = .ok (a0 == b0 && (a1 == b1 && (a2 == b2 && a3 == b3))) w := by
  have u3 := Tryd.underlying3
  have a3' := Tryd.isAgg3
  have z3 := Tryd.sizeOf3
  have c3 : Tryd.prog.cellsOf 3 = 1 := by kernel_rfl
  have hS : Tryd.prog.underlying 54 = some (.array 4 3) := by kernel_rfl
  obtain ⟨i, hi⟩ := info_of_underlying u3
  rw [show (10000 : Nat) = 9999 + 1 from rfl, run_equalIn_array w 9999 _ _ hS hi, c3]
  simp only [show List.range 4 = [0, 1, 2, 3] from rfl, Op.eqItems]
  go_simp
  by_cases h1 : a0 = b0 <;> by_cases h2 : a1 = b1 <;> by_cases h3 : a2 = b2 <;> by_cases h4 : a3 = b3 <;> simp [h1, h2, h3, h4]

/-- A vector that lies in a block. -/
def VecAt (w : World) (k : Nat) (a0 a1 a2 a3 : Int) : Prop :=
  w.cell? ⟨k, 0, none⟩ = some (.int .i64 a0) ∧ w.cell? ⟨k, 1, none⟩ = some (.int .i64 a1) ∧ w.cell? ⟨k, 2, none⟩ = some (.int .i64 a2) ∧ w.cell? ⟨k, 3, none⟩ = some (.int .i64 a3)

theorem VecAt.later {w w' : World} {k : Nat} {a0 a1 a2 a3 : Int} (h : VecAt w k a0 a1 a2 a3) (hb : Below w.heap.size w w') : VecAt w' k a0 a1 a2 a3 :=
  ⟨cell_later hb h.1, cell_later hb h.2.1, cell_later hb h.2.2.1, cell_later hb h.2.2.2⟩

theorem VecAt.lt {w : World} {k : Nat} {a0 a1 a2 a3 : Int} (h : VecAt w k a0 a1 a2 a3) : k < w.heap.size := World.block_lt_of_cell? w ⟨k, 0, none⟩ h.1

/-- Two vectors that lie in blocks; nothing old has turned. -/
def CovS (w0 : World) (a0 a1 a2 a3 b0 b1 b2 b3 : Int) (w : World) : Prop :=
  (w.cell? ⟨w0.heap.size, 0, none⟩ = some (.int .i64 a0) ∧ w.cell? ⟨w0.heap.size, 1, none⟩ = some (.int .i64 a1) ∧ w.cell? ⟨w0.heap.size, 2, none⟩ = some (.int .i64 a2) ∧ w.cell? ⟨w0.heap.size, 3, none⟩ = some (.int .i64 a3)) ∧
  (w.cell? ⟨w0.heap.size + 1, 0, none⟩ = some (.int .i64 b0) ∧ w.cell? ⟨w0.heap.size + 1, 1, none⟩ = some (.int .i64 b1) ∧ w.cell? ⟨w0.heap.size + 1, 2, none⟩ = some (.int .i64 b2) ∧ w.cell? ⟨w0.heap.size + 1, 3, none⟩ = some (.int .i64 b3)) ∧
  Below w0.heap.size w0 w ∧ w0.heap.size + 2 ≤ w.heap.size

theorem CovS.later {w0 w w' : World} {a0 a1 a2 a3 b0 b1 b2 b3 : Int} (h : CovS w0 a0 a1 a2 a3 b0 b1 b2 b3 w) (hb : Below w.heap.size w w') : CovS w0 a0 a1 a2 a3 b0 b1 b2 b3 w' :=
  ⟨VecAt.later h.1 hb, VecAt.later h.2.1 hb, h.2.2.1.trans (hb.mono (by have := h.2.2.2; omega)), Nat.le_trans h.2.2.2 hb.size⟩
theorem CovS.drew {w0 w : World} {a0 a1 a2 a3 b0 b1 b2 b3 : Int} (h : CovS w0 a0 a1 a2 a3 b0 b1 b2 b3 w) : CovS w0 a0 a1 a2 a3 b0 b1 b2 b3 w.drew := h.later (Below.refl _ _).drew

/-- Is none of the second's more? -/
def covB (a0 a1 a2 a3 b0 b1 b2 b3 : Int) : Bool := mx a0 b0 == a0 && (mx a1 b1 == a1 && (mx a2 b2 == a2 && mx a3 b3 == a3))

set_option maxRecDepth 100000 in
set_option maxHeartbeats 1000000 in
theorem vcovers_any (a0 a1 a2 a3 b0 b1 b2 b3 : Int) (w : World) :
    Calls Tryd.prog 32 #[.agg #[.int .i64 a0, .int .i64 a1, .int .i64 a2, .int .i64 a3], .agg #[.int .i64 b0, .int .i64 b1, .int .i64 b2, .int .i64 b3]] w fun e w' => e = .returned (.bool (covB a0 a1 a2 a3 b0 b1 b2 b3)) ∧ Below w.heap.size w w' := by
  have S0 : CovS w a0 a1 a2 a3 b0 b1 b2 b3 ((w.alloc (.cells #[.int .i64 a0, .int .i64 a1, .int .i64 a2, .int .i64 a3] 54)).alloc (.cells #[.int .i64 b0, .int .i64 b1, .int .i64 b2, .int .i64 b3] 54)) :=
    ⟨by simp [go_sem], by simp [go_sem], ((Below.refl _ _).alloc (Nat.le_refl _) _).alloc (by simp) _, by simp⟩
  have eqV := eqVec
  go_enter Tryd.func32, Tryd.ntmps32
  go_wp2_with fail
  generalize ((w.alloc (.cells #[.int .i64 a0, .int .i64 a1, .int .i64 a2, .int .i64 a3] 54)).alloc (.cells #[.int .i64 b0, .int .i64 b1, .int .i64 b2, .int .i64 b3] 54)) = w1 at S0 ⊢
  obtain ⟨⟨A0, A1, A2, A3⟩, ⟨A4, A5, A6, A7⟩, B1, z1⟩ := S0
  go_region_held3 (fun w' => (w'.cell? ⟨w.heap.size, 0, none⟩ = some (.int .i64 a0) ∧ w'.cell? ⟨w.heap.size, 1, none⟩ = some (.int .i64 a1) ∧ w'.cell? ⟨w.heap.size, 2, none⟩ = some (.int .i64 a2) ∧ w'.cell? ⟨w.heap.size, 3, none⟩ = some (.int .i64 a3)) ∧
      (w'.cell? ⟨w.heap.size + 1, 0, none⟩ = some (.int .i64 b0) ∧ w'.cell? ⟨w.heap.size + 1, 1, none⟩ = some (.int .i64 b1) ∧ w'.cell? ⟨w.heap.size + 1, 2, none⟩ = some (.int .i64 b2) ∧ w'.cell? ⟨w.heap.size + 1, 3, none⟩ = some (.int .i64 b3)) ∧ Below w.heap.size w w' ∧ w.heap.size + 2 ≤ w'.heap.size)
    (first
      | assumption
      | exact CovS.drew ⟨⟨A0, A1, A2, A3⟩, ⟨A4, A5, A6, A7⟩, B1, z1⟩
      | exact CovS.later (by assumption) (by assumption))
    (first
      | (go_at_call 31; refine (vjoin_any _ _ _ _ _ _ _ _ _).mono ?_; rintro e w' ⟨rfl, hb⟩))
  have S2 : CovS w a0 a1 a2 a3 b0 b1 b2 b3 w' := by assumption
  go_wp2
  go_ret
  exact ⟨rfl, S2.2.2.1⟩
end Go.Proofs.YtnfhbmgkiknaaaaDoor
