/- Contracts of the program's Order and Lacks, and of the law's faulted. -/
import Derived.Test.YtnfhbmgkiknaaaaDoorVecWalks
import Derived.Test.YtnfhbmgkiknaaaaDoorCodeWalks
import Derived.Lib.Hide
namespace Go.Proofs.YtnfhbmgkiknaaaaDoor
open Go.RowKit

/-- Are two vectors the same? -/
def sameB (a0 a1 a2 a3 b0 b1 b2 b3 : Int) : Bool := a0 == b0 && (a1 == b1 && (a2 == b2 && a3 == b3))

/-- The order of two vectors. -/
def ordI (a0 a1 a2 a3 b0 b1 b2 b3 : Int) : Int :=
  if sameB a0 a1 a2 a3 b0 b1 b2 b3 then 0 else if covB a0 a1 a2 a3 b0 b1 b2 b3 then 1 else if covB b0 b1 b2 b3 a0 a1 a2 a3 then -1 else 2

theorem eqVecS (a0 a1 a2 a3 b0 b1 b2 b3 : Int) (w : World) : (Op.equalIn 10000 54 (.agg #[.int .i64 a0, .int .i64 a1, .int .i64 a2, .int .i64 a3]) (.agg #[.int .i64 b0, .int .i64 b1, .int .i64 b2, .int .i64 b3])).run Tryd.prog w = .ok (sameB a0 a1 a2 a3 b0 b1 b2 b3) w := eqVec a0 a1 a2 a3 b0 b1 b2 b3 w

set_option maxRecDepth 100000 in
set_option maxHeartbeats 1000000 in
theorem vorder_any (a0 a1 a2 a3 b0 b1 b2 b3 : Int) (w : World) :
    Calls Tryd.prog 33 #[.agg #[.int .i64 a0, .int .i64 a1, .int .i64 a2, .int .i64 a3], .agg #[.int .i64 b0, .int .i64 b1, .int .i64 b2, .int .i64 b3]] w fun e w' => e = .returned (.int .i64 (ordI a0 a1 a2 a3 b0 b1 b2 b3)) ∧ Below w.heap.size w w' := by
  have S0 : CovS w a0 a1 a2 a3 b0 b1 b2 b3 ((w.alloc (.cells #[.int .i64 a0, .int .i64 a1, .int .i64 a2, .int .i64 a3] 54)).alloc (.cells #[.int .i64 b0, .int .i64 b1, .int .i64 b2, .int .i64 b3] 54)) :=
    ⟨by simp [go_sem], by simp [go_sem], ((Below.refl _ _).alloc (Nat.le_refl _) _).alloc (by simp) _, by simp⟩
  have eqV := eqVecS
  unfold ordI
  cases hs : sameB a0 a1 a2 a3 b0 b1 b2 b3 with
  | true =>
    go_enter Tryd.func33, Tryd.ntmps33
    go_wp2
    go_ret
    exact ⟨rfl, S0.2.2.1⟩
  | false =>
    go_enter Tryd.func33, Tryd.ntmps33
    go_wp2_with fail
    refine (vcovers_any _ _ _ _ _ _ _ _ _).mono ?_
    rintro e w1 ⟨rfl, hb⟩
    have S1 := S0.later hb
    clear hb S0
    cases hc : covB a0 a1 a2 a3 b0 b1 b2 b3 with
    | true =>
      go_wp2
      go_ret
      exact ⟨rfl, S1.2.2.1⟩
    | false =>
      obtain ⟨⟨A0, A1, A2, A3⟩, ⟨A4, A5, A6, A7⟩, -, -⟩ := id S1
      go_wp2_with fail
      refine (vcovers_any _ _ _ _ _ _ _ _ _).mono ?_
      rintro e w2 ⟨rfl, hb⟩
      have S2 := S1.later hb
      clear hb S1 A0 A1 A2 A3 A4 A5 A6 A7
      cases hd : covB b0 b1 b2 b3 a0 a1 a2 a3 with
      | true =>
        go_wp2
        go_ret
        exact ⟨rfl, S2.2.2.1⟩
      | false =>
        go_wp2
        go_ret
        exact ⟨rfl, S2.2.2.1⟩

/-- How many the first lacks of the second's. -/
def lackI (a0 a1 a2 a3 b0 b1 b2 b3 : Int) : Int := (mx a0 b0 - a0) + (mx a1 b1 - a1) + (mx a2 b2 - a2) + (mx a3 b3 - a3)

set_option maxRecDepth 100000 in
set_option maxHeartbeats 1000000 in
theorem vlacks_any (a0 a1 a2 a3 b0 b1 b2 b3 : Int) (w : World)
    (l0 : -1099511627776 ≤ a0) (g0 : a0 ≤ 1099511627776) (l1 : -1099511627776 ≤ a1) (g1 : a1 ≤ 1099511627776) (l2 : -1099511627776 ≤ a2) (g2 : a2 ≤ 1099511627776) (l3 : -1099511627776 ≤ a3) (g3 : a3 ≤ 1099511627776)
    (l4 : -1099511627776 ≤ b0) (g4 : b0 ≤ 1099511627776) (l5 : -1099511627776 ≤ b1) (g5 : b1 ≤ 1099511627776) (l6 : -1099511627776 ≤ b2) (g6 : b2 ≤ 1099511627776) (l7 : -1099511627776 ≤ b3) (g7 : b3 ≤ 1099511627776) :
    Calls Tryd.prog 34 #[.agg #[.int .i64 a0, .int .i64 a1, .int .i64 a2, .int .i64 a3], .agg #[.int .i64 b0, .int .i64 b1, .int .i64 b2, .int .i64 b3]] w fun e w' => e = .returned (.int .i64 (lackI a0 a1 a2 a3 b0 b1 b2 b3)) ∧ Below w.heap.size w w' := by
  have S0 : CovS w a0 a1 a2 a3 b0 b1 b2 b3 ((w.alloc (.cells #[.int .i64 a0, .int .i64 a1, .int .i64 a2, .int .i64 a3] 54)).alloc (.cells #[.int .i64 b0, .int .i64 b1, .int .i64 b2, .int .i64 b3] 54)) :=
    ⟨by simp [go_sem], by simp [go_sem], ((Below.refl _ _).alloc (Nat.le_refl _) _).alloc (by simp) _, by simp⟩
  have m0 : a0 ≤ mx a0 b0 ∧ mx a0 b0 ≤ 1099511627776 := by unfold mx; omega
  have m1 : a1 ≤ mx a1 b1 ∧ mx a1 b1 ≤ 1099511627776 := by unfold mx; omega
  have m2 : a2 ≤ mx a2 b2 ∧ mx a2 b2 ≤ 1099511627776 := by unfold mx; omega
  have m3 : a3 ≤ mx a3 b3 ∧ mx a3 b3 ≤ 1099511627776 := by unfold mx; omega
  obtain ⟨m0, n0⟩ := m0
  obtain ⟨m1, n1⟩ := m1
  obtain ⟨m2, n2⟩ := m2
  obtain ⟨m3, n3⟩ := m3
  have hJ : Hid (∀ w, Calls Tryd.prog 31 #[.agg #[.int .i64 a0, .int .i64 a1, .int .i64 a2, .int .i64 a3], .agg #[.int .i64 b0, .int .i64 b1, .int .i64 b2, .int .i64 b3]] w fun e w' => e = .returned (.agg #[.int .i64 (mx a0 b0), .int .i64 (mx a1 b1), .int .i64 (mx a2 b2), .int .i64 (mx a3 b3)]) ∧ Below w.heap.size w w') := Lib.hid (vjoin_any a0 a1 a2 a3 b0 b1 b2 b3)
  unfold lackI
  generalize mx a0 b0 = c0 at m0 n0 hJ ⊢
  generalize mx a1 b1 = c1 at m1 n1 hJ ⊢
  generalize mx a2 b2 = c2 at m2 n2 hJ ⊢
  generalize mx a3 b3 = c3 at m3 n3 hJ ⊢
  have i0 : ∀ w : World, (Instr.index 54 (.agg #[.int .i64 c0, .int .i64 c1, .int .i64 c2, .int .i64 c3]) (.int .i64 0)).run Tryd.prog w = .ok (.int .i64 c0) w := fun _ => by kernel_rfl
  have i1 : ∀ w : World, (Instr.index 54 (.agg #[.int .i64 c0, .int .i64 c1, .int .i64 c2, .int .i64 c3]) (.int .i64 1)).run Tryd.prog w = .ok (.int .i64 c1) w := fun _ => by kernel_rfl
  have i2 : ∀ w : World, (Instr.index 54 (.agg #[.int .i64 c0, .int .i64 c1, .int .i64 c2, .int .i64 c3]) (.int .i64 2)).run Tryd.prog w = .ok (.int .i64 c2) w := fun _ => by kernel_rfl
  have i3 : ∀ w : World, (Instr.index 54 (.agg #[.int .i64 c0, .int .i64 c1, .int .i64 c2, .int .i64 c3]) (.int .i64 3)).run Tryd.prog w = .ok (.int .i64 c3) w := fun _ => by kernel_rfl
  go_enter Tryd.func34, Tryd.ntmps34
  go_wp2_with fail
  refine (hJ.out _).mono ?_
  rintro e w1 ⟨rfl, hb⟩
  have S1 := S0.later hb
  clear hb S0 hJ
  obtain ⟨⟨A0, A1, A2, A3⟩, -, -, -⟩ := id S1
  go_wp2
  refine wp_loop_rounds 5 ?_
  rw [rounds_succ]; go_wp2
  rw [rounds_succ]; go_wp2
  rw [rounds_succ]; go_wp2
  rw [rounds_succ]; go_wp2
  rw [rounds_succ]; go_wp2
  go_ret
  exact ⟨by simp, S1.2.2.1⟩

set_option maxHeartbeats 400000 in
/-- faulted(nil, none). -/
theorem faulted_nil (w : World) : Calls Tryd.prog 36 #[.nilIface, .agg #[.int .i64 0, .int .i64 (-1)]] w fun e w' => e = .returned (.bool true) ∧ Below w.heap.size w w' := by
  go_enter Tryd.func36, Tryd.ntmps36
  go_wp2_with fail
  refine (code_nil _).mono ?_
  rintro e w1 ⟨rfl, hw⟩
  subst hw
  go_wp2
  go_ret
  exact ⟨rfl, (Below.refl _ _).alloc (Nat.le_refl _) _⟩

set_option maxHeartbeats 400000 in
/-- faulted(ErrText, its number without a place). -/
theorem faulted_text {B : Nat} {ad : Nat → Addr} (w : World) (h : Errs B ad w) : Calls Tryd.prog 36 #[.iface 105 (.pointer (some (ad 0))), .agg #[.int .i64 1, .int .i64 (-1)]] w fun e w' => e = .returned (.bool true) ∧ Below w.heap.size w w' := by
  have h1 : Errs B ad (w.alloc (.cells #[.int .i64 1, .int .i64 (-1)] 59)) := h.later ((Below.refl _ _).alloc (Nat.le_refl _) _)
  have hV : (w.alloc (.cells #[.int .i64 1, .int .i64 (-1)] 59)).cell? ⟨w.heap.size, 0, none⟩ = some (.int .i64 1) ∧ (w.alloc (.cells #[.int .i64 1, .int .i64 (-1)] 59)).cell? ⟨w.heap.size, 1, none⟩ = some (.int .i64 (-1)) := by simp [go_sem]
  clear h
  go_enter Tryd.func36, Tryd.ntmps36
  go_wp2_with fail
  refine (code_sent _ h1 0 (by decide)).mono ?_
  rintro e w1 ⟨rfl, hb⟩
  have A0 := cell_later hb hV.1
  have A1 := cell_later hb hV.2
  have B1 : Below w.heap.size w w1 := ((Below.refl _ _).alloc (Nat.le_refl _) _).trans (hb.mono (by simp))
  rw [show codeOf 0 = 1 by decide]
  clear hb hV h1
  go_wp2
  go_ret
  exact ⟨rfl, B1⟩

set_option maxHeartbeats 400000 in
/-- faulted(a Fault of ErrBound, its number and place). -/
theorem faulted_bound {B : Nat} {ad : Nat → Addr} (w : World) (h : Errs B ad w) (pb : Nat) (n : Int) (hn : w.cell? ⟨pb, 0, none⟩ = some (.int .i64 n)) (he : w.cell? ⟨pb, 1, none⟩ = some (.iface 105 (.pointer (some (ad 1))))) :
    Calls Tryd.prog 36 #[.iface 29 (.pointer (some ⟨pb, 0, none⟩)), .agg #[.int .i64 2, .int .i64 n]] w fun e w' => e = .returned (.bool true) ∧ Below w.heap.size w w' := by
  have B0 := (Below.refl w.heap.size w).alloc (Nat.le_refl _) (.cells #[.int .i64 2, .int .i64 n] 59)
  have h1 : Errs B ad (w.alloc (.cells #[.int .i64 2, .int .i64 n] 59)) := h.later B0
  have hn1 := cell_later B0 hn
  have he1 := cell_later B0 he
  have hV : (w.alloc (.cells #[.int .i64 2, .int .i64 n] 59)).cell? ⟨w.heap.size, 0, none⟩ = some (.int .i64 2) ∧ (w.alloc (.cells #[.int .i64 2, .int .i64 n] 59)).cell? ⟨w.heap.size, 1, none⟩ = some (.int .i64 n) := by simp [go_sem]
  have HN := Lib.hid hn1
  have HE := Lib.hid he1
  have HV := Lib.hid hV
  clear h hn he B0 hn1 he1 hV
  go_enter Tryd.func36, Tryd.ntmps36
  go_wp2_with fail
  refine (code_fault _ h1 pb 0 n 1 (by decide) HN.out HE.out).mono ?_
  rintro e w1 ⟨rfl, hb⟩
  have A0 := cell_later hb HV.out.1
  have A1 := cell_later hb HV.out.2
  have B1 : Below w.heap.size w w1 := ((Below.refl _ _).alloc (Nat.le_refl _) _).trans (hb.mono (by simp))
  rw [show codeOf 1 = 2 by decide]
  clear hb HV h1 HN HE
  go_wp2
  go_ret
  exact ⟨rfl, B1⟩
end Go.Proofs.YtnfhbmgkiknaaaaDoor
