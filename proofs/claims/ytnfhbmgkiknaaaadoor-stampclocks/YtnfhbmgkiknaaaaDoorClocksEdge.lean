/- StampClocks where the list is too long for the statement, or where there is no such replica. -/
import Derived.Test.YtnfhbmgkiknaaaaDoorClocksParts
namespace Go.Proofs.YtnfhbmgkiknaaaaDoor
open Go.RowKit

set_option maxHeartbeats 400000 in
theorem clocks_long (c : Int) (ao : Option Addr) (n cap : Nat) (w : World) (hn : 100 < n) :
    Calls Tryd.prog 5 #[.int .i64 c, .slice ao n cap] w fun e w' => e = .returned (.bool true) ∧ Below w.heap.size w w' := by
  have d1 : decide ((100 : Int) < (n : Int)) = true := by simp; omega
  go_enter Tryd.func5, Tryd.ntmps5
  go_wp2_with fail
  refine (stamped_any _).mono ?_
  rintro e w1 ⟨rfl, hb1⟩
  go_wp2
  go_ret
  exact ⟨rfl, hb1⟩

set_option maxHeartbeats 400000 in
theorem clocks_none {ad : Nat → Addr} (c : Int) (ao : Option Addr) (n cap : Nat) (w : World) (h : Errs w.heap.size ad w) (hn : n ≤ 100) (hc : c < 0 ∨ 4 ≤ c) :
    Calls Tryd.prog 5 #[.int .i64 c, .slice ao n cap] w fun e w' => e = .returned (.bool true) ∧ Below w.heap.size w w' := by
  have d1 : decide ((100 : Int) < (n : Int)) = false := by simp; omega
  have HC : Hid (c < 0 ∨ 4 ≤ c) := hc
  by_cases hneg : c < 0
  · have d2 : decide (c < 0) = true := by simp; omega
    clear hc
    go_enter Tryd.func5, Tryd.ntmps5
    go_wp2_with fail
    refine (stamped_any _).mono ?_
    rintro e w1 ⟨rfl, hb1⟩
    have E1 := h.later hb1
    go_wp2_with fail
    refine (new_no c _ _ E1.c1 HC.out).mono ?_
    rintro e w2 ⟨rfl, hb2⟩
    have E2 := E1.later hb2
    have B2 := hb1.trans (hb2.mono hb1.size)
    go_wp2_with fail
    refine (coded_sent _ E2 1 (by decide) 2).mono ?_
    rintro e w3 ⟨rfl, hb3⟩
    have B3 := B2.trans (hb3.mono B2.size)
    rw [code1']
    clear h E1 E2 hb1 hb2 hb3 B2
    go_wp2
    go_ret
    exact ⟨rfl, B3⟩
  · have d2 : decide (c < 0) = false := by simp; omega
    have d3 : decide (4 ≤ c) = true := by simp; omega
    clear hc hneg
    go_enter Tryd.func5, Tryd.ntmps5
    go_wp2_with fail
    refine (stamped_any _).mono ?_
    rintro e w1 ⟨rfl, hb1⟩
    have E1 := h.later hb1
    go_wp2_with fail
    refine (new_no c _ _ E1.c1 HC.out).mono ?_
    rintro e w2 ⟨rfl, hb2⟩
    have E2 := E1.later hb2
    have B2 := hb1.trans (hb2.mono hb1.size)
    go_wp2_with fail
    refine (coded_sent _ E2 1 (by decide) 2).mono ?_
    rintro e w3 ⟨rfl, hb3⟩
    have B3 := B2.trans (hb3.mono B2.size)
    rw [code1']
    clear h E1 E2 hb1 hb2 hb3 B2
    go_wp2
    go_ret
    exact ⟨rfl, B3⟩
end Go.Proofs.YtnfhbmgkiknaaaaDoor
