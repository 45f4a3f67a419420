/- The short roads of the law VectorPairs: a text that is too long, numbers that are too great. -/
import Derived.Test.YtnfhbmgkiknaaaaDoorPairsParts
namespace Go.Proofs.YtnfhbmgkiknaaaaDoor
open Go.RowKit

set_option maxRecDepth 100000 in
set_option maxHeartbeats 4000000 in
theorem pairs_long {D : Nat} {ad : Nat → Addr} {m : Int} (a0 a1 a2 a3 b0 b1 b2 b3 : Int) (s : ByteArray) (w : World) (h : EnvS D ad m w) (hs : 100 < s.size) :
    Calls Tryd.prog 7 #[.agg #[.int .i64 a0, .int .i64 a1, .int .i64 a2, .int .i64 a3], .agg #[.int .i64 b0, .int .i64 b1, .int .i64 b2, .int .i64 b3], .string s] w fun e w' => e = .returned (.bool true) ∧ Below w.heap.size w w' := by
  have V0 : VecAt ((w.alloc (.cells #[.int .i64 a0, .int .i64 a1, .int .i64 a2, .int .i64 a3] 52)).alloc (.cells #[.int .i64 b0, .int .i64 b1, .int .i64 b2, .int .i64 b3] 52)) w.heap.size a0 a1 a2 a3 ∧ VecAt ((w.alloc (.cells #[.int .i64 a0, .int .i64 a1, .int .i64 a2, .int .i64 a3] 52)).alloc (.cells #[.int .i64 b0, .int .i64 b1, .int .i64 b2, .int .i64 b3] 52)) (w.heap.size + 1) b0 b1 b2 b3 := by simp [VecAt, go_sem]
  have B0 : Below w.heap.size w ((w.alloc (.cells #[.int .i64 a0, .int .i64 a1, .int .i64 a2, .int .i64 a3] 52)).alloc (.cells #[.int .i64 b0, .int .i64 b1, .int .i64 b2, .int .i64 b3] 52)) := ((Below.refl _ _).alloc (Nat.le_refl _) _).alloc (by simp) _
  have z0 : w.heap.size + 2 ≤ ((w.alloc (.cells #[.int .i64 a0, .int .i64 a1, .int .i64 a2, .int .i64 a3] 52)).alloc (.cells #[.int .i64 b0, .int .i64 b1, .int .i64 b2, .int .i64 b3] 52)).heap.size := by simp
  have hd : decide (100 < (s.size : Int)) = true := by simp; omega
  go_enter Tryd.func7, Tryd.ntmps7
  go_wp2_with fail
  generalize ((w.alloc (.cells #[.int .i64 a0, .int .i64 a1, .int .i64 a2, .int .i64 a3] 52)).alloc (.cells #[.int .i64 b0, .int .i64 b1, .int .i64 b2, .int .i64 b3] 52)) = u at V0 B0 z0 ⊢
  refine (counted_any _ (h.later B0).tab).mono ?_
  rintro e w1 ⟨rfl, hb⟩
  have V1 := V0.1.later hb
  have V2 := V0.2.later hb
  have B1 : Below w.heap.size w w1 := B0.trans (hb.mono B0.size)
  have z1 : w.heap.size + 2 ≤ w1.heap.size := Nat.le_trans z0 hb.size
  clear hb V0 B0 z0
  clear V1 V2
  go_wp2
  go_ret
  exact ⟨rfl, B1⟩

set_option maxRecDepth 100000 in
set_option maxHeartbeats 4000000 in
theorem pairs_wildA {D : Nat} {ad : Nat → Addr} {m : Int} (a0 a1 a2 a3 b0 b1 b2 b3 : Int) (s : ByteArray) (w : World) (h : EnvS D ad m w) (hs : s.size ≤ 100) (ht : ¬ tameP a0 a1 a2 a3) :
    Calls Tryd.prog 7 #[.agg #[.int .i64 a0, .int .i64 a1, .int .i64 a2, .int .i64 a3], .agg #[.int .i64 b0, .int .i64 b1, .int .i64 b2, .int .i64 b3], .string s] w fun e w' => e = .returned (.bool true) ∧ Below w.heap.size w w' := by
  have V0 : VecAt ((w.alloc (.cells #[.int .i64 a0, .int .i64 a1, .int .i64 a2, .int .i64 a3] 52)).alloc (.cells #[.int .i64 b0, .int .i64 b1, .int .i64 b2, .int .i64 b3] 52)) w.heap.size a0 a1 a2 a3 ∧ VecAt ((w.alloc (.cells #[.int .i64 a0, .int .i64 a1, .int .i64 a2, .int .i64 a3] 52)).alloc (.cells #[.int .i64 b0, .int .i64 b1, .int .i64 b2, .int .i64 b3] 52)) (w.heap.size + 1) b0 b1 b2 b3 := by simp [VecAt, go_sem]
  have B0 : Below w.heap.size w ((w.alloc (.cells #[.int .i64 a0, .int .i64 a1, .int .i64 a2, .int .i64 a3] 52)).alloc (.cells #[.int .i64 b0, .int .i64 b1, .int .i64 b2, .int .i64 b3] 52)) := ((Below.refl _ _).alloc (Nat.le_refl _) _).alloc (by simp) _
  have z0 : w.heap.size + 2 ≤ ((w.alloc (.cells #[.int .i64 a0, .int .i64 a1, .int .i64 a2, .int .i64 a3] 52)).alloc (.cells #[.int .i64 b0, .int .i64 b1, .int .i64 b2, .int .i64 b3] 52)).heap.size := by simp
  have hd : decide (100 < (s.size : Int)) = false := by simp; omega
  have HT := Lib.hid ht
  clear ht
  go_enter Tryd.func7, Tryd.ntmps7
  go_wp2_with fail
  generalize ((w.alloc (.cells #[.int .i64 a0, .int .i64 a1, .int .i64 a2, .int .i64 a3] 52)).alloc (.cells #[.int .i64 b0, .int .i64 b1, .int .i64 b2, .int .i64 b3] 52)) = u at V0 B0 z0 ⊢
  refine (counted_any _ (h.later B0).tab).mono ?_
  rintro e w1 ⟨rfl, hb⟩
  have V1 := V0.1.later hb
  have V2 := V0.2.later hb
  have B1 : Below w.heap.size w w1 := B0.trans (hb.mono B0.size)
  have z1 : w.heap.size + 2 ≤ w1.heap.size := Nat.le_trans z0 hb.size
  clear hb V0 B0 z0
  obtain ⟨A0, A1, A2, A3⟩ := V1
  clear V2
  go_wp2_with fail
  refine (tame_any _ _ _ _ _).mono ?_
  rintro e w2 ⟨rfl, hb⟩
  rw [decide_eq_false HT.out]
  have B2 : Below w.heap.size w w2 := B1.trans (hb.mono B1.size)
  clear hb A0 A1 A2 A3
  go_wp2
  go_ret
  exact ⟨rfl, B2⟩

set_option maxRecDepth 100000 in
set_option maxHeartbeats 4000000 in
theorem pairs_wildB {D : Nat} {ad : Nat → Addr} {m : Int} (a0 a1 a2 a3 b0 b1 b2 b3 : Int) (s : ByteArray) (w : World) (h : EnvS D ad m w) (hs : s.size ≤ 100) (ht : tameP a0 a1 a2 a3) (hu : ¬ tameP b0 b1 b2 b3) :
    Calls Tryd.prog 7 #[.agg #[.int .i64 a0, .int .i64 a1, .int .i64 a2, .int .i64 a3], .agg #[.int .i64 b0, .int .i64 b1, .int .i64 b2, .int .i64 b3], .string s] w fun e w' => e = .returned (.bool true) ∧ Below w.heap.size w w' := by
  have V0 : VecAt ((w.alloc (.cells #[.int .i64 a0, .int .i64 a1, .int .i64 a2, .int .i64 a3] 52)).alloc (.cells #[.int .i64 b0, .int .i64 b1, .int .i64 b2, .int .i64 b3] 52)) w.heap.size a0 a1 a2 a3 ∧ VecAt ((w.alloc (.cells #[.int .i64 a0, .int .i64 a1, .int .i64 a2, .int .i64 a3] 52)).alloc (.cells #[.int .i64 b0, .int .i64 b1, .int .i64 b2, .int .i64 b3] 52)) (w.heap.size + 1) b0 b1 b2 b3 := by simp [VecAt, go_sem]
  have B0 : Below w.heap.size w ((w.alloc (.cells #[.int .i64 a0, .int .i64 a1, .int .i64 a2, .int .i64 a3] 52)).alloc (.cells #[.int .i64 b0, .int .i64 b1, .int .i64 b2, .int .i64 b3] 52)) := ((Below.refl _ _).alloc (Nat.le_refl _) _).alloc (by simp) _
  have z0 : w.heap.size + 2 ≤ ((w.alloc (.cells #[.int .i64 a0, .int .i64 a1, .int .i64 a2, .int .i64 a3] 52)).alloc (.cells #[.int .i64 b0, .int .i64 b1, .int .i64 b2, .int .i64 b3] 52)).heap.size := by simp
  have hd : decide (100 < (s.size : Int)) = false := by simp; omega
  have HT := Lib.hid ht
  have HU := Lib.hid hu
  clear ht hu
  go_enter Tryd.func7, Tryd.ntmps7
  go_wp2_with fail
  generalize ((w.alloc (.cells #[.int .i64 a0, .int .i64 a1, .int .i64 a2, .int .i64 a3] 52)).alloc (.cells #[.int .i64 b0, .int .i64 b1, .int .i64 b2, .int .i64 b3] 52)) = u at V0 B0 z0 ⊢
  refine (counted_any _ (h.later B0).tab).mono ?_
  rintro e w1 ⟨rfl, hb⟩
  have V1 := V0.1.later hb
  have V2 := V0.2.later hb
  have B1 : Below w.heap.size w w1 := B0.trans (hb.mono B0.size)
  have z1 : w.heap.size + 2 ≤ w1.heap.size := Nat.le_trans z0 hb.size
  clear hb V0 B0 z0
  obtain ⟨A0, A1, A2, A3⟩ := V1
  go_wp2_with fail
  refine (tame_any _ _ _ _ _).mono ?_
  rintro e w2 ⟨rfl, hb⟩
  rw [decide_eq_true HT.out]
  have B2 : Below w.heap.size w w2 := B1.trans (hb.mono B1.size)
  have V3 := V2.later hb
  clear hb A0 A1 A2 A3 V2
  obtain ⟨A4, A5, A6, A7⟩ := V3
  go_wp2_with fail
  refine (tame_any _ _ _ _ _).mono ?_
  rintro e w3 ⟨rfl, hb⟩
  rw [decide_eq_false HU.out]
  have B3 : Below w.heap.size w w3 := B2.trans (hb.mono B2.size)
  clear hb A4 A5 A6 A7
  go_wp2
  go_ret
  exact ⟨rfl, B3⟩
end Go.Proofs.YtnfhbmgkiknaaaaDoor
