/- Contracts of the reference's stamp functions (IsLess, StampError, IDOf). -/
import Derived.Test.YtnfhbmgkiknaaaaDoorStampWalks
namespace Go.Proofs.YtnfhbmgkiknaaaaDoor
open Go.RowKit

set_option maxHeartbeats 400000 in
theorem isLess_any (t b t' b' : Int) (w : World) :
    Calls Tryd.prog 19 #[.agg #[.int .i64 t, .int .i64 b], .agg #[.int .i64 t', .int .i64 b']] w fun e w' => e = .returned (.bool (lessB t b t' b')) ∧ Below w.heap.size w w' := by
  unfold lessB
  by_cases h : t = t'
  · have hl : decide (t < t') = false := by simp; omega
    have hd : (t == t') = true := by simp [h]
    rw [if_pos h]
    clear h
    go_enter Tryd.func19, Tryd.ntmps19
    go_wp2
    go_ret
    exact ⟨rfl, ((Below.refl _ _).alloc (Nat.le_refl _) _).alloc (by simp) _⟩
  · by_cases hlt : t < t'
    · have hl : decide (t < t') = true := by simp; omega
      rw [if_neg h, hl]
      clear h
      go_enter Tryd.func19, Tryd.ntmps19
      go_wp2
      go_ret
      exact ⟨rfl, ((Below.refl _ _).alloc (Nat.le_refl _) _).alloc (by simp) _⟩
    · have hl : decide (t < t') = false := by simp; omega
      have hd : (t == t') = false := by simp [h]
      rw [if_neg h, hl]
      clear h
      go_enter Tryd.func19, Tryd.ntmps19
      go_wp2
      go_ret
      exact ⟨rfl, ((Below.refl _ _).alloc (Nat.le_refl _) _).alloc (by simp) _⟩

set_option maxHeartbeats 400000 in
theorem stampError_ok (t b : Int) (w : World) (h1 : 1 ≤ t) (h2 : t ≤ 1073741824) (h3 : 0 ≤ b) (h4 : b < 4) :
    Calls Tryd.prog 21 #[.agg #[.int .i64 t, .int .i64 b]] w fun e w' => e = .returned (.int .i64 0) ∧ Below w.heap.size w w' := by
  go_enter Tryd.func21, Tryd.ntmps21
  go_wp2
  go_ret
  exact ⟨rfl, (Below.refl _ _).alloc (Nat.le_refl _) _⟩

set_option maxHeartbeats 400000 in
theorem stampError_no (t b : Int) (w : World) (h : ¬ (1 ≤ t ∧ t ≤ 1073741824 ∧ 0 ≤ b ∧ b < 4)) :
    Calls Tryd.prog 21 #[.agg #[.int .i64 t, .int .i64 b]] w fun e w' => e = .returned (.int .i64 2) ∧ Below w.heap.size w w' := by
  by_cases h1 : 1 ≤ t
  · by_cases h2 : t ≤ 1073741824
    · by_cases h3 : 0 ≤ b
      · have h4 : 4 ≤ b := by omega
        clear h
        go_enter Tryd.func21, Tryd.ntmps21
        go_wp2
        go_ret
        exact ⟨rfl, (Below.refl _ _).alloc (Nat.le_refl _) _⟩
      · have h4 : b < 0 := by omega
        clear h h3
        go_enter Tryd.func21, Tryd.ntmps21
        go_wp2
        go_ret
        exact ⟨rfl, (Below.refl _ _).alloc (Nat.le_refl _) _⟩
    · have h4 : 1073741824 < t := by omega
      clear h h2
      go_enter Tryd.func21, Tryd.ntmps21
      go_wp2
      go_ret
      exact ⟨rfl, (Below.refl _ _).alloc (Nat.le_refl _) _⟩
  · have h4 : t < 1 := by omega
    clear h h1
    go_enter Tryd.func21, Tryd.ntmps21
    go_wp2
    go_ret
    exact ⟨rfl, (Below.refl _ _).alloc (Nat.le_refl _) _⟩

set_option maxHeartbeats 400000 in
theorem idOf_ok (t b : Int) (w : World) (h1 : 1 ≤ t) (h2 : t ≤ 1073741824) (h3 : 0 ≤ b) (h4 : b < 4) :
    Calls Tryd.prog 23 #[.agg #[.int .i64 t, .int .i64 b]] w fun e w' => e = .returned (.int .i64 (4 * t + b)) ∧ Below w.heap.size w w' := by
  go_enter Tryd.func23, Tryd.ntmps23
  go_wp2_with fail
  refine (stampError_ok t b _ h1 h2 h3 h4).mono ?_
  rintro e w1 ⟨rfl, hb⟩
  obtain ⟨hc, hf⟩ := bcell hb
  go_wp2
  go_ret
  exact ⟨rfl, ((Below.refl _ _).alloc (Nat.le_refl _) _).trans (hb.mono (by simp))⟩

set_option maxHeartbeats 400000 in
theorem idOf_no (t b : Int) (w : World) (h : ¬ (1 ≤ t ∧ t ≤ 1073741824 ∧ 0 ≤ b ∧ b < 4)) :
    Calls Tryd.prog 23 #[.agg #[.int .i64 t, .int .i64 b]] w fun e w' => e = .returned (.int .i64 0) ∧ Below w.heap.size w w' := by
  have H : Hid (¬ (1 ≤ t ∧ t ≤ 1073741824 ∧ 0 ≤ b ∧ b < 4)) := h
  clear h
  go_enter Tryd.func23, Tryd.ntmps23
  go_wp2_with fail
  refine (stampError_no t b _ H.out).mono ?_
  rintro e w1 ⟨rfl, hb⟩
  go_wp2
  go_ret
  exact ⟨rfl, ((Below.refl _ _).alloc (Nat.le_refl _) _).trans (hb.mono (by simp))⟩
end Go.Proofs.YtnfhbmgkiknaaaaDoor
