/- Contract of the reference's IsLess. -/
import Derived.Test.YtfpmmgboodcfiaaDoorStampLess
namespace Go.Proofs.YtfpmmgboodcfiaaDoor
open Go.RowKit

set_option maxHeartbeats 400000 in
theorem isLess_any (t b t' b' : Int) (w : World) :
    Calls Tryd.prog 36 #[.agg #[.int .i64 t, .int .i64 b], .agg #[.int .i64 t', .int .i64 b']] w fun e w' => e = .returned (.bool (lessB t b t' b')) ∧ Below w.heap.size w w' := by
  unfold lessB
  by_cases h : t = t'
  · have hl : decide (t < t') = false := by simp; omega
    have hd : (t == t') = true := by simp [h]
    rw [if_pos h]
    clear h
    go_enter Tryd.func36, Tryd.ntmps36
    go_wp2
    go_ret
    exact ⟨rfl, ((Below.refl _ _).alloc (Nat.le_refl _) _).alloc (by simp) _⟩
  · by_cases hlt : t < t'
    · have hl : decide (t < t') = true := by simp; omega
      rw [if_neg h, hl]
      clear h
      go_enter Tryd.func36, Tryd.ntmps36
      go_wp2
      go_ret
      exact ⟨rfl, ((Below.refl _ _).alloc (Nat.le_refl _) _).alloc (by simp) _⟩
    · have hl : decide (t < t') = false := by simp; omega
      have hd : (t == t') = false := by simp [h]
      rw [if_neg h, hl]
      clear h
      go_enter Tryd.func36, Tryd.ntmps36
      go_wp2
      go_ret
      exact ⟨rfl, ((Below.refl _ _).alloc (Nat.le_refl _) _).alloc (by simp) _⟩
end Go.Proofs.YtfpmmgboodcfiaaDoor
