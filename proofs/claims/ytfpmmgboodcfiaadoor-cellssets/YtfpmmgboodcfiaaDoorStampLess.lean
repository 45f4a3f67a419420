/- Contract of package stamp's Less, over the translation. -/
import Derived.Test.YtfpmmgboodcfiaaDoorProg
import Derived.WalkKit
import Derived.WalkSpells
import Derived.Below
import Derived.LaidEql
namespace Go.Proofs.YtfpmmgboodcfiaaDoor
open Go.RowKit

def lessB (t b t' b' : Int) : Bool := if t = t' then decide (b < b') else decide (t < t')

set_option maxHeartbeats 400000 in
theorem less_any (t b t' b' : Int) (w : World) :
    Calls Tryd.prog 31 #[.agg #[.int .i64 t, .int .i64 b], .agg #[.int .i64 t', .int .i64 b']] w fun e w' => e = .returned (.bool (lessB t b t' b')) ∧ Below w.heap.size w w' := by
  unfold lessB
  by_cases h : t = t'
  · have hd : (t != t') = false := by simp [h]
    rw [if_pos h]
    clear h
    go_enter Tryd.func31, Tryd.ntmps31
    go_wp2
    go_ret
    exact ⟨rfl, ((Below.refl _ _).alloc (Nat.le_refl _) _).alloc (by simp) _⟩
  · have hd : (t != t') = true := by simp [h]
    rw [if_neg h]
    clear h
    go_enter Tryd.func31, Tryd.ntmps31
    go_wp2
    go_ret
    exact ⟨rfl, ((Below.refl _ _).alloc (Nat.le_refl _) _).alloc (by simp) _⟩
end Go.Proofs.YtfpmmgboodcfiaaDoor
