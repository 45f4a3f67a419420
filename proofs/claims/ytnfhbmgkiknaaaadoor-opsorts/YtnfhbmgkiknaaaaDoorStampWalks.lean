/- Contracts of package stamp's functions (Of, Less) and of the law's closed fact 'stamped', over the translation. -/
import Derived.Test.YtnfhbmgkiknaaaaDoorStampID
import Derived.WalkKit
import Derived.WalkSpells
import Derived.Below
import Derived.LaidEql
namespace Go.Proofs.YtnfhbmgkiknaaaaDoor
open Go.RowKit

set_option maxHeartbeats 400000 in
theorem of_ok (n : Int) (w : World) (h1 : 4 ≤ n) (h2 : n < 4294967300) :
    Calls Tryd.prog 24 #[.int .i64 n] w fun e w' => e = .returned (.tuple #[.agg #[.int .i64 (n / 4), .int .i64 (n % 4)], .nilIface]) ∧ Below w.heap.size w w' := by
  go_enter Tryd.func24, Tryd.ntmps24
  go_wp2_with (go_at_call 20; refine (check_ok _ _ _ (by omega) (by omega) (by omega) (by omega)).mono ?_; rintro e w1 ⟨rfl, hb⟩; obtain ⟨hc, hf⟩ := bcell hb)
  have c0 : w1.cell? ⟨w.heap.size, 0, none⟩ = some (.int .i64 0) := by rw [hc _ _ (by simp; omega)]; simp [go_sem]
  have c1 : w1.cell? ⟨w.heap.size, 1, none⟩ = some (.int .i64 0) := by rw [hc _ _ (by simp; omega)]; simp [go_sem]
  refine bodyPost_ret (v := .tuple #[.agg #[.int .i64 (n / 4), .int .i64 (n % 4)], .nilIface]) (by simp [results, Tryd.results24, go_sem, c0, c1]) rfl ⟨rfl, ?_⟩
  exact (((((Below.refl _ _).alloc (Nat.le_refl _) _).alloc (by simp) _).trans (hb.mono (by simp; omega))).setCell (by simp) _).setCell (by simp) _

def lessB (t b t' b' : Int) : Bool := if t = t' then decide (b < b') else decide (t < t')

set_option maxHeartbeats 400000 in
theorem less_any (t b t' b' : Int) (w : World) :
    Calls Tryd.prog 18 #[.agg #[.int .i64 t, .int .i64 b], .agg #[.int .i64 t', .int .i64 b']] w fun e w' => e = .returned (.bool (lessB t b t' b')) ∧ Below w.heap.size w w' := by
  unfold lessB
  by_cases h : t = t'
  · have hd : (t != t') = false := by simp [h]
    rw [if_pos h]
    clear h
    go_enter Tryd.func18, Tryd.ntmps18
    go_wp2
    go_ret
    exact ⟨rfl, ((Below.refl _ _).alloc (Nat.le_refl _) _).alloc (by simp) _⟩
  · have hd : (t != t') = true := by simp [h]
    rw [if_neg h]
    clear h
    go_enter Tryd.func18, Tryd.ntmps18
    go_wp2
    go_ret
    exact ⟨rfl, ((Below.refl _ _).alloc (Nat.le_refl _) _).alloc (by simp) _⟩

set_option maxHeartbeats 400000 in
theorem stamped_any (w : World) : Calls Tryd.prog 17 #[] w fun e w' => e = .returned (.bool true) ∧ Below w.heap.size w w' := by
  go_enter Tryd.func17, Tryd.ntmps17
  go_wp2_with (go_at_call 22; refine (id_ok _ _ _ (by omega) (by omega) (by omega) (by omega)).mono ?_; rintro e w1 ⟨rfl, hb⟩)
  go_ret
  exact ⟨rfl, hb⟩
end Go.Proofs.YtnfhbmgkiknaaaaDoor
