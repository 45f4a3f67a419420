/- Contract of package stamp's Of at a right id, over the translation. -/
import Derived.Test.YtkilnfooelihaaaDoorStampCheck
namespace Go.Proofs.YtkilnfooelihaaaDoor
open Go.RowKit

set_option maxHeartbeats 400000 in
theorem of_ok (n : Int) (w : World) (h1 : 4 ≤ n) (h2 : n < 4294967300) :
    Calls Tryd.prog 25 #[.int .i64 n] w fun e w' => e = .returned (.tuple #[.agg #[.int .i64 (n / 4), .int .i64 (n % 4)], .nilIface]) ∧ Below w.heap.size w w' := by
  go_enter Tryd.func25, Tryd.ntmps25
  go_wp2_with (go_at_call 21; refine (check_ok _ _ _ (by omega) (by omega) (by omega) (by omega)).mono ?_; rintro e w1 ⟨rfl, hb⟩; obtain ⟨hc, hf⟩ := bcell hb)
  have c0 : w1.cell? ⟨w.heap.size, 0, none⟩ = some (.int .i64 0) := by rw [hc _ _ (by simp; omega)]; simp [go_sem]
  have c1 : w1.cell? ⟨w.heap.size, 1, none⟩ = some (.int .i64 0) := by rw [hc _ _ (by simp; omega)]; simp [go_sem]
  refine bodyPost_ret (v := .tuple #[.agg #[.int .i64 (n / 4), .int .i64 (n % 4)], .nilIface]) (by simp [results, Tryd.results25, go_sem, c0, c1]) rfl ⟨rfl, ?_⟩
  exact (((((Below.refl _ _).alloc (Nat.le_refl _) _).alloc (by simp) _).trans (hb.mono (by simp; omega))).setCell (by simp) _).setCell (by simp) _

end Go.Proofs.YtkilnfooelihaaaDoor
