/- Contract of package stamp's ID, over the translation. -/
import Derived.Test.YtcggmagdndhkbaaDoorStampCheck
namespace Go.Proofs.YtcggmagdndhkbaaDoor
open Go.RowKit

set_option maxHeartbeats 400000 in
theorem id_ok (t b : Int) (w : World) (h1 : 1 ≤ t) (h2 : t ≤ 1073741824) (h3 : 0 ≤ b) (h4 : b < 4) :
    Calls Tryd.prog 35 #[.agg #[.int .i64 t, .int .i64 b]] w fun e w' => e = .returned (.tuple #[.int .i64 (t * 4 + b), .nilIface]) ∧ Below w.heap.size w w' := by
  go_enter Tryd.func35, Tryd.ntmps35
  go_wp2_with (go_at_call 50; refine (check_ok _ _ _ h1 h2 h3 h4).mono ?_; rintro e w1 ⟨rfl, hb⟩; obtain ⟨hc, hf⟩ := bcell hb)
  go_ret2
  exact ⟨rfl, ((Below.refl _ _).alloc (Nat.le_refl _) _).trans (hb.mono (by simp))⟩

set_option maxHeartbeats 400000 in
theorem id_no (t b : Int) (w : World) (u : TypeId) (x : Value) (hg : w.cell? ⟨0, 0, none⟩ = some (.iface u x)) (hz : 0 < w.heap.size) (h : ¬ (1 ≤ t ∧ t ≤ 1073741824 ∧ 0 ≤ b ∧ b < 4)) :
    Calls Tryd.prog 35 #[.agg #[.int .i64 t, .int .i64 b]] w fun e w' => e = .returned (.tuple #[.int .i64 0, .iface u x]) ∧ Below w.heap.size w w' := by
  have H : Hid (¬ (1 ≤ t ∧ t ≤ 1073741824 ∧ 0 ≤ b ∧ b < 4)) := h
  clear h
  go_enter Tryd.func35, Tryd.ntmps35
  go_wp2_with fail
  refine (check_no t b _ (.iface u x) (by rw [World.cell?_alloc_lt _ _ _ hz]; exact hg) (by simp <;> omega) H.out).mono ?_
  rintro e w1 ⟨rfl, hb⟩
  obtain ⟨hc, hf⟩ := bcell hb
  go_wp2
  go_ret2
  exact ⟨rfl, ((Below.refl _ _).alloc (Nat.le_refl _) _).trans (hb.mono (by simp))⟩
end Go.Proofs.YtcggmagdndhkbaaDoor
