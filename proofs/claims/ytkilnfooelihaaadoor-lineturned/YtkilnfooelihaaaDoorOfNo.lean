/- Of at an id that no right stamp has: the zero stamp, ErrBound. -/
import Derived.Test.YtkilnfooelihaaaDoorStampOf
namespace Go.Proofs.YtkilnfooelihaaaDoor
open Go.RowKit

theorem tdiv_neg_le (n : Int) (h : n < 0) : n.tdiv 4 ≤ 0 := by
  have e : n.tdiv 4 = -((-n).tdiv 4) := by rw [Int.neg_tdiv]; omega
  have e2 : (-n).tdiv 4 = (-n) / 4 := Int.tdiv_eq_ediv_of_nonneg (by omega)
  omega

set_option maxHeartbeats 400000 in
theorem of_no_neg (n : Int) (w : World) (u : TypeId) (x : Value) (hg : w.cell? ⟨1, 0, none⟩ = some (.iface u x)) (hz : 1 < w.heap.size) (h : n < 0) (h2 : -9223372036854775808 ≤ n) :
    Calls Tryd.prog 25 #[.int .i64 n] w fun e w' => e = .returned (.tuple #[.agg #[.int .i64 0, .int .i64 0], .iface u x]) ∧ Below w.heap.size w w' := by
  have hq := tdiv_neg_le n h
  go_enter Tryd.func25, Tryd.ntmps25
  go_wp2_with fail
  refine (check_no _ _ _ (.iface u x) (by rw [World.cell?_alloc_lt _ _ _ (by simp <;> omega), World.cell?_alloc_lt _ _ _ hz]; exact hg) (by simp <;> omega) (by omega)).mono ?_
  rintro e w1 ⟨rfl, hb⟩
  obtain ⟨hc, hf⟩ := bcell hb
  go_wp2
  have c0 : w1.cell? ⟨w.heap.size, 0, none⟩ = some (.int .i64 0) := by rw [hc _ _ (by simp; omega)]; simp [go_sem]
  have c1 : w1.cell? ⟨w.heap.size, 1, none⟩ = some (.int .i64 0) := by rw [hc _ _ (by simp; omega)]; simp [go_sem]
  refine bodyPost_ret (v := .tuple #[.agg #[.int .i64 0, .int .i64 0], .iface u x]) (by simp [results, Tryd.results25, go_sem, c0, c1]) rfl ⟨rfl, ?_⟩
  exact (((((Below.refl _ _).alloc (Nat.le_refl _) _).alloc (by simp) _).trans (hb.mono (by simp; omega))).setCell (by simp) _).setCell (by simp) _

set_option maxHeartbeats 400000 in
theorem of_no_pos (n : Int) (w : World) (u : TypeId) (x : Value) (hg : w.cell? ⟨1, 0, none⟩ = some (.iface u x)) (hz : 1 < w.heap.size) (h : 0 ≤ n) (h2 : n < 4 ∨ 4294967300 ≤ n) (h3 : n ≤ 9223372036854775807) :
    Calls Tryd.prog 25 #[.int .i64 n] w fun e w' => e = .returned (.tuple #[.agg #[.int .i64 0, .int .i64 0], .iface u x]) ∧ Below w.heap.size w w' := by
  have hq : ¬ (1 ≤ n / 4 ∧ n / 4 ≤ 1073741824 ∧ 0 ≤ n % 4 ∧ n % 4 < 4) := by omega
  have H : Hid (¬ (1 ≤ n / 4 ∧ n / 4 ≤ 1073741824 ∧ 0 ≤ n % 4 ∧ n % 4 < 4)) := hq
  clear hq h2
  go_enter Tryd.func25, Tryd.ntmps25
  go_wp2_with fail
  refine (check_no _ _ _ (.iface u x) (by rw [World.cell?_alloc_lt _ _ _ (by simp <;> omega), World.cell?_alloc_lt _ _ _ hz]; exact hg) (by simp <;> omega) H.out).mono ?_
  rintro e w1 ⟨rfl, hb⟩
  obtain ⟨hc, hf⟩ := bcell hb
  go_wp2
  have c0 : w1.cell? ⟨w.heap.size, 0, none⟩ = some (.int .i64 0) := by rw [hc _ _ (by simp; omega)]; simp [go_sem]
  have c1 : w1.cell? ⟨w.heap.size, 1, none⟩ = some (.int .i64 0) := by rw [hc _ _ (by simp; omega)]; simp [go_sem]
  refine bodyPost_ret (v := .tuple #[.agg #[.int .i64 0, .int .i64 0], .iface u x]) (by simp [results, Tryd.results25, go_sem, c0, c1]) rfl ⟨rfl, ?_⟩
  exact (((((Below.refl _ _).alloc (Nat.le_refl _) _).alloc (by simp) _).trans (hb.mono (by simp; omega))).setCell (by simp) _).setCell (by simp) _

theorem of_no (n : Int) (w : World) (u : TypeId) (x : Value) (hg : w.cell? ⟨1, 0, none⟩ = some (.iface u x)) (hz : 1 < w.heap.size) (h : n < 4 ∨ 4294967300 ≤ n) (h2 : -9223372036854775808 ≤ n) (h3 : n ≤ 9223372036854775807) :
    Calls Tryd.prog 25 #[.int .i64 n] w fun e w' => e = .returned (.tuple #[.agg #[.int .i64 0, .int .i64 0], .iface u x]) ∧ Below w.heap.size w w' := by
  by_cases hn : n < 0
  · exact of_no_neg n w u x hg hz hn h2
  · exact of_no_pos n w u x hg hz (by omega) h h3
end Go.Proofs.YtkilnfooelihaaaDoor
