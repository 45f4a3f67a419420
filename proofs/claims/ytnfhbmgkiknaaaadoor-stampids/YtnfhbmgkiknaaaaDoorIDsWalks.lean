/- The walk of the law StampIDs, out of the contracts of package stamp's functions. -/
import Derived.Test.YtnfhbmgkiknaaaaDoorStampWalks
import Derived.Laws.StructEq
import Derived.KernelRfl
namespace Go.Proofs.YtnfhbmgkiknaaaaDoor
open Go.RowKit

theorem eq36 (a b c d : Int) (w : World) : (Op.equalIn 10000 36 (.agg #[.int .i64 a, .int .i64 b]) (.agg #[.int .i64 c, .int .i64 d])).run Tryd.prog w = .ok (a == c && b == d) w := by
  have u3 := Tryd.underlying3
  have a3 := Tryd.isAgg3
  have z3 := Tryd.sizeOf3
  have hS : Tryd.prog.underlying 36 = some (.struct (Tryd.prog.fieldsOf 36)) := by kernel_rfl
  have hp : Tryd.prog.stoodInHeld 36 = false := by kernel_rfl
  rw [show (10000 : Nat) = 9999 + 1 from rfl, run_equalIn_agg w 9999 36 _ _ hS hp]
  simp only [Program.fieldsOf, Tryd.underlying36]
  go_simp
  by_cases h1 : a = c <;> by_cases h2 : b = d <;> simp [h1, h2]

theorem order_ok {t b t' b' : Int} (p3 : 0 ≤ b) (p4 : b < 4) (q3 : 0 ≤ b') (q4 : b' < 4) : (decide (t * 4 + b < t' * 4 + b') == lessB t b t' b') = true := by
  unfold lessB
  by_cases h : t = t'
  · rw [if_pos h]; subst h; simp
  · rw [if_neg h]; simp; omega
theorem same_ok {t b t' b' : Int} (p3 : 0 ≤ b) (p4 : b < 4) (q3 : 0 ≤ b') (q4 : b' < 4) : ((t * 4 + b == t' * 4 + b') == (t == t' && b == b')) = true := by
  rw [beq_iff_eq, Bool.eq_iff_iff]
  simp
  omega

def okB (t b : Int) : Prop := 1 ≤ t ∧ t ≤ 1073741824 ∧ 0 ≤ b ∧ b < 4

/-- ID's contract, one for both cases: a value that is nil just where the stamp is right. -/
theorem id_one (t b : Int) (w : World) (u : TypeId) (x : Value) (hg : w.cell? ⟨1, 0, none⟩ = some (.iface u x)) (hz : 1 < w.heap.size) :
    Calls Tryd.prog 22 #[.agg #[.int .i64 t, .int .i64 b]] w fun e w' => (∃ n, e = .returned (.tuple #[.int .i64 n, .iface u x])) ∧ Below w.heap.size w w' ∨ (okB t b ∧ e = .returned (.tuple #[.int .i64 (t * 4 + b), .nilIface]) ∧ Below w.heap.size w w') := by
  by_cases h : 1 ≤ t ∧ t ≤ 1073741824 ∧ 0 ≤ b ∧ b < 4
  · exact (id_ok t b w h.1 h.2.1 h.2.2.1 h.2.2.2).mono fun e w' hh => Or.inr ⟨h, hh.1, hh.2⟩
  · exact (id_no t b w u x hg hz h).mono fun e w' hh => Or.inl ⟨⟨0, hh.1⟩, hh.2⟩

set_option maxHeartbeats 1000000 in
theorem ids_any (t b t' b' : Int) (w : World) (u : TypeId) (x : Value) (hg : w.cell? ⟨1, 0, none⟩ = some (.iface u x)) (hz : 1 < w.heap.size) :
    Calls Tryd.prog 6 #[.agg #[.int .i64 t, .int .i64 b], .agg #[.int .i64 t', .int .i64 b']] w fun e w' => e = .returned (.bool true) ∧ Below w.heap.size w w' := by
  go_enter Tryd.func6, Tryd.ntmps6
  go_wp2_with fail
  refine (stamped_any _).mono ?_
  rintro e w1 ⟨rfl, hb1⟩
  have hz1 := hb1.size
  have A0 : w1.cell? ⟨w.heap.size, 0, none⟩ = some (.int .i64 t) := cell_later hb1 (by simp [go_sem])
  have A1 : w1.cell? ⟨w.heap.size, 1, none⟩ = some (.int .i64 b) := cell_later hb1 (by simp [go_sem])
  have A2 : w1.cell? ⟨w.heap.size + 1, 0, none⟩ = some (.int .i64 t') := cell_later hb1 (by simp [go_sem])
  have A3 : w1.cell? ⟨w.heap.size + 1, 1, none⟩ = some (.int .i64 b') := cell_later hb1 (by simp [go_sem])
  have G1 : w1.cell? ⟨1, 0, none⟩ = some (.iface u x) := cell_later hb1 (by rw [World.cell?_alloc_lt _ _ _ (by simp; omega), World.cell?_alloc_lt _ _ _ hz]; exact hg)
  have B1 : Below w.heap.size w w1 := (((Below.refl _ _).alloc (Nat.le_refl _) _).alloc (by simp) _).trans (hb1.mono (by simp; omega))
  simp at hz1
  clear hb1
  go_wp2_with fail
  refine (id_one t b _ u x G1 (by omega)).mono ?_
  rintro e w2 (⟨⟨n, rfl⟩, hb2⟩ | ⟨ok1, rfl, hb2⟩)
  all_goals
    have hz2 := hb2.size
    have A20 := cell_later hb2 A0
    have A21 := cell_later hb2 A1
    have A22 := cell_later hb2 A2
    have A23 := cell_later hb2 A3
    have G2 := cell_later hb2 G1
    have B2 : Below w.heap.size w w2 := B1.trans (hb2.mono (by omega))
    clear hb2 A0 A1 A2 A3 G1
    go_wp2_with fail
    refine (id_one t' b' _ u x G2 (by omega)).mono ?_
  · rintro e w3 (⟨⟨m, rfl⟩, hb3⟩ | ⟨ok2, rfl, hb3⟩)
    all_goals
      go_wp2
      go_ret
      exact ⟨rfl, B2.trans (hb3.mono (by omega))⟩
  · rintro e w3 (⟨⟨m, rfl⟩, hb3⟩ | ⟨ok2, rfl, hb3⟩)
    · go_wp2
      go_ret
      exact ⟨rfl, B2.trans (hb3.mono (by omega))⟩
    · have hz3 := hb3.size
      have A0 := cell_later hb3 A20
      have A1 := cell_later hb3 A21
      have A2 := cell_later hb3 A22
      have A3 := cell_later hb3 A23
      have B3 : Below w.heap.size w w3 := B2.trans (hb3.mono (by omega))
      clear hb3 A20 A21 A22 A23 G2
      obtain ⟨p1, p2, p3, p4⟩ := ok1
      obtain ⟨q1, q2, q3, q4⟩ := ok2
      go_wp2_with fail
      refine (of_ok _ _ (by omega) (by omega)).mono ?_
      rintro e w4 ⟨rfl, hb4⟩
      have e1 : (t * 4 + b) / 4 = t := by omega
      have e2 : (t * 4 + b) % 4 = b := by omega
      rw [e1, e2]
      clear e1 e2
      have hz4 := hb4.size
      have A10 := cell_later hb4 A0
      have A11 := cell_later hb4 A1
      have A12 := cell_later hb4 A2
      have A13 := cell_later hb4 A3
      have B4 : Below w.heap.size w w4 := B3.trans (hb4.mono (by omega))
      clear hb4 A0 A1 A2 A3
      go_wp2_with fail
      refine (of_ok _ _ (by omega) (by omega)).mono ?_
      rintro e w5 ⟨rfl, hb5⟩
      have e1 : (t' * 4 + b') / 4 = t' := by omega
      have e2 : (t' * 4 + b') % 4 = b' := by omega
      rw [e1, e2]
      clear e1 e2
      have hz5 := hb5.size
      have A0 : w5.cell? ⟨w.heap.size, 0, none⟩ = some (.int .i64 t) := cell_later hb5 (by rw [World.cell?_alloc_lt _ _ _ (by simp; omega)]; exact A10)
      have A1 : w5.cell? ⟨w.heap.size, 1, none⟩ = some (.int .i64 b) := cell_later hb5 (by rw [World.cell?_alloc_lt _ _ _ (by simp; omega)]; exact A11)
      have A2 : w5.cell? ⟨w.heap.size + 1, 0, none⟩ = some (.int .i64 t') := cell_later hb5 (by rw [World.cell?_alloc_lt _ _ _ (by simp; omega)]; exact A12)
      have A3 : w5.cell? ⟨w.heap.size + 1, 1, none⟩ = some (.int .i64 b') := cell_later hb5 (by rw [World.cell?_alloc_lt _ _ _ (by simp; omega)]; exact A13)
      have S0 : w5.cell? ⟨w4.heap.size, 0, none⟩ = some (.int .i64 t) := cell_later hb5 (by simp [go_sem])
      have S1 : w5.cell? ⟨w4.heap.size, 1, none⟩ = some (.int .i64 b) := cell_later hb5 (by simp [go_sem])
      have B5 : Below w.heap.size w w5 := (B4.alloc (by omega) _).trans (hb5.mono (by simp; omega))
      simp at hz5
      clear hb5 A10 A11 A12 A13
      have O := order_ok (t := t) (t' := t') p3 p4 q3 q4
      have M := same_ok (t := t) (t' := t') p3 p4 q3 q4
      have E36 := eq36
      have l4 : w4.heap.size < w5.heap.size := by omega
      have l0 : w.heap.size < w5.heap.size := by omega
      have l1 : w.heap.size + 1 < w5.heap.size := by omega
      clear B1 B2 B3 B4 hg p1 p2 q1 q2 p3 p4 q3 q4 hz1 hz2 hz3 hz4 hz5
      go_wp2_with fail
      refine (less_any _ _ _ _ _).mono ?_
      rintro e w6 ⟨rfl, hb6⟩
      have A10 : w6.cell? ⟨w.heap.size, 0, none⟩ = some (.int .i64 t) := cell_later hb6 (by rw [World.cell?_alloc_lt _ _ _ (by simp; omega)]; exact A0)
      have A11 : w6.cell? ⟨w.heap.size, 1, none⟩ = some (.int .i64 b) := cell_later hb6 (by rw [World.cell?_alloc_lt _ _ _ (by simp; omega)]; exact A1)
      have A12 : w6.cell? ⟨w.heap.size + 1, 0, none⟩ = some (.int .i64 t') := cell_later hb6 (by rw [World.cell?_alloc_lt _ _ _ (by simp; omega)]; exact A2)
      have A13 : w6.cell? ⟨w.heap.size + 1, 1, none⟩ = some (.int .i64 b') := cell_later hb6 (by rw [World.cell?_alloc_lt _ _ _ (by simp; omega)]; exact A3)
      have B6 : Below w.heap.size w w6 := (B5.alloc (by omega) _).trans (hb6.mono (by simp; omega))
      clear hb6 B5 A0 A1 A2 A3
      go_wp2
      go_ret
      exact ⟨rfl, B6⟩
end Go.Proofs.YtnfhbmgkiknaaaaDoor
