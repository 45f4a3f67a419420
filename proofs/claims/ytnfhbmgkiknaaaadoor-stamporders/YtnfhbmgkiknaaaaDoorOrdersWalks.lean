/- The walk of the law StampOrders. -/
import Derived.Test.YtnfhbmgkiknaaaaDoorOfNo
import Derived.Test.YtnfhbmgkiknaaaaDoorRefStamp
import Derived.Test.YtnfhbmgkiknaaaaDoorCodeWalks
import Derived.Deep.RegionHeld3
import Derived.Laws.StructEq
namespace Go.Proofs.YtnfhbmgkiknaaaaDoor
open Go.RowKit

/-- What the walk holds on to: the errors; the two boxed stamps; nothing old has turned. -/
def OrdS (B : Nat) (ad : Nat → Addr) (w0 : World) (t b t' b' : Int) (w : World) : Prop :=
  w.cell? ⟨w0.heap.size, 0, none⟩ = some (.int .i64 t) ∧ w.cell? ⟨w0.heap.size, 1, none⟩ = some (.int .i64 b) ∧ w.cell? ⟨w0.heap.size + 1, 0, none⟩ = some (.int .i64 t') ∧ w.cell? ⟨w0.heap.size + 1, 1, none⟩ = some (.int .i64 b') ∧ Errs B ad w ∧ Below w0.heap.size w0 w ∧ w0.heap.size + 2 ≤ w.heap.size

theorem OrdS.later {B : Nat} {ad : Nat → Addr} {w0 w w' : World} {t b t' b' : Int} (h : OrdS B ad w0 t b t' b' w) (hb : Below w.heap.size w w') : OrdS B ad w0 t b t' b' w' := by
  obtain ⟨h1, h2, h3, h4, h5, h6, h7⟩ := h
  exact ⟨cell_later hb h1, cell_later hb h2, cell_later hb h3, cell_later hb h4, h5.later hb, h6.trans (hb.mono (by omega)), Nat.le_trans h7 hb.size⟩
theorem OrdS.drew {B : Nat} {ad : Nat → Addr} {w0 w : World} {t b t' b' : Int} (h : OrdS B ad w0 t b t' b' w) : OrdS B ad w0 t b t' b' w.drew := h.later (Below.refl _ _).drew

theorem OrdS.errs {B : Nat} {ad : Nat → Addr} {w0 w : World} {t b t' b' : Int} (h : OrdS B ad w0 t b t' b' w) : Errs B ad w := h.2.2.2.2.1
theorem OrdS.lt1 {B : Nat} {ad : Nat → Addr} {w0 w : World} {t b t' b' : Int} (h : OrdS B ad w0 t b t' b' w) : 1 < w.heap.size := World.block_lt_of_cell? w ⟨1, 0, none⟩ h.errs.c1

theorem eqStamp (a b c d : Int) (w : World) : (Op.equalIn 10000 36 (.agg #[.int .i64 a, .int .i64 b]) (.agg #[.int .i64 c, .int .i64 d])).run Tryd.prog w = .ok (a == c && b == d) w := by
  have u3 := Tryd.underlying3
  have a3 := Tryd.isAgg3
  have z3 := Tryd.sizeOf3
  have hS : Tryd.prog.underlying 36 = some (.struct (Tryd.prog.fieldsOf 36)) := by kernel_rfl
  have hp : Tryd.prog.stoodInHeld 36 = false := by kernel_rfl
  rw [show (10000 : Nat) = 9999 + 1 from rfl, run_equalIn_agg w 9999 36 _ _ hS hp]
  simp only [Program.fieldsOf, Tryd.underlying36]
  go_simp
  by_cases h1 : a = c <;> by_cases h2 : b = d <;> simp [h1, h2]

theorem code1 : codeOf 1 = 2 := by decide

set_option maxHeartbeats 2000000 in
theorem orders_ok {B : Nat} {ad : Nat → Addr} (t b t' b' n : Int) (w : World) (h : Errs B ad w) (h1 : 1 ≤ t) (h2 : t ≤ 1073741824) (h3 : 0 ≤ b) (h4 : b < 4) (hn : -9223372036854775808 ≤ n) (hm : n ≤ 9223372036854775807) :
    Calls Tryd.prog 4 #[.agg #[.int .i64 t, .int .i64 b], .agg #[.int .i64 t', .int .i64 b'], .int .i64 n] w fun e w' => e = .returned (.bool true) ∧ Below w.heap.size w w' := by
  have hsz := h.size
  have h0 : Errs B ad ((w.alloc (.cells #[.int .i64 t, .int .i64 b] 36)).alloc (.cells #[.int .i64 t', .int .i64 b'] 36)) := h.later (((Below.refl _ _).alloc (Nat.le_refl _) _).alloc (by simp) _)
  have B0 : Below w.heap.size w ((w.alloc (.cells #[.int .i64 t, .int .i64 b] 36)).alloc (.cells #[.int .i64 t', .int .i64 b'] 36)) := ((Below.refl _ _).alloc (Nat.le_refl _) _).alloc (by simp) _
  have S0 : OrdS B ad w t b t' b' ((w.alloc (.cells #[.int .i64 t, .int .i64 b] 36)).alloc (.cells #[.int .i64 t', .int .i64 b'] 36)) :=
    ⟨by simp [go_sem], by simp [go_sem], by simp [go_sem], by simp [go_sem], h0, B0, by simp⟩
  clear h0 B0 h
  go_enter Tryd.func4, Tryd.ntmps4
  go_wp2_with fail
  refine (stamped_any _).mono ?_
  rintro e w1 ⟨rfl, hb1⟩
  have S1 := S0.later hb1
  clear S0 hb1
  go_wp2_with fail
  obtain ⟨A0, A1, A2, A3, E1, B1, z1⟩ := S1
  go_region_held3 (fun w' => w'.cell? ⟨w.heap.size, 0, none⟩ = some (.int .i64 t) ∧ w'.cell? ⟨w.heap.size, 1, none⟩ = some (.int .i64 b) ∧ w'.cell? ⟨w.heap.size + 1, 0, none⟩ = some (.int .i64 t') ∧ w'.cell? ⟨w.heap.size + 1, 1, none⟩ = some (.int .i64 b') ∧ Errs B ad w' ∧ Below w.heap.size w w' ∧ w.heap.size + 2 ≤ w'.heap.size)
    (first
      | assumption
      | exact OrdS.drew ⟨A0, A1, A2, A3, E1, B1, z1⟩
      | exact OrdS.later (by assumption) (by assumption))
    (first
      | (go_at_call 18; refine (less_any _ _ _ _ _).mono ?_; rintro e w' ⟨rfl, hb⟩)
      | (go_at_call 19; refine (isLess_any _ _ _ _ _).mono ?_; rintro e w' ⟨rfl, hb⟩)
      | (go_at_call 20; refine (check_ok _ _ _ h1 h2 h3 h4).mono ?_; rintro e w' ⟨rfl, hb⟩)
      | (go_at_call 21; refine (stampError_ok _ _ _ h1 h2 h3 h4).mono ?_; rintro e w' ⟨rfl, hb⟩)
      | (go_at_call 15; refine (coded_nil _ _).mono ?_; rintro e w' ⟨rfl, hw⟩; subst hw))
  have S2 : OrdS B ad w t b t' b' w' := by assumption
  clear A0 A1 A2 A3 E1 B1 z1
  generalize w' = w2 at S2 ⊢
  obtain ⟨A0, A1, A2, A3, E1, B1, z1⟩ := S2
  go_wp2_with fail
  refine (id_ok t b _ h1 h2 h3 h4).mono ?_
  rintro e w3 ⟨rfl, hb3⟩
  have S3 := OrdS.later ⟨A0, A1, A2, A3, E1, B1, z1⟩ hb3
  clear hb3 A0 A1 A2 A3 E1 B1 z1
  obtain ⟨A0, A1, A2, A3, E1, B1, z1⟩ := S3
  go_wp2_with fail
  refine (stampError_ok _ _ _ h1 h2 h3 h4).mono ?_
  rintro e w4 ⟨rfl, hb4⟩
  have S4 := OrdS.later ⟨A0, A1, A2, A3, E1, B1, z1⟩ hb4
  clear hb4 A0 A1 A2 A3 E1 B1 z1
  go_wp2_with fail
  refine (coded_nil _ _).mono ?_
  rintro e w5 ⟨rfl, hw⟩
  subst hw
  have S5 := S4
  clear S4
  have hmul : (t * 4 + b != 4 * t + b) = false := by simp; omega
  obtain ⟨A0, A1, A2, A3, E1, B1, z1⟩ := S5
  go_wp2_with fail
  refine (idOf_ok _ _ _ h1 h2 h3 h4).mono ?_
  rintro e w6 ⟨rfl, hb6⟩
  have S6 := OrdS.later ⟨A0, A1, A2, A3, E1, B1, z1⟩ hb6
  clear hb6 A0 A1 A2 A3 E1 B1 z1
  obtain ⟨-, -, -, -, E6, B6, z6⟩ := S6
  by_cases hin : 4 ≤ n ∧ n < 4294967300
  · obtain ⟨k1, k2⟩ := hin
    go_wp2_with fail
    refine (of_ok n _ k1 k2).mono ?_
    rintro e w7 ⟨rfl, hb7⟩
    have B7 := B6.trans (hb7.mono (by omega))
    have z7 := hb7.size
    clear hb7 E6 B6
    have he : (4 * (n / 4) + n % 4 == n) = true := by rw [beq_iff_eq]; omega
    have HE : Hid ((4 * (n / 4) + n % 4 == n) = true) := he
    clear he
    go_wp2_with fail
    refine (idOf_ok (n / 4) (n % 4) _ (by omega) (by omega) (by omega) (by omega)).mono ?_
    rintro e w8 ⟨rfl, hb8⟩
    have B8 : Below w.heap.size w w8 := (B7.alloc (by omega) _).trans (hb8.mono (by simp; omega))
    clear hb8 B7
    have he := HE.out
    go_wp2
    go_ret
    exact ⟨rfl, B8⟩
  · have hout : n < 4 ∨ 4294967300 ≤ n := by omega
    have HO : Hid (n < 4 ∨ 4294967300 ≤ n) := hout
    have hz6 : 1 < w6.heap.size := World.block_lt_of_cell? w6 ⟨1, 0, none⟩ E6.c1
    have d1 : (decide (4 ≤ n) && decide (n < 4294967300)) = false := by
      rw [Bool.and_eq_false_iff, decide_eq_false_iff_not, decide_eq_false_iff_not]; omega
    clear hin hout
    go_wp2_with fail
    refine (of_no n _ _ _ E6.c1 hz6 HO.out hn hm).mono ?_
    rintro e w7 ⟨rfl, hb7⟩
    have E7 := E6.later hb7
    have B7 := B6.trans (hb7.mono (by omega))
    have z7 := hb7.size
    have E8 := E7.later ((Below.refl _ _).alloc (Nat.le_refl _) (.cells #[.int .i64 0, .int .i64 0] 36))
    clear hb7 E6 B6 E7 hz6
    have eqS := eqStamp
    have c1 := code1
    have HO2 := HO.out
    by_cases hlo : n < 4
    · have e4 : decide (4 ≤ n) = false := by simp; omega
      clear HO2 d1
      go_wp2_with fail
      refine (coded_sent _ E8 1 (by omega) 2).mono ?_
      rintro e w9 ⟨rfl, hb9⟩
      have x0 : w9.cell? ⟨w7.heap.size, 0, none⟩ = some (.int .i64 0) := cell_later hb9 (by simp [go_sem])
      have x1 : w9.cell? ⟨w7.heap.size, 1, none⟩ = some (.int .i64 0) := cell_later hb9 (by simp [go_sem])
      have B9 : Below w.heap.size w w9 := (B7.alloc (by omega) _).trans (hb9.mono (by simp; omega))
      rw [code1]
      clear hb9 E8 B7 c1
      go_wp2
      go_ret
      exact ⟨rfl, B9⟩
    · have hhi : 4294967300 ≤ n := by omega
      have e4 : decide (4 ≤ n) = true := by simp; omega
      have e5 : decide (n < 4294967300) = false := by simp; omega
      clear HO2 d1 hlo
      go_wp2_with fail
      refine (coded_sent _ E8 1 (by omega) 2).mono ?_
      rintro e w9 ⟨rfl, hb9⟩
      have x0 : w9.cell? ⟨w7.heap.size, 0, none⟩ = some (.int .i64 0) := cell_later hb9 (by simp [go_sem])
      have x1 : w9.cell? ⟨w7.heap.size, 1, none⟩ = some (.int .i64 0) := cell_later hb9 (by simp [go_sem])
      have B9 : Below w.heap.size w w9 := (B7.alloc (by omega) _).trans (hb9.mono (by simp; omega))
      rw [code1]
      clear hb9 E8 B7 c1
      go_wp2
      go_ret
      exact ⟨rfl, B9⟩

set_option maxHeartbeats 2000000 in
theorem orders_no {B : Nat} {ad : Nat → Addr} (t b t' b' n : Int) (w : World) (h : Errs B ad w) (hbad : ¬ (1 ≤ t ∧ t ≤ 1073741824 ∧ 0 ≤ b ∧ b < 4)) (hn : -9223372036854775808 ≤ n) (hm : n ≤ 9223372036854775807) :
    Calls Tryd.prog 4 #[.agg #[.int .i64 t, .int .i64 b], .agg #[.int .i64 t', .int .i64 b'], .int .i64 n] w fun e w' => e = .returned (.bool true) ∧ Below w.heap.size w w' := by
  have hsz := h.size
  have H : Hid (¬ (1 ≤ t ∧ t ≤ 1073741824 ∧ 0 ≤ b ∧ b < 4)) := hbad
  clear hbad
  have h0 : Errs B ad ((w.alloc (.cells #[.int .i64 t, .int .i64 b] 36)).alloc (.cells #[.int .i64 t', .int .i64 b'] 36)) := h.later (((Below.refl _ _).alloc (Nat.le_refl _) _).alloc (by simp) _)
  have B0 : Below w.heap.size w ((w.alloc (.cells #[.int .i64 t, .int .i64 b] 36)).alloc (.cells #[.int .i64 t', .int .i64 b'] 36)) := ((Below.refl _ _).alloc (Nat.le_refl _) _).alloc (by simp) _
  have S0 : OrdS B ad w t b t' b' ((w.alloc (.cells #[.int .i64 t, .int .i64 b] 36)).alloc (.cells #[.int .i64 t', .int .i64 b'] 36)) :=
    ⟨by simp [go_sem], by simp [go_sem], by simp [go_sem], by simp [go_sem], h0, B0, by simp⟩
  clear h0 B0 h
  go_enter Tryd.func4, Tryd.ntmps4
  go_wp2_with fail
  refine (stamped_any _).mono ?_
  rintro e w1 ⟨rfl, hb1⟩
  have S1 := S0.later hb1
  clear S0 hb1
  go_wp2_with fail
  obtain ⟨A0, A1, A2, A3, E1, B1, z1⟩ := S1
  go_region_held3 (fun w' => w'.cell? ⟨w.heap.size, 0, none⟩ = some (.int .i64 t) ∧ w'.cell? ⟨w.heap.size, 1, none⟩ = some (.int .i64 b) ∧ w'.cell? ⟨w.heap.size + 1, 0, none⟩ = some (.int .i64 t') ∧ w'.cell? ⟨w.heap.size + 1, 1, none⟩ = some (.int .i64 b') ∧ Errs B ad w' ∧ Below w.heap.size w w' ∧ w.heap.size + 2 ≤ w'.heap.size)
    (first
      | assumption
      | exact OrdS.drew ⟨A0, A1, A2, A3, E1, B1, z1⟩
      | exact OrdS.later (by assumption) (by assumption))
    (first
      | (go_at_call 18; refine (less_any _ _ _ _ _).mono ?_; rintro e w' ⟨rfl, hb⟩)
      | (go_at_call 19; refine (isLess_any _ _ _ _ _).mono ?_; rintro e w' ⟨rfl, hb⟩)
      | (go_at_call 20; refine (check_no _ _ _ (.iface 105 (.pointer (some (ad 1)))) ?_ ?_ H.out).mono ?_; (exact (OrdS.errs (by assumption)).c1); (exact (OrdS.lt1 (by assumption))); rintro e w' ⟨rfl, hb⟩)
      | (go_at_call 21; refine (stampError_no _ _ _ H.out).mono ?_; rintro e w' ⟨rfl, hb⟩)
      | (go_at_call 15; refine (coded_sent _ (OrdS.errs (by assumption)) 1 (by decide) 2).mono ?_; rintro e w' ⟨rfl, hb⟩; rw [code1]))
  have S2 : OrdS B ad w t b t' b' w' := by assumption
  clear A0 A1 A2 A3 E1 B1 z1
  generalize w' = w2 at S2 ⊢
  obtain ⟨A0, A1, A2, A3, E1, B1, z1⟩ := S2
  go_wp2_with fail
  refine (id_no t b _ _ _ E1.c1 (World.block_lt_of_cell? _ ⟨1, 0, none⟩ E1.c1) H.out).mono ?_
  rintro e w3 ⟨rfl, hb3⟩
  have S3 := OrdS.later ⟨A0, A1, A2, A3, E1, B1, z1⟩ hb3
  clear hb3 A0 A1 A2 A3 E1 B1 z1
  obtain ⟨A0, A1, A2, A3, E1, B1, z1⟩ := S3
  go_wp2_with fail
  refine (stampError_no _ _ _ H.out).mono ?_
  rintro e w4 ⟨rfl, hb4⟩
  have S4 := OrdS.later ⟨A0, A1, A2, A3, E1, B1, z1⟩ hb4
  clear hb4 A0 A1 A2 A3 E1 B1 z1
  go_wp2_with fail
  refine (coded_sent _ (OrdS.errs S4) 1 (by decide) 2).mono ?_
  rintro e w5 ⟨rfl, hb5⟩
  rw [code1]
  have S5 := S4.later hb5
  clear S4 hb5
  obtain ⟨A0, A1, A2, A3, E1, B1, z1⟩ := S5
  go_wp2_with fail
  refine (idOf_no _ _ _ H.out).mono ?_
  rintro e w6 ⟨rfl, hb6⟩
  have S6 := OrdS.later ⟨A0, A1, A2, A3, E1, B1, z1⟩ hb6
  clear hb6 A0 A1 A2 A3 E1 B1 z1
  obtain ⟨-, -, -, -, E6, B6, z6⟩ := S6
  by_cases hin : 4 ≤ n ∧ n < 4294967300
  · obtain ⟨k1, k2⟩ := hin
    go_wp2_with fail
    refine (of_ok n _ k1 k2).mono ?_
    rintro e w7 ⟨rfl, hb7⟩
    have B7 := B6.trans (hb7.mono (by omega))
    have z7 := hb7.size
    clear hb7 E6 B6
    have he : (4 * (n / 4) + n % 4 == n) = true := by rw [beq_iff_eq]; omega
    have HE : Hid ((4 * (n / 4) + n % 4 == n) = true) := he
    clear he
    go_wp2_with fail
    refine (idOf_ok (n / 4) (n % 4) _ (by omega) (by omega) (by omega) (by omega)).mono ?_
    rintro e w8 ⟨rfl, hb8⟩
    have B8 : Below w.heap.size w w8 := (B7.alloc (by omega) _).trans (hb8.mono (by simp; omega))
    clear hb8 B7
    have he := HE.out
    go_wp2
    go_ret
    exact ⟨rfl, B8⟩
  · have hout : n < 4 ∨ 4294967300 ≤ n := by omega
    have HO : Hid (n < 4 ∨ 4294967300 ≤ n) := hout
    have hz6 : 1 < w6.heap.size := World.block_lt_of_cell? w6 ⟨1, 0, none⟩ E6.c1
    have d1 : (decide (4 ≤ n) && decide (n < 4294967300)) = false := by
      rw [Bool.and_eq_false_iff, decide_eq_false_iff_not, decide_eq_false_iff_not]; omega
    clear hin hout
    go_wp2_with fail
    refine (of_no n _ _ _ E6.c1 hz6 HO.out hn hm).mono ?_
    rintro e w7 ⟨rfl, hb7⟩
    have E7 := E6.later hb7
    have B7 := B6.trans (hb7.mono (by omega))
    have z7 := hb7.size
    have E8 := E7.later ((Below.refl _ _).alloc (Nat.le_refl _) (.cells #[.int .i64 0, .int .i64 0] 36))
    clear hb7 E6 B6 E7 hz6
    have eqS := eqStamp
    have c1 := code1
    have HO2 := HO.out
    by_cases hlo : n < 4
    · have e4 : decide (4 ≤ n) = false := by simp; omega
      clear HO2 d1
      go_wp2_with fail
      refine (coded_sent _ E8 1 (by omega) 2).mono ?_
      rintro e w9 ⟨rfl, hb9⟩
      have x0 : w9.cell? ⟨w7.heap.size, 0, none⟩ = some (.int .i64 0) := cell_later hb9 (by simp [go_sem])
      have x1 : w9.cell? ⟨w7.heap.size, 1, none⟩ = some (.int .i64 0) := cell_later hb9 (by simp [go_sem])
      have B9 : Below w.heap.size w w9 := (B7.alloc (by omega) _).trans (hb9.mono (by simp; omega))
      rw [code1]
      clear hb9 E8 B7 c1
      go_wp2
      go_ret
      exact ⟨rfl, B9⟩
    · have hhi : 4294967300 ≤ n := by omega
      have e4 : decide (4 ≤ n) = true := by simp; omega
      have e5 : decide (n < 4294967300) = false := by simp; omega
      clear HO2 d1 hlo
      go_wp2_with fail
      refine (coded_sent _ E8 1 (by omega) 2).mono ?_
      rintro e w9 ⟨rfl, hb9⟩
      have x0 : w9.cell? ⟨w7.heap.size, 0, none⟩ = some (.int .i64 0) := cell_later hb9 (by simp [go_sem])
      have x1 : w9.cell? ⟨w7.heap.size, 1, none⟩ = some (.int .i64 0) := cell_later hb9 (by simp [go_sem])
      have B9 : Below w.heap.size w w9 := (B7.alloc (by omega) _).trans (hb9.mono (by simp; omega))
      rw [code1]
      clear hb9 E8 B7 c1
      go_wp2
      go_ret
      exact ⟨rfl, B9⟩
end Go.Proofs.YtnfhbmgkiknaaaaDoor
