/- Contract of the program's Read of a vector, at a text of at most 100 bytes: four numbers. -/
import Derived.Test.YtnfhbmgkiknaaaaDoorVecRead
namespace Go.Proofs.YtnfhbmgkiknaaaaDoor
open Go.RowKit

set_option maxRecDepth 100000 in
set_option maxHeartbeats 4000000 in
theorem rd_b (s : ByteArray) (w : World) (hs : s.size ≤ 100) (m : Int) (hm : w.cell? ⟨14, 0, none⟩ = some (.int .i64 m)) (u0 u1 : TypeId) (x0 x1 : Value) (ht : w.cell? ⟨0, 0, none⟩ = some (.iface u0 x0)) (he : w.cell? ⟨1, 0, none⟩ = some (.iface u1 x1)) (l0 l1 l2 l3 : List UInt8) (h4 : cutL s.data.toList = [l0, l1, l2, l3]) (n0 : Nat) (h0 : numL l0 = some n0) (n1 : Nat) (h1 : numL l1 = some n1) (n2 : Nat) (h2 : numL l2 = some n2) (n3 : Nat) (h3 : numL l3 = some n3) (k : Nat) (hbad : badI n0 n1 n2 n3 = some k) :
    Calls Tryd.prog 40 #[.string s] w fun e w' => ∃ nb, e = .returned (.tuple #[.agg #[.int .i64 0, .int .i64 0, .int .i64 0, .int .i64 0], .iface 29 (.pointer (some ⟨nb, 0, none⟩))]) ∧ w'.cell? ⟨nb, 0, none⟩ = some (.int .i64 (k : Int)) ∧ w'.cell? ⟨nb, 1, none⟩ = some (.iface u1 x1) ∧ Below w.heap.size w w' := by
  have B0 : Below w.heap.size w (w.alloc (.cells #[.int .i64 0, .int .i64 0, .int .i64 0, .int .i64 0] 54)) := (Below.refl _ _).alloc (Nat.le_refl _) _
  have S0 : ReadS w u0 u1 x0 x1 (w.alloc (.cells #[.int .i64 0, .int .i64 0, .int .i64 0, .int .i64 0] 54)) := ⟨by simp [go_sem], by simp [go_sem], by simp [go_sem], by simp [go_sem], by simp [go_sem], by simp [go_sem], by simp [go_sem], by simp [go_sem], cell_later B0 ht, cell_later B0 he, B0, by simp⟩
  have HM := Lib.hid (cell_later B0 hm)
  have neT0 : 0 < w.heap.size := World.block_lt_of_cell? w ⟨0, 0, none⟩ ht
  have neT1 : ¬ w.heap.size = 0 := by omega
  have neT2 : ¬ 0 = w.heap.size := by omega
  have H4 := Lib.hid h4
  have HB := Lib.hid hbad
  clear hbad
  clear h4 hm ht he B0
  go_enter Tryd.func40, Tryd.ntmps40
  go_wp2_with fail
  refine (split_any s m _ hs HM.out).mono ?_
  rintro e w1 ⟨P, cap, g, rfl, hcap, hc, h4e, h4n, hb⟩
  have S1 := S0.later hb
  clear hb S0 HM
  have hP := h4e (by rw [H4.out]; rfl)
  rw [H4.out] at hP
  obtain ⟨p0, p1, p2, p3, rfl, e0, e1, e2, e3⟩ : ∃ p0 p1 p2 p3, P = [p0, p1, p2, p3] ∧ p0.data.toList = l0 ∧ p1.data.toList = l1 ∧ p2.data.toList = l2 ∧ p3.data.toList = l3 := by
    match P, hP with
    | [a, b, c, d], hP => simp at hP; exact ⟨a, b, c, d, rfl, hP⟩
  subst e0 e1 e2 e3
  have k0 : ∀ o, (w1.alloc o).cell? ⟨g, 0, none⟩ = some (.string p0) := fun o => cell_later ((Below.refl _ _).alloc (Nat.le_refl _) o) (hc 0 _ rfl)
  have k1 : ∀ o, (w1.alloc o).cell? ⟨g, 1, none⟩ = some (.string p1) := fun o => cell_later ((Below.refl _ _).alloc (Nat.le_refl _) o) (hc 1 _ rfl)
  have k2 : ∀ o, (w1.alloc o).cell? ⟨g, 2, none⟩ = some (.string p2) := fun o => cell_later ((Below.refl _ _).alloc (Nat.le_refl _) o) (hc 2 _ rfl)
  have k3 : ∀ o, (w1.alloc o).cell? ⟨g, 3, none⟩ = some (.string p3) := fun o => cell_later ((Below.refl _ _).alloc (Nat.le_refl _) o) (hc 3 _ rfl)
  have hcap4 : 4 ≤ cap := by simpa using hcap
  clear hcap hc h4e h4n hP H4
  go_wp2
  refine wp_loop_rounds 5 ?_
  rw [rounds_succ]; go_wp2_with fail
  refine (readNumber_some p0 n0 _ h0).mono ?_
  rintro e w' ⟨rfl, hw⟩
  subst hw
  go_wp2
  rw [rounds_succ]; go_wp2_with fail
  refine (readNumber_some p1 n1 _ h1).mono ?_
  rintro e w' ⟨rfl, hw⟩
  subst hw
  go_wp2
  rw [rounds_succ]; go_wp2_with fail
  refine (readNumber_some p2 n2 _ h2).mono ?_
  rintro e w' ⟨rfl, hw⟩
  subst hw
  go_wp2
  rw [rounds_succ]; go_wp2_with fail
  refine (readNumber_some p3 n3 _ h3).mono ?_
  rintro e w' ⟨rfl, hw⟩
  subst hw
  go_wp2
  rw [rounds_succ]; go_wp2_with fail
  have S2 := S1.later ((Below.refl _ _).alloc (Nat.le_refl _) (.cells #[.int .i64 (n0 : Int), .int .i64 (n1 : Int), .int .i64 (n2 : Int), .int .i64 (n3 : Int)] 54))
  have V2 : VecAt (w1.alloc (.cells #[.int .i64 (n0 : Int), .int .i64 (n1 : Int), .int .i64 (n2 : Int), .int .i64 (n3 : Int)] 54)) w1.heap.size n0 n1 n2 n3 := by simp [VecAt, go_sem]
  clear S1 k0 k1 k2 k3
  refine (vcheck_bad n0 n1 n2 n3 k _ u1 x1 S2.e HB.out).mono ?_
  rintro e w3 ⟨rfl, y0, y1, z3, hb⟩
  have S3 := S2.later hb
  have HY := Lib.hid (And.intro y0 y1)
  have hne : ¬ w.heap.size = (w1.alloc (.cells #[.int .i64 (n0 : Int), .int .i64 (n1 : Int), .int .i64 (n2 : Int), .int .i64 (n3 : Int)] 54)).heap.size + 1 := by have := S2.z; omega
  clear hb S2 V2 y0 y1
  generalize (w1.alloc (.cells #[.int .i64 (n0 : Int), .int .i64 (n1 : Int), .int .i64 (n2 : Int), .int .i64 (n3 : Int)] 54)).heap.size + 1 = nb at HY hne ⊢
  obtain ⟨c0, c1, c2, c3, f0, f1, f2, f3, -, -, B3, -⟩ := S3
  go_wp2
  refine bodyPost_ret (v := .tuple #[.agg #[.int .i64 0, .int .i64 0, .int .i64 0, .int .i64 0], .iface 29 (.pointer (some ⟨nb, 0, none⟩))]) (by simp [results, Tryd.results40, go_sem, c0, c1, c2, c3]) rfl ⟨nb, rfl, ?_, ?_, ?_⟩
  · rw [World.cell?_setCell_other _ _ _ _ (fun h => hne (congrArg Addr.block h)), World.cell?_setCell_other _ _ _ _ (fun h => hne (congrArg Addr.block h)), World.cell?_setCell_other _ _ _ _ (fun h => hne (congrArg Addr.block h)), World.cell?_setCell_other _ _ _ _ (fun h => hne (congrArg Addr.block h))]; exact HY.out.1
  · rw [World.cell?_setCell_other _ _ _ _ (fun h => hne (congrArg Addr.block h)), World.cell?_setCell_other _ _ _ _ (fun h => hne (congrArg Addr.block h)), World.cell?_setCell_other _ _ _ _ (fun h => hne (congrArg Addr.block h)), World.cell?_setCell_other _ _ _ _ (fun h => hne (congrArg Addr.block h))]; exact HY.out.2
  · exact (((B3.setCell (by simp) _).setCell (by simp) _).setCell (by simp) _).setCell (by simp) _

set_option maxRecDepth 100000 in
set_option maxHeartbeats 4000000 in
theorem rd_ok (s : ByteArray) (w : World) (hs : s.size ≤ 100) (m : Int) (hm : w.cell? ⟨14, 0, none⟩ = some (.int .i64 m)) (u0 u1 : TypeId) (x0 x1 : Value) (ht : w.cell? ⟨0, 0, none⟩ = some (.iface u0 x0)) (he : w.cell? ⟨1, 0, none⟩ = some (.iface u1 x1)) (l0 l1 l2 l3 : List UInt8) (h4 : cutL s.data.toList = [l0, l1, l2, l3]) (n0 : Nat) (h0 : numL l0 = some n0) (n1 : Nat) (h1 : numL l1 = some n1) (n2 : Nat) (h2 : numL l2 = some n2) (n3 : Nat) (h3 : numL l3 = some n3) (hbad : badI n0 n1 n2 n3 = none) :
    Calls Tryd.prog 40 #[.string s] w fun e w' => e = .returned (.tuple #[.agg #[.int .i64 (n0 : Int), .int .i64 (n1 : Int), .int .i64 (n2 : Int), .int .i64 (n3 : Int)], .nilIface]) ∧ Below w.heap.size w w' := by
  have B0 : Below w.heap.size w (w.alloc (.cells #[.int .i64 0, .int .i64 0, .int .i64 0, .int .i64 0] 54)) := (Below.refl _ _).alloc (Nat.le_refl _) _
  have S0 : ReadS w u0 u1 x0 x1 (w.alloc (.cells #[.int .i64 0, .int .i64 0, .int .i64 0, .int .i64 0] 54)) := ⟨by simp [go_sem], by simp [go_sem], by simp [go_sem], by simp [go_sem], by simp [go_sem], by simp [go_sem], by simp [go_sem], by simp [go_sem], cell_later B0 ht, cell_later B0 he, B0, by simp⟩
  have HM := Lib.hid (cell_later B0 hm)
  have neT0 : 0 < w.heap.size := World.block_lt_of_cell? w ⟨0, 0, none⟩ ht
  have neT1 : ¬ w.heap.size = 0 := by omega
  have neT2 : ¬ 0 = w.heap.size := by omega
  have H4 := Lib.hid h4
  have HB := Lib.hid ((badI_none _ _ _ _).1 hbad)
  clear hbad
  clear h4 hm ht he B0
  go_enter Tryd.func40, Tryd.ntmps40
  go_wp2_with fail
  refine (split_any s m _ hs HM.out).mono ?_
  rintro e w1 ⟨P, cap, g, rfl, hcap, hc, h4e, h4n, hb⟩
  have S1 := S0.later hb
  clear hb S0 HM
  have hP := h4e (by rw [H4.out]; rfl)
  rw [H4.out] at hP
  obtain ⟨p0, p1, p2, p3, rfl, e0, e1, e2, e3⟩ : ∃ p0 p1 p2 p3, P = [p0, p1, p2, p3] ∧ p0.data.toList = l0 ∧ p1.data.toList = l1 ∧ p2.data.toList = l2 ∧ p3.data.toList = l3 := by
    match P, hP with
    | [a, b, c, d], hP => simp at hP; exact ⟨a, b, c, d, rfl, hP⟩
  subst e0 e1 e2 e3
  have k0 : ∀ o, (w1.alloc o).cell? ⟨g, 0, none⟩ = some (.string p0) := fun o => cell_later ((Below.refl _ _).alloc (Nat.le_refl _) o) (hc 0 _ rfl)
  have k1 : ∀ o, (w1.alloc o).cell? ⟨g, 1, none⟩ = some (.string p1) := fun o => cell_later ((Below.refl _ _).alloc (Nat.le_refl _) o) (hc 1 _ rfl)
  have k2 : ∀ o, (w1.alloc o).cell? ⟨g, 2, none⟩ = some (.string p2) := fun o => cell_later ((Below.refl _ _).alloc (Nat.le_refl _) o) (hc 2 _ rfl)
  have k3 : ∀ o, (w1.alloc o).cell? ⟨g, 3, none⟩ = some (.string p3) := fun o => cell_later ((Below.refl _ _).alloc (Nat.le_refl _) o) (hc 3 _ rfl)
  have hcap4 : 4 ≤ cap := by simpa using hcap
  clear hcap hc h4e h4n hP H4
  go_wp2
  refine wp_loop_rounds 5 ?_
  rw [rounds_succ]; go_wp2_with fail
  refine (readNumber_some p0 n0 _ h0).mono ?_
  rintro e w' ⟨rfl, hw⟩
  subst hw
  go_wp2
  rw [rounds_succ]; go_wp2_with fail
  refine (readNumber_some p1 n1 _ h1).mono ?_
  rintro e w' ⟨rfl, hw⟩
  subst hw
  go_wp2
  rw [rounds_succ]; go_wp2_with fail
  refine (readNumber_some p2 n2 _ h2).mono ?_
  rintro e w' ⟨rfl, hw⟩
  subst hw
  go_wp2
  rw [rounds_succ]; go_wp2_with fail
  refine (readNumber_some p3 n3 _ h3).mono ?_
  rintro e w' ⟨rfl, hw⟩
  subst hw
  go_wp2
  rw [rounds_succ]; go_wp2_with fail
  have S2 := S1.later ((Below.refl _ _).alloc (Nat.le_refl _) (.cells #[.int .i64 (n0 : Int), .int .i64 (n1 : Int), .int .i64 (n2 : Int), .int .i64 (n3 : Int)] 54))
  have V2 : VecAt (w1.alloc (.cells #[.int .i64 (n0 : Int), .int .i64 (n1 : Int), .int .i64 (n2 : Int), .int .i64 (n3 : Int)] 54)) w1.heap.size n0 n1 n2 n3 := by simp [VecAt, go_sem]
  clear S1 k0 k1 k2 k3
  refine (vcheck_ok n0 n1 n2 n3 _ HB.out.1.1 HB.out.1.2 HB.out.2.1.1 HB.out.2.1.2 HB.out.2.2.1.1 HB.out.2.2.1.2 HB.out.2.2.2.1 HB.out.2.2.2.2).mono ?_
  rintro e w3 ⟨rfl, hb⟩
  have S3 := S2.later hb
  have V3 := V2.later hb
  clear hb S2 V2
  obtain ⟨c0, c1, c2, c3, f0, f1, f2, f3, -, -, B3, -⟩ := S3
  obtain ⟨q0, q1, q2, q3⟩ := V3
  go_wp2
  refine bodyPost_ret (v := .tuple #[.agg #[.int .i64 (n0 : Int), .int .i64 (n1 : Int), .int .i64 (n2 : Int), .int .i64 (n3 : Int)], .nilIface]) (by simp [results, Tryd.results40, go_sem, c0, c1, c2, c3]) rfl ⟨rfl, ?_⟩
  exact (((B3.setCell (by simp) _).setCell (by simp) _).setCell (by simp) _).setCell (by simp) _

end Go.Proofs.YtnfhbmgkiknaaaaDoor
