/- The walk of the law VectorJoins. -/
import Derived.Test.YtnfhbmgkiknaaaaDoorVecText
namespace Go.Proofs.YtnfhbmgkiknaaaaDoor
open Go.RowKit

/-- What the walk holds on to: the three vectors and the first two joined, each in its block; nothing old has turned. -/
def JoinS (w0 : World) (kx kj : Nat) (a0 a1 a2 a3 b0 b1 b2 b3 c0 c1 c2 c3 : Int) (w : World) : Prop :=
  (w.cell? ⟨kx, 0, none⟩ = some (.int .i64 a0) ∧ w.cell? ⟨kx, 1, none⟩ = some (.int .i64 a1) ∧ w.cell? ⟨kx, 2, none⟩ = some (.int .i64 a2) ∧ w.cell? ⟨kx, 3, none⟩ = some (.int .i64 a3)) ∧ (w.cell? ⟨(kx + 1), 0, none⟩ = some (.int .i64 b0) ∧ w.cell? ⟨(kx + 1), 1, none⟩ = some (.int .i64 b1) ∧ w.cell? ⟨(kx + 1), 2, none⟩ = some (.int .i64 b2) ∧ w.cell? ⟨(kx + 1), 3, none⟩ = some (.int .i64 b3)) ∧ (w.cell? ⟨(kx + 1 + 1), 0, none⟩ = some (.int .i64 c0) ∧ w.cell? ⟨(kx + 1 + 1), 1, none⟩ = some (.int .i64 c1) ∧ w.cell? ⟨(kx + 1 + 1), 2, none⟩ = some (.int .i64 c2) ∧ w.cell? ⟨(kx + 1 + 1), 3, none⟩ = some (.int .i64 c3)) ∧ (w.cell? ⟨kj, 0, none⟩ = some (.int .i64 (mx a0 b0)) ∧ w.cell? ⟨kj, 1, none⟩ = some (.int .i64 (mx a1 b1)) ∧ w.cell? ⟨kj, 2, none⟩ = some (.int .i64 (mx a2 b2)) ∧ w.cell? ⟨kj, 3, none⟩ = some (.int .i64 (mx a3 b3))) ∧ Below w0.heap.size w0 w ∧ w0.heap.size ≤ kx

theorem JoinS.later {w' : World} {w0 w : World} {kx kj : Nat} {a0 a1 a2 a3 b0 b1 b2 b3 c0 c1 c2 c3 : Int} (h : JoinS w0 kx kj a0 a1 a2 a3 b0 b1 b2 b3 c0 c1 c2 c3 w) (hb : Below w.heap.size w w') : JoinS w0 kx kj a0 a1 a2 a3 b0 b1 b2 b3 c0 c1 c2 c3 w' := by
  obtain ⟨h1, h2, h3, h4, h5, h6⟩ := h
  exact ⟨VecAt.later h1 hb, VecAt.later h2 hb, VecAt.later h3 hb, VecAt.later h4 hb, h5.trans (hb.mono (by have := h5.size; omega)), h6⟩
theorem JoinS.drew {w0 w : World} {kx kj : Nat} {a0 a1 a2 a3 b0 b1 b2 b3 c0 c1 c2 c3 : Int} (h : JoinS w0 kx kj a0 a1 a2 a3 b0 b1 b2 b3 c0 c1 c2 c3 w) : JoinS w0 kx kj a0 a1 a2 a3 b0 b1 b2 b3 c0 c1 c2 c3 w.drew := h.later (Below.refl _ _).drew

theorem cov_iff (a0 a1 a2 a3 b0 b1 b2 b3 : Int) : covB a0 a1 a2 a3 b0 b1 b2 b3 = true ↔ b0 ≤ a0 ∧ b1 ≤ a1 ∧ b2 ≤ a2 ∧ b3 ≤ a3 := by
  have e : ∀ a b : Int, mx a b = a ↔ b ≤ a := fun a b => by unfold mx; omega
  simp [covB, e]

set_option maxRecDepth 100000 in
set_option maxHeartbeats 4000000 in
theorem vjoins_any (a0 a1 a2 a3 b0 b1 b2 b3 c0 c1 c2 c3 : Int) (w : World) (htab : Lib.TabIs Tryd.prog w "internal/strconv.uint64pow10" .u64 Lib.pow10Tab) :
    Calls Tryd.prog 8 #[.agg #[.int .i64 a0, .int .i64 a1, .int .i64 a2, .int .i64 a3], .agg #[.int .i64 b0, .int .i64 b1, .int .i64 b2, .int .i64 b3], .agg #[.int .i64 c0, .int .i64 c1, .int .i64 c2, .int .i64 c3]] w fun e w' => e = .returned (.bool true) ∧ Below w.heap.size w w' := by
  have T0 : VecAt (((w.alloc (.cells #[.int .i64 a0, .int .i64 a1, .int .i64 a2, .int .i64 a3] 52)).alloc (.cells #[.int .i64 b0, .int .i64 b1, .int .i64 b2, .int .i64 b3] 52)).alloc (.cells #[.int .i64 c0, .int .i64 c1, .int .i64 c2, .int .i64 c3] 52)) w.heap.size a0 a1 a2 a3 ∧ VecAt (((w.alloc (.cells #[.int .i64 a0, .int .i64 a1, .int .i64 a2, .int .i64 a3] 52)).alloc (.cells #[.int .i64 b0, .int .i64 b1, .int .i64 b2, .int .i64 b3] 52)).alloc (.cells #[.int .i64 c0, .int .i64 c1, .int .i64 c2, .int .i64 c3] 52)) (w.heap.size + 1) b0 b1 b2 b3 ∧ VecAt (((w.alloc (.cells #[.int .i64 a0, .int .i64 a1, .int .i64 a2, .int .i64 a3] 52)).alloc (.cells #[.int .i64 b0, .int .i64 b1, .int .i64 b2, .int .i64 b3] 52)).alloc (.cells #[.int .i64 c0, .int .i64 c1, .int .i64 c2, .int .i64 c3] 52)) (w.heap.size + 1 + 1) c0 c1 c2 c3 := by simp [VecAt, go_sem]
  have B0 : Below w.heap.size w (((w.alloc (.cells #[.int .i64 a0, .int .i64 a1, .int .i64 a2, .int .i64 a3] 52)).alloc (.cells #[.int .i64 b0, .int .i64 b1, .int .i64 b2, .int .i64 b3] 52)).alloc (.cells #[.int .i64 c0, .int .i64 c1, .int .i64 c2, .int .i64 c3] 52)) := (((Below.refl _ _).alloc (Nat.le_refl _) _).alloc (by simp) _).alloc (by simp; omega) _
  have HT := Lib.tabBelow_of_tabIs htab _ B0
  clear htab
  go_enter Tryd.func8, Tryd.ntmps8
  go_wp2_with fail
  generalize (((w.alloc (.cells #[.int .i64 a0, .int .i64 a1, .int .i64 a2, .int .i64 a3] 52)).alloc (.cells #[.int .i64 b0, .int .i64 b1, .int .i64 b2, .int .i64 b3] 52)).alloc (.cells #[.int .i64 c0, .int .i64 c1, .int .i64 c2, .int .i64 c3] 52)) = u at T0 B0 HT ⊢
  refine (counted_any _ HT).mono ?_
  rintro e w1 ⟨rfl, hb1⟩
  have V1 := T0.1.later hb1
  have V2 := T0.2.1.later hb1
  have V3 := T0.2.2.later hb1
  have B1 : Below w.heap.size w w1 := B0.trans (hb1.mono B0.size)
  have z1 := B1.size
  clear hb1 T0 B0 HT
  have q2 : ∀ o, VecAt (w1.alloc o) (w.heap.size + 1) b0 b1 b2 b3 := fun o => V2.later ((Below.refl _ _).alloc (Nat.le_refl _) _)
  have q3 : ∀ o o', VecAt ((w1.alloc o).alloc o') (w.heap.size + 1 + 1) c0 c1 c2 c3 := fun o o' => V3.later (((Below.refl _ _).alloc (Nat.le_refl _) _).alloc (by simp) _)
  clear V2 V3
  obtain ⟨p0, p1, p2, p3⟩ := V1
  have p4 := fun o => (q2 o).1
  have p5 := fun o => (q2 o).2.1
  have p6 := fun o => (q2 o).2.2.1
  have p7 := fun o => (q2 o).2.2.2
  have p8 := fun o o' => (q3 o o').1
  have p9 := fun o o' => (q3 o o').2.1
  have p10 := fun o o' => (q3 o o').2.2.1
  have p11 := fun o o' => (q3 o o').2.2.2
  clear q2 q3
  go_wp2_with fail
  clear p0 p1 p2 p3 p4 p5 p6 p7 p8 p9 p10 p11
  refine (vjoin_any _ _ _ _ _ _ _ _ _).mono ?_
  rintro e w2 ⟨rfl, hb2⟩
  have W1 : VecAt (((w1.alloc (.cells #[.int .i64 a0, .int .i64 a1, .int .i64 a2, .int .i64 a3] 54)).alloc (.cells #[.int .i64 b0, .int .i64 b1, .int .i64 b2, .int .i64 b3] 54)).alloc (.cells #[.int .i64 c0, .int .i64 c1, .int .i64 c2, .int .i64 c3] 54)) w1.heap.size a0 a1 a2 a3 ∧ VecAt (((w1.alloc (.cells #[.int .i64 a0, .int .i64 a1, .int .i64 a2, .int .i64 a3] 54)).alloc (.cells #[.int .i64 b0, .int .i64 b1, .int .i64 b2, .int .i64 b3] 54)).alloc (.cells #[.int .i64 c0, .int .i64 c1, .int .i64 c2, .int .i64 c3] 54)) (w1.heap.size + 1) b0 b1 b2 b3 ∧ VecAt (((w1.alloc (.cells #[.int .i64 a0, .int .i64 a1, .int .i64 a2, .int .i64 a3] 54)).alloc (.cells #[.int .i64 b0, .int .i64 b1, .int .i64 b2, .int .i64 b3] 54)).alloc (.cells #[.int .i64 c0, .int .i64 c1, .int .i64 c2, .int .i64 c3] 54)) (w1.heap.size + 1 + 1) c0 c1 c2 c3 := by simp [VecAt, go_sem]
  have B2 : Below w.heap.size w w2 := (((B1.alloc (by omega) _).alloc (by simp; omega) _).alloc (by simp; omega) _).trans (hb2.mono (by simp; omega))
  have S2 : ∀ o, o = .cells #[.int .i64 (mx a0 b0), .int .i64 (mx a1 b1), .int .i64 (mx a2 b2), .int .i64 (mx a3 b3)] 54 → JoinS w w1.heap.size w2.heap.size a0 a1 a2 a3 b0 b1 b2 b3 c0 c1 c2 c3 (w2.alloc o) := by
    rintro o rfl
    have hl : Below w2.heap.size w2 (w2.alloc (.cells #[.int .i64 (mx a0 b0), .int .i64 (mx a1 b1), .int .i64 (mx a2 b2), .int .i64 (mx a3 b3)] 54)) := (Below.refl _ _).alloc (Nat.le_refl _) _
    exact ⟨(W1.1.later hb2).later hl, (W1.2.1.later hb2).later hl, (W1.2.2.later hb2).later hl, by simp [go_sem], B2.trans (hl.mono B2.size), z1⟩
  have S3 := S2 _ rfl
  clear hb2 W1 B2 S2 B1
  go_wp2_with fail
  generalize (w2.alloc (.cells #[.int .i64 (mx a0 b0), .int .i64 (mx a1 b1), .int .i64 (mx a2 b2), .int .i64 (mx a3 b3)] 54)) = w3 at S3 ⊢
  have e0 : (mx a0 b0 == mx b0 a0) = true := by rw [mx_comm]; simp
  have e1 : (mx a1 b1 == mx b1 a1) = true := by rw [mx_comm]; simp
  have e2 : (mx a2 b2 == mx b2 a2) = true := by rw [mx_comm]; simp
  have e3 : (mx a3 b3 == mx b3 a3) = true := by rw [mx_comm]; simp
  have e4 : (mx (mx a0 b0) c0 == mx a0 (mx b0 c0)) = true := by rw [mx_assoc]; simp
  have e5 : (mx (mx a1 b1) c1 == mx a1 (mx b1 c1)) = true := by rw [mx_assoc]; simp
  have e6 : (mx (mx a2 b2) c2 == mx a2 (mx b2 c2)) = true := by rw [mx_assoc]; simp
  have e7 : (mx (mx a3 b3) c3 == mx a3 (mx b3 c3)) = true := by rw [mx_assoc]; simp
  have e8 : (mx a0 a0 == a0) = true := by rw [mx_self]; simp
  have e9 : (mx a1 a1 == a1) = true := by rw [mx_self]; simp
  have e10 : (mx a2 a2 == a2) = true := by rw [mx_self]; simp
  have e11 : (mx a3 a3 == a3) = true := by rw [mx_self]; simp
  have eqV := eqVec
  obtain ⟨⟨A0, A1, A2, A3⟩, ⟨A4, A5, A6, A7⟩, ⟨A8, A9, A10, A11⟩, ⟨A12, A13, A14, A15⟩, A16, A17⟩ := S3
  generalize w1.heap.size = kx at A0 A1 A2 A3 A4 A5 A6 A7 A8 A9 A10 A11 A12 A13 A14 A15 A16 A17 z1 ⊢
  generalize w2.heap.size = kj at A0 A1 A2 A3 A4 A5 A6 A7 A8 A9 A10 A11 A12 A13 A14 A15 A16 A17 ⊢
  go_region_held3 (fun w' => (w'.cell? ⟨kx, 0, none⟩ = some (.int .i64 a0) ∧ w'.cell? ⟨kx, 1, none⟩ = some (.int .i64 a1) ∧ w'.cell? ⟨kx, 2, none⟩ = some (.int .i64 a2) ∧ w'.cell? ⟨kx, 3, none⟩ = some (.int .i64 a3)) ∧ (w'.cell? ⟨(kx + 1), 0, none⟩ = some (.int .i64 b0) ∧ w'.cell? ⟨(kx + 1), 1, none⟩ = some (.int .i64 b1) ∧ w'.cell? ⟨(kx + 1), 2, none⟩ = some (.int .i64 b2) ∧ w'.cell? ⟨(kx + 1), 3, none⟩ = some (.int .i64 b3)) ∧ (w'.cell? ⟨(kx + 1 + 1), 0, none⟩ = some (.int .i64 c0) ∧ w'.cell? ⟨(kx + 1 + 1), 1, none⟩ = some (.int .i64 c1) ∧ w'.cell? ⟨(kx + 1 + 1), 2, none⟩ = some (.int .i64 c2) ∧ w'.cell? ⟨(kx + 1 + 1), 3, none⟩ = some (.int .i64 c3)) ∧ (w'.cell? ⟨kj, 0, none⟩ = some (.int .i64 (mx a0 b0)) ∧ w'.cell? ⟨kj, 1, none⟩ = some (.int .i64 (mx a1 b1)) ∧ w'.cell? ⟨kj, 2, none⟩ = some (.int .i64 (mx a2 b2)) ∧ w'.cell? ⟨kj, 3, none⟩ = some (.int .i64 (mx a3 b3))) ∧ Below w.heap.size w w' ∧ w.heap.size ≤ kx)
    (first
      | assumption
      | exact JoinS.drew ⟨⟨A0, A1, A2, A3⟩, ⟨A4, A5, A6, A7⟩, ⟨A8, A9, A10, A11⟩, ⟨A12, A13, A14, A15⟩, A16, A17⟩
      | exact JoinS.later (by assumption) (by assumption))
    (first
      | (go_at_call 31; refine (vjoin_any _ _ _ _ _ _ _ _ _).mono ?_; rintro e w' ⟨rfl, hb⟩))
  have S4 : JoinS w kx kj a0 a1 a2 a3 b0 b1 b2 b3 c0 c1 c2 c3 w' := by assumption
  clear A0 A1 A2 A3 A4 A5 A6 A7 A8 A9 A10 A11 A12 A13 A14 A15 A16 A17 e0 e1 e2 e3 e4 e5 e6 e7 e8 e9 e10 e11
  generalize w' = w4 at S4 ⊢
  obtain ⟨⟨A0, A1, A2, A3⟩, ⟨A4, A5, A6, A7⟩, ⟨A8, A9, A10, A11⟩, ⟨A12, A13, A14, A15⟩, -, -⟩ := id S4
  have C1 : covB (mx a0 b0) (mx a1 b1) (mx a2 b2) (mx a3 b3) a0 a1 a2 a3 = true := by rw [cov_iff]; unfold mx; omega
  have C2 : covB (mx a0 b0) (mx a1 b1) (mx a2 b2) (mx a3 b3) b0 b1 b2 b3 = true := by rw [cov_iff]; unfold mx; omega
  have H1 := Lib.hid C1
  have H2 := Lib.hid C2
  clear C1 C2
  go_wp2_with fail
  refine (vcovers_any _ _ _ _ _ _ _ _ _).mono ?_
  rintro e w5 ⟨rfl, hb⟩
  have S5 := S4.later hb
  rw [H1.out]
  clear hb S4 A0 A1 A2 A3 A4 A5 A6 A7 A8 A9 A10 A11 A12 A13 A14 A15
  obtain ⟨⟨A0, A1, A2, A3⟩, ⟨A4, A5, A6, A7⟩, ⟨A8, A9, A10, A11⟩, ⟨A12, A13, A14, A15⟩, -, -⟩ := id S5
  go_wp2_with fail
  refine (vcovers_any _ _ _ _ _ _ _ _ _).mono ?_
  rintro e w6 ⟨rfl, hb⟩
  have S6 := S5.later hb
  rw [H2.out]
  clear hb S5 A0 A1 A2 A3 A4 A5 A6 A7 A8 A9 A10 A11 A12 A13 A14 A15
  obtain ⟨⟨A0, A1, A2, A3⟩, ⟨A4, A5, A6, A7⟩, ⟨A8, A9, A10, A11⟩, ⟨A12, A13, A14, A15⟩, -, -⟩ := id S6
  have HE : Hid ((covB a0 a1 a2 a3 b0 b1 b2 b3 == (mx a0 b0 == a0 && (mx a1 b1 == a1 && (mx a2 b2 == a2 && mx a3 b3 == a3)))) = true) := Lib.hid (by simp [covB])
  by_cases hzx : covB c0 c1 c2 c3 a0 a1 a2 a3 = true
  · have H3 := Lib.hid hzx
    by_cases hzy : covB c0 c1 c2 c3 b0 b1 b2 b3 = true
    · have H4 := Lib.hid hzy
      have H5 : Hid (covB c0 c1 c2 c3 (mx a0 b0) (mx a1 b1) (mx a2 b2) (mx a3 b3) = true) := Lib.hid (by rw [cov_iff] at hzx hzy ⊢; unfold mx; omega)
      clear hzx hzy
      go_wp2_with fail
      refine (vcovers_any _ _ _ _ _ _ _ _ _).mono ?_
      rintro e w7 ⟨rfl, hb⟩
      have S7 := S6.later hb
      rw [H3.out]
      clear hb S6 A0 A1 A2 A3 A4 A5 A6 A7 A8 A9 A10 A11 A12 A13 A14 A15
      obtain ⟨⟨A0, A1, A2, A3⟩, ⟨A4, A5, A6, A7⟩, ⟨A8, A9, A10, A11⟩, ⟨A12, A13, A14, A15⟩, -, -⟩ := id S7
      go_wp2_with fail
      refine (vcovers_any _ _ _ _ _ _ _ _ _).mono ?_
      rintro e w8 ⟨rfl, hb⟩
      have S8 := S7.later hb
      rw [H4.out]
      clear hb S7 A0 A1 A2 A3 A4 A5 A6 A7 A8 A9 A10 A11 A12 A13 A14 A15
      obtain ⟨⟨A0, A1, A2, A3⟩, ⟨A4, A5, A6, A7⟩, ⟨A8, A9, A10, A11⟩, ⟨A12, A13, A14, A15⟩, -, -⟩ := id S8
      go_wp2_with fail
      refine (vcovers_any _ _ _ _ _ _ _ _ _).mono ?_
      rintro e w10 ⟨rfl, hb⟩
      have S10 := S8.later hb
      rw [H5.out]
      clear hb S8 A0 A1 A2 A3 A4 A5 A6 A7 A8 A9 A10 A11 A12 A13 A14 A15
      obtain ⟨⟨A0, A1, A2, A3⟩, ⟨A4, A5, A6, A7⟩, ⟨A8, A9, A10, A11⟩, ⟨A12, A13, A14, A15⟩, A16, A17⟩ := id S10
      go_wp2_with fail
      go_region_held3 (fun w' => (w'.cell? ⟨kx, 0, none⟩ = some (.int .i64 a0) ∧ w'.cell? ⟨kx, 1, none⟩ = some (.int .i64 a1) ∧ w'.cell? ⟨kx, 2, none⟩ = some (.int .i64 a2) ∧ w'.cell? ⟨kx, 3, none⟩ = some (.int .i64 a3)) ∧ (w'.cell? ⟨(kx + 1), 0, none⟩ = some (.int .i64 b0) ∧ w'.cell? ⟨(kx + 1), 1, none⟩ = some (.int .i64 b1) ∧ w'.cell? ⟨(kx + 1), 2, none⟩ = some (.int .i64 b2) ∧ w'.cell? ⟨(kx + 1), 3, none⟩ = some (.int .i64 b3)) ∧ (w'.cell? ⟨(kx + 1 + 1), 0, none⟩ = some (.int .i64 c0) ∧ w'.cell? ⟨(kx + 1 + 1), 1, none⟩ = some (.int .i64 c1) ∧ w'.cell? ⟨(kx + 1 + 1), 2, none⟩ = some (.int .i64 c2) ∧ w'.cell? ⟨(kx + 1 + 1), 3, none⟩ = some (.int .i64 c3)) ∧ (w'.cell? ⟨kj, 0, none⟩ = some (.int .i64 (mx a0 b0)) ∧ w'.cell? ⟨kj, 1, none⟩ = some (.int .i64 (mx a1 b1)) ∧ w'.cell? ⟨kj, 2, none⟩ = some (.int .i64 (mx a2 b2)) ∧ w'.cell? ⟨kj, 3, none⟩ = some (.int .i64 (mx a3 b3))) ∧ Below w.heap.size w w' ∧ w.heap.size ≤ kx)
        (first
          | assumption
          | exact JoinS.drew ⟨⟨A0, A1, A2, A3⟩, ⟨A4, A5, A6, A7⟩, ⟨A8, A9, A10, A11⟩, ⟨A12, A13, A14, A15⟩, A16, A17⟩
          | exact JoinS.later (by assumption) (by assumption))
        (first
          | (go_at_call 31; refine (vjoin_any _ _ _ _ _ _ _ _ _).mono ?_; rintro e w' ⟨rfl, hb⟩)
          | (go_at_call 32; refine (vcovers_any _ _ _ _ _ _ _ _ _).mono ?_; rintro e w' ⟨rfl, hb⟩))
      have S11 : JoinS w kx kj a0 a1 a2 a3 b0 b1 b2 b3 c0 c1 c2 c3 w' := by assumption
      go_wp2
      go_ret
      exact ⟨by rw [HE.out]; rfl, S11.2.2.2.2.1⟩
    · have H4 : Hid (covB c0 c1 c2 c3 b0 b1 b2 b3 = false) := Lib.hid (by simpa using hzy)
      clear hzx hzy
      go_wp2_with fail
      refine (vcovers_any _ _ _ _ _ _ _ _ _).mono ?_
      rintro e w7 ⟨rfl, hb⟩
      have S7 := S6.later hb
      rw [H3.out]
      clear hb S6 A0 A1 A2 A3 A4 A5 A6 A7 A8 A9 A10 A11 A12 A13 A14 A15
      obtain ⟨⟨A0, A1, A2, A3⟩, ⟨A4, A5, A6, A7⟩, ⟨A8, A9, A10, A11⟩, ⟨A12, A13, A14, A15⟩, -, -⟩ := id S7
      go_wp2_with fail
      refine (vcovers_any _ _ _ _ _ _ _ _ _).mono ?_
      rintro e w8 ⟨rfl, hb⟩
      have S8 := S7.later hb
      rw [H4.out]
      clear hb S7 A0 A1 A2 A3 A4 A5 A6 A7 A8 A9 A10 A11 A12 A13 A14 A15
      obtain ⟨⟨A0, A1, A2, A3⟩, ⟨A4, A5, A6, A7⟩, ⟨A8, A9, A10, A11⟩, ⟨A12, A13, A14, A15⟩, A16, A17⟩ := id S8
      go_wp2_with fail
      go_region_held3 (fun w' => (w'.cell? ⟨kx, 0, none⟩ = some (.int .i64 a0) ∧ w'.cell? ⟨kx, 1, none⟩ = some (.int .i64 a1) ∧ w'.cell? ⟨kx, 2, none⟩ = some (.int .i64 a2) ∧ w'.cell? ⟨kx, 3, none⟩ = some (.int .i64 a3)) ∧ (w'.cell? ⟨(kx + 1), 0, none⟩ = some (.int .i64 b0) ∧ w'.cell? ⟨(kx + 1), 1, none⟩ = some (.int .i64 b1) ∧ w'.cell? ⟨(kx + 1), 2, none⟩ = some (.int .i64 b2) ∧ w'.cell? ⟨(kx + 1), 3, none⟩ = some (.int .i64 b3)) ∧ (w'.cell? ⟨(kx + 1 + 1), 0, none⟩ = some (.int .i64 c0) ∧ w'.cell? ⟨(kx + 1 + 1), 1, none⟩ = some (.int .i64 c1) ∧ w'.cell? ⟨(kx + 1 + 1), 2, none⟩ = some (.int .i64 c2) ∧ w'.cell? ⟨(kx + 1 + 1), 3, none⟩ = some (.int .i64 c3)) ∧ (w'.cell? ⟨kj, 0, none⟩ = some (.int .i64 (mx a0 b0)) ∧ w'.cell? ⟨kj, 1, none⟩ = some (.int .i64 (mx a1 b1)) ∧ w'.cell? ⟨kj, 2, none⟩ = some (.int .i64 (mx a2 b2)) ∧ w'.cell? ⟨kj, 3, none⟩ = some (.int .i64 (mx a3 b3))) ∧ Below w.heap.size w w' ∧ w.heap.size ≤ kx)
        (first
          | assumption
          | exact JoinS.drew ⟨⟨A0, A1, A2, A3⟩, ⟨A4, A5, A6, A7⟩, ⟨A8, A9, A10, A11⟩, ⟨A12, A13, A14, A15⟩, A16, A17⟩
          | exact JoinS.later (by assumption) (by assumption))
        (first
          | (go_at_call 31; refine (vjoin_any _ _ _ _ _ _ _ _ _).mono ?_; rintro e w' ⟨rfl, hb⟩)
          | (go_at_call 32; refine (vcovers_any _ _ _ _ _ _ _ _ _).mono ?_; rintro e w' ⟨rfl, hb⟩))
      have S9 : JoinS w kx kj a0 a1 a2 a3 b0 b1 b2 b3 c0 c1 c2 c3 w' := by assumption
      go_wp2
      go_ret
      exact ⟨by rw [HE.out]; rfl, S9.2.2.2.2.1⟩
  · have H3 : Hid (covB c0 c1 c2 c3 a0 a1 a2 a3 = false) := Lib.hid (by simpa using hzx)
    clear hzx
    go_wp2_with fail
    refine (vcovers_any _ _ _ _ _ _ _ _ _).mono ?_
    rintro e w7 ⟨rfl, hb⟩
    have S7 := S6.later hb
    rw [H3.out]
    clear hb S6 A0 A1 A2 A3 A4 A5 A6 A7 A8 A9 A10 A11 A12 A13 A14 A15
    obtain ⟨⟨A0, A1, A2, A3⟩, ⟨A4, A5, A6, A7⟩, ⟨A8, A9, A10, A11⟩, ⟨A12, A13, A14, A15⟩, A16, A17⟩ := id S7
    go_wp2_with fail
    go_region_held3 (fun w' => (w'.cell? ⟨kx, 0, none⟩ = some (.int .i64 a0) ∧ w'.cell? ⟨kx, 1, none⟩ = some (.int .i64 a1) ∧ w'.cell? ⟨kx, 2, none⟩ = some (.int .i64 a2) ∧ w'.cell? ⟨kx, 3, none⟩ = some (.int .i64 a3)) ∧ (w'.cell? ⟨(kx + 1), 0, none⟩ = some (.int .i64 b0) ∧ w'.cell? ⟨(kx + 1), 1, none⟩ = some (.int .i64 b1) ∧ w'.cell? ⟨(kx + 1), 2, none⟩ = some (.int .i64 b2) ∧ w'.cell? ⟨(kx + 1), 3, none⟩ = some (.int .i64 b3)) ∧ (w'.cell? ⟨(kx + 1 + 1), 0, none⟩ = some (.int .i64 c0) ∧ w'.cell? ⟨(kx + 1 + 1), 1, none⟩ = some (.int .i64 c1) ∧ w'.cell? ⟨(kx + 1 + 1), 2, none⟩ = some (.int .i64 c2) ∧ w'.cell? ⟨(kx + 1 + 1), 3, none⟩ = some (.int .i64 c3)) ∧ (w'.cell? ⟨kj, 0, none⟩ = some (.int .i64 (mx a0 b0)) ∧ w'.cell? ⟨kj, 1, none⟩ = some (.int .i64 (mx a1 b1)) ∧ w'.cell? ⟨kj, 2, none⟩ = some (.int .i64 (mx a2 b2)) ∧ w'.cell? ⟨kj, 3, none⟩ = some (.int .i64 (mx a3 b3))) ∧ Below w.heap.size w w' ∧ w.heap.size ≤ kx)
      (first
        | assumption
        | exact JoinS.drew ⟨⟨A0, A1, A2, A3⟩, ⟨A4, A5, A6, A7⟩, ⟨A8, A9, A10, A11⟩, ⟨A12, A13, A14, A15⟩, A16, A17⟩
        | exact JoinS.later (by assumption) (by assumption))
      (first
        | (go_at_call 31; refine (vjoin_any _ _ _ _ _ _ _ _ _).mono ?_; rintro e w' ⟨rfl, hb⟩)
        | (go_at_call 32; refine (vcovers_any _ _ _ _ _ _ _ _ _).mono ?_; rintro e w' ⟨rfl, hb⟩))
    have S9 : JoinS w kx kj a0 a1 a2 a3 b0 b1 b2 b3 c0 c1 c2 c3 w' := by assumption
    go_wp2
    go_ret
    exact ⟨by rw [HE.out]; rfl, S9.2.2.2.2.1⟩
end Go.Proofs.YtnfhbmgkiknaaaaDoor
