/- Contract of the reference's VectorOf, at a text of at most 100 bytes: four numbers; the whole. -/
import Derived.Test.YtnfhbmgkiknaaaaDoorVecOf
namespace Go.Proofs.YtnfhbmgkiknaaaaDoor
open Go.RowKit

set_option maxRecDepth 100000 in
set_option maxHeartbeats 4000000 in
theorem vo_b (s : ByteArray) (w : World) (hs : s.size ≤ 100) (l0 l1 l2 l3 : List UInt8) (h4 : cutL s.data.toList = [l0, l1, l2, l3]) (n0 : Nat) (h0 : numL l0 = some n0) (n1 : Nat) (h1 : numL l1 = some n1) (n2 : Nat) (h2 : numL l2 = some n2) (n3 : Nat) (h3 : numL l3 = some n3) (k : Nat) (hbad : badI n0 n1 n2 n3 = some k) :
    Calls Tryd.prog 41 #[.string s] w fun e w' => e = .returned (.tuple #[.agg #[.int .i64 0, .int .i64 0, .int .i64 0, .int .i64 0], .agg #[.int .i64 2, .int .i64 (k : Int)]]) ∧ Below w.heap.size w w' := by
  have S0 : ResS w ((w.alloc (.cells #[.int .i64 0, .int .i64 0, .int .i64 0, .int .i64 0] 52)).alloc (.cells #[.int .i64 0, .int .i64 0] 59)) := by
    constructor <;> first | (simp [go_sem]; done) | exact ((Below.refl _ _).alloc (Nat.le_refl _) _).alloc (by simp) _
  have H4 := Lib.hid h4
  have HB := Lib.hid hbad
  clear hbad
  clear h4
  go_enter Tryd.func41, Tryd.ntmps41
  go_wp2_with fail
  refine (cut_any s _ hs).mono ?_
  rintro e w1 ⟨v, P, rfl, hown, hP, hb⟩
  rw [H4.out] at hP
  obtain ⟨p0, p1, p2, p3, rfl, e0, e1, e2, e3⟩ : ∃ p0 p1 p2 p3, P = [p0, p1, p2, p3] ∧ p0.data.toList = l0 ∧ p1.data.toList = l1 ∧ p2.data.toList = l2 ∧ p3.data.toList = l3 := by
    match P, hP with
    | [a, b, c, d], hP => simp at hP; exact ⟨a, b, c, d, rfl, hP⟩
  subst e0 e1 e2 e3
  obtain ⟨g, cap, rfl⟩ := Joins.ownsRow_form hown (by simp)
  have hc := hown.cells (g := g) rfl
  have k0 : ∀ o, (w1.alloc o).cell? ⟨g, 0, none⟩ = some (.string p0) := fun o => cell_later ((Below.refl _ _).alloc (Nat.le_refl _) o) (by simpa [Addr.add] using hc 0 _ rfl)
  have k1 : ∀ o, (w1.alloc o).cell? ⟨g, 1, none⟩ = some (.string p1) := fun o => cell_later ((Below.refl _ _).alloc (Nat.le_refl _) o) (by simpa [Addr.add] using hc 1 _ rfl)
  have k2 : ∀ o, (w1.alloc o).cell? ⟨g, 2, none⟩ = some (.string p2) := fun o => cell_later ((Below.refl _ _).alloc (Nat.le_refl _) o) (by simpa [Addr.add] using hc 2 _ rfl)
  have k3 : ∀ o, (w1.alloc o).cell? ⟨g, 3, none⟩ = some (.string p3) := fun o => cell_later ((Below.refl _ _).alloc (Nat.le_refl _) o) (by simpa [Addr.add] using hc 3 _ rfl)
  have S1 := S0.later hb
  have hcap : 4 ≤ cap := by
    obtain ⟨-, h | ⟨g', cap', cur, hv, -, -, hn, -⟩⟩ := hown
    · cases h.1
    · cases hv; simpa using hn
  clear hown hP hb S0 H4 hc
  go_wp2
  refine wp_loop_rounds 5 ?_
  rw [rounds_succ]; go_wp2_with fail
  refine (numberOf_some p0 n0 _ h0).mono ?_
  rintro e w' ⟨rfl, hw⟩
  subst hw
  go_wp2
  rw [rounds_succ]; go_wp2_with fail
  refine (numberOf_some p1 n1 _ h1).mono ?_
  rintro e w' ⟨rfl, hw⟩
  subst hw
  go_wp2
  rw [rounds_succ]; go_wp2_with fail
  refine (numberOf_some p2 n2 _ h2).mono ?_
  rintro e w' ⟨rfl, hw⟩
  subst hw
  go_wp2
  rw [rounds_succ]; go_wp2_with fail
  refine (numberOf_some p3 n3 _ h3).mono ?_
  rintro e w' ⟨rfl, hw⟩
  subst hw
  go_wp2
  rw [rounds_succ]; go_wp2_with fail
  have V1 : VecAt (w1.alloc (.cells #[.int .i64 (n0 : Int), .int .i64 (n1 : Int), .int .i64 (n2 : Int), .int .i64 (n3 : Int)] 52)) w1.heap.size n0 n1 n2 n3 := by simp [VecAt, go_sem]
  refine (vfault_bad n0 n1 n2 n3 k _ HB.out).mono ?_
  rintro e w3 ⟨rfl, hb⟩
  have S3 := (S1.later ((Below.refl _ _).alloc (Nat.le_refl _) _)).later hb
  have V3 := V1.later hb
  clear hb S1 V1 k0 k1 k2 k3
  have S4 := S3.later ((Below.refl _ _).alloc (Nat.le_refl _) (.cells #[.int .i64 2, .int .i64 (k : Int)] 59))
  have V4 := V3.later ((Below.refl _ _).alloc (Nat.le_refl _) (.cells #[.int .i64 2, .int .i64 (k : Int)] 59))
  have F4 : (w3.alloc (.cells #[.int .i64 2, .int .i64 (k : Int)] 59)).cell? ⟨w3.heap.size, 0, none⟩ = some (.int .i64 2) ∧ (w3.alloc (.cells #[.int .i64 2, .int .i64 (k : Int)] 59)).cell? ⟨w3.heap.size, 1, none⟩ = some (.int .i64 (k : Int)) := by simp [go_sem]
  have ne1 : ¬ w.heap.size = w3.heap.size := by have := S3.z; omega
  have ne2 : ¬ w.heap.size + 1 = w3.heap.size := by have := S3.z; omega
  have ne3 : ¬ w3.heap.size = w.heap.size := by omega
  have ne4 : ¬ w3.heap.size = w.heap.size + 1 := by omega
  clear S3 V3
  go_wp2_with fail
  generalize w3.alloc (.cells #[.int .i64 2, .int .i64 (k : Int)] 59) = w4 at S4 V4 F4 ⊢
  obtain ⟨c0, c1, c2, c3, c4, c5, f0, f1, f2, f3, f4, f5, B3, -⟩ := S4
  obtain ⟨q0, q1, q2, q3⟩ := V4
  obtain ⟨q4, q5⟩ := F4
  go_region
  all_goals go_wp2
  all_goals
    refine bodyPost_ret (v := .tuple #[.agg #[.int .i64 0, .int .i64 0, .int .i64 0, .int .i64 0], .agg #[.int .i64 2, .int .i64 (k : Int)]]) (by simp [results, Tryd.results41, go_sem, c0, c1, c2, c3, c4, c5]) rfl ⟨rfl, ?_⟩
    exact ((((((B3.setCell (by simp) _).setCell (by simp) _).setCell (by simp) _).setCell (by simp) _).setCell (by simp) _).setCell (by simp) _).drew

set_option maxRecDepth 100000 in
set_option maxHeartbeats 4000000 in
theorem vo_ok (s : ByteArray) (w : World) (hs : s.size ≤ 100) (l0 l1 l2 l3 : List UInt8) (h4 : cutL s.data.toList = [l0, l1, l2, l3]) (n0 : Nat) (h0 : numL l0 = some n0) (n1 : Nat) (h1 : numL l1 = some n1) (n2 : Nat) (h2 : numL l2 = some n2) (n3 : Nat) (h3 : numL l3 = some n3) (hbad : badI n0 n1 n2 n3 = none) :
    Calls Tryd.prog 41 #[.string s] w fun e w' => e = .returned (.tuple #[.agg #[.int .i64 (n0 : Int), .int .i64 (n1 : Int), .int .i64 (n2 : Int), .int .i64 (n3 : Int)], .agg #[.int .i64 0, .int .i64 (-1)]]) ∧ Below w.heap.size w w' := by
  have S0 : ResS w ((w.alloc (.cells #[.int .i64 0, .int .i64 0, .int .i64 0, .int .i64 0] 52)).alloc (.cells #[.int .i64 0, .int .i64 0] 59)) := by
    constructor <;> first | (simp [go_sem]; done) | exact ((Below.refl _ _).alloc (Nat.le_refl _) _).alloc (by simp) _
  have H4 := Lib.hid h4
  have HB := Lib.hid ((badI_none _ _ _ _).1 hbad)
  clear hbad
  clear h4
  go_enter Tryd.func41, Tryd.ntmps41
  go_wp2_with fail
  refine (cut_any s _ hs).mono ?_
  rintro e w1 ⟨v, P, rfl, hown, hP, hb⟩
  rw [H4.out] at hP
  obtain ⟨p0, p1, p2, p3, rfl, e0, e1, e2, e3⟩ : ∃ p0 p1 p2 p3, P = [p0, p1, p2, p3] ∧ p0.data.toList = l0 ∧ p1.data.toList = l1 ∧ p2.data.toList = l2 ∧ p3.data.toList = l3 := by
    match P, hP with
    | [a, b, c, d], hP => simp at hP; exact ⟨a, b, c, d, rfl, hP⟩
  subst e0 e1 e2 e3
  obtain ⟨g, cap, rfl⟩ := Joins.ownsRow_form hown (by simp)
  have hc := hown.cells (g := g) rfl
  have k0 : ∀ o, (w1.alloc o).cell? ⟨g, 0, none⟩ = some (.string p0) := fun o => cell_later ((Below.refl _ _).alloc (Nat.le_refl _) o) (by simpa [Addr.add] using hc 0 _ rfl)
  have k1 : ∀ o, (w1.alloc o).cell? ⟨g, 1, none⟩ = some (.string p1) := fun o => cell_later ((Below.refl _ _).alloc (Nat.le_refl _) o) (by simpa [Addr.add] using hc 1 _ rfl)
  have k2 : ∀ o, (w1.alloc o).cell? ⟨g, 2, none⟩ = some (.string p2) := fun o => cell_later ((Below.refl _ _).alloc (Nat.le_refl _) o) (by simpa [Addr.add] using hc 2 _ rfl)
  have k3 : ∀ o, (w1.alloc o).cell? ⟨g, 3, none⟩ = some (.string p3) := fun o => cell_later ((Below.refl _ _).alloc (Nat.le_refl _) o) (by simpa [Addr.add] using hc 3 _ rfl)
  have S1 := S0.later hb
  have hcap : 4 ≤ cap := by
    obtain ⟨-, h | ⟨g', cap', cur, hv, -, -, hn, -⟩⟩ := hown
    · cases h.1
    · cases hv; simpa using hn
  clear hown hP hb S0 H4 hc
  go_wp2
  refine wp_loop_rounds 5 ?_
  rw [rounds_succ]; go_wp2_with fail
  refine (numberOf_some p0 n0 _ h0).mono ?_
  rintro e w' ⟨rfl, hw⟩
  subst hw
  go_wp2
  rw [rounds_succ]; go_wp2_with fail
  refine (numberOf_some p1 n1 _ h1).mono ?_
  rintro e w' ⟨rfl, hw⟩
  subst hw
  go_wp2
  rw [rounds_succ]; go_wp2_with fail
  refine (numberOf_some p2 n2 _ h2).mono ?_
  rintro e w' ⟨rfl, hw⟩
  subst hw
  go_wp2
  rw [rounds_succ]; go_wp2_with fail
  refine (numberOf_some p3 n3 _ h3).mono ?_
  rintro e w' ⟨rfl, hw⟩
  subst hw
  go_wp2
  rw [rounds_succ]; go_wp2_with fail
  have V1 : VecAt (w1.alloc (.cells #[.int .i64 (n0 : Int), .int .i64 (n1 : Int), .int .i64 (n2 : Int), .int .i64 (n3 : Int)] 52)) w1.heap.size n0 n1 n2 n3 := by simp [VecAt, go_sem]
  refine (vfault_4 n0 n1 n2 n3 _ HB.out.1.1 HB.out.1.2 HB.out.2.1.1 HB.out.2.1.2 HB.out.2.2.1.1 HB.out.2.2.1.2 HB.out.2.2.2.1 HB.out.2.2.2.2).mono ?_
  rintro e w3 ⟨rfl, hb⟩
  have S3 := (S1.later ((Below.refl _ _).alloc (Nat.le_refl _) _)).later hb
  have V3 := V1.later hb
  clear hb S1 V1 k0 k1 k2 k3
  have S4 := S3.later ((Below.refl _ _).alloc (Nat.le_refl _) (.cells #[.int .i64 0, .int .i64 (-1)] 59))
  have V4 := V3.later ((Below.refl _ _).alloc (Nat.le_refl _) (.cells #[.int .i64 0, .int .i64 (-1)] 59))
  have F4 : (w3.alloc (.cells #[.int .i64 0, .int .i64 (-1)] 59)).cell? ⟨w3.heap.size, 0, none⟩ = some (.int .i64 0) ∧ (w3.alloc (.cells #[.int .i64 0, .int .i64 (-1)] 59)).cell? ⟨w3.heap.size, 1, none⟩ = some (.int .i64 (-1)) := by simp [go_sem]
  have ne1 : ¬ w.heap.size = w3.heap.size := by have := S3.z; omega
  have ne2 : ¬ w.heap.size + 1 = w3.heap.size := by have := S3.z; omega
  have ne3 : ¬ w3.heap.size = w.heap.size := by omega
  have ne4 : ¬ w3.heap.size = w.heap.size + 1 := by omega
  clear S3 V3
  go_wp2_with fail
  generalize w3.alloc (.cells #[.int .i64 0, .int .i64 (-1)] 59) = w4 at S4 V4 F4 ⊢
  obtain ⟨c0, c1, c2, c3, c4, c5, f0, f1, f2, f3, f4, f5, B3, -⟩ := S4
  obtain ⟨q0, q1, q2, q3⟩ := V4
  obtain ⟨q4, q5⟩ := F4
  go_region
  all_goals go_wp2
  all_goals
    refine bodyPost_ret (v := .tuple #[.agg #[.int .i64 (n0 : Int), .int .i64 (n1 : Int), .int .i64 (n2 : Int), .int .i64 (n3 : Int)], .agg #[.int .i64 0, .int .i64 (-1)]]) (by simp [results, Tryd.results41, go_sem, c0, c1, c2, c3, c4, c5]) rfl ⟨rfl, ?_⟩
    exact ((((((B3.setCell (by simp) _).setCell (by simp) _).setCell (by simp) _).setCell (by simp) _).setCell (by simp) _).setCell (by simp) _).drew

/-- The reference's reader of a vector. -/
theorem vectorOf_any (s : ByteArray) (w : World) (hs : s.size ≤ 100) :
    Calls Tryd.prog 41 #[.string s] w fun e w' => e = .returned (.tuple #[rvVec (readL s.data.toList), rvFault (readL s.data.toList)]) ∧ Below w.heap.size w w' := by
  by_cases h4 : (cutL s.data.toList).length = 4
  · obtain ⟨l0, l1, l2, l3, hl⟩ : ∃ l0 l1 l2 l3, cutL s.data.toList = [l0, l1, l2, l3] := by
      match cutL s.data.toList, h4 with
      | [a, b, c, d], _ => exact ⟨a, b, c, d, rfl⟩
    rw [readL_four hl]
    rcases four_of l0 l1 l2 l3 with ⟨h0, e⟩ | ⟨n0, h0, h1, e⟩ | ⟨n0, n1, h0, h1, h2, e⟩ | ⟨n0, n1, n2, h0, h1, h2, h3, e⟩ | ⟨n0, n1, n2, n3, k, h0, h1, h2, h3, hb, e⟩ | ⟨n0, n1, n2, n3, h0, h1, h2, h3, hb, e⟩
    · rw [e]; exact vo_t0 s w hs l0 l1 l2 l3 hl h0
    · rw [e]; exact vo_t1 s w hs l0 l1 l2 l3 hl n0 h0 h1
    · rw [e]; exact vo_t2 s w hs l0 l1 l2 l3 hl n0 h0 n1 h1 h2
    · rw [e]; exact vo_t3 s w hs l0 l1 l2 l3 hl n0 h0 n1 h1 n2 h2 h3
    · rw [e]; exact vo_b s w hs l0 l1 l2 l3 hl n0 h0 n1 h1 n2 h2 n3 h3 k hb
    · rw [e]; exact vo_ok s w hs l0 l1 l2 l3 hl n0 h0 n1 h1 n2 h2 n3 h3 hb
  · rw [readL_not h4]; exact vo_len s w hs h4
end Go.Proofs.YtnfhbmgkiknaaaaDoor
