/- Contracts of the reference's Byte, below, Decimal and VectorText. -/
import Derived.Test.YtnfhbmgkiknaaaaDoorVecText
import Derived.Laws.IdiomStrings
import Derived.Laws.Concat
import Derived.Lib.Hide
namespace Go.Proofs.YtnfhbmgkiknaaaaDoor
open Go.RowKit

/-- A byte (a name of its own, so that no rule turns it). -/
def digB (u : Nat) : UInt8 := UInt8.ofNat u

set_option maxRecDepth 100000 in
set_option maxHeartbeats 400000 in
theorem byte_any (u : Nat) (w : World) (h1 : 48 ≤ u) (h2 : u ≤ 57) :
    Calls Tryd.prog 120 #[.int .i64 (u : Int)] w fun e w' => e = .returned (.string ⟨#[digB u]⟩) ∧ Below w.heap.size w w' := by
  have hcv : (convert 160 9 (.slice (some ⟨w.heap.size, 0, none⟩) 1 1)).run Tryd.prog (w.alloc (.cells #[.int .u8 (u : Int)] 5)) = .ok (.string ⟨#[digB u]⟩) (w.alloc (.cells #[.int .u8 (u : Int)] 5)) := by
    refine run_convert_bytes_back (P := Tryd.prog) _ 160 9 5 ⟨w.heap.size, 0, none⟩ 1 [digB u] Tryd.underlying160 Tryd.underlying5 Tryd.underlying9 ?_
    intro j hj
    have hj0 : j = 0 := by simpa using hj
    subst hj0
    simp [go_sem, Addr.add, digB]
    omega
  go_enter Tryd.func120, Tryd.ntmps120
  go_wp2
  go_ret
  exact ⟨rfl, (Below.refl _ _).alloc (Nat.le_refl _) _⟩

theorem decDigits_len (u : Nat) : (Lib.decDigits u).length ≤ u + 1 := by
  induction u using Nat.strongRecOn with
  | ind u ih =>
    by_cases h : u < 10
    · rw [Lib.decDigits, dif_pos h]; simp
    · rw [Lib.decDigits, dif_neg h]
      have := ih (u / 10) (by omega)
      simp; omega

theorem add_texts (x y : List UInt8) (h : x.length + y.length ≤ 9223372036854775807) (w : World) : (Op.stringOp .add ⟨x.toArray⟩ ⟨y.toArray⟩).run Tryd.prog w = .ok (.string ⟨(x ++ y).toArray⟩) w := by
  rw [run_string_add_sum w ⟨x.toArray⟩ ⟨y.toArray⟩ (by simpa [ByteArray.size] using h)]
  congr 2

set_option maxHeartbeats 400000 in
theorem below_any (u : Nat) (hu : u ≤ 9223372036854775808) : ∀ (w : World),
    Calls Tryd.prog 100 #[.int .i64 (-(u : Int))] w fun e w' => e = .returned (.string ⟨(Lib.decDigits u).toArray⟩) ∧ Below w.heap.size w w' := by
  induction u using Nat.strongRecOn with
  | ind u ih =>
    intro w
    have IH := Lib.hid ih
    clear ih
    by_cases h : u < 10
    · have hd : decide (-10 < -(u : Int)) = true := by simp; omega
      have HE : Hid (Lib.decDigits u = [digB (48 + u)]) := Lib.hid (by rw [Lib.decDigits, dif_pos h]; rfl)
      go_enter Tryd.func100, Tryd.ntmps100
      go_wp2_with fail
      refine (byte_any (48 + u) w (by omega) (by omega)).mono ?_
      rintro e w1 ⟨rfl, hb⟩
      go_wp2
      go_ret
      exact ⟨by rw [HE.out]; rfl, hb⟩
    · have hd : decide (-10 < -(u : Int)) = false := by simp; omega
      have HE : Hid (Lib.decDigits u = Lib.decDigits (u / 10) ++ [digB (48 + u % 10)]) := Lib.hid (by rw [Lib.decDigits, dif_neg h]; rfl)
      have hlen := Lib.hid (decDigits_len (u / 10))
      go_enter Tryd.func100, Tryd.ntmps100
      go_wp2_with fail
      refine (IH.out (u / 10) (by omega) (by omega) w).mono ?_
      rintro e w1 ⟨rfl, hb1⟩
      go_wp2_with fail
      refine (byte_any (48 + u % 10) w1 (by omega) (by omega)).mono ?_
      rintro e w2 ⟨rfl, hb2⟩
      have B2 : Below w.heap.size w w2 := hb1.trans (hb2.mono hb1.size)
      have hadd := add_texts (Lib.decDigits (u / 10)) [digB (48 + u % 10)] (by have := hlen.out; simp; omega)
      clear hb1 hb2
      go_wp2
      go_ret
      exact ⟨by rw [HE.out]; rfl, B2⟩

theorem itoa_neg' (n : Int) (h : n < 0) : Lib.itoa n = 45 :: Lib.decDigits n.natAbs := by rw [Lib.itoa, if_pos h]
theorem itoa_pos' (n : Int) (h : 0 ≤ n) : Lib.itoa n = Lib.decDigits n.natAbs := by
  rw [Lib.itoa, if_neg (by omega)]
  congr 1
  omega

set_option maxHeartbeats 400000 in
theorem decimal_any (n : Int) (w : World) (h0 : -9223372036854775808 ≤ n) (h1 : n ≤ 9223372036854775807) :
    Calls Tryd.prog 67 #[.int .i64 n] w fun e w' => e = .returned (.string ⟨(Lib.itoa n).toArray⟩) ∧ Below w.heap.size w w' := by
  by_cases h : n < 0
  · obtain ⟨u, rfl⟩ : ∃ u : Nat, n = -(u : Int) := ⟨n.natAbs, by omega⟩
    have HE : Hid (Lib.itoa (-(u : Int)) = 45 :: Lib.decDigits u) := Lib.hid (by rw [itoa_neg' _ h]; simp)
    have hd : decide (-(u : Int) < 0) = true := by simpa using h
    have hadd := add_texts [45] (Lib.decDigits u) (by
      have := Lib.itoa_length_le _ h0 h1
      rw [HE.out] at this
      simp at this ⊢
      omega)
    go_enter Tryd.func67, Tryd.ntmps67
    go_wp2_with fail
    refine (below_any u (by omega) w).mono ?_
    rintro e w1 ⟨rfl, hb⟩
    go_wp2
    go_ret
    exact ⟨by rw [HE.out]; rfl, hb⟩
  · obtain ⟨u, rfl⟩ : ∃ u : Nat, n = (u : Int) := ⟨n.natAbs, by omega⟩
    have HE : Hid (Lib.itoa (u : Int) = Lib.decDigits u) := Lib.hid (by rw [itoa_pos' _ (by omega)]; simp)
    have hd : decide ((u : Int) < 0) = false := by simp
    go_enter Tryd.func67, Tryd.ntmps67
    go_wp2_with fail
    refine (below_any u (by omega) w).mono ?_
    rintro e w1 ⟨rfl, hb⟩
    go_wp2
    go_ret
    exact ⟨by rw [HE.out]; rfl, hb⟩
/-- The texts that the reference makes, one behind the other. -/
theorem text_steps (a0 a1 a2 a3 : Int) (l0 : -9223372036854775808 ≤ a0) (g0 : a0 ≤ 9223372036854775807) (l1 : -9223372036854775808 ≤ a1) (g1 : a1 ≤ 9223372036854775807) (l2 : -9223372036854775808 ≤ a2) (g2 : a2 ≤ 9223372036854775807) (l3 : -9223372036854775808 ≤ a3) (g3 : a3 ≤ 9223372036854775807) :
    ∃ T0 U1 T1 U2 T2 U3 T3 : List UInt8, (∀ w : World, (Op.stringOp .add ⟨#[]⟩ ⟨(Lib.itoa a0).toArray⟩).run Tryd.prog w = .ok (.string ⟨T0.toArray⟩) w) ∧ (∀ w : World, (Op.stringOp .add ⟨T0.toArray⟩ ⟨#[46]⟩).run Tryd.prog w = .ok (.string ⟨U1.toArray⟩) w) ∧ (∀ w : World, (Op.stringOp .add ⟨U1.toArray⟩ ⟨(Lib.itoa a1).toArray⟩).run Tryd.prog w = .ok (.string ⟨T1.toArray⟩) w) ∧ (∀ w : World, (Op.stringOp .add ⟨T1.toArray⟩ ⟨#[46]⟩).run Tryd.prog w = .ok (.string ⟨U2.toArray⟩) w) ∧ (∀ w : World, (Op.stringOp .add ⟨U2.toArray⟩ ⟨(Lib.itoa a2).toArray⟩).run Tryd.prog w = .ok (.string ⟨T2.toArray⟩) w) ∧ (∀ w : World, (Op.stringOp .add ⟨T2.toArray⟩ ⟨#[46]⟩).run Tryd.prog w = .ok (.string ⟨U3.toArray⟩) w) ∧ (∀ w : World, (Op.stringOp .add ⟨U3.toArray⟩ ⟨(Lib.itoa a3).toArray⟩).run Tryd.prog w = .ok (.string ⟨T3.toArray⟩) w) ∧ T3 = textL a0 a1 a2 a3 := by
  have e0 := Lib.itoa_length_le _ l0 g0
  have e1 := Lib.itoa_length_le _ l1 g1
  have e2 := Lib.itoa_length_le _ l2 g2
  have e3 := Lib.itoa_length_le _ l3 g3
  refine ⟨Lib.itoa a0, Lib.itoa a0 ++ [46], (Lib.itoa a0 ++ [46]) ++ Lib.itoa a1, ((Lib.itoa a0 ++ [46]) ++ Lib.itoa a1) ++ [46], (((Lib.itoa a0 ++ [46]) ++ Lib.itoa a1) ++ [46]) ++ Lib.itoa a2, ((((Lib.itoa a0 ++ [46]) ++ Lib.itoa a1) ++ [46]) ++ Lib.itoa a2) ++ [46], (((((Lib.itoa a0 ++ [46]) ++ Lib.itoa a1) ++ [46]) ++ Lib.itoa a2) ++ [46]) ++ Lib.itoa a3,
    add_texts [] _ (by simp; omega), add_texts _ [46] (by simp; omega), add_texts _ _ (by simp; omega), add_texts _ [46] (by simp; omega), add_texts _ _ (by simp; omega), add_texts _ [46] (by simp; omega), add_texts _ _ (by simp; omega), ?_⟩
  simp [textL, Lib.join_cons, Lib.joinTail]

set_option maxRecDepth 100000 in
set_option maxHeartbeats 1000000 in
theorem vectorText_any (a0 a1 a2 a3 : Int) (w : World) (l0 : -9223372036854775808 ≤ a0) (g0 : a0 ≤ 9223372036854775807) (l1 : -9223372036854775808 ≤ a1) (g1 : a1 ≤ 9223372036854775807) (l2 : -9223372036854775808 ≤ a2) (g2 : a2 ≤ 9223372036854775807) (l3 : -9223372036854775808 ≤ a3) (g3 : a3 ≤ 9223372036854775807) :
    Calls Tryd.prog 39 #[.agg #[.int .i64 a0, .int .i64 a1, .int .i64 a2, .int .i64 a3]] w fun e w' => e = .returned (.string ⟨(textL a0 a1 a2 a3).toArray⟩) ∧ Below w.heap.size w w' := by
  have V0 : VecAt (w.alloc (.cells #[.int .i64 a0, .int .i64 a1, .int .i64 a2, .int .i64 a3] 52)) w.heap.size a0 a1 a2 a3 := by simp [VecAt, go_sem]
  have B0 : Below w.heap.size w (w.alloc (.cells #[.int .i64 a0, .int .i64 a1, .int .i64 a2, .int .i64 a3] 52)) := (Below.refl _ _).alloc (Nat.le_refl _) _
  obtain ⟨T0, U1, T1, U2, T2, U3, T3, s0, s1, s2, s3, s4, s5, s6, hE⟩ := text_steps a0 a1 a2 a3 l0 g0 l1 g1 l2 g2 l3 g3
  have HE := Lib.hid hE
  clear hE
  go_enter Tryd.func39, Tryd.ntmps39
  go_wp2
  refine wp_loop_rounds 5 ?_
  generalize w.alloc (.cells #[.int .i64 a0, .int .i64 a1, .int .i64 a2, .int .i64 a3] 52) = w0 at V0 B0 ⊢
  obtain ⟨c0, c1, c2, c3⟩ := id V0
  rw [rounds_succ]; go_wp2_with fail
  refine (decimal_any a0 _ l0 g0).mono ?_
  rintro e w1 ⟨rfl, hb⟩
  have V1 := V0.later hb
  have B1 : Below w.heap.size w w1 := B0.trans (hb.mono B0.size)
  clear hb V0 B0 c0 c1 c2 c3
  go_wp2
  obtain ⟨c0, c1, c2, c3⟩ := id V1
  rw [rounds_succ]; go_wp2_with fail
  refine (decimal_any a1 _ l1 g1).mono ?_
  rintro e w2 ⟨rfl, hb⟩
  have V2 := V1.later hb
  have B2 : Below w.heap.size w w2 := B1.trans (hb.mono B1.size)
  clear hb V1 B1 c0 c1 c2 c3
  go_wp2
  obtain ⟨c0, c1, c2, c3⟩ := id V2
  rw [rounds_succ]; go_wp2_with fail
  refine (decimal_any a2 _ l2 g2).mono ?_
  rintro e w3 ⟨rfl, hb⟩
  have V3 := V2.later hb
  have B3 : Below w.heap.size w w3 := B2.trans (hb.mono B2.size)
  clear hb V2 B2 c0 c1 c2 c3
  go_wp2
  obtain ⟨c0, c1, c2, c3⟩ := id V3
  rw [rounds_succ]; go_wp2_with fail
  refine (decimal_any a3 _ l3 g3).mono ?_
  rintro e w4 ⟨rfl, hb⟩
  have V4 := V3.later hb
  have B4 : Below w.heap.size w w4 := B3.trans (hb.mono B3.size)
  clear hb V3 B3 c0 c1 c2 c3
  go_wp2
  rw [rounds_succ]; go_wp2
  go_ret
  exact ⟨by rw [← HE.out]; rfl, B4⟩
end Go.Proofs.YtnfhbmgkiknaaaaDoor
