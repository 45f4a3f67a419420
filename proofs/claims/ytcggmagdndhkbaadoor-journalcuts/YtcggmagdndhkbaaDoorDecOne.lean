/- Contracts of the reference's below and Decimal. -/
import Derived.Test.YtcggmagdndhkbaaDoorItoaOne
import Derived.Test.YtcggmagdndhkbaaDoorByteOne
import Derived.Laws.IdiomStrings
import Derived.Laws.Concat
import Derived.Lib.Hide
namespace Go.Proofs.YtcggmagdndhkbaaDoor
open Go.RowKit

theorem decDigits_len (u : Nat) : (Lib.decDigits u).length ≤ u + 1 := by
  induction u using Nat.strongRecOn with
  | ind u ih =>
    by_cases h : u < 10
    · rw [Lib.decDigits, dif_pos h]; simp
    · rw [Lib.decDigits, dif_neg h]
      have := ih (u / 10) (by omega)
      simp; omega

set_option maxHeartbeats 400000 in
theorem below_any (u : Nat) (hu : u ≤ 9223372036854775808) : ∀ (w : World),
    Calls Tryd.prog 34 #[.int .i64 (-(u : Int))] w fun e w' => e = .returned (.string ⟨(Lib.decDigits u).toArray⟩) ∧ Below w.heap.size w w' := by
  induction u using Nat.strongRecOn with
  | ind u ih =>
    intro w
    have IH := Lib.hid ih
    clear ih
    by_cases h : u < 10
    · have hd : decide (-10 < -(u : Int)) = true := by simp; omega
      have HE : Hid (Lib.decDigits u = [digB (48 + u)]) := Lib.hid (by rw [Lib.decDigits, dif_pos h]; rfl)
      go_enter Tryd.func34, Tryd.ntmps34
      go_wp2_with fail
      refine (byte_any (48 + u) w (by omega)).mono ?_
      rintro e w1 ⟨rfl, hb⟩
      go_wp2
      go_ret
      exact ⟨by rw [HE.out]; rfl, hb⟩
    · have hd : decide (-10 < -(u : Int)) = false := by simp; omega
      have HE : Hid (Lib.decDigits u = Lib.decDigits (u / 10) ++ [digB (48 + u % 10)]) := Lib.hid (by rw [Lib.decDigits, dif_neg h]; rfl)
      have hlen := Lib.hid (decDigits_len (u / 10))
      go_enter Tryd.func34, Tryd.ntmps34
      go_wp2_with fail
      refine (IH.out (u / 10) (by omega) (by omega) w).mono ?_
      rintro e w1 ⟨rfl, hb1⟩
      go_wp2_with fail
      refine (byte_any (48 + u % 10) w1 (by omega)).mono ?_
      rintro e w2 ⟨rfl, hb2⟩
      have B2 : Below w.heap.size w w2 := hb1.trans (hb2.mono hb1.size)
      have hadd := add_texts (Lib.decDigits (u / 10)) [digB (48 + u % 10)] (by have := hlen.out; simp; omega)
      clear hb1 hb2
      go_wp2
      go_ret
      exact ⟨by rw [HE.out]; rfl, B2⟩

theorem itoa_neg' (n : Int) (h : n < 0) : Lib.itoa n = 45 :: Lib.decDigits n.natAbs := by rw [Lib.itoa, if_pos h]
theorem itoa_pos' (n : Int) (h : 0 ≤ n) : Lib.itoa n = Lib.decDigits n.natAbs := by
  rw [Lib.itoa, if_neg (by omega)]
  congr 1
  omega

set_option maxHeartbeats 400000 in
theorem decimal_any (n : Int) (w : World) (h0 : -9223372036854775808 ≤ n) (h1 : n ≤ 9223372036854775807) :
    Calls Tryd.prog 24 #[.int .i64 n] w fun e w' => e = .returned (.string ⟨(Lib.itoa n).toArray⟩) ∧ Below w.heap.size w w' := by
  by_cases h : n < 0
  · obtain ⟨u, rfl⟩ : ∃ u : Nat, n = -(u : Int) := ⟨n.natAbs, by omega⟩
    have HE : Hid (Lib.itoa (-(u : Int)) = 45 :: Lib.decDigits u) := Lib.hid (by rw [itoa_neg' _ h]; simp)
    have hd : decide (-(u : Int) < 0) = true := by simpa using h
    have hadd := add_texts [45] (Lib.decDigits u) (by
      have := Lib.itoa_length_le _ h0 h1
      rw [HE.out] at this
      simp at this ⊢
      omega)
    go_enter Tryd.func24, Tryd.ntmps24
    go_wp2_with fail
    refine (below_any u (by omega) w).mono ?_
    rintro e w1 ⟨rfl, hb⟩
    go_wp2
    go_ret
    exact ⟨by rw [HE.out]; rfl, hb⟩
  · obtain ⟨u, rfl⟩ : ∃ u : Nat, n = (u : Int) := ⟨n.natAbs, by omega⟩
    have HE : Hid (Lib.itoa (u : Int) = Lib.decDigits u) := Lib.hid (by rw [itoa_pos' _ (by omega)]; simp)
    have hd : decide ((u : Int) < 0) = false := by simp
    go_enter Tryd.func24, Tryd.ntmps24
    go_wp2_with fail
    refine (below_any u (by omega) w).mono ?_
    rintro e w1 ⟨rfl, hb⟩
    go_wp2
    go_ret
    exact ⟨by rw [HE.out]; rfl, hb⟩
end Go.Proofs.YtcggmagdndhkbaaDoor
