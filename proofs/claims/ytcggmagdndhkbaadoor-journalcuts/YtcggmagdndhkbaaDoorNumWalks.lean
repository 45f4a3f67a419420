/- Contracts of the two readers of one number: the program's and the reference's. -/
import Derived.Test.YtcggmagdndhkbaaDoorByteAt
import Derived.WalkKit
import Derived.WalkSpells
import Derived.Below
import Derived.LoopN
import Derived.LoopTactic
import Derived.Lib.Hide
namespace Go.Proofs.YtcggmagdndhkbaaDoor
open Go.RowKit

set_option maxRecDepth 100000 in
set_option maxHeartbeats 1000000 in
theorem rn_any (D : Nat) (hD : D ≤ 18) (s : ByteArray) (w : World) (h1 : 1 ≤ s.size) (h4 : s.size ≤ D) (hz : ¬ (s[0].toNat = 48 ∧ 1 < s.size)) :
    Calls Tryd.prog 63 #[.string s, .int .i64 (D : Int)] w fun e w' => e = .returned (.tuple #[.int .i64 ((digitsL 0 s.data.toList).getD 0 : Nat), .bool (digitsL 0 s.data.toList).isSome]) ∧ w' = w := by
  have hs0 : 0 < s.size := h1
  have d1 : decide ((s.size : Int) < 1) = false := by simp; omega
  have d4 : decide ((D : Int) < (s.size : Int)) = false := by simp; omega
  have hc : (((s[0].toNat : Int) == 48) = true ∧ decide (1 < (s.size : Int)) = false) ∨ (((s[0].toNat : Int) == 48) = false ∧ True) := by
    by_cases e : s[0].toNat = 48
    · refine .inl ⟨by simp [e], ?_⟩
      simp; omega
    · refine .inr ⟨?_, trivial⟩
      simp; omega
  have H4 := Lib.hid h4
  clear hz h1 h4
  generalize hR : digitsL 0 s.data.toList = R
  have HR := Lib.hid hR
  clear hR
  rcases hc with ⟨e0, d5⟩ | ⟨e0, d5⟩
  · go_enter Tryd.func63, Tryd.ntmps63
    go_wp2
    go_loop [6, 30] (fun n i => ∃ k v : Nat, k ≤ s.size ∧ i = .int .i64 k ∧ n = .int .i64 v ∧ Hid (digitsL v (s.data.toList.drop k) = R) ∧ v < 10 ^ k) (fun _ i => s.size - (intOf i).toNat)
    case atStart => exact ⟨0, 0, Nat.zero_le _, rfl, rfl, Lib.hid (by simpa using HR.out), by simp⟩
    case round =>
      obtain ⟨k, v, hk, rfl, rfl, HD, hv⟩ := hrel
      by_cases hlt : k < s.size
      · have hd : decide ((k : Int) < (s.size : Int)) = true := by simp; omega
        by_cases hdig : 48 ≤ s[k].toNat ∧ s[k].toNat ≤ 57
        · obtain ⟨g1, g2⟩ := hdig
          have l1 : decide ((s[k].toNat : Int) < 48) = false := by simp; omega
          have l2 : decide (57 < (s[k].toNat : Int)) = false := by simp; omega
          have hk3 : k < 18 := by have := H4.out; omega
          have hv3 := pow_lt k v hv hk3
          have HE : Hid (digitsL (10 * v + (s[k].toNat - 48)) (s.data.toList.drop (k + 1)) = R) := Lib.hid (by
            have := HD.out
            rw [byteAt s k hlt, digitsL, if_neg (by omega)] at this
            exact this)
          have HV := Lib.hid (pow_next k v (s[k].toNat - 48) hv (by omega))
          clear HD hv
          go_wp2
          go_round
          case rel => exact ⟨k + 1, 10 * v + (s[k].toNat - 48), by omega, by go_num, by go_num, HE, HV.out⟩
          case measure => simp [intOf]; omega
        · have HN : Hid (R = none) := Lib.hid (by
            have := HD.out
            rw [byteAt s k hlt, digitsL, if_pos (by omega)] at this
            exact this.symm)
          clear HD
          by_cases hlo : s[k].toNat < 48
          · have l1 : decide ((s[k].toNat : Int) < 48) = true := by simp; omega
            clear hdig
            go_wp2
            go_ret2
            exact ⟨by rw [HN.out]; rfl, rfl⟩
          · have l1 : decide ((s[k].toNat : Int) < 48) = false := by simp; omega
            have l2 : decide (57 < (s[k].toNat : Int)) = true := by simp; omega
            clear hdig
            go_wp2
            go_ret2
            exact ⟨by rw [HN.out]; rfl, rfl⟩
      · have hd : decide ((k : Int) < (s.size : Int)) = false := by simp; omega
        have HN : Hid (R = some v) := Lib.hid (by
          have := HD.out
          rw [show k = s.size by omega, dropEnd, digitsL] at this
          exact this.symm)
        clear HD
        go_wp2
        go_ret2
        exact ⟨by rw [HN.out]; rfl, rfl⟩
  · go_enter Tryd.func63, Tryd.ntmps63
    go_wp2
    go_loop [6, 30] (fun n i => ∃ k v : Nat, k ≤ s.size ∧ i = .int .i64 k ∧ n = .int .i64 v ∧ Hid (digitsL v (s.data.toList.drop k) = R) ∧ v < 10 ^ k) (fun _ i => s.size - (intOf i).toNat)
    case atStart => exact ⟨0, 0, Nat.zero_le _, rfl, rfl, Lib.hid (by simpa using HR.out), by simp⟩
    case round =>
      obtain ⟨k, v, hk, rfl, rfl, HD, hv⟩ := hrel
      by_cases hlt : k < s.size
      · have hd : decide ((k : Int) < (s.size : Int)) = true := by simp; omega
        by_cases hdig : 48 ≤ s[k].toNat ∧ s[k].toNat ≤ 57
        · obtain ⟨g1, g2⟩ := hdig
          have l1 : decide ((s[k].toNat : Int) < 48) = false := by simp; omega
          have l2 : decide (57 < (s[k].toNat : Int)) = false := by simp; omega
          have hk3 : k < 18 := by have := H4.out; omega
          have hv3 := pow_lt k v hv hk3
          have HE : Hid (digitsL (10 * v + (s[k].toNat - 48)) (s.data.toList.drop (k + 1)) = R) := Lib.hid (by
            have := HD.out
            rw [byteAt s k hlt, digitsL, if_neg (by omega)] at this
            exact this)
          have HV := Lib.hid (pow_next k v (s[k].toNat - 48) hv (by omega))
          clear HD hv
          go_wp2
          go_round
          case rel => exact ⟨k + 1, 10 * v + (s[k].toNat - 48), by omega, by go_num, by go_num, HE, HV.out⟩
          case measure => simp [intOf]; omega
        · have HN : Hid (R = none) := Lib.hid (by
            have := HD.out
            rw [byteAt s k hlt, digitsL, if_pos (by omega)] at this
            exact this.symm)
          clear HD
          by_cases hlo : s[k].toNat < 48
          · have l1 : decide ((s[k].toNat : Int) < 48) = true := by simp; omega
            clear hdig
            go_wp2
            go_ret2
            exact ⟨by rw [HN.out]; rfl, rfl⟩
          · have l1 : decide ((s[k].toNat : Int) < 48) = false := by simp; omega
            have l2 : decide (57 < (s[k].toNat : Int)) = true := by simp; omega
            clear hdig
            go_wp2
            go_ret2
            exact ⟨by rw [HN.out]; rfl, rfl⟩
      · have hd : decide ((k : Int) < (s.size : Int)) = false := by simp; omega
        have HN : Hid (R = some v) := Lib.hid (by
          have := HD.out
          rw [show k = s.size by omega, dropEnd, digitsL] at this
          exact this.symm)
        clear HD
        go_wp2
        go_ret2
        exact ⟨by rw [HN.out]; rfl, rfl⟩

set_option maxHeartbeats 400000 in
theorem rn_short (D : Nat) (hD : D ≤ 18) (s : ByteArray) (w : World) (h : s.size < 1 ∨ D < s.size) :
    Calls Tryd.prog 63 #[.string s, .int .i64 (D : Int)] w fun e w' => e = .returned (.tuple #[.int .i64 0, .bool false]) ∧ w' = w := by
  rcases h with h | h
  · have d1 : decide ((s.size : Int) < 1) = true := by simp; omega
    go_enter Tryd.func63, Tryd.ntmps63
    go_wp2
    go_ret2
    exact ⟨rfl, rfl⟩
  · have d1 : decide ((s.size : Int) < 1) = false := by simp; omega
    have d4 : decide ((D : Int) < (s.size : Int)) = true := by simp; omega
    go_enter Tryd.func63, Tryd.ntmps63
    go_wp2
    go_ret2
    exact ⟨rfl, rfl⟩

set_option maxHeartbeats 400000 in
theorem rn_zero (D : Nat) (s : ByteArray) (w : World) (h1 : 1 < s.size) (h4 : s.size ≤ D) (hz : s[0].toNat = 48) :
    Calls Tryd.prog 63 #[.string s, .int .i64 (D : Int)] w fun e w' => e = .returned (.tuple #[.int .i64 0, .bool false]) ∧ w' = w := by
  have hs0 : 0 < s.size := by omega
  have d1 : decide ((s.size : Int) < 1) = false := by simp; omega
  have d4 : decide ((D : Int) < (s.size : Int)) = false := by simp; omega
  have d5 : decide (1 < (s.size : Int)) = true := by simp; omega
  have e0 : ((s[0].toNat : Int) == 48) = true := by simp [hz]
  clear hz
  go_enter Tryd.func63, Tryd.ntmps63
  go_wp2
  go_ret2
  exact ⟨rfl, rfl⟩

theorem numN_in {D : Nat} {s : ByteArray} (h1 : 1 ≤ s.size) (h4 : s.size ≤ D) (hz : ¬ (s[0].toNat = 48 ∧ 1 < s.size)) : numN D s.data.toList = digitsL 0 s.data.toList := by
  have h0 : s.data.toList.getD 0 0 = s[0] := by
    have := byteAt s 0 h1
    rw [List.drop_zero] at this
    rw [this]; rfl
  have hl : s.data.toList.length = s.size := by simp
  unfold numN
  rw [if_neg (by rw [h0, hl]; omega)]
theorem numN_out {D : Nat} {s : ByteArray} (h : s.size < 1 ∨ D < s.size) : numN D s.data.toList = none := by
  have hl : s.data.toList.length = s.size := by simp
  unfold numN
  rw [if_pos (by rw [hl]; omega)]
theorem numN_zero {D : Nat} {s : ByteArray} (h1 : 1 < s.size) (hz : s[0].toNat = 48) : numN D s.data.toList = none := by
  have h0 : s.data.toList.getD 0 0 = s[0] := by
    have := byteAt s 0 (by omega)
    rw [List.drop_zero] at this
    rw [this]; rfl
  have hl : s.data.toList.length = s.size := by simp
  unfold numN
  rw [if_pos (by rw [h0, hl]; omega)]

/-- The program's reader of one number. -/
theorem readN_any (D : Nat) (hD : D ≤ 18) (s : ByteArray) (w : World) :
    Calls Tryd.prog 63 #[.string s, .int .i64 (D : Int)] w fun e w' => e = .returned (.tuple #[.int .i64 ((numN D s.data.toList).getD 0 : Nat), .bool (numN D s.data.toList).isSome]) ∧ w' = w := by
  by_cases h : s.size < 1 ∨ D < s.size
  · rw [numN_out h]; exact rn_short D hD s w h
  · by_cases hz : (s[0]'(by omega)).toNat = 48
    · by_cases h1 : 1 < s.size
      · rw [numN_zero h1 hz]; exact rn_zero D s w h1 (by omega) hz
      · rw [numN_in (by omega) (by omega) (by omega)]; exact rn_any D hD s w (by omega) (by omega) (by omega)
    · rw [numN_in (by omega) (by omega) (by omega)]; exact rn_any D hD s w (by omega) (by omega) (by omega)

/-- A number, or -1. -/
def numI : Option Nat → Int
  | none => -1
  | some n => (n : Int)

theorem readNumber_any (s : ByteArray) (w : World) :
    Calls Tryd.prog 63 #[.string s, .int .i64 4] w fun e w' => e = .returned (.tuple #[.int .i64 ((numL s.data.toList).getD 0 : Nat), .bool (numL s.data.toList).isSome]) ∧ w' = w := readN_any 4 (by decide) s w
end Go.Proofs.YtcggmagdndhkbaaDoor
