import Derived.Test.YtcggmagdndhkbaaGreatDoorAx02
import Derived.Test.YtcggmagdndhkbaaGreatDoorAx03
import Derived.Test.YtcggmagdndhkbaaGreatDoorAx04
import Derived.Test.YtcggmagdndhkbaaGreatDoorAx05
import Derived.WalkKit
import Derived.WalkSpells
import Derived.Below
import Derived.LoopN
import Derived.LoopTactic
import Derived.Lib.Hide
section
namespace Go.Proofs.YtcggmagdndhkbaaGreatDoor
open Go.RowKit
set_option maxRecDepth 100000 in
set_option maxHeartbeats 1000000 in
theorem rn_any (D : Nat) (hD : D ≤ 18) (s : ByteArray) (w : World) (h1 : 1 ≤ s.size) (h4 : s.size ≤ D) (hz : ¬ (s[0].toNat = 48 ∧ 1 < s.size)) :
    Calls Tryz.prog 270 #[.string s, .int .i64 (D : Int)] w fun e w' => e = .returned (.tuple #[.int .i64 ((digitsL 0 s.data.toList).getD 0 : Nat), .bool (digitsL 0 s.data.toList).isSome]) ∧ w' = w := by
  have hs0 : 0 < s.size := h1
  have d1 : decide ((s.size : Int) < 1) = false := by simp; omega
  have d4 : decide ((D : Int) < (s.size : Int)) = false := by simp; omega
  have hc : (((s[0].toNat : Int) == 48) = true ∧ decide (1 < (s.size : Int)) = false) ∨ (((s[0].toNat : Int) == 48) = false ∧ True) := by
    by_cases e : s[0].toNat = 48
    · refine .inl ⟨by simp [e], ?_⟩
      simp; omega
    · refine .inr ⟨?_, trivial⟩
      simp; omega
  have H4 := Lib.hid h4
  clear hz h1 h4
  generalize hR : digitsL 0 s.data.toList = R
  have HR := Lib.hid hR
  clear hR
  rcases hc with ⟨e0, d5⟩ | ⟨e0, d5⟩
  · go_enter Tryz.func270, Tryz.ntmps270
    go_wp2
    go_loop [6, 30] (fun n i => ∃ k v : Nat, k ≤ s.size ∧ i = .int .i64 k ∧ n = .int .i64 v ∧ Hid (digitsL v (s.data.toList.drop k) = R) ∧ v < 10 ^ k) (fun _ i => s.size - (intOf i).toNat)
    case atStart => exact ⟨0, 0, Nat.zero_le _, rfl, rfl, Lib.hid (by simpa using HR.out), by simp⟩
    case round =>
      obtain ⟨k, v, hk, rfl, rfl, HD, hv⟩ := hrel
      by_cases hlt : k < s.size
      · have hd : decide ((k : Int) < (s.size : Int)) = true := by simp; omega
        by_cases hdig : 48 ≤ s[k].toNat ∧ s[k].toNat ≤ 57
        · obtain ⟨g1, g2⟩ := hdig
          have l1 : decide ((s[k].toNat : Int) < 48) = false := by simp; omega
          have l2 : decide (57 < (s[k].toNat : Int)) = false := by simp; omega
          have hk3 : k < 18 := by have := H4.out; omega
          have hv3 := pow_lt k v hv hk3
          have HE : Hid (digitsL (10 * v + (s[k].toNat - 48)) (s.data.toList.drop (k + 1)) = R) := Lib.hid (by
            have := HD.out
            rw [byteAt s k hlt, digitsL, if_neg (by omega)] at this
            exact this)
          have HV := Lib.hid (pow_next k v (s[k].toNat - 48) hv (by omega))
          clear HD hv
          go_wp2
          go_round
          case rel => exact ⟨k + 1, 10 * v + (s[k].toNat - 48), by omega, by go_num, by go_num, HE, HV.out⟩
          case measure => simp [intOf]; omega
        · have HN : Hid (R = none) := Lib.hid (by
            have := HD.out
            rw [byteAt s k hlt, digitsL, if_pos (by omega)] at this
            exact this.symm)
          clear HD
          by_cases hlo : s[k].toNat < 48
          · have l1 : decide ((s[k].toNat : Int) < 48) = true := by simp; omega
            clear hdig
            go_wp2
            go_ret2
            exact ⟨by rw [HN.out]; rfl, rfl⟩
          · have l1 : decide ((s[k].toNat : Int) < 48) = false := by simp; omega
            have l2 : decide (57 < (s[k].toNat : Int)) = true := by simp; omega
            clear hdig
            go_wp2
            go_ret2
            exact ⟨by rw [HN.out]; rfl, rfl⟩
      · have hd : decide ((k : Int) < (s.size : Int)) = false := by simp; omega
        have HN : Hid (R = some v) := Lib.hid (by
          have := HD.out
          rw [show k = s.size by omega, dropEnd, digitsL] at this
          exact this.symm)
        clear HD
        go_wp2
        go_ret2
        exact ⟨by rw [HN.out]; rfl, rfl⟩
  · go_enter Tryz.func270, Tryz.ntmps270
    go_wp2
    go_loop [6, 30] (fun n i => ∃ k v : Nat, k ≤ s.size ∧ i = .int .i64 k ∧ n = .int .i64 v ∧ Hid (digitsL v (s.data.toList.drop k) = R) ∧ v < 10 ^ k) (fun _ i => s.size - (intOf i).toNat)
    case atStart => exact ⟨0, 0, Nat.zero_le _, rfl, rfl, Lib.hid (by simpa using HR.out), by simp⟩
    case round =>
      obtain ⟨k, v, hk, rfl, rfl, HD, hv⟩ := hrel
      by_cases hlt : k < s.size
      · have hd : decide ((k : Int) < (s.size : Int)) = true := by simp; omega
        by_cases hdig : 48 ≤ s[k].toNat ∧ s[k].toNat ≤ 57
        · obtain ⟨g1, g2⟩ := hdig
          have l1 : decide ((s[k].toNat : Int) < 48) = false := by simp; omega
          have l2 : decide (57 < (s[k].toNat : Int)) = false := by simp; omega
          have hk3 : k < 18 := by have := H4.out; omega
          have hv3 := pow_lt k v hv hk3
          have HE : Hid (digitsL (10 * v + (s[k].toNat - 48)) (s.data.toList.drop (k + 1)) = R) := Lib.hid (by
            have := HD.out
            rw [byteAt s k hlt, digitsL, if_neg (by omega)] at this
            exact this)
          have HV := Lib.hid (pow_next k v (s[k].toNat - 48) hv (by omega))
          clear HD hv
          go_wp2
          go_round
          case rel => exact ⟨k + 1, 10 * v + (s[k].toNat - 48), by omega, by go_num, by go_num, HE, HV.out⟩
          case measure => simp [intOf]; omega
        · have HN : Hid (R = none) := Lib.hid (by
            have := HD.out
            rw [byteAt s k hlt, digitsL, if_pos (by omega)] at this
            exact this.symm)
          clear HD
          by_cases hlo : s[k].toNat < 48
          · have l1 : decide ((s[k].toNat : Int) < 48) = true := by simp; omega
            clear hdig
            go_wp2
            go_ret2
            exact ⟨by rw [HN.out]; rfl, rfl⟩
          · have l1 : decide ((s[k].toNat : Int) < 48) = false := by simp; omega
            have l2 : decide (57 < (s[k].toNat : Int)) = true := by simp; omega
            clear hdig
            go_wp2
            go_ret2
            exact ⟨by rw [HN.out]; rfl, rfl⟩
      · have hd : decide ((k : Int) < (s.size : Int)) = false := by simp; omega
        have HN : Hid (R = some v) := Lib.hid (by
          have := HD.out
          rw [show k = s.size by omega, dropEnd, digitsL] at this
          exact this.symm)
        clear HD
        go_wp2
        go_ret2
        exact ⟨by rw [HN.out]; rfl, rfl⟩
set_option maxHeartbeats 400000 in
theorem rn_short (D : Nat) (hD : D ≤ 18) (s : ByteArray) (w : World) (h : s.size < 1 ∨ D < s.size) :
    Calls Tryz.prog 270 #[.string s, .int .i64 (D : Int)] w fun e w' => e = .returned (.tuple #[.int .i64 0, .bool false]) ∧ w' = w := by
  rcases h with h | h
  · have d1 : decide ((s.size : Int) < 1) = true := by simp; omega
    go_enter Tryz.func270, Tryz.ntmps270
    go_wp2
    go_ret2
    exact ⟨rfl, rfl⟩
  · have d1 : decide ((s.size : Int) < 1) = false := by simp; omega
    have d4 : decide ((D : Int) < (s.size : Int)) = true := by simp; omega
    go_enter Tryz.func270, Tryz.ntmps270
    go_wp2
    go_ret2
    exact ⟨rfl, rfl⟩
set_option maxHeartbeats 400000 in
theorem rn_zero (D : Nat) (s : ByteArray) (w : World) (h1 : 1 < s.size) (h4 : s.size ≤ D) (hz : s[0].toNat = 48) :
    Calls Tryz.prog 270 #[.string s, .int .i64 (D : Int)] w fun e w' => e = .returned (.tuple #[.int .i64 0, .bool false]) ∧ w' = w := by
  have hs0 : 0 < s.size := by omega
  have d1 : decide ((s.size : Int) < 1) = false := by simp; omega
  have d4 : decide ((D : Int) < (s.size : Int)) = false := by simp; omega
  have d5 : decide (1 < (s.size : Int)) = true := by simp; omega
  have e0 : ((s[0].toNat : Int) == 48) = true := by simp [hz]
  clear hz
  go_enter Tryz.func270, Tryz.ntmps270
  go_wp2
  go_ret2
  exact ⟨rfl, rfl⟩
theorem numN_in {D : Nat} {s : ByteArray} (h1 : 1 ≤ s.size) (h4 : s.size ≤ D) (hz : ¬ (s[0].toNat = 48 ∧ 1 < s.size)) : numN D s.data.toList = digitsL 0 s.data.toList := by
  have h0 : s.data.toList.getD 0 0 = s[0] := by
    have := byteAt s 0 h1
    rw [List.drop_zero] at this
    rw [this]; rfl
  have hl : s.data.toList.length = s.size := by simp
  unfold numN
  rw [if_neg (by rw [h0, hl]; omega)]
theorem numN_out {D : Nat} {s : ByteArray} (h : s.size < 1 ∨ D < s.size) : numN D s.data.toList = none := by
  have hl : s.data.toList.length = s.size := by simp
  unfold numN
  rw [if_pos (by rw [hl]; omega)]
theorem numN_zero {D : Nat} {s : ByteArray} (h1 : 1 < s.size) (hz : s[0].toNat = 48) : numN D s.data.toList = none := by
  have h0 : s.data.toList.getD 0 0 = s[0] := by
    have := byteAt s 0 (by omega)
    rw [List.drop_zero] at this
    rw [this]; rfl
  have hl : s.data.toList.length = s.size := by simp
  unfold numN
  rw [if_pos (by rw [h0, hl]; omega)]
theorem readN_any (D : Nat) (hD : D ≤ 18) (s : ByteArray) (w : World) :
    Calls Tryz.prog 270 #[.string s, .int .i64 (D : Int)] w fun e w' => e = .returned (.tuple #[.int .i64 ((numN D s.data.toList).getD 0 : Nat), .bool (numN D s.data.toList).isSome]) ∧ w' = w := by
  by_cases h : s.size < 1 ∨ D < s.size
  · rw [numN_out h]; exact rn_short D hD s w h
  · by_cases hz : (s[0]'(by omega)).toNat = 48
    · by_cases h1 : 1 < s.size
      · rw [numN_zero h1 hz]; exact rn_zero D s w h1 (by omega) hz
      · rw [numN_in (by omega) (by omega) (by omega)]; exact rn_any D hD s w (by omega) (by omega) (by omega)
    · rw [numN_in (by omega) (by omega) (by omega)]; exact rn_any D hD s w (by omega) (by omega) (by omega)
def numI : Option Nat → Int
  | none => -1
  | some n => (n : Int)
set_option maxRecDepth 100000 in
set_option maxHeartbeats 1000000 in
theorem no_any (D : Nat) (hD : D ≤ 18) (s : ByteArray) (w : World) (h1 : 1 ≤ s.size) (h4 : s.size ≤ D) (hz : ¬ (s[0].toNat = 48 ∧ 1 < s.size)) :
    Calls Tryz.prog 166 #[.string s, .int .i64 (D : Int)] w fun e w' => e = .returned (.int .i64 (numI (digitsL 0 s.data.toList))) ∧ w' = w := by
  have hs0 : 0 < s.size := h1
  have d1 : decide ((s.size : Int) < 1) = false := by simp; omega
  have d4 : decide ((D : Int) < (s.size : Int)) = false := by simp; omega
  have hc : (True ∧ decide (1 < (s.size : Int)) = false) ∨ (((s[0].toNat : Int) == 48) = false ∧ decide (1 < (s.size : Int)) = true) := by
    by_cases e : 1 < s.size
    · refine .inr ⟨?_, by simp; omega⟩
      simp; omega
    · refine .inl ⟨trivial, ?_⟩
      simp; omega
  have H4 := Lib.hid h4
  clear hz h1 h4
  generalize hR : digitsL 0 s.data.toList = R
  have HR := Lib.hid hR
  clear hR
  rcases hc with ⟨e0, d5⟩ | ⟨e0, d5⟩
  · go_enter Tryz.func166, Tryz.ntmps166
    go_wp2
    go_loop [5, 6] (fun n i => ∃ k v : Nat, k ≤ s.size ∧ i = .int .i64 k ∧ n = .int .i64 v ∧ Hid (digitsL v (s.data.toList.drop k) = R) ∧ v < 10 ^ k) (fun _ i => s.size - (intOf i).toNat)
    case atStart => exact ⟨0, 0, Nat.zero_le _, rfl, rfl, Lib.hid (by simpa using HR.out), by simp⟩
    case round =>
      obtain ⟨k, v, hk, rfl, rfl, HD, hv⟩ := hrel
      by_cases hlt : k < s.size
      · have hd : decide ((k : Int) < (s.size : Int)) = true := by simp; omega
        by_cases hdig : 48 ≤ s[k].toNat ∧ s[k].toNat ≤ 57
        · obtain ⟨g1, g2⟩ := hdig
          have l1 : decide ((s[k].toNat : Int) < 48) = false := by simp; omega
          have l2 : decide (57 < (s[k].toNat : Int)) = false := by simp; omega
          have hk3 : k < 18 := by have := H4.out; omega
          have hv3 := pow_lt k v hv hk3
          have HE : Hid (digitsL (10 * v + (s[k].toNat - 48)) (s.data.toList.drop (k + 1)) = R) := Lib.hid (by
            have := HD.out
            rw [byteAt s k hlt, digitsL, if_neg (by omega)] at this
            exact this)
          have HV := Lib.hid (pow_next k v (s[k].toNat - 48) hv (by omega))
          clear HD hv
          go_wp2
          go_round
          case rel => exact ⟨k + 1, 10 * v + (s[k].toNat - 48), by omega, by go_num, by go_num, HE, HV.out⟩
          case measure => simp [intOf]; omega
        · have HN : Hid (R = none) := Lib.hid (by
            have := HD.out
            rw [byteAt s k hlt, digitsL, if_pos (by omega)] at this
            exact this.symm)
          clear HD
          by_cases hlo : s[k].toNat < 48
          · have l1 : decide ((s[k].toNat : Int) < 48) = true := by simp; omega
            clear hdig
            go_wp2
            go_ret
            exact ⟨by rw [HN.out]; rfl, rfl⟩
          · have l1 : decide ((s[k].toNat : Int) < 48) = false := by simp; omega
            have l2 : decide (57 < (s[k].toNat : Int)) = true := by simp; omega
            clear hdig
            go_wp2
            go_ret
            exact ⟨by rw [HN.out]; rfl, rfl⟩
      · have hd : decide ((k : Int) < (s.size : Int)) = false := by simp; omega
        have HN : Hid (R = some v) := Lib.hid (by
          have := HD.out
          rw [show k = s.size by omega, dropEnd, digitsL] at this
          exact this.symm)
        clear HD
        go_wp2
        go_ret
        exact ⟨by rw [HN.out]; rfl, rfl⟩
  · go_enter Tryz.func166, Tryz.ntmps166
    go_wp2
    go_loop [5, 6] (fun n i => ∃ k v : Nat, k ≤ s.size ∧ i = .int .i64 k ∧ n = .int .i64 v ∧ Hid (digitsL v (s.data.toList.drop k) = R) ∧ v < 10 ^ k) (fun _ i => s.size - (intOf i).toNat)
    case atStart => exact ⟨0, 0, Nat.zero_le _, rfl, rfl, Lib.hid (by simpa using HR.out), by simp⟩
    case round =>
      obtain ⟨k, v, hk, rfl, rfl, HD, hv⟩ := hrel
      by_cases hlt : k < s.size
      · have hd : decide ((k : Int) < (s.size : Int)) = true := by simp; omega
        by_cases hdig : 48 ≤ s[k].toNat ∧ s[k].toNat ≤ 57
        · obtain ⟨g1, g2⟩ := hdig
          have l1 : decide ((s[k].toNat : Int) < 48) = false := by simp; omega
          have l2 : decide (57 < (s[k].toNat : Int)) = false := by simp; omega
          have hk3 : k < 18 := by have := H4.out; omega
          have hv3 := pow_lt k v hv hk3
          have HE : Hid (digitsL (10 * v + (s[k].toNat - 48)) (s.data.toList.drop (k + 1)) = R) := Lib.hid (by
            have := HD.out
            rw [byteAt s k hlt, digitsL, if_neg (by omega)] at this
            exact this)
          have HV := Lib.hid (pow_next k v (s[k].toNat - 48) hv (by omega))
          clear HD hv
          go_wp2
          go_round
          case rel => exact ⟨k + 1, 10 * v + (s[k].toNat - 48), by omega, by go_num, by go_num, HE, HV.out⟩
          case measure => simp [intOf]; omega
        · have HN : Hid (R = none) := Lib.hid (by
            have := HD.out
            rw [byteAt s k hlt, digitsL, if_pos (by omega)] at this
            exact this.symm)
          clear HD
          by_cases hlo : s[k].toNat < 48
          · have l1 : decide ((s[k].toNat : Int) < 48) = true := by simp; omega
            clear hdig
            go_wp2
            go_ret
            exact ⟨by rw [HN.out]; rfl, rfl⟩
          · have l1 : decide ((s[k].toNat : Int) < 48) = false := by simp; omega
            have l2 : decide (57 < (s[k].toNat : Int)) = true := by simp; omega
            clear hdig
            go_wp2
            go_ret
            exact ⟨by rw [HN.out]; rfl, rfl⟩
      · have hd : decide ((k : Int) < (s.size : Int)) = false := by simp; omega
        have HN : Hid (R = some v) := Lib.hid (by
          have := HD.out
          rw [show k = s.size by omega, dropEnd, digitsL] at this
          exact this.symm)
        clear HD
        go_wp2
        go_ret
        exact ⟨by rw [HN.out]; rfl, rfl⟩
set_option maxHeartbeats 400000 in
theorem no_short (D : Nat) (hD : D ≤ 18) (s : ByteArray) (w : World) (h : s.size < 1 ∨ D < s.size) :
    Calls Tryz.prog 166 #[.string s, .int .i64 (D : Int)] w fun e w' => e = .returned (.int .i64 (-1)) ∧ w' = w := by
  rcases h with h | h
  · have d1 : decide ((s.size : Int) < 1) = true := by simp; omega
    go_enter Tryz.func166, Tryz.ntmps166
    go_wp2
    go_ret
    exact ⟨rfl, rfl⟩
  · have d1 : decide ((s.size : Int) < 1) = false := by simp; omega
    have d4 : decide ((D : Int) < (s.size : Int)) = true := by simp; omega
    go_enter Tryz.func166, Tryz.ntmps166
    go_wp2
    go_ret
    exact ⟨rfl, rfl⟩
set_option maxHeartbeats 400000 in
theorem no_zero (D : Nat) (s : ByteArray) (w : World) (h1 : 1 < s.size) (h4 : s.size ≤ D) (hz : s[0].toNat = 48) :
    Calls Tryz.prog 166 #[.string s, .int .i64 (D : Int)] w fun e w' => e = .returned (.int .i64 (-1)) ∧ w' = w := by
  have hs0 : 0 < s.size := by omega
  have d1 : decide ((s.size : Int) < 1) = false := by simp; omega
  have d4 : decide ((D : Int) < (s.size : Int)) = false := by simp; omega
  have d5 : decide (1 < (s.size : Int)) = true := by simp; omega
  have e0 : ((s[0].toNat : Int) == 48) = true := by simp [hz]
  clear hz
  go_enter Tryz.func166, Tryz.ntmps166
  go_wp2
  go_ret
  exact ⟨rfl, rfl⟩
theorem numberN_any (D : Nat) (hD : D ≤ 18) (s : ByteArray) (w : World) :
    Calls Tryz.prog 166 #[.string s, .int .i64 (D : Int)] w fun e w' => e = .returned (.int .i64 (numI (numN D s.data.toList))) ∧ w' = w := by
  by_cases h : s.size < 1 ∨ D < s.size
  · rw [numN_out h]; exact no_short D hD s w h
  · by_cases hz : (s[0]'(by omega)).toNat = 48
    · by_cases h1 : 1 < s.size
      · rw [numN_zero h1 hz]; exact no_zero D s w h1 (by omega) hz
      · rw [numN_in (by omega) (by omega) (by omega)]; exact no_any D hD s w (by omega) (by omega) (by omega)
    · rw [numN_in (by omega) (by omega) (by omega)]; exact no_any D hD s w (by omega) (by omega) (by omega)
end Go.Proofs.YtcggmagdndhkbaaGreatDoor
end
section
namespace Go.Proofs.YtcggmagdndhkbaaGreatDoor
open Go.RowKit
theorem readN_some (s : ByteArray) (n : Nat) (w : World) (h : numN 10 s.data.toList = some n) : Calls Tryz.prog 270 #[.string s, .int .i64 10] w fun e w' => e = .returned (.tuple #[.int .i64 (n : Int), .bool true]) ∧ w' = w := by
  have := readN_any 10 (by decide) s w
  rw [h] at this
  exact this
theorem readN_none (s : ByteArray) (w : World) (h : numN 10 s.data.toList = none) : Calls Tryz.prog 270 #[.string s, .int .i64 10] w fun e w' => e = .returned (.tuple #[.int .i64 0, .bool false]) ∧ w' = w := by
  have := readN_any 10 (by decide) s w
  rw [h] at this
  exact this
theorem hex_some (s : ByteArray) (v : List UInt8) (w : World) (hs : s.size ≤ 1000000) (h : unhexL s.data.toList = some v) : Calls Tryz.prog 271 #[.string s] w fun e w' => e = .returned (.tuple #[.string ⟨v.toArray⟩, .bool true]) ∧ Below w.heap.size w w' := by
  have := readHex_any s w hs
  rw [h] at this
  exact this
theorem hex_none (s : ByteArray) (w : World) (hs : s.size ≤ 1000000) (h : unhexL s.data.toList = none) : Calls Tryz.prog 271 #[.string s] w fun e w' => e = .returned (.tuple #[.string ⟨#[]⟩, .bool false]) ∧ Below w.heap.size w w' := by
  have := readHex_any s w hs
  rw [h] at this
  exact this
theorem hd_mem (c : UInt8) (x : List (List UInt8)) (q : List UInt8) (h : q ∈ hd [c] x) : q.length ≤ 1 ∨ ∃ r ∈ x, q.length ≤ r.length + 1 := by
  cases x with
  | nil => simp [hd] at h; subst h; exact .inl (by simp)
  | cons p ps =>
    simp only [hd, List.mem_cons] at h
    rcases h with rfl | h
    · exact .inr ⟨p, by simp, by simp⟩
    · exact .inr ⟨q, by simp [h], by omega⟩
theorem cutP_piece (p : UInt8) (l q : List UInt8) (h : q ∈ cutP p l) : q.length ≤ l.length := by
  induction l generalizing q with
  | nil => simp [cutP] at h; subst h; simp
  | cons c r ih =>
    by_cases hc : c = p
    · subst hc
      rw [cutP_dot] at h
      rcases List.mem_cons.1 h with rfl | h
      · simp
      · have := ih q h; simp; omega
    · rw [cutP_other p c r hc] at h
      rcases hd_mem c _ q h with h | ⟨x, hx, h⟩
      · simp; omega
      · have := ih x hx; simp; omega
theorem split9 (s : ByteArray) (m : Int) (w : World) (hs : s.size ≤ 1000000) (hm : w.cell? ⟨14, 0, none⟩ = some (.int .i64 m)) :
    Calls Tryz.prog 269 #[.string s, .string ⟨#[124]⟩, .int .i64 9] w fun e w' => ∃ (P : List ByteArray) (cap g : Nat), e = .returned (.slice (some ⟨g, 0, none⟩) P.length cap) ∧ w.heap.size ≤ g ∧ P.length ≤ cap ∧ (∀ (j : Nat) p, P[j]? = some p → w'.cell? ⟨g, j, none⟩ = some (.string p)) ∧
      ((cutP 124 s.data.toList).length = 8 → P.map (·.data.toList) = cutP 124 s.data.toList) ∧ ((cutP 124 s.data.toList).length ≠ 8 → P.length ≠ 8) ∧ Below w.heap.size w w' := by
  refine (Tryz.strings_SplitN s ⟨#[124]⟩ 9 m w (by omega) hm (by decide) (by decide) (by decide)).mono ?_
  rintro e w' ⟨rfl, rfl⟩
  have hl : s.data.toList.length = s.size := by simp
  have hd : (Lib.splitB ⟨#[124]⟩ 0 (min 9 (s.size + 1) - 1) s).map (·.data.toList) = Lib.splitK [124] 0 (min 9 (s.size + 1) - 1) s.data.toList := Lib.splitB_data ⟨#[124]⟩ 0 _ s
  have hn := splitP_length 124 s.data.toList (min 9 (s.size + 1) - 1)
  have hle := cutP_length_le 124 s.data.toList
  rw [hl] at hle
  have hlen : (Lib.splitB ⟨#[124]⟩ 0 (min 9 (s.size + 1) - 1) s).length = min (min 9 (s.size + 1) - 1 + 1) (cutP 124 s.data.toList).length := by
    have := congrArg List.length hd
    rw [List.length_map] at this
    rw [this, hn]
  refine ⟨_, _, _, rfl, Nat.le_refl _, by rw [hlen]; omega, ?_, fun h4 => ?_, fun h4 => by rw [hlen]; omega, (Below.refl _ _).alloc (Nat.le_refl _) _⟩
  · intro j p hj
    have hj2 : j < (Lib.splitB ⟨#[124]⟩ 0 (min 9 (s.size + 1) - 1) s).length := (List.getElem?_eq_some_iff.1 hj).1
    rw [World.cell?_alloc_at _ _ _ _ rfl]
    unfold Lib.cellsOf
    rw [List.getElem?_toArray, List.getElem?_append_left (by simpa using hj2), List.getElem?_map, hj]
    rfl
  · rw [hd]
    exact splitP_eq _ _ _ (by omega)
structure ResO (w0 : World) (w : World) : Prop where
  z : OpAt w w0.heap.size 0 0 0 0 0 0 ⟨#[]⟩ ⟨#[]⟩
  f0 : w.frozen? ⟨w0.heap.size, 0, none⟩ = false
  f1 : w.frozen? ⟨w0.heap.size, 1, none⟩ = false
  f2 : w.frozen? ⟨w0.heap.size, 2, none⟩ = false
  f3 : w.frozen? ⟨w0.heap.size, 3, none⟩ = false
  f4 : w.frozen? ⟨w0.heap.size, 4, none⟩ = false
  f5 : w.frozen? ⟨w0.heap.size, 5, none⟩ = false
  f6 : w.frozen? ⟨w0.heap.size, 6, none⟩ = false
  f7 : w.frozen? ⟨w0.heap.size, 7, none⟩ = false
  b : Below w0.heap.size w0 w
theorem frozenLater {w w' : World} {b o : Nat} {v : Bool} (hb : Below w.heap.size w w') (hz : b < w.heap.size) (h : w.frozen? ⟨b, o, none⟩ = v) : w'.frozen? ⟨b, o, none⟩ = v := by
  rw [hb.frozen (p := ⟨b, o, none⟩) hz]; exact h
theorem ResO.lt {w0 w : World} (h : ResO w0 w) : w0.heap.size < w.heap.size := World.block_lt_of_cell? w ⟨w0.heap.size, 0, none⟩ h.z.c0
theorem ResO.later {w0 w w' : World} (h : ResO w0 w) (hb : Below w.heap.size w w') : ResO w0 w' :=
  ⟨h.z.later hb, frozenLater hb h.lt h.f0, frozenLater hb h.lt h.f1, frozenLater hb h.lt h.f2, frozenLater hb h.lt h.f3, frozenLater hb h.lt h.f4, frozenLater hb h.lt h.f5, frozenLater hb h.lt h.f6, frozenLater hb h.lt h.f7, h.b.trans (hb.mono h.b.size)⟩
theorem ResO.new (w : World) (T : TypeId) : ResO w (w.alloc (.cells #[.int .i64 0, .int .i64 0, .int .i64 0, .int .u8 0, .int .i64 0, .int .i64 0, .string ⟨#[]⟩, .string ⟨#[]⟩] T)) := by
  refine ⟨by constructor <;> simp [go_sem], ?_, ?_, ?_, ?_, ?_, ?_, ?_, ?_, (Below.refl _ _).alloc (Nat.le_refl _) _⟩ <;> simp [go_sem]
def partsO (r : Option Parts) : Value := match r with
  | none => .agg #[.int .i64 0, .int .i64 0, .int .i64 0, .int .u8 0, .int .i64 0, .int .i64 0, .string ⟨#[]⟩, .string ⟨#[]⟩]
  | some (c, n1, n2, n3, n4, n5, nm, v) => .agg #[.int .i64 (n1 : Int), .int .i64 (n2 : Int), .int .i64 (n3 : Int), .int .u8 (c.toNat : Int), .int .i64 (n4 : Int), .int .i64 (n5 : Int), .string ⟨nm.toArray⟩, .string ⟨v.toArray⟩]
set_option maxRecDepth 100000 in
set_option maxHeartbeats 4000000 in
theorem parts_len (s : ByteArray) (w : World) (hs : s.size ≤ 1000000) (m : Int) (hm : w.cell? ⟨14, 0, none⟩ = some (.int .i64 m)) (h8 : (cutP 124 s.data.toList).length ≠ 8) :
    Calls Tryz.prog 215 #[.string s] w fun e w' => e = .returned (.tuple #[partsO (partsL s.data.toList), .bool (partsL s.data.toList).isSome]) ∧ Below w.heap.size w w' := by
  have R0 := ResO.new w 31
  have HM := Lib.hid (cellLater ((Below.refl w.heap.size w).alloc (Nat.le_refl _) (.cells #[.int .i64 0, .int .i64 0, .int .i64 0, .int .u8 0, .int .i64 0, .int .i64 0, .string ⟨#[]⟩, .string ⟨#[]⟩] 31)) hm)
  clear hm
  have H8 := Lib.hid h8
  have HE := Lib.hid (partsL_not h8)
  clear h8
  generalize partsL s.data.toList = R at HE ⊢
  go_enter Tryz.func215, Tryz.ntmps215
  go_wp2_with fail
  refine (split9 s m _ hs HM.out).mono ?_
  rintro e w1 ⟨P, cap, g, rfl, hg, hcap, hc, h4e, h4n, hb⟩
  have R1 := R0.later hb
  have hne := h4n H8.out
  have d8 : ((P.length : Int) != 8) = true := by simp; omega
  clear hb R0 HM hc h4e h4n hcap hne hg
  obtain ⟨⟨c0, c1, c2, c3, c4, c5, c6, c7⟩, f0, f1, f2, f3, f4, f5, f6, f7, B1⟩ := R1
  go_wp2
  refine bodyPost_ret (v := .tuple #[.agg #[.int .i64 0, .int .i64 0, .int .i64 0, .int .u8 0, .int .i64 0, .int .i64 0, .string ⟨#[]⟩, .string ⟨#[]⟩], .bool false]) (by simp [results, Tryz.results215, go_sem, c0, c1, c2, c3, c4, c5, c6, c7]) rfl ⟨by rw [HE.out]; rfl, ?_⟩
  exact (((((((B1.setCell (by simp) _).setCell (by simp) _).setCell (by simp) _).setCell (by simp) _).setCell (by simp) _).setCell (by simp) _).setCell (by simp) _).setCell (by simp) _
set_option maxRecDepth 100000 in
set_option maxHeartbeats 4000000 in
theorem parts_kind (s : ByteArray) (w : World) (hs : s.size ≤ 1000000) (m : Int) (hm : w.cell? ⟨14, 0, none⟩ = some (.int .i64 m)) (l0 l1 l2 l3 l4 l5 l6 l7 : List UInt8) (h8 : cutP 124 s.data.toList = [l0, l1, l2, l3, l4, l5, l6, l7]) (h0 : l0.length ≠ 1) :
    Calls Tryz.prog 215 #[.string s] w fun e w' => e = .returned (.tuple #[partsO (partsL s.data.toList), .bool (partsL s.data.toList).isSome]) ∧ Below w.heap.size w w' := by
  have R0 := ResO.new w 31
  have HM := Lib.hid (cellLater ((Below.refl w.heap.size w).alloc (Nat.le_refl _) (.cells #[.int .i64 0, .int .i64 0, .int .i64 0, .int .u8 0, .int .i64 0, .int .i64 0, .string ⟨#[]⟩, .string ⟨#[]⟩] 31)) hm)
  clear hm
  have HE := Lib.hid (partsL_kind h8 h0)
  generalize partsL s.data.toList = R at HE ⊢
  have H8 := Lib.hid h8
  clear h8
  go_enter Tryz.func215, Tryz.ntmps215
  go_wp2_with fail
  refine (split9 s m _ hs HM.out).mono ?_
  rintro e w1 ⟨P, cap, g, rfl, hg, hcap, hc, h4e, h4n, hb⟩
  have R1 := R0.later hb
  have hP := h4e (by rw [H8.out]; rfl)
  rw [H8.out] at hP
  obtain ⟨p0, p1, p2, p3, p4, p5, p6, p7, rfl, e0, e1, e2, e3, e4, e5, e6, e7⟩ : ∃ p0 p1 p2 p3 p4 p5 p6 p7, P = [p0, p1, p2, p3, p4, p5, p6, p7] ∧ p0.data.toList = l0 ∧ p1.data.toList = l1 ∧ p2.data.toList = l2 ∧ p3.data.toList = l3 ∧ p4.data.toList = l4 ∧ p5.data.toList = l5 ∧ p6.data.toList = l6 ∧ p7.data.toList = l7 := by
    have hlen : P.length = 8 := by have := congrArg List.length hP; simpa using this
    match P, hlen, hP with
    | [a0, a1, a2, a3, a4, a5, a6, a7], _, hP => simp at hP; exact ⟨a0, a1, a2, a3, a4, a5, a6, a7, rfl, hP⟩
  have hcap8 : 8 ≤ cap := by simpa using hcap
  have k0 := hc 0 _ rfl
  have hl0 : p0.size = l0.length := by rw [← e0]; simp
  have d1 : ((p0.size : Int) != 1) = true := by simp; omega
  clear hb R0 HM hc h4e h4n hcap hP hg e0 e1 e2 e3 e4 e5 e6 e7 hl0 h0 H8
  obtain ⟨⟨c0, c1, c2, c3, c4, c5, c6, c7⟩, f0, f1, f2, f3, f4, f5, f6, f7, B1⟩ := R1
  go_wp2
  refine bodyPost_ret (v := .tuple #[.agg #[.int .i64 0, .int .i64 0, .int .i64 0, .int .u8 0, .int .i64 0, .int .i64 0, .string ⟨#[]⟩, .string ⟨#[]⟩], .bool false]) (by simp [results, Tryz.results215, go_sem, c0, c1, c2, c3, c4, c5, c6, c7]) rfl ⟨by rw [HE.out]; rfl, ?_⟩
  exact (((((((B1.setCell (by simp) _).setCell (by simp) _).setCell (by simp) _).setCell (by simp) _).setCell (by simp) _).setCell (by simp) _).setCell (by simp) _).setCell (by simp) _
end Go.Proofs.YtcggmagdndhkbaaGreatDoor
end
