/- Contracts of the reference's IsName and isSeen, over the translation. -/
import Derived.Test.YtnfhbmgkiknaaaaDoorOpSmall
namespace Go.Proofs.YtnfhbmgkiknaaaaDoor
open Go.RowKit

theorem nameOk_len (s : ByteArray) : nameOk s.data.toList = (s.data.toList.all nameB && (decide (1 ≤ (s.size : Int)) && decide ((s.size : Int) ≤ 12))) := by
  have hl : s.data.toList.length = s.size := by simp
  unfold nameOk
  rw [hl, Bool.and_comm]
  congr 2
  · rw [decide_eq_decide]; omega
  · rw [decide_eq_decide]; omega

set_option maxRecDepth 100000 in
set_option maxHeartbeats 2000000 in
theorem rname_any (s : ByteArray) (w : World) (hs : s.size ≤ 1000000) :
    Calls Tryd.prog 79 #[.string s] w fun e w' => e = .returned (.bool (nameOk s.data.toList)) ∧ w' = w := by
  rw [nameOk_len]
  generalize hR : s.data.toList.all nameB = R
  have HR := Lib.hid hR
  clear hR
  generalize hQ : (R && (decide (1 ≤ (s.size : Int)) && decide ((s.size : Int) ≤ 12))) = Q
  have HQ := Lib.hid hQ
  clear hQ
  go_enter Tryd.func79, Tryd.ntmps79
  go_wp2
  go_loop [3] (fun i => ∃ k : Nat, k ≤ s.size ∧ i = .int .i64 k ∧ Hid ((s.data.toList.drop k).all nameB = R)) (fun i => s.size - (intOf i).toNat)
  case atStart => exact ⟨0, Nat.zero_le _, rfl, Lib.hid (by simpa using HR.out)⟩
  case round =>
    obtain ⟨k, hk, rfl, HD⟩ := hrel
    by_cases hlt : k < s.size
    · have hd : decide ((k : Int) < (s.size : Int)) = true := by simp; omega
      have HA := Lib.hid ((all_at s nameB k hlt).symm.trans HD.out)
      clear HD
      rcases (by omega : 122 < s[k].toNat ∨ (97 ≤ s[k].toNat ∧ s[k].toNat ≤ 122) ∨ (57 < s[k].toNat ∧ s[k].toNat < 97) ∨ (48 ≤ s[k].toNat ∧ s[k].toNat ≤ 57) ∨ s[k].toNat = 46 ∨ s[k].toNat = 45 ∨ (s[k].toNat < 48 ∧ s[k].toNat ≠ 46 ∧ s[k].toNat ≠ 45)) with h | h | h | h | h | h | h
      · have hb : nameB s[k] = false := by unfold nameB; rw [decide_eq_false (by omega)]
        have d1 : decide ((s[k].toNat : Int) ≤ 122) = false := by simp; omega
        have d0 : decide (97 ≤ (s[k].toNat : Int)) = true := by simp; omega
        have d3 : decide (48 ≤ (s[k].toNat : Int)) = true := by simp; omega
        have d2 : decide ((s[k].toNat : Int) ≤ 57) = false := by simp; omega
        have e1 : ((s[k].toNat : Int) == 45) = false := by simp; omega
        have e2 : ((s[k].toNat : Int) == 46) = false := by simp; omega
        have HE : Hid (R = false) := Lib.hid (by have := HA.out; rw [hb, Bool.false_and] at this; exact this.symm)
        clear hb h
        go_wp2
        go_ret
        exact ⟨by rw [← HQ.out, HE.out]; rfl, rfl⟩
      · have hb : nameB s[k] = true := by unfold nameB; rw [decide_eq_true (by omega)]
        have d0 : decide (97 ≤ (s[k].toNat : Int)) = true := by simp; omega
        have d1 : decide ((s[k].toNat : Int) ≤ 122) = true := by simp; omega
        have HE : Hid ((s.data.toList.drop (k + 1)).all nameB = R) := Lib.hid (by have := HA.out; rw [hb, Bool.true_and] at this; exact this)
        clear hb h
        go_wp2
        go_round
        case rel => exact ⟨k + 1, by omega, by go_num, HE⟩
        case measure => simp [intOf]; omega
      · have hb : nameB s[k] = false := by unfold nameB; rw [decide_eq_false (by omega)]
        have d0 : decide (97 ≤ (s[k].toNat : Int)) = false := by simp; omega
        have d3 : decide (48 ≤ (s[k].toNat : Int)) = true := by simp; omega
        have d2 : decide ((s[k].toNat : Int) ≤ 57) = false := by simp; omega
        have e1 : ((s[k].toNat : Int) == 45) = false := by simp; omega
        have e2 : ((s[k].toNat : Int) == 46) = false := by simp; omega
        have HE : Hid (R = false) := Lib.hid (by have := HA.out; rw [hb, Bool.false_and] at this; exact this.symm)
        clear hb h
        go_wp2
        go_ret
        exact ⟨by rw [← HQ.out, HE.out]; rfl, rfl⟩
      · have hb : nameB s[k] = true := by unfold nameB; rw [decide_eq_true (by omega)]
        have d0 : decide (97 ≤ (s[k].toNat : Int)) = false := by simp; omega
        have d3 : decide (48 ≤ (s[k].toNat : Int)) = true := by simp; omega
        have d2 : decide ((s[k].toNat : Int) ≤ 57) = true := by simp; omega
        have HE : Hid ((s.data.toList.drop (k + 1)).all nameB = R) := Lib.hid (by have := HA.out; rw [hb, Bool.true_and] at this; exact this)
        clear hb h
        go_wp2
        go_round
        case rel => exact ⟨k + 1, by omega, by go_num, HE⟩
        case measure => simp [intOf]; omega
      · have hb : nameB s[k] = true := by unfold nameB; rw [decide_eq_true (by omega)]
        have d0 : decide (97 ≤ (s[k].toNat : Int)) = false := by simp; omega
        have d3 : decide (48 ≤ (s[k].toNat : Int)) = false := by simp; omega
        have e1 : ((s[k].toNat : Int) == 45) = false := by simp; omega
        have e2 : ((s[k].toNat : Int) == 46) = true := by simp; omega
        have HE : Hid ((s.data.toList.drop (k + 1)).all nameB = R) := Lib.hid (by have := HA.out; rw [hb, Bool.true_and] at this; exact this)
        clear hb h
        go_wp2
        go_round
        case rel => exact ⟨k + 1, by omega, by go_num, HE⟩
        case measure => simp [intOf]; omega
      · have hb : nameB s[k] = true := by unfold nameB; rw [decide_eq_true (by omega)]
        have d0 : decide (97 ≤ (s[k].toNat : Int)) = false := by simp; omega
        have d3 : decide (48 ≤ (s[k].toNat : Int)) = false := by simp; omega
        have e1 : ((s[k].toNat : Int) == 45) = true := by simp; omega
        have HE : Hid ((s.data.toList.drop (k + 1)).all nameB = R) := Lib.hid (by have := HA.out; rw [hb, Bool.true_and] at this; exact this)
        clear hb h
        go_wp2
        go_round
        case rel => exact ⟨k + 1, by omega, by go_num, HE⟩
        case measure => simp [intOf]; omega
      · have hb : nameB s[k] = false := by unfold nameB; rw [decide_eq_false (by omega)]
        have d0 : decide (97 ≤ (s[k].toNat : Int)) = false := by simp; omega
        have d3 : decide (48 ≤ (s[k].toNat : Int)) = false := by simp; omega
        have e1 : ((s[k].toNat : Int) == 45) = false := by simp; omega
        have e2 : ((s[k].toNat : Int) == 46) = false := by simp; omega
        have HE : Hid (R = false) := Lib.hid (by have := HA.out; rw [hb, Bool.false_and] at this; exact this.symm)
        clear hb h
        go_wp2
        go_ret
        exact ⟨by rw [← HQ.out, HE.out]; rfl, rfl⟩
    · have hd : decide ((k : Int) < (s.size : Int)) = false := by simp; omega
      have HE : Hid (R = true) := Lib.hid (by have := HD.out; rw [show k = s.size by omega, dropEnd] at this; exact this.symm)
      by_cases h1 : 1 ≤ s.size
      · have d1 : decide (1 ≤ (s.size : Int)) = true := by simp; omega
        go_wp2
        go_ret
        exact ⟨by rw [← HQ.out, HE.out, d1]; rfl, rfl⟩
      · have d1 : decide (1 ≤ (s.size : Int)) = false := by simp; omega
        go_wp2
        go_ret
        exact ⟨by rw [← HQ.out, HE.out, d1]; rfl, rfl⟩

set_option maxRecDepth 100000 in
set_option maxHeartbeats 1000000 in
theorem rseen_any (s : ByteArray) (w : World) (hs : s.size ≤ 1000000) :
    Calls Tryd.prog 80 #[.string s] w fun e w' => e = .returned (.bool (seenOk s.data.toList)) ∧ w' = w := by
  unfold seenOk
  generalize hR : s.data.toList.all seenB = R
  have HR := Lib.hid hR
  clear hR
  go_enter Tryd.func80, Tryd.ntmps80
  go_wp2
  go_loop [3] (fun i => ∃ k : Nat, k ≤ s.size ∧ i = .int .i64 k ∧ Hid ((s.data.toList.drop k).all seenB = R)) (fun i => s.size - (intOf i).toNat)
  case atStart => exact ⟨0, Nat.zero_le _, rfl, Lib.hid (by simpa using HR.out)⟩
  case round =>
    obtain ⟨k, hk, rfl, HD⟩ := hrel
    by_cases hlt : k < s.size
    · have hd : decide ((k : Int) < (s.size : Int)) = true := by simp; omega
      have HA := Lib.hid ((all_at s seenB k hlt).symm.trans HD.out)
      clear HD
      by_cases g1 : s[k].toNat < 32
      · have l1 : decide ((s[k].toNat : Int) < 32) = true := by simp; omega
        have HE : Hid (R = false) := Lib.hid (by
          have := HA.out
          rw [show seenB s[k] = false by unfold seenB; rw [decide_eq_false (by omega)], Bool.false_and] at this
          exact this.symm)
        go_wp2
        go_ret
        exact ⟨by rw [HE.out]; rfl, rfl⟩
      · have l1 : decide ((s[k].toNat : Int) < 32) = false := by simp; omega
        by_cases g2 : 126 < s[k].toNat
        · have l2 : decide (126 < (s[k].toNat : Int)) = true := by simp; omega
          have HE : Hid (R = false) := Lib.hid (by
            have := HA.out
            rw [show seenB s[k] = false by unfold seenB; rw [decide_eq_false (by omega)], Bool.false_and] at this
            exact this.symm)
          go_wp2
          go_ret
          exact ⟨by rw [HE.out]; rfl, rfl⟩
        · have l2 : decide (126 < (s[k].toNat : Int)) = false := by simp; omega
          have HE : Hid ((s.data.toList.drop (k + 1)).all seenB = R) := Lib.hid (by
            have := HA.out
            rw [show seenB s[k] = true by unfold seenB; rw [decide_eq_true (by omega)], Bool.true_and] at this
            exact this)
          go_wp2
          go_round
          case rel => exact ⟨k + 1, by omega, by go_num, HE⟩
          case measure => simp [intOf]; omega
    · have hd : decide ((k : Int) < (s.size : Int)) = false := by simp; omega
      have HE : Hid (R = true) := Lib.hid (by have := HD.out; rw [show k = s.size by omega, dropEnd] at this; exact this.symm)
      go_wp2
      go_ret
      exact ⟨by rw [HE.out]; rfl, rfl⟩
end Go.Proofs.YtnfhbmgkiknaaaaDoor
