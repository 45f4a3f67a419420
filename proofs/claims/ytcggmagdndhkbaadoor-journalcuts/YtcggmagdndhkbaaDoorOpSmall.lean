/- Contracts of package op's small tests (isEarlier, isNameByte, isName, isPrintable), over the translation. -/
import Derived.Test.YtcggmagdndhkbaaDoorByteAt
import Derived.Test.YtcggmagdndhkbaaDoorOpPure
namespace Go.Proofs.YtcggmagdndhkbaaDoor
open Go.RowKit

set_option maxHeartbeats 400000 in
theorem earl_yes (n id : Int) (w : World) (h0 : 0 ≤ n) (h1 : n < id) :
    Calls Tryd.prog 51 #[.int .i64 n, .int .i64 id] w fun e w' => e = .returned (.bool true) ∧ w' = w := by
  go_enter Tryd.func51, Tryd.ntmps51
  go_wp2
  go_ret
  exact ⟨rfl, rfl⟩
set_option maxHeartbeats 400000 in
theorem earl_no (n id : Int) (w : World) (h : n < 0 ∨ id ≤ n) :
    Calls Tryd.prog 51 #[.int .i64 n, .int .i64 id] w fun e w' => e = .returned (.bool false) ∧ w' = w := by
  by_cases h0 : n < 0
  · clear h
    go_enter Tryd.func51, Tryd.ntmps51
    go_wp2
    go_ret
    exact ⟨rfl, rfl⟩
  · have h1 : id ≤ n := by omega
    have h2 : 0 ≤ n := by omega
    have d : decide (n < id) = false := by simp; omega
    clear h h0
    go_enter Tryd.func51, Tryd.ntmps51
    go_wp2
    go_ret
    exact ⟨rfl, rfl⟩

set_option maxHeartbeats 1000000 in
theorem nb_any (c : UInt8) (w : World) :
    Calls Tryd.prog 66 #[.int .u8 (c.toNat : Int)] w fun e w' => e = .returned (.bool (nameB c)) ∧ w' = w := by
  have hb : nameB c = decide (97 ≤ (c.toNat : Int) ∧ (c.toNat : Int) ≤ 122 ∨ 48 ≤ (c.toNat : Int) ∧ (c.toNat : Int) ≤ 57 ∨ (c.toNat : Int) = 45 ∨ (c.toNat : Int) = 46) := by
    unfold nameB
    rw [decide_eq_decide]
    omega
  rw [hb]
  clear hb
  generalize (c.toNat : Int) = x
  rcases (by omega : 122 < x ∨ (97 ≤ x ∧ x ≤ 122) ∨ (57 < x ∧ x < 97) ∨ (48 ≤ x ∧ x ≤ 57) ∨ x = 46 ∨ x = 45 ∨ (x < 48 ∧ x ≠ 46 ∧ x ≠ 45)) with h | ⟨h, h'⟩ | ⟨h, h'⟩ | ⟨h, h'⟩ | h | h | ⟨h, h', h''⟩
  · rw [decide_eq_false (by omega)]
    have d1 : decide (x ≤ 122) = false := by simp; omega
    have d2 : decide (x ≤ 57) = false := by simp; omega
    have e1 : (x == 45) = false := by simp; omega
    have e2 : (x == 46) = false := by simp; omega
    go_enter Tryd.func66, Tryd.ntmps66
    go_wp2
    go_ret
    exact ⟨rfl, rfl⟩
  · rw [decide_eq_true (by omega)]
    go_enter Tryd.func66, Tryd.ntmps66
    go_wp2
    go_ret
    exact ⟨rfl, rfl⟩
  · rw [decide_eq_false (by omega)]
    have d1 : decide (97 ≤ x) = false := by simp; omega
    have d2 : decide (x ≤ 57) = false := by simp; omega
    have e1 : (x == 45) = false := by simp; omega
    have e2 : (x == 46) = false := by simp; omega
    go_enter Tryd.func66, Tryd.ntmps66
    go_wp2
    go_ret
    exact ⟨rfl, rfl⟩
  · rw [decide_eq_true (by omega)]
    have d1 : decide (97 ≤ x) = false := by simp; omega
    go_enter Tryd.func66, Tryd.ntmps66
    go_wp2
    go_ret
    exact ⟨rfl, rfl⟩
  · subst h
    go_enter Tryd.func66, Tryd.ntmps66
    go_wp2
    go_ret
    exact ⟨rfl, rfl⟩
  · subst h
    go_enter Tryd.func66, Tryd.ntmps66
    go_wp2
    go_ret
    exact ⟨rfl, rfl⟩
  · rw [decide_eq_false (by omega)]
    have d1 : decide (97 ≤ x) = false := by simp; omega
    have d2 : decide (48 ≤ x) = false := by simp; omega
    have e1 : (x == 45) = false := by simp; omega
    have e2 : (x == 46) = false := by simp; omega
    go_enter Tryd.func66, Tryd.ntmps66
    go_wp2
    go_ret
    exact ⟨rfl, rfl⟩

theorem all_at (s : ByteArray) (f : UInt8 → Bool) (k : Nat) (h : k < s.size) : (s.data.toList.drop k).all f = (f s[k] && (s.data.toList.drop (k + 1)).all f) := by
  rw [byteAt s k h, List.all_cons]

set_option maxRecDepth 100000 in
set_option maxHeartbeats 1000000 in
theorem name_any (s : ByteArray) (w : World) (hs : s.size ≤ 1000000) :
    Calls Tryd.prog 52 #[.string s] w fun e w' => e = .returned (.bool (nameOk s.data.toList)) ∧ w' = w := by
  have hl : s.data.toList.length = s.size := by simp
  by_cases h1 : s.size < 1
  · have d1 : decide ((s.size : Int) < 1) = true := by simp; omega
    have hr : nameOk s.data.toList = false := by unfold nameOk; rw [hl, decide_eq_false (by omega)]; rfl
    rw [hr]
    go_enter Tryd.func52, Tryd.ntmps52
    go_wp2
    go_ret
    exact ⟨rfl, rfl⟩
  · by_cases h2 : 12 < s.size
    · have d1 : decide ((s.size : Int) < 1) = false := by simp; omega
      have d2 : decide (12 < (s.size : Int)) = true := by simp; omega
      have hr : nameOk s.data.toList = false := by unfold nameOk; rw [hl, decide_eq_false (show ¬ s.size ≤ 12 by omega)]; simp
      rw [hr]
      go_enter Tryd.func52, Tryd.ntmps52
      go_wp2
      go_ret
      exact ⟨rfl, rfl⟩
    · have d1 : decide ((s.size : Int) < 1) = false := by simp; omega
      have d2 : decide (12 < (s.size : Int)) = false := by simp; omega
      have hr : nameOk s.data.toList = s.data.toList.all nameB := by unfold nameOk; rw [hl, decide_eq_true (show s.size ≤ 12 by omega), decide_eq_true (show 1 ≤ s.size by omega)]; rfl
      rw [hr]
      generalize hR : s.data.toList.all nameB = R
      have HR := Lib.hid hR
      clear hR hr hl
      go_enter Tryd.func52, Tryd.ntmps52
      go_wp2
      go_loop [14] (fun i => ∃ k : Nat, k ≤ s.size ∧ i = .int .i64 k ∧ Hid ((s.data.toList.drop k).all nameB = R)) (fun i => s.size - (intOf i).toNat)
      case atStart => exact ⟨0, Nat.zero_le _, rfl, Lib.hid (by simpa using HR.out)⟩
      case round =>
        obtain ⟨k, hk, rfl, HD⟩ := hrel
        by_cases hlt : k < s.size
        · have hd : decide ((k : Int) < (s.size : Int)) = true := by simp; omega
          have HA := Lib.hid ((all_at s nameB k hlt).symm.trans HD.out)
          clear HD
          go_wp2_with fail
          refine (nb_any _ _).mono ?_
          rintro e w' ⟨rfl, rfl⟩
          cases hb : nameB s[k] with
          | true =>
            have HE : Hid ((s.data.toList.drop (k + 1)).all nameB = R) := Lib.hid (by have := HA.out; rw [hb, Bool.true_and] at this; exact this)
            go_wp2
            go_round
            case rel => exact ⟨k + 1, by omega, by go_num, HE⟩
            case measure => simp [intOf]; omega
          | false =>
            have HE : Hid (R = false) := Lib.hid (by have := HA.out; rw [hb, Bool.false_and] at this; exact this.symm)
            go_wp2
            go_ret
            exact ⟨by rw [HE.out]; rfl, rfl⟩
        · have hd : decide ((k : Int) < (s.size : Int)) = false := by simp; omega
          have HE : Hid (R = true) := Lib.hid (by have := HD.out; rw [show k = s.size by omega, dropEnd] at this; exact this.symm)
          go_wp2
          go_ret
          exact ⟨by rw [HE.out]; rfl, rfl⟩

set_option maxRecDepth 100000 in
set_option maxHeartbeats 1000000 in
theorem seen_any (s : ByteArray) (w : World) (hs : s.size ≤ 1000000) :
    Calls Tryd.prog 53 #[.string s] w fun e w' => e = .returned (.bool (seenOk s.data.toList)) ∧ w' = w := by
  unfold seenOk
  generalize hR : s.data.toList.all seenB = R
  have HR := Lib.hid hR
  clear hR
  go_enter Tryd.func53, Tryd.ntmps53
  go_wp2
  go_loop [6] (fun i => ∃ k : Nat, k ≤ s.size ∧ i = .int .i64 k ∧ Hid ((s.data.toList.drop k).all seenB = R)) (fun i => s.size - (intOf i).toNat)
  case atStart => exact ⟨0, Nat.zero_le _, rfl, Lib.hid (by simpa using HR.out)⟩
  case round =>
    obtain ⟨k, hk, rfl, HD⟩ := hrel
    by_cases hlt : k < s.size
    · have hd : decide ((k : Int) < (s.size : Int)) = true := by simp; omega
      have HA := Lib.hid ((all_at s seenB k hlt).symm.trans HD.out)
      clear HD
      by_cases g1 : s[k].toNat < 32
      · have l1 : decide ((s[k].toNat : Int) < 32) = true := by simp; omega
        have HE : Hid (R = false) := Lib.hid (by
          have := HA.out
          rw [show seenB s[k] = false by unfold seenB; rw [decide_eq_false (by omega)], Bool.false_and] at this
          exact this.symm)
        go_wp2
        go_ret
        exact ⟨by rw [HE.out]; rfl, rfl⟩
      · have l1 : decide ((s[k].toNat : Int) < 32) = false := by simp; omega
        by_cases g2 : 126 < s[k].toNat
        · have l2 : decide (126 < (s[k].toNat : Int)) = true := by simp; omega
          have HE : Hid (R = false) := Lib.hid (by
            have := HA.out
            rw [show seenB s[k] = false by unfold seenB; rw [decide_eq_false (by omega)], Bool.false_and] at this
            exact this.symm)
          go_wp2
          go_ret
          exact ⟨by rw [HE.out]; rfl, rfl⟩
        · have l2 : decide (126 < (s[k].toNat : Int)) = false := by simp; omega
          have HE : Hid ((s.data.toList.drop (k + 1)).all seenB = R) := Lib.hid (by
            have := HA.out
            rw [show seenB s[k] = true by unfold seenB; rw [decide_eq_true (by omega)], Bool.true_and] at this
            exact this)
          go_wp2
          go_round
          case rel => exact ⟨k + 1, by omega, by go_num, HE⟩
          case measure => simp [intOf]; omega
    · have hd : decide ((k : Int) < (s.size : Int)) = false := by simp; omega
      have HE : Hid (R = true) := Lib.hid (by have := HD.out; rw [show k = s.size by omega, dropEnd] at this; exact this.symm)
      go_wp2
      go_ret
      exact ⟨by rw [HE.out]; rfl, rfl⟩
end Go.Proofs.YtcggmagdndhkbaaDoor
