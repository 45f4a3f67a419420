import Derived.Test.YtcggmagdndhkbaaGreatDoorAx02
import Derived.Test.YtcggmagdndhkbaaGreatDoorAx03
import Derived.Test.YtcggmagdndhkbaaGreatDoorAx05
section
namespace Go.Proofs.YtcggmagdndhkbaaGreatDoor
open Go.RowKit
theorem nameOk_len (s : ByteArray) : nameOk s.data.toList = (s.data.toList.all nameB && (decide (1 ≤ (s.size : Int)) && decide ((s.size : Int) ≤ 12))) := by
  have hl : s.data.toList.length = s.size := by simp
  unfold nameOk
  rw [hl, Bool.and_comm]
  congr 2
  · rw [decide_eq_decide]; omega
  · rw [decide_eq_decide]; omega
set_option maxRecDepth 100000 in
set_option maxHeartbeats 2000000 in
theorem rname_any (s : ByteArray) (w : World) (hs : s.size ≤ 1000000) :
    Calls Tryz.prog 147 #[.string s] w fun e w' => e = .returned (.bool (nameOk s.data.toList)) ∧ w' = w := by
  rw [nameOk_len]
  generalize hR : s.data.toList.all nameB = R
  have HR := Lib.hid hR
  clear hR
  generalize hQ : (R && (decide (1 ≤ (s.size : Int)) && decide ((s.size : Int) ≤ 12))) = Q
  have HQ := Lib.hid hQ
  clear hQ
  go_enter Tryz.func147, Tryz.ntmps147
  go_wp2
  go_loop [3] (fun i => ∃ k : Nat, k ≤ s.size ∧ i = .int .i64 k ∧ Hid ((s.data.toList.drop k).all nameB = R)) (fun i => s.size - (intOf i).toNat)
  case atStart => exact ⟨0, Nat.zero_le _, rfl, Lib.hid (by simpa using HR.out)⟩
  case round =>
    obtain ⟨k, hk, rfl, HD⟩ := hrel
    by_cases hlt : k < s.size
    · have hd : decide ((k : Int) < (s.size : Int)) = true := by simp; omega
      have HA := Lib.hid ((all_at s nameB k hlt).symm.trans HD.out)
      clear HD
      rcases (by omega : 122 < s[k].toNat ∨ (97 ≤ s[k].toNat ∧ s[k].toNat ≤ 122) ∨ (57 < s[k].toNat ∧ s[k].toNat < 97) ∨ (48 ≤ s[k].toNat ∧ s[k].toNat ≤ 57) ∨ s[k].toNat = 46 ∨ s[k].toNat = 45 ∨ (s[k].toNat < 48 ∧ s[k].toNat ≠ 46 ∧ s[k].toNat ≠ 45)) with h | h | h | h | h | h | h
      · have hb : nameB s[k] = false := by unfold nameB; rw [decide_eq_false (by omega)]
        have d1 : decide ((s[k].toNat : Int) ≤ 122) = false := by simp; omega
        have d0 : decide (97 ≤ (s[k].toNat : Int)) = true := by simp; omega
        have d3 : decide (48 ≤ (s[k].toNat : Int)) = true := by simp; omega
        have d2 : decide ((s[k].toNat : Int) ≤ 57) = false := by simp; omega
        have e1 : ((s[k].toNat : Int) == 45) = false := by simp; omega
        have e2 : ((s[k].toNat : Int) == 46) = false := by simp; omega
        have HE : Hid (R = false) := Lib.hid (by have := HA.out; rw [hb, Bool.false_and] at this; exact this.symm)
        clear hb h
        go_wp2
        go_ret
        exact ⟨by rw [← HQ.out, HE.out]; rfl, rfl⟩
      · have hb : nameB s[k] = true := by unfold nameB; rw [decide_eq_true (by omega)]
        have d0 : decide (97 ≤ (s[k].toNat : Int)) = true := by simp; omega
        have d1 : decide ((s[k].toNat : Int) ≤ 122) = true := by simp; omega
        have HE : Hid ((s.data.toList.drop (k + 1)).all nameB = R) := Lib.hid (by have := HA.out; rw [hb, Bool.true_and] at this; exact this)
        clear hb h
        go_wp2
        go_round
        case rel => exact ⟨k + 1, by omega, by go_num, HE⟩
        case measure => simp [intOf]; omega
      · have hb : nameB s[k] = false := by unfold nameB; rw [decide_eq_false (by omega)]
        have d0 : decide (97 ≤ (s[k].toNat : Int)) = false := by simp; omega
        have d3 : decide (48 ≤ (s[k].toNat : Int)) = true := by simp; omega
        have d2 : decide ((s[k].toNat : Int) ≤ 57) = false := by simp; omega
        have e1 : ((s[k].toNat : Int) == 45) = false := by simp; omega
        have e2 : ((s[k].toNat : Int) == 46) = false := by simp; omega
        have HE : Hid (R = false) := Lib.hid (by have := HA.out; rw [hb, Bool.false_and] at this; exact this.symm)
        clear hb h
        go_wp2
        go_ret
        exact ⟨by rw [← HQ.out, HE.out]; rfl, rfl⟩
      · have hb : nameB s[k] = true := by unfold nameB; rw [decide_eq_true (by omega)]
        have d0 : decide (97 ≤ (s[k].toNat : Int)) = false := by simp; omega
        have d3 : decide (48 ≤ (s[k].toNat : Int)) = true := by simp; omega
        have d2 : decide ((s[k].toNat : Int) ≤ 57) = true := by simp; omega
        have HE : Hid ((s.data.toList.drop (k + 1)).all nameB = R) := Lib.hid (by have := HA.out; rw [hb, Bool.true_and] at this; exact this)
        clear hb h
        go_wp2
        go_round
        case rel => exact ⟨k + 1, by omega, by go_num, HE⟩
        case measure => simp [intOf]; omega
      · have hb : nameB s[k] = true := by unfold nameB; rw [decide_eq_true (by omega)]
        have d0 : decide (97 ≤ (s[k].toNat : Int)) = false := by simp; omega
        have d3 : decide (48 ≤ (s[k].toNat : Int)) = false := by simp; omega
        have e1 : ((s[k].toNat : Int) == 45) = false := by simp; omega
        have e2 : ((s[k].toNat : Int) == 46) = true := by simp; omega
        have HE : Hid ((s.data.toList.drop (k + 1)).all nameB = R) := Lib.hid (by have := HA.out; rw [hb, Bool.true_and] at this; exact this)
        clear hb h
        go_wp2
        go_round
        case rel => exact ⟨k + 1, by omega, by go_num, HE⟩
        case measure => simp [intOf]; omega
      · have hb : nameB s[k] = true := by unfold nameB; rw [decide_eq_true (by omega)]
        have d0 : decide (97 ≤ (s[k].toNat : Int)) = false := by simp; omega
        have d3 : decide (48 ≤ (s[k].toNat : Int)) = false := by simp; omega
        have e1 : ((s[k].toNat : Int) == 45) = true := by simp; omega
        have HE : Hid ((s.data.toList.drop (k + 1)).all nameB = R) := Lib.hid (by have := HA.out; rw [hb, Bool.true_and] at this; exact this)
        clear hb h
        go_wp2
        go_round
        case rel => exact ⟨k + 1, by omega, by go_num, HE⟩
        case measure => simp [intOf]; omega
      · have hb : nameB s[k] = false := by unfold nameB; rw [decide_eq_false (by omega)]
        have d0 : decide (97 ≤ (s[k].toNat : Int)) = false := by simp; omega
        have d3 : decide (48 ≤ (s[k].toNat : Int)) = false := by simp; omega
        have e1 : ((s[k].toNat : Int) == 45) = false := by simp; omega
        have e2 : ((s[k].toNat : Int) == 46) = false := by simp; omega
        have HE : Hid (R = false) := Lib.hid (by have := HA.out; rw [hb, Bool.false_and] at this; exact this.symm)
        clear hb h
        go_wp2
        go_ret
        exact ⟨by rw [← HQ.out, HE.out]; rfl, rfl⟩
    · have hd : decide ((k : Int) < (s.size : Int)) = false := by simp; omega
      have HE : Hid (R = true) := Lib.hid (by have := HD.out; rw [show k = s.size by omega, dropEnd] at this; exact this.symm)
      by_cases h1 : 1 ≤ s.size
      · have d1 : decide (1 ≤ (s.size : Int)) = true := by simp; omega
        go_wp2
        go_ret
        exact ⟨by rw [← HQ.out, HE.out, d1]; rfl, rfl⟩
      · have d1 : decide (1 ≤ (s.size : Int)) = false := by simp; omega
        go_wp2
        go_ret
        exact ⟨by rw [← HQ.out, HE.out, d1]; rfl, rfl⟩
set_option maxRecDepth 100000 in
set_option maxHeartbeats 1000000 in
theorem rseen_any (s : ByteArray) (w : World) (hs : s.size ≤ 1000000) :
    Calls Tryz.prog 148 #[.string s] w fun e w' => e = .returned (.bool (seenOk s.data.toList)) ∧ w' = w := by
  unfold seenOk
  generalize hR : s.data.toList.all seenB = R
  have HR := Lib.hid hR
  clear hR
  go_enter Tryz.func148, Tryz.ntmps148
  go_wp2
  go_loop [3] (fun i => ∃ k : Nat, k ≤ s.size ∧ i = .int .i64 k ∧ Hid ((s.data.toList.drop k).all seenB = R)) (fun i => s.size - (intOf i).toNat)
  case atStart => exact ⟨0, Nat.zero_le _, rfl, Lib.hid (by simpa using HR.out)⟩
  case round =>
    obtain ⟨k, hk, rfl, HD⟩ := hrel
    by_cases hlt : k < s.size
    · have hd : decide ((k : Int) < (s.size : Int)) = true := by simp; omega
      have HA := Lib.hid ((all_at s seenB k hlt).symm.trans HD.out)
      clear HD
      by_cases g1 : s[k].toNat < 32
      · have l1 : decide ((s[k].toNat : Int) < 32) = true := by simp; omega
        have HE : Hid (R = false) := Lib.hid (by
          have := HA.out
          rw [show seenB s[k] = false by unfold seenB; rw [decide_eq_false (by omega)], Bool.false_and] at this
          exact this.symm)
        go_wp2
        go_ret
        exact ⟨by rw [HE.out]; rfl, rfl⟩
      · have l1 : decide ((s[k].toNat : Int) < 32) = false := by simp; omega
        by_cases g2 : 126 < s[k].toNat
        · have l2 : decide (126 < (s[k].toNat : Int)) = true := by simp; omega
          have HE : Hid (R = false) := Lib.hid (by
            have := HA.out
            rw [show seenB s[k] = false by unfold seenB; rw [decide_eq_false (by omega)], Bool.false_and] at this
            exact this.symm)
          go_wp2
          go_ret
          exact ⟨by rw [HE.out]; rfl, rfl⟩
        · have l2 : decide (126 < (s[k].toNat : Int)) = false := by simp; omega
          have HE : Hid ((s.data.toList.drop (k + 1)).all seenB = R) := Lib.hid (by
            have := HA.out
            rw [show seenB s[k] = true by unfold seenB; rw [decide_eq_true (by omega)], Bool.true_and] at this
            exact this)
          go_wp2
          go_round
          case rel => exact ⟨k + 1, by omega, by go_num, HE⟩
          case measure => simp [intOf]; omega
    · have hd : decide ((k : Int) < (s.size : Int)) = false := by simp; omega
      have HE : Hid (R = true) := Lib.hid (by have := HD.out; rw [show k = s.size by omega, dropEnd] at this; exact this.symm)
      go_wp2
      go_ret
      exact ⟨by rw [HE.out]; rfl, rfl⟩
end Go.Proofs.YtcggmagdndhkbaaGreatDoor
namespace Go.Proofs.YtcggmagdndhkbaaGreatDoor
open Go.RowKit
set_option maxHeartbeats 400000 in
theorem stampError_ok (t b : Int) (w : World) (h1 : 1 ≤ t) (h2 : t ≤ 1073741824) (h3 : 0 ≤ b) (h4 : b < 4) :
    Calls Tryz.prog 146 #[.agg #[.int .i64 t, .int .i64 b]] w fun e w' => e = .returned (.int .i64 0) ∧ Below w.heap.size w w' := by
  go_enter Tryz.func146, Tryz.ntmps146
  go_wp2
  go_ret
  exact ⟨rfl, (Below.refl _ _).alloc (Nat.le_refl _) _⟩
set_option maxHeartbeats 400000 in
theorem stampError_no (t b : Int) (w : World) (h : ¬ (1 ≤ t ∧ t ≤ 1073741824 ∧ 0 ≤ b ∧ b < 4)) :
    Calls Tryz.prog 146 #[.agg #[.int .i64 t, .int .i64 b]] w fun e w' => e = .returned (.int .i64 2) ∧ Below w.heap.size w w' := by
  by_cases h1 : 1 ≤ t
  · by_cases h2 : t ≤ 1073741824
    · by_cases h3 : 0 ≤ b
      · have h4 : 4 ≤ b := by omega
        clear h
        go_enter Tryz.func146, Tryz.ntmps146
        go_wp2
        go_ret
        exact ⟨rfl, (Below.refl _ _).alloc (Nat.le_refl _) _⟩
      · have h4 : b < 0 := by omega
        clear h h3
        go_enter Tryz.func146, Tryz.ntmps146
        go_wp2
        go_ret
        exact ⟨rfl, (Below.refl _ _).alloc (Nat.le_refl _) _⟩
    · have h4 : 1073741824 < t := by omega
      clear h h2
      go_enter Tryz.func146, Tryz.ntmps146
      go_wp2
      go_ret
      exact ⟨rfl, (Below.refl _ _).alloc (Nat.le_refl _) _⟩
  · have h4 : t < 1 := by omega
    clear h h1
    go_enter Tryz.func146, Tryz.ntmps146
    go_wp2
    go_ret
    exact ⟨rfl, (Below.refl _ _).alloc (Nat.le_refl _) _⟩
set_option maxHeartbeats 400000 in
theorem idOf_ok (t b : Int) (w : World) (h1 : 1 ≤ t) (h2 : t ≤ 1073741824) (h3 : 0 ≤ b) (h4 : b < 4) :
    Calls Tryz.prog 77 #[.agg #[.int .i64 t, .int .i64 b]] w fun e w' => e = .returned (.int .i64 (4 * t + b)) ∧ Below w.heap.size w w' := by
  go_enter Tryz.func77, Tryz.ntmps77
  go_wp2_with fail
  refine (stampError_ok t b _ h1 h2 h3 h4).mono ?_
  rintro e w1 ⟨rfl, hb⟩
  obtain ⟨hc, hf⟩ := bcell hb
  go_wp2
  go_ret
  exact ⟨rfl, ((Below.refl _ _).alloc (Nat.le_refl _) _).trans (hb.mono (by simp))⟩
end Go.Proofs.YtcggmagdndhkbaaGreatDoor
namespace Go.Proofs.YtcggmagdndhkbaaGreatDoor
open Go.RowKit
theorem rname_is (s : ByteArray) (b : Bool) (w : World) (hs : s.size ≤ 1000000) (h : nameOk s.data.toList = b) :
    Calls Tryz.prog 147 #[.string s] w fun e w' => e = .returned (.bool b) ∧ w' = w := by rw [← h]; exact rname_any s w hs
theorem rseen_is (s : ByteArray) (b : Bool) (w : World) (hs : s.size ≤ 1000000) (h : seenOk s.data.toList = b) :
    Calls Tryz.prog 148 #[.string s] w fun e w' => e = .returned (.bool b) ∧ w' = w := by rw [← h]; exact rseen_any s w hs
set_option maxRecDepth 100000 in
set_option maxHeartbeats 4000000 in
theorem rop_stamp (t b n : Int) (k : Nat) (node other : Int) (name value : ByteArray) (w : World) (_hsn : name.size ≤ 1000000) (_hsv : value.size ≤ 1000000) (hst : ¬ (1 ≤ t ∧ t ≤ 1073741824 ∧ 0 ≤ b ∧ b < 4)) :
    Calls Tryz.prog 72 #[.agg #[.int .i64 t, .int .i64 b, .int .i64 n, .int .u8 (k : Int), .int .i64 node, .int .i64 other, .string name, .string value]] w fun e w' => e = .returned (.int .i64 ((opE t b n k node other name.data.toList value.data.toList : Nat) : Int)) ∧ Below w.heap.size w w' := by
  have O0 := OpAt.new w t b n k node other name value 31
  have B0 : Below w.heap.size w (w.alloc (.cells #[.int .i64 t, .int .i64 b, .int .i64 n, .int .u8 (k : Int), .int .i64 node, .int .i64 other, .string name, .string value] 31)) := (Below.refl _ _).alloc (Nat.le_refl _) _
  have hln := listLen name
  have hlv := listLen value
  have HS := Lib.hid hst
  have hcode : opE t b n k node other name.data.toList value.data.toList = 2 := by unfold opE; rw [if_neg (by omega)]
  rw [hcode]
  clear hst
  clear hcode hln hlv
  go_enter Tryz.func72, Tryz.ntmps72
  go_wp2_with fail
  generalize w.alloc (.cells #[.int .i64 t, .int .i64 b, .int .i64 n, .int .u8 (k : Int), .int .i64 node, .int .i64 other, .string name, .string value] 31) = u at O0 B0 ⊢
  refine (stampError_no _ _ _ HS.out).mono ?_
  rintro e w1 ⟨rfl, hb⟩
  have O1 := O0.later hb
  have B1 : Below w.heap.size w w1 := B0.trans (hb.mono B0.size)
  clear hb O0 B0
  obtain ⟨x0, x1, x2, x3, x4, x5, x6, x7⟩ := id O1
  go_wp2
  go_ret
  exact ⟨rfl, B1⟩
set_option maxRecDepth 100000 in
set_option maxHeartbeats 4000000 in
theorem rop_n (t b n : Int) (k : Nat) (node other : Int) (name value : ByteArray) (w : World) (_hsn : name.size ≤ 1000000) (_hsv : value.size ≤ 1000000) (hst : 1 ≤ t ∧ t ≤ 1073741824 ∧ 0 ≤ b ∧ b < 4) (hn : n < 1 ∨ 400 < n) :
    Calls Tryz.prog 72 #[.agg #[.int .i64 t, .int .i64 b, .int .i64 n, .int .u8 (k : Int), .int .i64 node, .int .i64 other, .string name, .string value]] w fun e w' => e = .returned (.int .i64 ((opE t b n k node other name.data.toList value.data.toList : Nat) : Int)) ∧ Below w.heap.size w w' := by
  have O0 := OpAt.new w t b n k node other name value 31
  have B0 : Below w.heap.size w (w.alloc (.cells #[.int .i64 t, .int .i64 b, .int .i64 n, .int .u8 (k : Int), .int .i64 node, .int .i64 other, .string name, .string value] 31)) := (Below.refl _ _).alloc (Nat.le_refl _) _
  have hln := listLen name
  have hlv := listLen value
  obtain ⟨s1, s2, s3, s4⟩ := hst
  rcases hn with h | h
  · have d1 : decide (n < 1) = true := by simp; omega
    have hcode : opE t b n k node other name.data.toList value.data.toList = 2 := by unfold opE; rw [if_neg (by omega)]
    rw [hcode]
    clear hcode hln hlv
    go_enter Tryz.func72, Tryz.ntmps72
    go_wp2_with fail
    generalize w.alloc (.cells #[.int .i64 t, .int .i64 b, .int .i64 n, .int .u8 (k : Int), .int .i64 node, .int .i64 other, .string name, .string value] 31) = u at O0 B0 ⊢
    refine (stampError_ok _ _ _ s1 s2 s3 s4).mono ?_
    rintro e w1 ⟨rfl, hb⟩
    have O1 := O0.later hb
    have B1 : Below w.heap.size w w1 := B0.trans (hb.mono B0.size)
    clear hb O0 B0
    obtain ⟨x0, x1, x2, x3, x4, x5, x6, x7⟩ := id O1
    go_wp2
    go_ret
    exact ⟨rfl, B1⟩
  · have d1 : decide (n < 1) = false := by simp; omega
    have d2 : decide (400 < n) = true := by simp; omega
    have hcode : opE t b n k node other name.data.toList value.data.toList = 2 := by unfold opE; rw [if_neg (by omega)]
    rw [hcode]
    clear hcode hln hlv
    go_enter Tryz.func72, Tryz.ntmps72
    go_wp2_with fail
    generalize w.alloc (.cells #[.int .i64 t, .int .i64 b, .int .i64 n, .int .u8 (k : Int), .int .i64 node, .int .i64 other, .string name, .string value] 31) = u at O0 B0 ⊢
    refine (stampError_ok _ _ _ s1 s2 s3 s4).mono ?_
    rintro e w1 ⟨rfl, hb⟩
    have O1 := O0.later hb
    have B1 : Below w.heap.size w w1 := B0.trans (hb.mono B0.size)
    clear hb O0 B0
    obtain ⟨x0, x1, x2, x3, x4, x5, x6, x7⟩ := id O1
    go_wp2
    go_ret
    exact ⟨rfl, B1⟩
set_option maxRecDepth 100000 in
set_option maxHeartbeats 4000000 in
theorem rop_m (t b n : Int) (k : Nat) (node other : Int) (name value : ByteArray) (w : World) (hsn : name.size ≤ 1000000) (_hsv : value.size ≤ 1000000) (hst : 1 ≤ t ∧ t ≤ 1073741824 ∧ 0 ≤ b ∧ b < 4) (hn : 1 ≤ n ∧ n ≤ 400) (hk : k = 109) :
    Calls Tryz.prog 72 #[.agg #[.int .i64 t, .int .i64 b, .int .i64 n, .int .u8 (k : Int), .int .i64 node, .int .i64 other, .string name, .string value]] w fun e w' => e = .returned (.int .i64 ((opE t b n k node other name.data.toList value.data.toList : Nat) : Int)) ∧ Below w.heap.size w w' := by
  have O0 := OpAt.new w t b n k node other name value 31
  have B0 : Below w.heap.size w (w.alloc (.cells #[.int .i64 t, .int .i64 b, .int .i64 n, .int .u8 (k : Int), .int .i64 node, .int .i64 other, .string name, .string value] 31)) := (Below.refl _ _).alloc (Nat.le_refl _) _
  have hln := listLen name
  have hlv := listLen value
  obtain ⟨s1, s2, s3, s4⟩ := hst
  have d1 : decide (n < 1) = false := by simp; omega
  have d2 : decide (400 < n) = false := by simp; omega
  have hop : opE t b n k node other name.data.toList value.data.toList = moveE (t * 4 + b) node other name.data.toList value.data.toList := by
    unfold opE kindE
    rw [if_pos (by omega)]
    rw [if_pos hk]
  rw [hop]
  clear hop
  have r109 : ((k : Int) == 109) = true := by simp; omega
  clear hk
  by_cases hsh : node < 2 ∨ t * 4 + b < node ∨ other < 0 ∨ t * 4 + b ≤ other
  · have hc : (node < 2) ∨ (¬ (node < 2) ∧ t * 4 + b < node) ∨ (¬ (node < 2) ∧ ¬ (t * 4 + b < node) ∧ other < 0) ∨ (¬ (node < 2) ∧ ¬ (t * 4 + b < node) ∧ ¬ (other < 0) ∧ t * 4 + b ≤ other) := by omega
    rcases hc with h | h | h | h
    · have hx := h
      have hcode : moveE (t * 4 + b) node other name.data.toList value.data.toList = 3 := by unfold moveE; rw [if_pos hsh]
      rw [hcode]
      have q0 : decide (node < 2) = true := by simp; omega
      clear hsh h hx
      clear hcode hln hlv
      go_enter Tryz.func72, Tryz.ntmps72
      go_wp2_with fail
      generalize w.alloc (.cells #[.int .i64 t, .int .i64 b, .int .i64 n, .int .u8 (k : Int), .int .i64 node, .int .i64 other, .string name, .string value] 31) = u at O0 B0 ⊢
      refine (stampError_ok _ _ _ s1 s2 s3 s4).mono ?_
      rintro e w1 ⟨rfl, hb⟩
      have O1 := O0.later hb
      have B1 : Below w.heap.size w w1 := B0.trans (hb.mono B0.size)
      clear hb O0 B0
      obtain ⟨x0, x1, x2, x3, x4, x5, x6, x7⟩ := id O1
      go_wp2_with fail
      refine (idOf_ok _ _ _ s1 s2 s3 s4).mono ?_
      rintro e w2 ⟨rfl, hb⟩
      have O2 := O1.later hb
      have B2 : Below w.heap.size w w2 := B1.trans (hb.mono B1.size)
      clear hb O1 B1 x0 x1 x2 x3 x4 x5 x6 x7
      obtain ⟨x0, x1, x2, x3, x4, x5, x6, x7⟩ := O2
      go_wp2_with (first
    | (go_at_call 147; refine (rname_is _ _ _ (by assumption) (by assumption)).mono ?_; rintro e w' ⟨rfl, rfl⟩)
    | (go_at_call 148; refine (rseen_is _ _ _ (by assumption) (by assumption)).mono ?_; rintro e w' ⟨rfl, rfl⟩))
      go_ret
      exact ⟨rfl, B2⟩
    · have hx := h
      have hcode : moveE (t * 4 + b) node other name.data.toList value.data.toList = 3 := by unfold moveE; rw [if_pos hsh]
      rw [hcode]
      have q0 : decide (node < 2) = false := by simp; omega
      have q1 : decide ((4 * t + b) < node) = true := by simp; omega
      clear hsh h hx
      clear hcode hln hlv
      go_enter Tryz.func72, Tryz.ntmps72
      go_wp2_with fail
      generalize w.alloc (.cells #[.int .i64 t, .int .i64 b, .int .i64 n, .int .u8 (k : Int), .int .i64 node, .int .i64 other, .string name, .string value] 31) = u at O0 B0 ⊢
      refine (stampError_ok _ _ _ s1 s2 s3 s4).mono ?_
      rintro e w1 ⟨rfl, hb⟩
      have O1 := O0.later hb
      have B1 : Below w.heap.size w w1 := B0.trans (hb.mono B0.size)
      clear hb O0 B0
      obtain ⟨x0, x1, x2, x3, x4, x5, x6, x7⟩ := id O1
      go_wp2_with fail
      refine (idOf_ok _ _ _ s1 s2 s3 s4).mono ?_
      rintro e w2 ⟨rfl, hb⟩
      have O2 := O1.later hb
      have B2 : Below w.heap.size w w2 := B1.trans (hb.mono B1.size)
      clear hb O1 B1 x0 x1 x2 x3 x4 x5 x6 x7
      obtain ⟨x0, x1, x2, x3, x4, x5, x6, x7⟩ := O2
      go_wp2_with (first
    | (go_at_call 147; refine (rname_is _ _ _ (by assumption) (by assumption)).mono ?_; rintro e w' ⟨rfl, rfl⟩)
    | (go_at_call 148; refine (rseen_is _ _ _ (by assumption) (by assumption)).mono ?_; rintro e w' ⟨rfl, rfl⟩))
      go_ret
      exact ⟨rfl, B2⟩
    · have hx := h
      have hcode : moveE (t * 4 + b) node other name.data.toList value.data.toList = 3 := by unfold moveE; rw [if_pos hsh]
      rw [hcode]
      have q0 : decide (node < 2) = false := by simp; omega
      have q1 : decide ((4 * t + b) < node) = false := by simp; omega
      have q2 : decide (other < 0) = true := by simp; omega
      clear hsh h hx
      clear hcode hln hlv
      go_enter Tryz.func72, Tryz.ntmps72
      go_wp2_with fail
      generalize w.alloc (.cells #[.int .i64 t, .int .i64 b, .int .i64 n, .int .u8 (k : Int), .int .i64 node, .int .i64 other, .string name, .string value] 31) = u at O0 B0 ⊢
      refine (stampError_ok _ _ _ s1 s2 s3 s4).mono ?_
      rintro e w1 ⟨rfl, hb⟩
      have O1 := O0.later hb
      have B1 : Below w.heap.size w w1 := B0.trans (hb.mono B0.size)
      clear hb O0 B0
      obtain ⟨x0, x1, x2, x3, x4, x5, x6, x7⟩ := id O1
      go_wp2_with fail
      refine (idOf_ok _ _ _ s1 s2 s3 s4).mono ?_
      rintro e w2 ⟨rfl, hb⟩
      have O2 := O1.later hb
      have B2 : Below w.heap.size w w2 := B1.trans (hb.mono B1.size)
      clear hb O1 B1 x0 x1 x2 x3 x4 x5 x6 x7
      obtain ⟨x0, x1, x2, x3, x4, x5, x6, x7⟩ := O2
      go_wp2_with (first
    | (go_at_call 147; refine (rname_is _ _ _ (by assumption) (by assumption)).mono ?_; rintro e w' ⟨rfl, rfl⟩)
    | (go_at_call 148; refine (rseen_is _ _ _ (by assumption) (by assumption)).mono ?_; rintro e w' ⟨rfl, rfl⟩))
      go_ret
      exact ⟨rfl, B2⟩
    · have hx := h
      have hcode : moveE (t * 4 + b) node other name.data.toList value.data.toList = 3 := by unfold moveE; rw [if_pos hsh]
      rw [hcode]
      have q0 : decide (node < 2) = false := by simp; omega
      have q1 : decide ((4 * t + b) < node) = false := by simp; omega
      have q2 : decide (other < 0) = false := by simp; omega
      have q3 : decide ((4 * t + b) ≤ other) = true := by simp; omega
      clear hsh h hx
      clear hcode hln hlv
      go_enter Tryz.func72, Tryz.ntmps72
      go_wp2_with fail
      generalize w.alloc (.cells #[.int .i64 t, .int .i64 b, .int .i64 n, .int .u8 (k : Int), .int .i64 node, .int .i64 other, .string name, .string value] 31) = u at O0 B0 ⊢
      refine (stampError_ok _ _ _ s1 s2 s3 s4).mono ?_
      rintro e w1 ⟨rfl, hb⟩
      have O1 := O0.later hb
      have B1 : Below w.heap.size w w1 := B0.trans (hb.mono B0.size)
      clear hb O0 B0
      obtain ⟨x0, x1, x2, x3, x4, x5, x6, x7⟩ := id O1
      go_wp2_with fail
      refine (idOf_ok _ _ _ s1 s2 s3 s4).mono ?_
      rintro e w2 ⟨rfl, hb⟩
      have O2 := O1.later hb
      have B2 : Below w.heap.size w w2 := B1.trans (hb.mono B1.size)
      clear hb O1 B1 x0 x1 x2 x3 x4 x5 x6 x7
      obtain ⟨x0, x1, x2, x3, x4, x5, x6, x7⟩ := O2
      go_wp2_with (first
    | (go_at_call 147; refine (rname_is _ _ _ (by assumption) (by assumption)).mono ?_; rintro e w' ⟨rfl, rfl⟩)
    | (go_at_call 148; refine (rseen_is _ _ _ (by assumption) (by assumption)).mono ?_; rintro e w' ⟨rfl, rfl⟩))
      go_ret
      exact ⟨rfl, B2⟩
  · have q0 : decide (node < 2) = false := by simp; omega
    have q1 : decide ((4 * t + b) < node) = false := by simp; omega
    have q2 : decide (other < 0) = false := by simp; omega
    have q3 : decide ((4 * t + b) ≤ other) = false := by simp; omega
    cases hn2 : nameOk name.data.toList with
    | false =>
      have hcode : moveE (t * 4 + b) node other name.data.toList value.data.toList = 4 := by unfold moveE; rw [if_neg hsh, if_pos hn2]
      rw [hcode]
      clear hsh
      clear hcode hln hlv
      go_enter Tryz.func72, Tryz.ntmps72
      go_wp2_with fail
      generalize w.alloc (.cells #[.int .i64 t, .int .i64 b, .int .i64 n, .int .u8 (k : Int), .int .i64 node, .int .i64 other, .string name, .string value] 31) = u at O0 B0 ⊢
      refine (stampError_ok _ _ _ s1 s2 s3 s4).mono ?_
      rintro e w1 ⟨rfl, hb⟩
      have O1 := O0.later hb
      have B1 : Below w.heap.size w w1 := B0.trans (hb.mono B0.size)
      clear hb O0 B0
      obtain ⟨x0, x1, x2, x3, x4, x5, x6, x7⟩ := id O1
      go_wp2_with fail
      refine (idOf_ok _ _ _ s1 s2 s3 s4).mono ?_
      rintro e w2 ⟨rfl, hb⟩
      have O2 := O1.later hb
      have B2 : Below w.heap.size w w2 := B1.trans (hb.mono B1.size)
      clear hb O1 B1 x0 x1 x2 x3 x4 x5 x6 x7
      obtain ⟨x0, x1, x2, x3, x4, x5, x6, x7⟩ := O2
      go_wp2_with (first
    | (go_at_call 147; refine (rname_is _ _ _ (by assumption) (by assumption)).mono ?_; rintro e w' ⟨rfl, rfl⟩)
    | (go_at_call 148; refine (rseen_is _ _ _ (by assumption) (by assumption)).mono ?_; rintro e w' ⟨rfl, rfl⟩))
      go_ret
      exact ⟨rfl, B2⟩
    | true =>
      by_cases hv : value.data.toList = []
      · have e1 := empty_yes hv
        have hcode : moveE (t * 4 + b) node other name.data.toList value.data.toList = 0 := by unfold moveE; rw [if_neg hsh, if_neg (by rw [hn2]; simp), if_neg (by rw [hv]; simp)]
        rw [hcode]
        clear hsh hv
        clear hcode hln hlv
        go_enter Tryz.func72, Tryz.ntmps72
        go_wp2_with fail
        generalize w.alloc (.cells #[.int .i64 t, .int .i64 b, .int .i64 n, .int .u8 (k : Int), .int .i64 node, .int .i64 other, .string name, .string value] 31) = u at O0 B0 ⊢
        refine (stampError_ok _ _ _ s1 s2 s3 s4).mono ?_
        rintro e w1 ⟨rfl, hb⟩
        have O1 := O0.later hb
        have B1 : Below w.heap.size w w1 := B0.trans (hb.mono B0.size)
        clear hb O0 B0
        obtain ⟨x0, x1, x2, x3, x4, x5, x6, x7⟩ := id O1
        go_wp2_with fail
        refine (idOf_ok _ _ _ s1 s2 s3 s4).mono ?_
        rintro e w2 ⟨rfl, hb⟩
        have O2 := O1.later hb
        have B2 : Below w.heap.size w w2 := B1.trans (hb.mono B1.size)
        clear hb O1 B1 x0 x1 x2 x3 x4 x5 x6 x7
        obtain ⟨x0, x1, x2, x3, x4, x5, x6, x7⟩ := O2
        go_wp2_with (first
    | (go_at_call 147; refine (rname_is _ _ _ (by assumption) (by assumption)).mono ?_; rintro e w' ⟨rfl, rfl⟩)
    | (go_at_call 148; refine (rseen_is _ _ _ (by assumption) (by assumption)).mono ?_; rintro e w' ⟨rfl, rfl⟩))
        go_ret
        exact ⟨rfl, B2⟩
      · have e1 := empty_no hv
        have hcode : moveE (t * 4 + b) node other name.data.toList value.data.toList = 3 := by unfold moveE; rw [if_neg hsh, if_neg (by rw [hn2]; simp), if_pos hv]
        rw [hcode]
        clear hsh hv
        clear hcode hln hlv
        go_enter Tryz.func72, Tryz.ntmps72
        go_wp2_with fail
        generalize w.alloc (.cells #[.int .i64 t, .int .i64 b, .int .i64 n, .int .u8 (k : Int), .int .i64 node, .int .i64 other, .string name, .string value] 31) = u at O0 B0 ⊢
        refine (stampError_ok _ _ _ s1 s2 s3 s4).mono ?_
        rintro e w1 ⟨rfl, hb⟩
        have O1 := O0.later hb
        have B1 : Below w.heap.size w w1 := B0.trans (hb.mono B0.size)
        clear hb O0 B0
        obtain ⟨x0, x1, x2, x3, x4, x5, x6, x7⟩ := id O1
        go_wp2_with fail
        refine (idOf_ok _ _ _ s1 s2 s3 s4).mono ?_
        rintro e w2 ⟨rfl, hb⟩
        have O2 := O1.later hb
        have B2 : Below w.heap.size w w2 := B1.trans (hb.mono B1.size)
        clear hb O1 B1 x0 x1 x2 x3 x4 x5 x6 x7
        obtain ⟨x0, x1, x2, x3, x4, x5, x6, x7⟩ := O2
        go_wp2_with (first
    | (go_at_call 147; refine (rname_is _ _ _ (by assumption) (by assumption)).mono ?_; rintro e w' ⟨rfl, rfl⟩)
    | (go_at_call 148; refine (rseen_is _ _ _ (by assumption) (by assumption)).mono ?_; rintro e w' ⟨rfl, rfl⟩))
        go_ret
        exact ⟨rfl, B2⟩
set_option maxRecDepth 100000 in
set_option maxHeartbeats 4000000 in
theorem rop_i (t b n : Int) (k : Nat) (node other : Int) (name value : ByteArray) (w : World) (_hsn : name.size ≤ 1000000) (hsv : value.size ≤ 1000000) (hst : 1 ≤ t ∧ t ≤ 1073741824 ∧ 0 ≤ b ∧ b < 4) (hn : 1 ≤ n ∧ n ≤ 400) (hk : k = 105) :
    Calls Tryz.prog 72 #[.agg #[.int .i64 t, .int .i64 b, .int .i64 n, .int .u8 (k : Int), .int .i64 node, .int .i64 other, .string name, .string value]] w fun e w' => e = .returned (.int .i64 ((opE t b n k node other name.data.toList value.data.toList : Nat) : Int)) ∧ Below w.heap.size w w' := by
  have O0 := OpAt.new w t b n k node other name value 31
  have B0 : Below w.heap.size w (w.alloc (.cells #[.int .i64 t, .int .i64 b, .int .i64 n, .int .u8 (k : Int), .int .i64 node, .int .i64 other, .string name, .string value] 31)) := (Below.refl _ _).alloc (Nat.le_refl _) _
  have hln := listLen name
  have hlv := listLen value
  obtain ⟨s1, s2, s3, s4⟩ := hst
  have d1 : decide (n < 1) = false := by simp; omega
  have d2 : decide (400 < n) = false := by simp; omega
  have hop : opE t b n k node other name.data.toList value.data.toList = insE (t * 4 + b) node other name.data.toList value.data.toList := by
    unfold opE kindE
    rw [if_pos (by omega)]
    rw [if_neg (show ¬ k = 109 by omega)]
    rw [if_pos hk]
  rw [hop]
  clear hop
  have r109 : ((k : Int) == 109) = false := by simp; omega
  have r105 : ((k : Int) == 105) = true := by simp; omega
  have r100 : ((k : Int) == 100) = false := by simp; omega
  clear hk
  by_cases hsh : node < 0 ∨ t * 4 + b ≤ node ∨ other < 0 ∨ t * 4 + b ≤ other
  · have hc : (node < 0) ∨ (¬ (node < 0) ∧ t * 4 + b ≤ node) ∨ (¬ (node < 0) ∧ ¬ (t * 4 + b ≤ node) ∧ other < 0) ∨ (¬ (node < 0) ∧ ¬ (t * 4 + b ≤ node) ∧ ¬ (other < 0) ∧ t * 4 + b ≤ other) := by omega
    rcases hc with h | h | h | h
    · have hx := h
      have hcode : insE (t * 4 + b) node other name.data.toList value.data.toList = 3 := by unfold insE; rw [if_pos hsh]
      rw [hcode]
      have q0 : decide (node < 0) = true := by simp; omega
      clear hsh h hx
      clear hcode hln hlv
      go_enter Tryz.func72, Tryz.ntmps72
      go_wp2_with fail
      generalize w.alloc (.cells #[.int .i64 t, .int .i64 b, .int .i64 n, .int .u8 (k : Int), .int .i64 node, .int .i64 other, .string name, .string value] 31) = u at O0 B0 ⊢
      refine (stampError_ok _ _ _ s1 s2 s3 s4).mono ?_
      rintro e w1 ⟨rfl, hb⟩
      have O1 := O0.later hb
      have B1 : Below w.heap.size w w1 := B0.trans (hb.mono B0.size)
      clear hb O0 B0
      obtain ⟨x0, x1, x2, x3, x4, x5, x6, x7⟩ := id O1
      go_wp2_with fail
      refine (idOf_ok _ _ _ s1 s2 s3 s4).mono ?_
      rintro e w2 ⟨rfl, hb⟩
      have O2 := O1.later hb
      have B2 : Below w.heap.size w w2 := B1.trans (hb.mono B1.size)
      clear hb O1 B1 x0 x1 x2 x3 x4 x5 x6 x7
      obtain ⟨x0, x1, x2, x3, x4, x5, x6, x7⟩ := O2
      go_wp2_with (first
    | (go_at_call 147; refine (rname_is _ _ _ (by assumption) (by assumption)).mono ?_; rintro e w' ⟨rfl, rfl⟩)
    | (go_at_call 148; refine (rseen_is _ _ _ (by assumption) (by assumption)).mono ?_; rintro e w' ⟨rfl, rfl⟩))
      go_ret
      exact ⟨rfl, B2⟩
    · have hx := h
      have hcode : insE (t * 4 + b) node other name.data.toList value.data.toList = 3 := by unfold insE; rw [if_pos hsh]
      rw [hcode]
      have q0 : decide (node < 0) = false := by simp; omega
      have q1 : decide ((4 * t + b) ≤ node) = true := by simp; omega
      clear hsh h hx
      clear hcode hln hlv
      go_enter Tryz.func72, Tryz.ntmps72
      go_wp2_with fail
      generalize w.alloc (.cells #[.int .i64 t, .int .i64 b, .int .i64 n, .int .u8 (k : Int), .int .i64 node, .int .i64 other, .string name, .string value] 31) = u at O0 B0 ⊢
      refine (stampError_ok _ _ _ s1 s2 s3 s4).mono ?_
      rintro e w1 ⟨rfl, hb⟩
      have O1 := O0.later hb
      have B1 : Below w.heap.size w w1 := B0.trans (hb.mono B0.size)
      clear hb O0 B0
      obtain ⟨x0, x1, x2, x3, x4, x5, x6, x7⟩ := id O1
      go_wp2_with fail
      refine (idOf_ok _ _ _ s1 s2 s3 s4).mono ?_
      rintro e w2 ⟨rfl, hb⟩
      have O2 := O1.later hb
      have B2 : Below w.heap.size w w2 := B1.trans (hb.mono B1.size)
      clear hb O1 B1 x0 x1 x2 x3 x4 x5 x6 x7
      obtain ⟨x0, x1, x2, x3, x4, x5, x6, x7⟩ := O2
      go_wp2_with (first
    | (go_at_call 147; refine (rname_is _ _ _ (by assumption) (by assumption)).mono ?_; rintro e w' ⟨rfl, rfl⟩)
    | (go_at_call 148; refine (rseen_is _ _ _ (by assumption) (by assumption)).mono ?_; rintro e w' ⟨rfl, rfl⟩))
      go_ret
      exact ⟨rfl, B2⟩
    · have hx := h
      have hcode : insE (t * 4 + b) node other name.data.toList value.data.toList = 3 := by unfold insE; rw [if_pos hsh]
      rw [hcode]
      have q0 : decide (node < 0) = false := by simp; omega
      have q1 : decide ((4 * t + b) ≤ node) = false := by simp; omega
      have q2 : decide (other < 0) = true := by simp; omega
      clear hsh h hx
      clear hcode hln hlv
      go_enter Tryz.func72, Tryz.ntmps72
      go_wp2_with fail
      generalize w.alloc (.cells #[.int .i64 t, .int .i64 b, .int .i64 n, .int .u8 (k : Int), .int .i64 node, .int .i64 other, .string name, .string value] 31) = u at O0 B0 ⊢
      refine (stampError_ok _ _ _ s1 s2 s3 s4).mono ?_
      rintro e w1 ⟨rfl, hb⟩
      have O1 := O0.later hb
      have B1 : Below w.heap.size w w1 := B0.trans (hb.mono B0.size)
      clear hb O0 B0
      obtain ⟨x0, x1, x2, x3, x4, x5, x6, x7⟩ := id O1
      go_wp2_with fail
      refine (idOf_ok _ _ _ s1 s2 s3 s4).mono ?_
      rintro e w2 ⟨rfl, hb⟩
      have O2 := O1.later hb
      have B2 : Below w.heap.size w w2 := B1.trans (hb.mono B1.size)
      clear hb O1 B1 x0 x1 x2 x3 x4 x5 x6 x7
      obtain ⟨x0, x1, x2, x3, x4, x5, x6, x7⟩ := O2
      go_wp2_with (first
    | (go_at_call 147; refine (rname_is _ _ _ (by assumption) (by assumption)).mono ?_; rintro e w' ⟨rfl, rfl⟩)
    | (go_at_call 148; refine (rseen_is _ _ _ (by assumption) (by assumption)).mono ?_; rintro e w' ⟨rfl, rfl⟩))
      go_ret
      exact ⟨rfl, B2⟩
    · have hx := h
      have hcode : insE (t * 4 + b) node other name.data.toList value.data.toList = 3 := by unfold insE; rw [if_pos hsh]
      rw [hcode]
      have q0 : decide (node < 0) = false := by simp; omega
      have q1 : decide ((4 * t + b) ≤ node) = false := by simp; omega
      have q2 : decide (other < 0) = false := by simp; omega
      have q3 : decide ((4 * t + b) ≤ other) = true := by simp; omega
      clear hsh h hx
      clear hcode hln hlv
      go_enter Tryz.func72, Tryz.ntmps72
      go_wp2_with fail
      generalize w.alloc (.cells #[.int .i64 t, .int .i64 b, .int .i64 n, .int .u8 (k : Int), .int .i64 node, .int .i64 other, .string name, .string value] 31) = u at O0 B0 ⊢
      refine (stampError_ok _ _ _ s1 s2 s3 s4).mono ?_
      rintro e w1 ⟨rfl, hb⟩
      have O1 := O0.later hb
      have B1 : Below w.heap.size w w1 := B0.trans (hb.mono B0.size)
      clear hb O0 B0
      obtain ⟨x0, x1, x2, x3, x4, x5, x6, x7⟩ := id O1
      go_wp2_with fail
      refine (idOf_ok _ _ _ s1 s2 s3 s4).mono ?_
      rintro e w2 ⟨rfl, hb⟩
      have O2 := O1.later hb
      have B2 : Below w.heap.size w w2 := B1.trans (hb.mono B1.size)
      clear hb O1 B1 x0 x1 x2 x3 x4 x5 x6 x7
      obtain ⟨x0, x1, x2, x3, x4, x5, x6, x7⟩ := O2
      go_wp2_with (first
    | (go_at_call 147; refine (rname_is _ _ _ (by assumption) (by assumption)).mono ?_; rintro e w' ⟨rfl, rfl⟩)
    | (go_at_call 148; refine (rseen_is _ _ _ (by assumption) (by assumption)).mono ?_; rintro e w' ⟨rfl, rfl⟩))
      go_ret
      exact ⟨rfl, B2⟩
  · have q0 : decide (node < 0) = false := by simp; omega
    have q1 : decide ((4 * t + b) ≤ node) = false := by simp; omega
    have q2 : decide (other < 0) = false := by simp; omega
    have q3 : decide ((4 * t + b) ≤ other) = false := by simp; omega
    by_cases hn2 : name.data.toList = []
    · have e1 := empty_yes hn2
      by_cases hv : value.size = 1
      · have e2 : ((value.size : Int) != 1) = false := by simp; omega
        cases hp : seenOk value.data.toList with
        | false =>
          have hcode : insE (t * 4 + b) node other name.data.toList value.data.toList = 3 := by unfold insE; rw [if_neg hsh, if_neg (by rw [hn2]; simp), if_pos (.inr hp)]
          rw [hcode]
          clear hsh hn2 hv
          clear hcode hln hlv
          go_enter Tryz.func72, Tryz.ntmps72
          go_wp2_with fail
          generalize w.alloc (.cells #[.int .i64 t, .int .i64 b, .int .i64 n, .int .u8 (k : Int), .int .i64 node, .int .i64 other, .string name, .string value] 31) = u at O0 B0 ⊢
          refine (stampError_ok _ _ _ s1 s2 s3 s4).mono ?_
          rintro e w1 ⟨rfl, hb⟩
          have O1 := O0.later hb
          have B1 : Below w.heap.size w w1 := B0.trans (hb.mono B0.size)
          clear hb O0 B0
          obtain ⟨x0, x1, x2, x3, x4, x5, x6, x7⟩ := id O1
          go_wp2_with fail
          refine (idOf_ok _ _ _ s1 s2 s3 s4).mono ?_
          rintro e w2 ⟨rfl, hb⟩
          have O2 := O1.later hb
          have B2 : Below w.heap.size w w2 := B1.trans (hb.mono B1.size)
          clear hb O1 B1 x0 x1 x2 x3 x4 x5 x6 x7
          obtain ⟨x0, x1, x2, x3, x4, x5, x6, x7⟩ := O2
          go_wp2_with (first
    | (go_at_call 147; refine (rname_is _ _ _ (by assumption) (by assumption)).mono ?_; rintro e w' ⟨rfl, rfl⟩)
    | (go_at_call 148; refine (rseen_is _ _ _ (by assumption) (by assumption)).mono ?_; rintro e w' ⟨rfl, rfl⟩))
          go_ret
          exact ⟨rfl, B2⟩
        | true =>
          have hcode : insE (t * 4 + b) node other name.data.toList value.data.toList = 0 := by unfold insE; rw [if_neg hsh, if_neg (by rw [hn2]; simp), if_neg (by rw [hp, hlv]; simp; omega)]
          rw [hcode]
          clear hsh hn2 hv
          clear hcode hln hlv
          go_enter Tryz.func72, Tryz.ntmps72
          go_wp2_with fail
          generalize w.alloc (.cells #[.int .i64 t, .int .i64 b, .int .i64 n, .int .u8 (k : Int), .int .i64 node, .int .i64 other, .string name, .string value] 31) = u at O0 B0 ⊢
          refine (stampError_ok _ _ _ s1 s2 s3 s4).mono ?_
          rintro e w1 ⟨rfl, hb⟩
          have O1 := O0.later hb
          have B1 : Below w.heap.size w w1 := B0.trans (hb.mono B0.size)
          clear hb O0 B0
          obtain ⟨x0, x1, x2, x3, x4, x5, x6, x7⟩ := id O1
          go_wp2_with fail
          refine (idOf_ok _ _ _ s1 s2 s3 s4).mono ?_
          rintro e w2 ⟨rfl, hb⟩
          have O2 := O1.later hb
          have B2 : Below w.heap.size w w2 := B1.trans (hb.mono B1.size)
          clear hb O1 B1 x0 x1 x2 x3 x4 x5 x6 x7
          obtain ⟨x0, x1, x2, x3, x4, x5, x6, x7⟩ := O2
          go_wp2_with (first
    | (go_at_call 147; refine (rname_is _ _ _ (by assumption) (by assumption)).mono ?_; rintro e w' ⟨rfl, rfl⟩)
    | (go_at_call 148; refine (rseen_is _ _ _ (by assumption) (by assumption)).mono ?_; rintro e w' ⟨rfl, rfl⟩))
          go_ret
          exact ⟨rfl, B2⟩
      · have e2 : ((value.size : Int) != 1) = true := by simp; omega
        obtain ⟨sb, hp⟩ : ∃ sb, seenOk value.data.toList = sb := ⟨_, rfl⟩
        have hcode : insE (t * 4 + b) node other name.data.toList value.data.toList = 3 := by unfold insE; rw [if_neg hsh, if_neg (by rw [hn2]; simp), if_pos (.inl (by omega))]
        rw [hcode]
        clear hsh hn2 hv
        clear hcode hln hlv
        go_enter Tryz.func72, Tryz.ntmps72
        go_wp2_with fail
        generalize w.alloc (.cells #[.int .i64 t, .int .i64 b, .int .i64 n, .int .u8 (k : Int), .int .i64 node, .int .i64 other, .string name, .string value] 31) = u at O0 B0 ⊢
        refine (stampError_ok _ _ _ s1 s2 s3 s4).mono ?_
        rintro e w1 ⟨rfl, hb⟩
        have O1 := O0.later hb
        have B1 : Below w.heap.size w w1 := B0.trans (hb.mono B0.size)
        clear hb O0 B0
        obtain ⟨x0, x1, x2, x3, x4, x5, x6, x7⟩ := id O1
        go_wp2_with fail
        refine (idOf_ok _ _ _ s1 s2 s3 s4).mono ?_
        rintro e w2 ⟨rfl, hb⟩
        have O2 := O1.later hb
        have B2 : Below w.heap.size w w2 := B1.trans (hb.mono B1.size)
        clear hb O1 B1 x0 x1 x2 x3 x4 x5 x6 x7
        obtain ⟨x0, x1, x2, x3, x4, x5, x6, x7⟩ := O2
        go_wp2_with (first
    | (go_at_call 147; refine (rname_is _ _ _ (by assumption) (by assumption)).mono ?_; rintro e w' ⟨rfl, rfl⟩)
    | (go_at_call 148; refine (rseen_is _ _ _ (by assumption) (by assumption)).mono ?_; rintro e w' ⟨rfl, rfl⟩))
        go_ret
        exact ⟨rfl, B2⟩
    · have e1 := empty_no hn2
      have hcode : insE (t * 4 + b) node other name.data.toList value.data.toList = 4 := by unfold insE; rw [if_neg hsh, if_pos hn2]
      rw [hcode]
      clear hsh hn2
      clear hcode hln hlv
      go_enter Tryz.func72, Tryz.ntmps72
      go_wp2_with fail
      generalize w.alloc (.cells #[.int .i64 t, .int .i64 b, .int .i64 n, .int .u8 (k : Int), .int .i64 node, .int .i64 other, .string name, .string value] 31) = u at O0 B0 ⊢
      refine (stampError_ok _ _ _ s1 s2 s3 s4).mono ?_
      rintro e w1 ⟨rfl, hb⟩
      have O1 := O0.later hb
      have B1 : Below w.heap.size w w1 := B0.trans (hb.mono B0.size)
      clear hb O0 B0
      obtain ⟨x0, x1, x2, x3, x4, x5, x6, x7⟩ := id O1
      go_wp2_with fail
      refine (idOf_ok _ _ _ s1 s2 s3 s4).mono ?_
      rintro e w2 ⟨rfl, hb⟩
      have O2 := O1.later hb
      have B2 : Below w.heap.size w w2 := B1.trans (hb.mono B1.size)
      clear hb O1 B1 x0 x1 x2 x3 x4 x5 x6 x7
      obtain ⟨x0, x1, x2, x3, x4, x5, x6, x7⟩ := O2
      go_wp2_with (first
    | (go_at_call 147; refine (rname_is _ _ _ (by assumption) (by assumption)).mono ?_; rintro e w' ⟨rfl, rfl⟩)
    | (go_at_call 148; refine (rseen_is _ _ _ (by assumption) (by assumption)).mono ?_; rintro e w' ⟨rfl, rfl⟩))
      go_ret
      exact ⟨rfl, B2⟩
set_option maxRecDepth 100000 in
set_option maxHeartbeats 4000000 in
theorem rop_d (t b n : Int) (k : Nat) (node other : Int) (name value : ByteArray) (w : World) (_hsn : name.size ≤ 1000000) (hsv : value.size ≤ 1000000) (hst : 1 ≤ t ∧ t ≤ 1073741824 ∧ 0 ≤ b ∧ b < 4) (hn : 1 ≤ n ∧ n ≤ 400) (hk : k = 100) :
    Calls Tryz.prog 72 #[.agg #[.int .i64 t, .int .i64 b, .int .i64 n, .int .u8 (k : Int), .int .i64 node, .int .i64 other, .string name, .string value]] w fun e w' => e = .returned (.int .i64 ((opE t b n k node other name.data.toList value.data.toList : Nat) : Int)) ∧ Below w.heap.size w w' := by
  have O0 := OpAt.new w t b n k node other name value 31
  have B0 : Below w.heap.size w (w.alloc (.cells #[.int .i64 t, .int .i64 b, .int .i64 n, .int .u8 (k : Int), .int .i64 node, .int .i64 other, .string name, .string value] 31)) := (Below.refl _ _).alloc (Nat.le_refl _) _
  have hln := listLen name
  have hlv := listLen value
  obtain ⟨s1, s2, s3, s4⟩ := hst
  have d1 : decide (n < 1) = false := by simp; omega
  have d2 : decide (400 < n) = false := by simp; omega
  have hop : opE t b n k node other name.data.toList value.data.toList = delE (t * 4 + b) node other name.data.toList value.data.toList := by
    unfold opE kindE
    rw [if_pos (by omega)]
    rw [if_neg (show ¬ k = 109 by omega)]
    rw [if_neg (show ¬ k = 105 by omega)]
    rw [if_pos hk]
  rw [hop]
  clear hop
  have r109 : ((k : Int) == 109) = false := by simp; omega
  have r105 : ((k : Int) == 105) = false := by simp; omega
  have r100 : ((k : Int) == 100) = true := by simp; omega
  clear hk
  by_cases hsh : node < 0 ∨ t * 4 + b ≤ node ∨ other < 0 ∨ t * 4 + b ≤ other ∨ other = 0
  · have hc : (node < 0) ∨ (¬ (node < 0) ∧ t * 4 + b ≤ node) ∨ (¬ (node < 0) ∧ ¬ (t * 4 + b ≤ node) ∧ other < 0) ∨ (¬ (node < 0) ∧ ¬ (t * 4 + b ≤ node) ∧ ¬ (other < 0) ∧ t * 4 + b ≤ other) ∨ (¬ (node < 0) ∧ ¬ (t * 4 + b ≤ node) ∧ ¬ (other < 0) ∧ ¬ (t * 4 + b ≤ other) ∧ other = 0) := by omega
    rcases hc with h | h | h | h | h
    · have hx := h
      have hcode : delE (t * 4 + b) node other name.data.toList value.data.toList = 3 := by unfold delE; rw [if_pos hsh]
      rw [hcode]
      have q0 : decide (node < 0) = true := by simp; omega
      clear hsh h hx
      clear hcode hln hlv
      go_enter Tryz.func72, Tryz.ntmps72
      go_wp2_with fail
      generalize w.alloc (.cells #[.int .i64 t, .int .i64 b, .int .i64 n, .int .u8 (k : Int), .int .i64 node, .int .i64 other, .string name, .string value] 31) = u at O0 B0 ⊢
      refine (stampError_ok _ _ _ s1 s2 s3 s4).mono ?_
      rintro e w1 ⟨rfl, hb⟩
      have O1 := O0.later hb
      have B1 : Below w.heap.size w w1 := B0.trans (hb.mono B0.size)
      clear hb O0 B0
      obtain ⟨x0, x1, x2, x3, x4, x5, x6, x7⟩ := id O1
      go_wp2_with fail
      refine (idOf_ok _ _ _ s1 s2 s3 s4).mono ?_
      rintro e w2 ⟨rfl, hb⟩
      have O2 := O1.later hb
      have B2 : Below w.heap.size w w2 := B1.trans (hb.mono B1.size)
      clear hb O1 B1 x0 x1 x2 x3 x4 x5 x6 x7
      obtain ⟨x0, x1, x2, x3, x4, x5, x6, x7⟩ := O2
      go_wp2_with (first
    | (go_at_call 147; refine (rname_is _ _ _ (by assumption) (by assumption)).mono ?_; rintro e w' ⟨rfl, rfl⟩)
    | (go_at_call 148; refine (rseen_is _ _ _ (by assumption) (by assumption)).mono ?_; rintro e w' ⟨rfl, rfl⟩))
      go_ret
      exact ⟨rfl, B2⟩
    · have hx := h
      have hcode : delE (t * 4 + b) node other name.data.toList value.data.toList = 3 := by unfold delE; rw [if_pos hsh]
      rw [hcode]
      have q0 : decide (node < 0) = false := by simp; omega
      have q1 : decide ((4 * t + b) ≤ node) = true := by simp; omega
      clear hsh h hx
      clear hcode hln hlv
      go_enter Tryz.func72, Tryz.ntmps72
      go_wp2_with fail
      generalize w.alloc (.cells #[.int .i64 t, .int .i64 b, .int .i64 n, .int .u8 (k : Int), .int .i64 node, .int .i64 other, .string name, .string value] 31) = u at O0 B0 ⊢
      refine (stampError_ok _ _ _ s1 s2 s3 s4).mono ?_
      rintro e w1 ⟨rfl, hb⟩
      have O1 := O0.later hb
      have B1 : Below w.heap.size w w1 := B0.trans (hb.mono B0.size)
      clear hb O0 B0
      obtain ⟨x0, x1, x2, x3, x4, x5, x6, x7⟩ := id O1
      go_wp2_with fail
      refine (idOf_ok _ _ _ s1 s2 s3 s4).mono ?_
      rintro e w2 ⟨rfl, hb⟩
      have O2 := O1.later hb
      have B2 : Below w.heap.size w w2 := B1.trans (hb.mono B1.size)
      clear hb O1 B1 x0 x1 x2 x3 x4 x5 x6 x7
      obtain ⟨x0, x1, x2, x3, x4, x5, x6, x7⟩ := O2
      go_wp2_with (first
    | (go_at_call 147; refine (rname_is _ _ _ (by assumption) (by assumption)).mono ?_; rintro e w' ⟨rfl, rfl⟩)
    | (go_at_call 148; refine (rseen_is _ _ _ (by assumption) (by assumption)).mono ?_; rintro e w' ⟨rfl, rfl⟩))
      go_ret
      exact ⟨rfl, B2⟩
    · have hx := h
      have hcode : delE (t * 4 + b) node other name.data.toList value.data.toList = 3 := by unfold delE; rw [if_pos hsh]
      rw [hcode]
      have q0 : decide (node < 0) = false := by simp; omega
      have q1 : decide ((4 * t + b) ≤ node) = false := by simp; omega
      have q2 : decide (other < 0) = true := by simp; omega
      clear hsh h hx
      clear hcode hln hlv
      go_enter Tryz.func72, Tryz.ntmps72
      go_wp2_with fail
      generalize w.alloc (.cells #[.int .i64 t, .int .i64 b, .int .i64 n, .int .u8 (k : Int), .int .i64 node, .int .i64 other, .string name, .string value] 31) = u at O0 B0 ⊢
      refine (stampError_ok _ _ _ s1 s2 s3 s4).mono ?_
      rintro e w1 ⟨rfl, hb⟩
      have O1 := O0.later hb
      have B1 : Below w.heap.size w w1 := B0.trans (hb.mono B0.size)
      clear hb O0 B0
      obtain ⟨x0, x1, x2, x3, x4, x5, x6, x7⟩ := id O1
      go_wp2_with fail
      refine (idOf_ok _ _ _ s1 s2 s3 s4).mono ?_
      rintro e w2 ⟨rfl, hb⟩
      have O2 := O1.later hb
      have B2 : Below w.heap.size w w2 := B1.trans (hb.mono B1.size)
      clear hb O1 B1 x0 x1 x2 x3 x4 x5 x6 x7
      obtain ⟨x0, x1, x2, x3, x4, x5, x6, x7⟩ := O2
      go_wp2_with (first
    | (go_at_call 147; refine (rname_is _ _ _ (by assumption) (by assumption)).mono ?_; rintro e w' ⟨rfl, rfl⟩)
    | (go_at_call 148; refine (rseen_is _ _ _ (by assumption) (by assumption)).mono ?_; rintro e w' ⟨rfl, rfl⟩))
      go_ret
      exact ⟨rfl, B2⟩
    · have hx := h
      have hcode : delE (t * 4 + b) node other name.data.toList value.data.toList = 3 := by unfold delE; rw [if_pos hsh]
      rw [hcode]
      have q0 : decide (node < 0) = false := by simp; omega
      have q1 : decide ((4 * t + b) ≤ node) = false := by simp; omega
      have q2 : decide (other < 0) = false := by simp; omega
      have q3 : decide ((4 * t + b) ≤ other) = true := by simp; omega
      clear hsh h hx
      clear hcode hln hlv
      go_enter Tryz.func72, Tryz.ntmps72
      go_wp2_with fail
      generalize w.alloc (.cells #[.int .i64 t, .int .i64 b, .int .i64 n, .int .u8 (k : Int), .int .i64 node, .int .i64 other, .string name, .string value] 31) = u at O0 B0 ⊢
      refine (stampError_ok _ _ _ s1 s2 s3 s4).mono ?_
      rintro e w1 ⟨rfl, hb⟩
      have O1 := O0.later hb
      have B1 : Below w.heap.size w w1 := B0.trans (hb.mono B0.size)
      clear hb O0 B0
      obtain ⟨x0, x1, x2, x3, x4, x5, x6, x7⟩ := id O1
      go_wp2_with fail
      refine (idOf_ok _ _ _ s1 s2 s3 s4).mono ?_
      rintro e w2 ⟨rfl, hb⟩
      have O2 := O1.later hb
      have B2 : Below w.heap.size w w2 := B1.trans (hb.mono B1.size)
      clear hb O1 B1 x0 x1 x2 x3 x4 x5 x6 x7
      obtain ⟨x0, x1, x2, x3, x4, x5, x6, x7⟩ := O2
      go_wp2_with (first
    | (go_at_call 147; refine (rname_is _ _ _ (by assumption) (by assumption)).mono ?_; rintro e w' ⟨rfl, rfl⟩)
    | (go_at_call 148; refine (rseen_is _ _ _ (by assumption) (by assumption)).mono ?_; rintro e w' ⟨rfl, rfl⟩))
      go_ret
      exact ⟨rfl, B2⟩
    · have hx := h
      have hcode : delE (t * 4 + b) node other name.data.toList value.data.toList = 3 := by unfold delE; rw [if_pos hsh]
      rw [hcode]
      have q0 : decide (node < 0) = false := by simp; omega
      have q1 : decide ((4 * t + b) ≤ node) = false := by simp; omega
      have q2 : decide (other < 0) = false := by simp; omega
      have q3 : decide ((4 * t + b) ≤ other) = false := by simp; omega
      have q4 : (other == 0) = true := by simp; omega
      clear hsh h hx
      clear hcode hln hlv
      go_enter Tryz.func72, Tryz.ntmps72
      go_wp2_with fail
      generalize w.alloc (.cells #[.int .i64 t, .int .i64 b, .int .i64 n, .int .u8 (k : Int), .int .i64 node, .int .i64 other, .string name, .string value] 31) = u at O0 B0 ⊢
      refine (stampError_ok _ _ _ s1 s2 s3 s4).mono ?_
      rintro e w1 ⟨rfl, hb⟩
      have O1 := O0.later hb
      have B1 : Below w.heap.size w w1 := B0.trans (hb.mono B0.size)
      clear hb O0 B0
      obtain ⟨x0, x1, x2, x3, x4, x5, x6, x7⟩ := id O1
      go_wp2_with fail
      refine (idOf_ok _ _ _ s1 s2 s3 s4).mono ?_
      rintro e w2 ⟨rfl, hb⟩
      have O2 := O1.later hb
      have B2 : Below w.heap.size w w2 := B1.trans (hb.mono B1.size)
      clear hb O1 B1 x0 x1 x2 x3 x4 x5 x6 x7
      obtain ⟨x0, x1, x2, x3, x4, x5, x6, x7⟩ := O2
      go_wp2_with (first
    | (go_at_call 147; refine (rname_is _ _ _ (by assumption) (by assumption)).mono ?_; rintro e w' ⟨rfl, rfl⟩)
    | (go_at_call 148; refine (rseen_is _ _ _ (by assumption) (by assumption)).mono ?_; rintro e w' ⟨rfl, rfl⟩))
      go_ret
      exact ⟨rfl, B2⟩
  · have q0 : decide (node < 0) = false := by simp; omega
    have q1 : decide ((4 * t + b) ≤ node) = false := by simp; omega
    have q2 : decide (other < 0) = false := by simp; omega
    have q3 : decide ((4 * t + b) ≤ other) = false := by simp; omega
    have q4 : (other == 0) = false := by simp; omega
    by_cases hn2 : name.data.toList = []
    · have e1 := empty_yes hn2
      by_cases hv : value.data.toList = []
      · have e2 := empty_yes hv
        have hp : seenOk value.data.toList = true := by rw [hv]; rfl
        have hcode : delE (t * 4 + b) node other name.data.toList value.data.toList = 0 := by unfold delE; rw [if_neg hsh, if_neg (by rw [hn2]; simp), if_neg (by rw [hv]; simp)]
        rw [hcode]
        clear hsh hn2 hv
        clear hcode hln hlv
        go_enter Tryz.func72, Tryz.ntmps72
        go_wp2_with fail
        generalize w.alloc (.cells #[.int .i64 t, .int .i64 b, .int .i64 n, .int .u8 (k : Int), .int .i64 node, .int .i64 other, .string name, .string value] 31) = u at O0 B0 ⊢
        refine (stampError_ok _ _ _ s1 s2 s3 s4).mono ?_
        rintro e w1 ⟨rfl, hb⟩
        have O1 := O0.later hb
        have B1 : Below w.heap.size w w1 := B0.trans (hb.mono B0.size)
        clear hb O0 B0
        obtain ⟨x0, x1, x2, x3, x4, x5, x6, x7⟩ := id O1
        go_wp2_with fail
        refine (idOf_ok _ _ _ s1 s2 s3 s4).mono ?_
        rintro e w2 ⟨rfl, hb⟩
        have O2 := O1.later hb
        have B2 : Below w.heap.size w w2 := B1.trans (hb.mono B1.size)
        clear hb O1 B1 x0 x1 x2 x3 x4 x5 x6 x7
        obtain ⟨x0, x1, x2, x3, x4, x5, x6, x7⟩ := O2
        go_wp2_with (first
    | (go_at_call 147; refine (rname_is _ _ _ (by assumption) (by assumption)).mono ?_; rintro e w' ⟨rfl, rfl⟩)
    | (go_at_call 148; refine (rseen_is _ _ _ (by assumption) (by assumption)).mono ?_; rintro e w' ⟨rfl, rfl⟩))
        go_ret
        exact ⟨rfl, B2⟩
      · have e2 := empty_no hv
        have hcode : delE (t * 4 + b) node other name.data.toList value.data.toList = 3 := by unfold delE; rw [if_neg hsh, if_neg (by rw [hn2]; simp), if_pos hv]
        rw [hcode]
        clear hsh hn2 hv
        clear hcode hln hlv
        go_enter Tryz.func72, Tryz.ntmps72
        go_wp2_with fail
        generalize w.alloc (.cells #[.int .i64 t, .int .i64 b, .int .i64 n, .int .u8 (k : Int), .int .i64 node, .int .i64 other, .string name, .string value] 31) = u at O0 B0 ⊢
        refine (stampError_ok _ _ _ s1 s2 s3 s4).mono ?_
        rintro e w1 ⟨rfl, hb⟩
        have O1 := O0.later hb
        have B1 : Below w.heap.size w w1 := B0.trans (hb.mono B0.size)
        clear hb O0 B0
        obtain ⟨x0, x1, x2, x3, x4, x5, x6, x7⟩ := id O1
        go_wp2_with fail
        refine (idOf_ok _ _ _ s1 s2 s3 s4).mono ?_
        rintro e w2 ⟨rfl, hb⟩
        have O2 := O1.later hb
        have B2 : Below w.heap.size w w2 := B1.trans (hb.mono B1.size)
        clear hb O1 B1 x0 x1 x2 x3 x4 x5 x6 x7
        obtain ⟨x0, x1, x2, x3, x4, x5, x6, x7⟩ := O2
        go_wp2_with (first
    | (go_at_call 147; refine (rname_is _ _ _ (by assumption) (by assumption)).mono ?_; rintro e w' ⟨rfl, rfl⟩)
    | (go_at_call 148; refine (rseen_is _ _ _ (by assumption) (by assumption)).mono ?_; rintro e w' ⟨rfl, rfl⟩))
        go_ret
        exact ⟨rfl, B2⟩
    · have e1 := empty_no hn2
      have hcode : delE (t * 4 + b) node other name.data.toList value.data.toList = 4 := by unfold delE; rw [if_neg hsh, if_pos hn2]
      rw [hcode]
      clear hsh hn2
      clear hcode hln hlv
      go_enter Tryz.func72, Tryz.ntmps72
      go_wp2_with fail
      generalize w.alloc (.cells #[.int .i64 t, .int .i64 b, .int .i64 n, .int .u8 (k : Int), .int .i64 node, .int .i64 other, .string name, .string value] 31) = u at O0 B0 ⊢
      refine (stampError_ok _ _ _ s1 s2 s3 s4).mono ?_
      rintro e w1 ⟨rfl, hb⟩
      have O1 := O0.later hb
      have B1 : Below w.heap.size w w1 := B0.trans (hb.mono B0.size)
      clear hb O0 B0
      obtain ⟨x0, x1, x2, x3, x4, x5, x6, x7⟩ := id O1
      go_wp2_with fail
      refine (idOf_ok _ _ _ s1 s2 s3 s4).mono ?_
      rintro e w2 ⟨rfl, hb⟩
      have O2 := O1.later hb
      have B2 : Below w.heap.size w w2 := B1.trans (hb.mono B1.size)
      clear hb O1 B1 x0 x1 x2 x3 x4 x5 x6 x7
      obtain ⟨x0, x1, x2, x3, x4, x5, x6, x7⟩ := O2
      go_wp2_with (first
    | (go_at_call 147; refine (rname_is _ _ _ (by assumption) (by assumption)).mono ?_; rintro e w' ⟨rfl, rfl⟩)
    | (go_at_call 148; refine (rseen_is _ _ _ (by assumption) (by assumption)).mono ?_; rintro e w' ⟨rfl, rfl⟩))
      go_ret
      exact ⟨rfl, B2⟩
set_option maxRecDepth 100000 in
set_option maxHeartbeats 4000000 in
theorem rop_s (t b n : Int) (k : Nat) (node other : Int) (name value : ByteArray) (w : World) (hsn : name.size ≤ 1000000) (hsv : value.size ≤ 1000000) (hst : 1 ≤ t ∧ t ≤ 1073741824 ∧ 0 ≤ b ∧ b < 4) (hn : 1 ≤ n ∧ n ≤ 400) (hk : k = 115) :
    Calls Tryz.prog 72 #[.agg #[.int .i64 t, .int .i64 b, .int .i64 n, .int .u8 (k : Int), .int .i64 node, .int .i64 other, .string name, .string value]] w fun e w' => e = .returned (.int .i64 ((opE t b n k node other name.data.toList value.data.toList : Nat) : Int)) ∧ Below w.heap.size w w' := by
  have O0 := OpAt.new w t b n k node other name value 31
  have B0 : Below w.heap.size w (w.alloc (.cells #[.int .i64 t, .int .i64 b, .int .i64 n, .int .u8 (k : Int), .int .i64 node, .int .i64 other, .string name, .string value] 31)) := (Below.refl _ _).alloc (Nat.le_refl _) _
  have hln := listLen name
  have hlv := listLen value
  obtain ⟨s1, s2, s3, s4⟩ := hst
  have d1 : decide (n < 1) = false := by simp; omega
  have d2 : decide (400 < n) = false := by simp; omega
  have hop : opE t b n k node other name.data.toList value.data.toList = setE (t * 4 + b) node other name.data.toList value.data.toList := by
    unfold opE kindE
    rw [if_pos (by omega)]
    rw [if_neg (show ¬ k = 109 by omega)]
    rw [if_neg (show ¬ k = 105 by omega)]
    rw [if_neg (show ¬ k = 100 by omega)]
    rw [if_pos hk]
  rw [hop]
  clear hop
  have r109 : ((k : Int) == 109) = false := by simp; omega
  have r105 : ((k : Int) == 105) = false := by simp; omega
  have r100 : ((k : Int) == 100) = false := by simp; omega
  have r115 : ((k : Int) == 115) = true := by simp; omega
  clear hk
  by_cases hsh : node < 0 ∨ t * 4 + b ≤ node ∨ other ≠ 0
  · have hc : (node < 0) ∨ (¬ (node < 0) ∧ t * 4 + b ≤ node) ∨ (¬ (node < 0) ∧ ¬ (t * 4 + b ≤ node) ∧ other ≠ 0) := by omega
    rcases hc with h | h | h
    · have hx := h
      have hcode : setE (t * 4 + b) node other name.data.toList value.data.toList = 3 := by unfold setE; rw [if_pos hsh]
      rw [hcode]
      have q0 : decide (node < 0) = true := by simp; omega
      clear hsh h hx
      clear hcode hln hlv
      go_enter Tryz.func72, Tryz.ntmps72
      go_wp2_with fail
      generalize w.alloc (.cells #[.int .i64 t, .int .i64 b, .int .i64 n, .int .u8 (k : Int), .int .i64 node, .int .i64 other, .string name, .string value] 31) = u at O0 B0 ⊢
      refine (stampError_ok _ _ _ s1 s2 s3 s4).mono ?_
      rintro e w1 ⟨rfl, hb⟩
      have O1 := O0.later hb
      have B1 : Below w.heap.size w w1 := B0.trans (hb.mono B0.size)
      clear hb O0 B0
      obtain ⟨x0, x1, x2, x3, x4, x5, x6, x7⟩ := id O1
      go_wp2_with fail
      refine (idOf_ok _ _ _ s1 s2 s3 s4).mono ?_
      rintro e w2 ⟨rfl, hb⟩
      have O2 := O1.later hb
      have B2 : Below w.heap.size w w2 := B1.trans (hb.mono B1.size)
      clear hb O1 B1 x0 x1 x2 x3 x4 x5 x6 x7
      obtain ⟨x0, x1, x2, x3, x4, x5, x6, x7⟩ := O2
      go_wp2_with (first
    | (go_at_call 147; refine (rname_is _ _ _ (by assumption) (by assumption)).mono ?_; rintro e w' ⟨rfl, rfl⟩)
    | (go_at_call 148; refine (rseen_is _ _ _ (by assumption) (by assumption)).mono ?_; rintro e w' ⟨rfl, rfl⟩))
      go_ret
      exact ⟨rfl, B2⟩
    · have hx := h
      have hcode : setE (t * 4 + b) node other name.data.toList value.data.toList = 3 := by unfold setE; rw [if_pos hsh]
      rw [hcode]
      have q0 : decide (node < 0) = false := by simp; omega
      have q1 : decide ((4 * t + b) ≤ node) = true := by simp; omega
      clear hsh h hx
      clear hcode hln hlv
      go_enter Tryz.func72, Tryz.ntmps72
      go_wp2_with fail
      generalize w.alloc (.cells #[.int .i64 t, .int .i64 b, .int .i64 n, .int .u8 (k : Int), .int .i64 node, .int .i64 other, .string name, .string value] 31) = u at O0 B0 ⊢
      refine (stampError_ok _ _ _ s1 s2 s3 s4).mono ?_
      rintro e w1 ⟨rfl, hb⟩
      have O1 := O0.later hb
      have B1 : Below w.heap.size w w1 := B0.trans (hb.mono B0.size)
      clear hb O0 B0
      obtain ⟨x0, x1, x2, x3, x4, x5, x6, x7⟩ := id O1
      go_wp2_with fail
      refine (idOf_ok _ _ _ s1 s2 s3 s4).mono ?_
      rintro e w2 ⟨rfl, hb⟩
      have O2 := O1.later hb
      have B2 : Below w.heap.size w w2 := B1.trans (hb.mono B1.size)
      clear hb O1 B1 x0 x1 x2 x3 x4 x5 x6 x7
      obtain ⟨x0, x1, x2, x3, x4, x5, x6, x7⟩ := O2
      go_wp2_with (first
    | (go_at_call 147; refine (rname_is _ _ _ (by assumption) (by assumption)).mono ?_; rintro e w' ⟨rfl, rfl⟩)
    | (go_at_call 148; refine (rseen_is _ _ _ (by assumption) (by assumption)).mono ?_; rintro e w' ⟨rfl, rfl⟩))
      go_ret
      exact ⟨rfl, B2⟩
    · have hx := h
      have hcode : setE (t * 4 + b) node other name.data.toList value.data.toList = 3 := by unfold setE; rw [if_pos hsh]
      rw [hcode]
      have q0 : decide (node < 0) = false := by simp; omega
      have q1 : decide ((4 * t + b) ≤ node) = false := by simp; omega
      have q2 : (other != 0) = true := by simp; omega
      clear hsh h hx
      clear hcode hln hlv
      go_enter Tryz.func72, Tryz.ntmps72
      go_wp2_with fail
      generalize w.alloc (.cells #[.int .i64 t, .int .i64 b, .int .i64 n, .int .u8 (k : Int), .int .i64 node, .int .i64 other, .string name, .string value] 31) = u at O0 B0 ⊢
      refine (stampError_ok _ _ _ s1 s2 s3 s4).mono ?_
      rintro e w1 ⟨rfl, hb⟩
      have O1 := O0.later hb
      have B1 : Below w.heap.size w w1 := B0.trans (hb.mono B0.size)
      clear hb O0 B0
      obtain ⟨x0, x1, x2, x3, x4, x5, x6, x7⟩ := id O1
      go_wp2_with fail
      refine (idOf_ok _ _ _ s1 s2 s3 s4).mono ?_
      rintro e w2 ⟨rfl, hb⟩
      have O2 := O1.later hb
      have B2 : Below w.heap.size w w2 := B1.trans (hb.mono B1.size)
      clear hb O1 B1 x0 x1 x2 x3 x4 x5 x6 x7
      obtain ⟨x0, x1, x2, x3, x4, x5, x6, x7⟩ := O2
      go_wp2_with (first
    | (go_at_call 147; refine (rname_is _ _ _ (by assumption) (by assumption)).mono ?_; rintro e w' ⟨rfl, rfl⟩)
    | (go_at_call 148; refine (rseen_is _ _ _ (by assumption) (by assumption)).mono ?_; rintro e w' ⟨rfl, rfl⟩))
      go_ret
      exact ⟨rfl, B2⟩
  · have q0 : decide (node < 0) = false := by simp; omega
    have q1 : decide ((4 * t + b) ≤ node) = false := by simp; omega
    have q2 : (other != 0) = false := by simp; omega
    cases hn2 : nameOk name.data.toList with
    | false =>
      have hcode : setE (t * 4 + b) node other name.data.toList value.data.toList = 4 := by unfold setE; rw [if_neg hsh, if_pos hn2]
      rw [hcode]
      clear hsh
      clear hcode hln hlv
      go_enter Tryz.func72, Tryz.ntmps72
      go_wp2_with fail
      generalize w.alloc (.cells #[.int .i64 t, .int .i64 b, .int .i64 n, .int .u8 (k : Int), .int .i64 node, .int .i64 other, .string name, .string value] 31) = u at O0 B0 ⊢
      refine (stampError_ok _ _ _ s1 s2 s3 s4).mono ?_
      rintro e w1 ⟨rfl, hb⟩
      have O1 := O0.later hb
      have B1 : Below w.heap.size w w1 := B0.trans (hb.mono B0.size)
      clear hb O0 B0
      obtain ⟨x0, x1, x2, x3, x4, x5, x6, x7⟩ := id O1
      go_wp2_with fail
      refine (idOf_ok _ _ _ s1 s2 s3 s4).mono ?_
      rintro e w2 ⟨rfl, hb⟩
      have O2 := O1.later hb
      have B2 : Below w.heap.size w w2 := B1.trans (hb.mono B1.size)
      clear hb O1 B1 x0 x1 x2 x3 x4 x5 x6 x7
      obtain ⟨x0, x1, x2, x3, x4, x5, x6, x7⟩ := O2
      go_wp2_with (first
    | (go_at_call 147; refine (rname_is _ _ _ (by assumption) (by assumption)).mono ?_; rintro e w' ⟨rfl, rfl⟩)
    | (go_at_call 148; refine (rseen_is _ _ _ (by assumption) (by assumption)).mono ?_; rintro e w' ⟨rfl, rfl⟩))
      go_ret
      exact ⟨rfl, B2⟩
    | true =>
      by_cases hv : 12 < value.size
      · have e2 : decide (12 < (value.size : Int)) = true := by simp; omega
        obtain ⟨sb, hp⟩ : ∃ sb, seenOk value.data.toList = sb := ⟨_, rfl⟩
        have hcode : setE (t * 4 + b) node other name.data.toList value.data.toList = 3 := by unfold setE; rw [if_neg hsh, if_neg (by rw [hn2]; simp), if_pos (.inl (by omega))]
        rw [hcode]
        clear hsh
        clear hcode hln hlv
        go_enter Tryz.func72, Tryz.ntmps72
        go_wp2_with fail
        generalize w.alloc (.cells #[.int .i64 t, .int .i64 b, .int .i64 n, .int .u8 (k : Int), .int .i64 node, .int .i64 other, .string name, .string value] 31) = u at O0 B0 ⊢
        refine (stampError_ok _ _ _ s1 s2 s3 s4).mono ?_
        rintro e w1 ⟨rfl, hb⟩
        have O1 := O0.later hb
        have B1 : Below w.heap.size w w1 := B0.trans (hb.mono B0.size)
        clear hb O0 B0
        obtain ⟨x0, x1, x2, x3, x4, x5, x6, x7⟩ := id O1
        go_wp2_with fail
        refine (idOf_ok _ _ _ s1 s2 s3 s4).mono ?_
        rintro e w2 ⟨rfl, hb⟩
        have O2 := O1.later hb
        have B2 : Below w.heap.size w w2 := B1.trans (hb.mono B1.size)
        clear hb O1 B1 x0 x1 x2 x3 x4 x5 x6 x7
        obtain ⟨x0, x1, x2, x3, x4, x5, x6, x7⟩ := O2
        go_wp2_with (first
    | (go_at_call 147; refine (rname_is _ _ _ (by assumption) (by assumption)).mono ?_; rintro e w' ⟨rfl, rfl⟩)
    | (go_at_call 148; refine (rseen_is _ _ _ (by assumption) (by assumption)).mono ?_; rintro e w' ⟨rfl, rfl⟩))
        go_ret
        exact ⟨rfl, B2⟩
      · have e2 : decide (12 < (value.size : Int)) = false := by simp; omega
        cases hp : seenOk value.data.toList with
        | false =>
          have hcode : setE (t * 4 + b) node other name.data.toList value.data.toList = 3 := by unfold setE; rw [if_neg hsh, if_neg (by rw [hn2]; simp), if_pos (.inr hp)]
          rw [hcode]
          clear hsh
          clear hcode hln hlv
          go_enter Tryz.func72, Tryz.ntmps72
          go_wp2_with fail
          generalize w.alloc (.cells #[.int .i64 t, .int .i64 b, .int .i64 n, .int .u8 (k : Int), .int .i64 node, .int .i64 other, .string name, .string value] 31) = u at O0 B0 ⊢
          refine (stampError_ok _ _ _ s1 s2 s3 s4).mono ?_
          rintro e w1 ⟨rfl, hb⟩
          have O1 := O0.later hb
          have B1 : Below w.heap.size w w1 := B0.trans (hb.mono B0.size)
          clear hb O0 B0
          obtain ⟨x0, x1, x2, x3, x4, x5, x6, x7⟩ := id O1
          go_wp2_with fail
          refine (idOf_ok _ _ _ s1 s2 s3 s4).mono ?_
          rintro e w2 ⟨rfl, hb⟩
          have O2 := O1.later hb
          have B2 : Below w.heap.size w w2 := B1.trans (hb.mono B1.size)
          clear hb O1 B1 x0 x1 x2 x3 x4 x5 x6 x7
          obtain ⟨x0, x1, x2, x3, x4, x5, x6, x7⟩ := O2
          go_wp2_with (first
    | (go_at_call 147; refine (rname_is _ _ _ (by assumption) (by assumption)).mono ?_; rintro e w' ⟨rfl, rfl⟩)
    | (go_at_call 148; refine (rseen_is _ _ _ (by assumption) (by assumption)).mono ?_; rintro e w' ⟨rfl, rfl⟩))
          go_ret
          exact ⟨rfl, B2⟩
        | true =>
          have hcode : setE (t * 4 + b) node other name.data.toList value.data.toList = 0 := by unfold setE; rw [if_neg hsh, if_neg (by rw [hn2]; simp), if_neg (by rw [hp, hlv]; simp; omega)]
          rw [hcode]
          clear hsh
          clear hcode hln hlv
          go_enter Tryz.func72, Tryz.ntmps72
          go_wp2_with fail
          generalize w.alloc (.cells #[.int .i64 t, .int .i64 b, .int .i64 n, .int .u8 (k : Int), .int .i64 node, .int .i64 other, .string name, .string value] 31) = u at O0 B0 ⊢
          refine (stampError_ok _ _ _ s1 s2 s3 s4).mono ?_
          rintro e w1 ⟨rfl, hb⟩
          have O1 := O0.later hb
          have B1 : Below w.heap.size w w1 := B0.trans (hb.mono B0.size)
          clear hb O0 B0
          obtain ⟨x0, x1, x2, x3, x4, x5, x6, x7⟩ := id O1
          go_wp2_with fail
          refine (idOf_ok _ _ _ s1 s2 s3 s4).mono ?_
          rintro e w2 ⟨rfl, hb⟩
          have O2 := O1.later hb
          have B2 : Below w.heap.size w w2 := B1.trans (hb.mono B1.size)
          clear hb O1 B1 x0 x1 x2 x3 x4 x5 x6 x7
          obtain ⟨x0, x1, x2, x3, x4, x5, x6, x7⟩ := O2
          go_wp2_with (first
    | (go_at_call 147; refine (rname_is _ _ _ (by assumption) (by assumption)).mono ?_; rintro e w' ⟨rfl, rfl⟩)
    | (go_at_call 148; refine (rseen_is _ _ _ (by assumption) (by assumption)).mono ?_; rintro e w' ⟨rfl, rfl⟩))
          go_ret
          exact ⟨rfl, B2⟩
set_option maxRecDepth 100000 in
set_option maxHeartbeats 4000000 in
theorem rop_o (t b n : Int) (k : Nat) (node other : Int) (name value : ByteArray) (w : World) (_hsn : name.size ≤ 1000000) (_hsv : value.size ≤ 1000000) (hst : 1 ≤ t ∧ t ≤ 1073741824 ∧ 0 ≤ b ∧ b < 4) (hn : 1 ≤ n ∧ n ≤ 400) (hk : k ≠ 109 ∧ k ≠ 105 ∧ k ≠ 100 ∧ k ≠ 115) :
    Calls Tryz.prog 72 #[.agg #[.int .i64 t, .int .i64 b, .int .i64 n, .int .u8 (k : Int), .int .i64 node, .int .i64 other, .string name, .string value]] w fun e w' => e = .returned (.int .i64 ((opE t b n k node other name.data.toList value.data.toList : Nat) : Int)) ∧ Below w.heap.size w w' := by
  have O0 := OpAt.new w t b n k node other name value 31
  have B0 : Below w.heap.size w (w.alloc (.cells #[.int .i64 t, .int .i64 b, .int .i64 n, .int .u8 (k : Int), .int .i64 node, .int .i64 other, .string name, .string value] 31)) := (Below.refl _ _).alloc (Nat.le_refl _) _
  have hln := listLen name
  have hlv := listLen value
  obtain ⟨s1, s2, s3, s4⟩ := hst
  have d1 : decide (n < 1) = false := by simp; omega
  have d2 : decide (400 < n) = false := by simp; omega
  have r109 : ((k : Int) == 109) = false := by simp; omega
  have r105 : ((k : Int) == 105) = false := by simp; omega
  have r100 : ((k : Int) == 100) = false := by simp; omega
  have r115 : ((k : Int) == 115) = false := by simp; omega
  have hcode : opE t b n k node other name.data.toList value.data.toList = 5 := by unfold opE kindE; rw [if_pos (by omega), if_neg hk.1, if_neg hk.2.1, if_neg hk.2.2.1, if_neg hk.2.2.2]
  rw [hcode]
  clear hk
  clear hcode hln hlv
  go_enter Tryz.func72, Tryz.ntmps72
  go_wp2_with fail
  generalize w.alloc (.cells #[.int .i64 t, .int .i64 b, .int .i64 n, .int .u8 (k : Int), .int .i64 node, .int .i64 other, .string name, .string value] 31) = u at O0 B0 ⊢
  refine (stampError_ok _ _ _ s1 s2 s3 s4).mono ?_
  rintro e w1 ⟨rfl, hb⟩
  have O1 := O0.later hb
  have B1 : Below w.heap.size w w1 := B0.trans (hb.mono B0.size)
  clear hb O0 B0
  obtain ⟨x0, x1, x2, x3, x4, x5, x6, x7⟩ := id O1
  go_wp2_with fail
  refine (idOf_ok _ _ _ s1 s2 s3 s4).mono ?_
  rintro e w2 ⟨rfl, hb⟩
  have O2 := O1.later hb
  have B2 : Below w.heap.size w w2 := B1.trans (hb.mono B1.size)
  clear hb O1 B1 x0 x1 x2 x3 x4 x5 x6 x7
  obtain ⟨x0, x1, x2, x3, x4, x5, x6, x7⟩ := O2
  go_wp2_with (first
    | (go_at_call 147; refine (rname_is _ _ _ (by assumption) (by assumption)).mono ?_; rintro e w' ⟨rfl, rfl⟩)
    | (go_at_call 148; refine (rseen_is _ _ _ (by assumption) (by assumption)).mono ?_; rintro e w' ⟨rfl, rfl⟩))
  go_ret
  exact ⟨rfl, B2⟩
theorem rop_any (t b n : Int) (k : Nat) (node other : Int) (name value : ByteArray) (w : World) (hsn : name.size ≤ 1000000) (hsv : value.size ≤ 1000000) :
    Calls Tryz.prog 72 #[.agg #[.int .i64 t, .int .i64 b, .int .i64 n, .int .u8 (k : Int), .int .i64 node, .int .i64 other, .string name, .string value]] w fun e w' => e = .returned (.int .i64 ((opE t b n k node other name.data.toList value.data.toList : Nat) : Int)) ∧ Below w.heap.size w w' := by
  by_cases hst : 1 ≤ t ∧ t ≤ 1073741824 ∧ 0 ≤ b ∧ b < 4
  · by_cases hn : 1 ≤ n ∧ n ≤ 400
    · by_cases h1 : k = 109
      · exact rop_m t b n k node other name value w hsn hsv hst hn h1
      · by_cases h2 : k = 105
        · exact rop_i t b n k node other name value w hsn hsv hst hn h2
        · by_cases h3 : k = 100
          · exact rop_d t b n k node other name value w hsn hsv hst hn h3
          · by_cases h4 : k = 115
            · exact rop_s t b n k node other name value w hsn hsv hst hn h4
            · exact rop_o t b n k node other name value w hsn hsv hst hn ⟨h1, h2, h3, h4⟩
    · exact rop_n t b n k node other name value w hsn hsv hst (by omega)
  · exact rop_stamp t b n k node other name value w hsn hsv hst
end Go.Proofs.YtcggmagdndhkbaaGreatDoor
end
