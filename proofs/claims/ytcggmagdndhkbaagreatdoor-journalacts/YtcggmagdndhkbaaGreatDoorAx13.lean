import Derived.Test.YtcggmagdndhkbaaGreatDoorAx01
import Derived.Test.YtcggmagdndhkbaaGreatDoorAx04
import Derived.Test.YtcggmagdndhkbaaGreatDoorAx07
import Derived.Test.YtcggmagdndhkbaaGreatDoorAx10
import Derived.Test.YtcggmagdndhkbaaGreatDoorAx12
import Derived.Deep.QuietTactic
import Derived.BigQuiet
import Derived.Maps.AppendAt
import Derived.Laws.AppendOwn
import Derived.Deep.AppendLies
section
namespace Go.Proofs.YtcggmagdndhkbaaGreatDoor
open Go.RowKit
theorem hexCut (x : Int) (w : World) (h0 : 0 ≤ x) (h1 : x < 16) : (Instr.slice 9 (.string ⟨#[48, 49, 50, 51, 52, 53, 54, 55, 56, 57, 97, 98, 99, 100, 101, 102]⟩) (some (.int .i64 x)) (some (.int .i64 (x + 1))) none).run Tryz.prog w = .ok (.string ⟨[hexd x.toNat].toArray⟩) w := by
  rcases (by omega : x = 0 ∨ x = 1 ∨ x = 2 ∨ x = 3 ∨ x = 4 ∨ x = 5 ∨ x = 6 ∨ x = 7 ∨ x = 8 ∨ x = 9 ∨ x = 10 ∨ x = 11 ∨ x = 12 ∨ x = 13 ∨ x = 14 ∨ x = 15) with rfl | rfl | rfl | rfl | rfl | rfl | rfl | rfl | rfl | rfl | rfl | rfl | rfl | rfl | rfl | rfl
  all_goals kernel_rfl
theorem cutHigh (c : UInt8) (w : World) : (Instr.slice 9 (.string ⟨#[48, 49, 50, 51, 52, 53, 54, 55, 56, 57, 97, 98, 99, 100, 101, 102]⟩) (some (.int .i64 ((c.toNat : Int) / 16))) (some (.int .i64 ((c.toNat : Int) / 16 + 1))) none).run Tryz.prog w = .ok (.string ⟨[hexd (c.toNat / 16)].toArray⟩) w := by
  have := c.toNat_lt
  have e := hexCut ((c.toNat : Int) / 16) w (by omega) (by omega)
  rw [show ((c.toNat : Int) / 16).toNat = c.toNat / 16 by omega] at e
  exact e
theorem cutLow (c : UInt8) (w : World) : (Instr.slice 9 (.string ⟨#[48, 49, 50, 51, 52, 53, 54, 55, 56, 57, 97, 98, 99, 100, 101, 102]⟩) (some (.int .i64 ((c.toNat : Int) % 16))) (some (.int .i64 ((c.toNat : Int) % 16 + 1))) none).run Tryz.prog w = .ok (.string ⟨[hexd (c.toNat % 16)].toArray⟩) w := by
  have := c.toNat_lt
  have e := hexCut ((c.toNat : Int) % 16) w (by omega) (by omega)
  rw [show ((c.toNat : Int) % 16).toNat = c.toNat % 16 by omega] at e
  exact e
set_option maxRecDepth 100000 in
set_option maxHeartbeats 2000000 in
theorem hex_any (s : ByteArray) (w : World) (hs : s.size ≤ 1000000) :
    Calls Tryz.prog 159 #[.string s] w fun e w' => e = .returned (.string ⟨(hexL s.data.toList).toArray⟩) ∧ Below w.heap.size w w' := by
  generalize hR : hexL s.data.toList = R
  have HR := Lib.hid hR
  clear hR
  go_enter Tryz.func159, Tryz.ntmps159
  go_wp2
  go_loopw [3, 4] (fun v i wr => ∃ (k : Nat) (done : List UInt8), k ≤ s.size ∧ done.length = 2 * k ∧ i = .int .i64 (k : Nat) ∧ v = .string ⟨done.toArray⟩ ∧ Below w.heap.size w wr ∧ Hid (done ++ hexL (s.data.toList.drop k) = R)) (fun _ i _ => s.size - (intOf i).toNat)
  case atStart => exact ⟨0, [], Nat.zero_le _, rfl, rfl, rfl, Below.refl _ _, Lib.hid (by simpa using HR.out)⟩
  case round =>
    obtain ⟨k, done, hk, hdl, rfl, rfl, hB, HD⟩ := hrel
    have HL := Lib.hid hdl
    by_cases hlt : k < s.size
    · have hdt : decide ((k : Int) < (s.size : Int)) = true := by simp; omega
      have HE := Lib.hid (hex_step s k hlt done R HD.out)
      have hc := s[k].toNat_lt
      have x1 := cutHigh s[k]
      have x2 := cutLow s[k]
      have a1 := fun w => add_texts done [hexd (s[k].toNat / 16)] (by simp; omega) w
      have a2 := fun w => add_texts (done ++ [hexd (s[k].toNat / 16)]) [hexd (s[k].toNat % 16)] (by simp; omega) w
      clear HD hdl
      generalize hc1 : hexd (s[k].toNat / 16) = c1 at x1 HE a1 a2
      generalize hc2 : hexd (s[k].toNat % 16) = c2 at x2 HE a2
      clear hc1 hc2
      have i1 : IntKind.i64.wrap ((s[k].toNat : Int) / 16 + 1) = (s[k].toNat : Int) / 16 + 1 := by rw [IntKind.wrap_i64]; omega
      have i2 : IntKind.i64.wrap ((s[k].toNat : Int) % 16 + 1) = (s[k].toNat : Int) % 16 + 1 := by rw [IntKind.wrap_i64]; omega
      go_wp2_with fail
      go_quiet (fail)
      go_wp2
      refine ⟨⟨k + 1, done ++ [c1, c2], by omega, by have := HL.out; simp; omega, by go_num, rfl, below_draws hB _, HE⟩, ?_⟩
      simp [intOf]
      omega
    · have hdt : decide ((k : Int) < (s.size : Int)) = false := by simp; omega
      have HE : Hid (R = done) := Lib.hid (by have := HD.out; rw [show k = s.size by omega, dropEnd] at this; simpa [hexL] using this.symm)
      go_wp2
      go_ret
      exact ⟨by rw [HE.out]; rfl, hB⟩
theorem hexI_num : ∀ c : Fin 256, hexI (UInt8.ofNat c.1) = if 48 ≤ (c.1 : Int) ∧ (c.1 : Int) ≤ 57 then (c.1 : Int) - 48 else if 97 ≤ (c.1 : Int) ∧ (c.1 : Int) ≤ 102 then (c.1 : Int) - 97 + 10 else -1 := by decide +kernel
set_option maxHeartbeats 1000000 in
theorem digit_is (c : UInt8) (z : Int) (w : World) (hz : hexI c = z) : Calls Tryz.prog 167 #[.int .u8 (c.toNat : Int)] w fun e w' => e = .returned (.int .i64 z) ∧ w' = w := by
  have hc := c.toNat_lt
  have hv : z = if 48 ≤ (c.toNat : Int) ∧ (c.toNat : Int) ≤ 57 then (c.toNat : Int) - 48 else if 97 ≤ (c.toNat : Int) ∧ (c.toNat : Int) ≤ 102 then (c.toNat : Int) - 97 + 10 else -1 := by
    have e := hexI_num ⟨c.toNat, c.toNat_lt⟩
    simp only [UInt8.ofNat_toNat] at e
    rw [← hz, e]
  clear hz
  have hx0 : 0 ≤ (c.toNat : Int) := by omega
  have hx1 : (c.toNat : Int) < 256 := by omega
  generalize (c.toNat : Int) = x at hv hx0 hx1 ⊢
  clear hc
  rcases (by omega : x < 48 ∨ (48 ≤ x ∧ x ≤ 57) ∨ (57 < x ∧ x < 97) ∨ (97 ≤ x ∧ x ≤ 102) ∨ 102 < x) with h | ⟨h, h'⟩ | ⟨h, h'⟩ | ⟨h, h'⟩ | h
  · rw [if_neg (by omega), if_neg (by omega)] at hv
    subst hv
    have d1 : decide (48 ≤ x) = false := by simp; omega
    have d2 : decide (97 ≤ x) = false := by simp; omega
    go_enter Tryz.func167, Tryz.ntmps167
    go_wp2
    go_ret
    exact ⟨rfl, rfl⟩
  · rw [if_pos (by omega)] at hv
    subst hv
    go_enter Tryz.func167, Tryz.ntmps167
    go_wp2
    go_ret
    exact ⟨rfl, rfl⟩
  · rw [if_neg (by omega), if_neg (by omega)] at hv
    subst hv
    have d1 : decide (x ≤ 57) = false := by simp; omega
    have d2 : decide (97 ≤ x) = false := by simp; omega
    go_enter Tryz.func167, Tryz.ntmps167
    go_wp2
    go_ret
    exact ⟨rfl, rfl⟩
  · rw [if_neg (by omega), if_pos (by omega)] at hv
    subst hv
    have d1 : decide (x ≤ 57) = false := by simp; omega
    go_enter Tryz.func167, Tryz.ntmps167
    go_wp2
    go_ret
    exact ⟨rfl, rfl⟩
  · rw [if_neg (by omega), if_neg (by omega)] at hv
    subst hv
    have d1 : decide (x ≤ 57) = false := by simp; omega
    have d2 : decide (x ≤ 102) = false := by simp; omega
    go_enter Tryz.func167, Tryz.ntmps167
    go_wp2
    go_ret
    exact ⟨rfl, rfl⟩
end Go.Proofs.YtcggmagdndhkbaaGreatDoor
end
section
set_option linter.unusedVariables false
set_option linter.unusedSimpArgs false
namespace Go.Proofs.YtcggmagdndhkbaaGreatDoor
open Go Go.RowKit Go.Lib Go.Sort
def refN (b c : Nat) : Nat → Nat
  | 0 => c
  | j + 1 => if (refN b c j ^^^ b / 2 ^ j) % 2 = 1 then (refN b c j / 2) ^^^ 3988292384 else refN b c j / 2
theorem refN_succ (b c j : Nat) : refN b c (j + 1) = if (refN b c j ^^^ b / 2 ^ j) % 2 = 1 then (refN b c j / 2) ^^^ 3988292384 else refN b c j / 2 := rfl
theorem xor_half (a b : Nat) : (a ^^^ b) / 2 = a / 2 ^^^ b / 2 := by
  have h := Nat.shiftRight_xor_distrib (a := a) (b := b) (i := 1)
  simpa [Nat.shiftRight_eq_div_pow] using h
theorem ref_div (b c : Nat) : ∀ j, divN j (c ^^^ b) = refN b c j ^^^ b / 2 ^ j
  | 0 => by simp [divN, refN]
  | j + 1 => by
    have h2 : b / 2 ^ (j + 1) = b / 2 ^ j / 2 := by rw [Nat.pow_succ, Nat.div_div_eq_div_mul]
    have h3 : refN b c (j + 1) = if (refN b c j ^^^ b / 2 ^ j) % 2 = 1 then (refN b c j / 2) ^^^ 3988292384 else refN b c j / 2 := rfl
    rw [divN_succ, ref_div b c j, h2, h3]
    generalize refN b c j = r
    unfold div1
    rw [xor_half]
    split
    · rw [Nat.xor_assoc, Nat.xor_assoc, Nat.xor_comm (b / 2 ^ j / 2)]
    · rfl
theorem refN_lt (b c : Nat) (h : c < 4294967296) : ∀ j, refN b c j < 4294967296
  | 0 => h
  | j + 1 => by
    have := refN_lt b c h j
    unfold refN
    split
    · exact Nat.xor_lt_two_pow (n := 32) (by omega) (by omega)
    · omega
theorem ref_eight (b : UInt8) (c : Nat) : refN b.toNat c 8 = divN 8 (c ^^^ b.toNat) := by
  have := b.toNat_lt
  rw [ref_div, show b.toNat / 2 ^ 8 = 0 by omega, Nat.xor_zero]
theorem digB_toNat {u : Nat} (h : u ≤ 255) : (digB u).toNat = u := by
  unfold digB
  simp
  omega
theorem hex_four (c : Nat) (h : c < 4294967296) : hexL [digB (c / 16777216), digB (c / 65536 % 256), digB (c / 256 % 256), digB (c % 256)] = digs 8 c := by
  simp only [hexL]
  rw [digB_toNat (by omega), digB_toNat (by omega), digB_toNat (by omega), digB_toNat (by omega)]
  simp only [digs, List.nil_append, List.cons_append, List.append_assoc]
  rw [show c / 16777216 / 16 = c / 16 / 16 / 16 / 16 / 16 / 16 / 16 % 16 by omega, show c / 16777216 % 16 = c / 16 / 16 / 16 / 16 / 16 / 16 % 16 by omega, show c / 65536 % 256 / 16 = c / 16 / 16 / 16 / 16 / 16 % 16 by omega, show c / 65536 % 256 % 16 = c / 16 / 16 / 16 / 16 % 16 by omega, show c / 256 % 256 / 16 = c / 16 / 16 / 16 % 16 by omega, show c / 256 % 256 % 16 = c / 16 / 16 % 16 by omega, show c % 256 / 16 = c / 16 % 16 by omega, show c % 256 % 16 = c % 16 by omega]
theorem i64_xor_nat (a b : Nat) (ha : a < 4294967296) (hb : b < 4294967296) : bits .xor .i64 (a : Int) (b : Int) = ((a ^^^ b : Nat) : Int) := by
  have hx : a ^^^ b < 2 ^ 32 := Nat.xor_lt_two_pow (by omega) (by omega)
  show IntKind.i64.wrap ((BitVec.ofInt 64 (a : Int) ^^^ BitVec.ofInt 64 (b : Int)).toNat : Int) = _
  rw [BitVec.toNat_xor, ofInt_u64 a (by omega), ofInt_u64 b (by omega), IntKind.wrap_i64]
  omega
set_option maxRecDepth 100000 in
set_option maxHeartbeats 4000000 in
theorem crc_any (s : ByteArray) (w : World) (hs : s.size ≤ 1000000) :
    Calls Tryz.prog 158 #[.string s] w fun e w' => e = .returned (.string ⟨(digs 8 (crcOf s.data.toList)).toArray⟩) ∧ Below w.heap.size w w' := by
  obtain ⟨w0, hw0⟩ : ∃ w0, w0 = w := ⟨_, rfl⟩
  subst hw0
  obtain ⟨x, hx⟩ : ∃ x : Nat, Aside (x = crcOf s.data.toList) := ⟨_, rfl⟩
  rw [← hx.out]
  have hx32 : x < 4294967296 := by rw [hx.out]; exact crcOf_lt _
  go_enter Tryz.func158, Tryz.ntmps158
  go_wp2
  go_loopg [3, 4] s.size (fun kx s3 s4 wr => ∃ (j v : Nat), s3 = .int .i64 (v : Int) ∧ s4 = .int .i64 (j : Int) ∧ j ≤ s.size ∧ s.size - j ≤ kx ∧ v < 4294967296 ∧ Aside (v = crcL 4294967295 (s.data.toList.take j) ∧ wr = w0))
  case atStart => exact ⟨0, 4294967295, rfl, rfl, by omega, by omega, by omega, rfl, rfl⟩
  case round =>
    obtain ⟨j, c, rfl, rfl, hj, hjx, hc, A⟩ := hrel
    by_cases hlt : j < s.size
    · have d1 : decide ((j : Int) < (s.size : Int)) = true := by simp; omega
      have d1n : decide (j < s.size) = true := by simp; omega
      obtain ⟨u, hu⟩ : ∃ u, u = wr := ⟨_, rfl⟩
      subst hu
      obtain ⟨b, hb⟩ : ∃ b : Nat, Aside (b = s[j].toNat) := ⟨s[j].toNat, rfl⟩
      have hb256 : b < 256 := by rw [hb.out]; exact s[j].toNat_lt
      have hbs : (s[j].toNat : Int) = (b : Int) := by rw [hb.out]
      go_wp2
      go_loopg [3, 5] 8 (fun kx s3 s5 wr => ∃ (k v : Nat), s3 = .int .i64 (v : Int) ∧ s5 = .int .i64 (k : Int) ∧ k ≤ 8 ∧ 8 - k ≤ kx ∧ v < 4294967296 ∧ Aside (v = refN b c k ∧ wr = u))
      case atStart => exact ⟨0, c, rfl, rfl, by omega, by omega, hc, rfl, rfl⟩
      case round =>
        obtain ⟨k, v, rfl, rfl, hk, hkx, hv, A2⟩ := hrel
        by_cases hkl : k < 8
        · have d2 : decide ((k : Int) < (8 : Int)) = true := by simp; omega
          have d2n : decide (k < 8) = true := by simp; omega
          obtain ⟨q, hq⟩ : ∃ q : Nat, Aside (q = b / 2 ^ k) := ⟨_, rfl⟩
          have hq32 : q < 256 := by rw [hq.out]; exact Nat.lt_of_le_of_lt (Nat.div_le_self _ _) hb256
          have hcv : IntKind.u64.wrap (k : Int) = (k : Int) := by rw [IntKind.wrap_u64]; omega
          have hk0 : (0 : Int) ≤ (k : Int) := by omega
          have hk64 : (k : Int) ≤ 64 := by omega
          have hsh : (b : Int) / 2 ^ ((k : Int)).toNat = (q : Int) := by rw [hq.out, Int.toNat_natCast]; exact_mod_cast rfl
          have hsh2 : (b : Int) / 2 ^ k = (q : Int) := by rw [hq.out]; exact_mod_cast rfl
          have hsx : (s[j].toNat : Int) / 2 ^ ((k : Int)).toNat = (q : Int) := by rw [hbs]; exact hsh
          have hsx2 : (s[j].toNat : Int) / 2 ^ k = (q : Int) := by rw [hbs]; exact hsh2
          have hxo := i64_xor_nat v q hv (by omega)
          obtain ⟨y, hy⟩ : ∃ y : Nat, Aside (y = v ^^^ q) := ⟨_, rfl⟩
          rw [← hy.out] at hxo
          obtain ⟨hf, hhf⟩ : ∃ hf : Nat, Aside (hf = v / 2) := ⟨_, rfl⟩
          have hh : (v : Int) / 2 = (hf : Int) := by rw [hhf.out]; omega
          have hht : Int.tdiv (v : Int) 2 = (hf : Int) := by rw [hhf.out, Int.tdiv_eq_ediv_of_nonneg (by omega)]; omega
          by_cases hbit : y % 2 = 1
          · have hm : (y : Int) % 2 = 1 := by omega
            have hmt : Int.tmod (y : Int) 2 = 1 := by rw [Int.tmod_eq_emod_of_nonneg (by omega)]; omega
            obtain ⟨v', hv'⟩ : ∃ v' : Nat, Aside (v' = hf ^^^ 3988292384) := ⟨_, rfl⟩
            have hx2 : bits .xor .i64 (hf : Int) 3988292384 = (v' : Int) := by rw [hv'.out]; exact i64_xor_nat hf 3988292384 (by rw [hhf.out]; omega) (by omega)
            have HN : Aside (v' = refN b c (k + 1) ∧ wr = u ∧ v' < 4294967296) := by
              have e : v' = refN b c (k + 1) := by
                rw [hy.out, hq.out, A2.out.1] at hbit
                rw [hv'.out, hhf.out, A2.out.1, refN_succ, if_pos hbit]
              exact ⟨e, A2.out.2, by rw [e]; exact refN_lt b c hc _⟩
            clear A2 hsh hsx hsx2 hbit
            go_wp2
            go_roundg (8 - (k + 1))
            case measure => omega
            case rel => exact ⟨k + 1, v', rfl, by go_num, by omega, Nat.le_refl _, HN.out.2.2, HN.out.1, HN.out.2.1⟩
          · have hm : (y : Int) % 2 = 0 := by omega
            have hmt : Int.tmod (y : Int) 2 = 0 := by rw [Int.tmod_eq_emod_of_nonneg (by omega)]; omega
            have HN : Aside (hf = refN b c (k + 1) ∧ wr = u ∧ hf < 4294967296) := by
              have e : hf = refN b c (k + 1) := by
                rw [hy.out, hq.out, A2.out.1] at hbit
                rw [hhf.out, A2.out.1, refN_succ, if_neg hbit]
              exact ⟨e, A2.out.2, by rw [e]; exact refN_lt b c hc _⟩
            clear A2 hsh hsx hsx2 hbit
            go_wp2
            go_roundg (8 - (k + 1))
            case measure => omega
            case rel => exact ⟨k + 1, hf, rfl, by go_num, by omega, Nat.le_refl _, HN.out.2.2, HN.out.1, HN.out.2.1⟩
        · have d2 : decide ((k : Int) < (8 : Int)) = false := by simp; omega
          have d2n : decide (k < 8) = false := by simp; omega
          have HN : Aside (v = crcL 4294967295 (s.data.toList.take (j + 1)) ∧ wr = w0) := by
            have e8 : k = 8 := by omega
            have e1 := A2.out.1
            rw [e8, hb.out, ref_eight] at e1
            refine ⟨?_, A2.out.2.trans A.out.2⟩
            rw [← take_byte s j hlt, crcL_snoc, ← A.out.1]
            exact e1
          clear A A2
          go_wp2
          go_roundg (s.size - (j + 1))
          case measure => omega
          case rel => exact ⟨j + 1, v, rfl, by go_num, by omega, Nat.le_refl _, hv, HN.out⟩
    · have d1 : decide ((j : Int) < (s.size : Int)) = false := by simp; omega
      have d1n : decide (j < s.size) = false := by simp; omega
      have hxo : bits .xor .i64 (c : Int) 4294967295 = (x : Int) := by
        have h1 := i64_xor_nat c 4294967295 hc (by omega)
        rw [Nat.xor_comm, xor_all hc] at h1
        have h2 := A.out.1
        rw [List.take_of_length_le (by simp; omega)] at h2
        rw [hx.out]
        unfold crcOf
        rw [← h2]
        exact h1
      have HW : Aside (wr = w0) := A.out.2
      obtain rfl : wr = w0 := HW.out
      clear A HW
      obtain ⟨x1, hx1⟩ : ∃ x1 : Nat, Aside (x1 = x / 16777216) := ⟨_, rfl⟩
      obtain ⟨y2, hy2⟩ : ∃ y2 : Nat, Aside (y2 = x / 65536) := ⟨_, rfl⟩
      obtain ⟨x2, hx2⟩ : ∃ x2 : Nat, Aside (x2 = y2 % 256) := ⟨_, rfl⟩
      obtain ⟨y3, hy3⟩ : ∃ y3 : Nat, Aside (y3 = x / 256) := ⟨_, rfl⟩
      obtain ⟨x3, hx3⟩ : ∃ x3 : Nat, Aside (x3 = y3 % 256) := ⟨_, rfl⟩
      obtain ⟨x4, hx4⟩ : ∃ x4 : Nat, Aside (x4 = x % 256) := ⟨_, rfl⟩
      have l1 : x1 ≤ 255 := by rw [hx1.out]; exact Nat.le_of_lt_succ (Nat.div_lt_of_lt_mul (by omega))
      have l2 : x2 ≤ 255 := by rw [hx2.out]; exact Nat.le_of_lt_succ (Nat.mod_lt _ (by omega))
      have l3 : x3 ≤ 255 := by rw [hx3.out]; exact Nat.le_of_lt_succ (Nat.mod_lt _ (by omega))
      have l4 : x4 ≤ 255 := by rw [hx4.out]; exact Nat.le_of_lt_succ (Nat.mod_lt _ (by omega))
      have L4 : Aside (x2 ≤ 255 ∧ x3 ≤ 255 ∧ x4 ≤ 255) := ⟨l2, l3, l4⟩
      have b1 := byte_any x1 wr l1
      have q1 : (x : Int) / 16777216 = (x1 : Int) := by have := hx1.out; omega
      have q2 : (x : Int) / 65536 = (y2 : Int) := by have := hy2.out; omega
      have q2m : (y2 : Int) % 256 = (x2 : Int) := by have := hx2.out; omega
      have q3 : (x : Int) / 256 = (y3 : Int) := by have := hy3.out; omega
      have q3m : (y3 : Int) % 256 = (x3 : Int) := by have := hx3.out; omega
      have q4 : (x : Int) % 256 = (x4 : Int) := by have := hx4.out; omega
      have t1 : Int.tdiv (x : Int) 16777216 = (x1 : Int) := by rw [Int.tdiv_eq_ediv_of_nonneg (by omega)]; exact q1
      have t2 : Int.tdiv (x : Int) 65536 = (y2 : Int) := by rw [Int.tdiv_eq_ediv_of_nonneg (by omega)]; exact q2
      have t2m : Int.tmod (y2 : Int) 256 = (x2 : Int) := by rw [Int.tmod_eq_emod_of_nonneg (by omega)]; exact q2m
      have t3 : Int.tdiv (x : Int) 256 = (y3 : Int) := by rw [Int.tdiv_eq_ediv_of_nonneg (by omega)]; exact q3
      have t3m : Int.tmod (y3 : Int) 256 = (x3 : Int) := by rw [Int.tmod_eq_emod_of_nonneg (by omega)]; exact q3m
      have t4 : Int.tmod (x : Int) 256 = (x4 : Int) := by rw [Int.tmod_eq_emod_of_nonneg (by omega)]; exact q4
      have z1 : wrap64 (x1 : Int) = (x1 : Int) := by unfold wrap64; have := hx1.out; omega
      have z2 : wrap64 (y2 : Int) = (y2 : Int) := by unfold wrap64; have := hy2.out; omega
      have z3 : wrap64 (y3 : Int) = (y3 : Int) := by unfold wrap64; have := hy3.out; omega
      obtain ⟨F1, f1, f1s, a1⟩ := add_two ⟨#[digB x1]⟩ ⟨#[digB x2]⟩ (by show 1 + 1 ≤ _; omega)
      have g1 : F1.size = 2 := f1s
      obtain ⟨F2, f2, f2s, a2⟩ := add_two F1 ⟨#[digB x3]⟩ (by show F1.size + 1 ≤ _; omega)
      have g2 : F2.size = 3 := by rw [f2s, g1]; rfl
      obtain ⟨F3, f3, f3s, a3⟩ := add_two F2 ⟨#[digB x4]⟩ (by show F2.size + 1 ≤ _; omega)
      have g3 : F3.size = 4 := by rw [f3s, g2]; rfl
      have HF : Aside (hexL F3.data.toList = digs 8 x) := by
        show hexL F3.data.toList = _
        rw [f3, f2, f1, ← hex_four x hx32]
        have e2 : x2 = x / 65536 % 256 := by rw [hx2.out, hy2.out]
        have e3 : x3 = x / 256 % 256 := by rw [hx3.out, hy3.out]
        rw [hx1.out, e2, e3, hx4.out]
        rfl
      have H4 : Aside (x2 ≤ 255 ∧ x3 ≤ 255 ∧ x4 ≤ 255 ∧ F3.size ≤ 100) := ⟨L4.out.1, L4.out.2.1, L4.out.2.2, by rw [g3]; decide⟩
      clear f1 f2 f3 f1s f2s f3s g1 g2 g3 hx32 l1 l2 l3 l4
      go_wp2_with fail
      refine b1.mono ?_
      clear b1
      rintro e w1 ⟨rfl, hb1⟩
      have b2 := byte_any x2 w1 H4.out.1
      have B1 : Aside (Below wr.heap.size wr w1) := hb1
      clear hb1
      go_wp2_with fail
      refine b2.mono ?_
      clear b2
      rintro e w2 ⟨rfl, hb2⟩
      have b3 := byte_any x3 w2 H4.out.2.1
      have B2 : Aside (Below wr.heap.size wr w2) := B1.out.trans (hb2.mono B1.out.size)
      clear hb2
      go_wp2_with fail
      refine b3.mono ?_
      clear b3
      rintro e w3 ⟨rfl, hb3⟩
      have b4 := byte_any x4 w3 H4.out.2.2.1
      have B3 : Aside (Below wr.heap.size wr w3) := B2.out.trans (hb3.mono B2.out.size)
      clear hb3
      go_wp2_with fail
      refine b4.mono ?_
      clear b4
      rintro e w4 ⟨rfl, hb4⟩
      have hhx := hex_any F3 w4 (by have := H4.out.2.2.2; omega)
      rw [HF.out] at hhx
      have B4 : Aside (Below wr.heap.size wr w4) := B3.out.trans (hb4.mono B3.out.size)
      clear hb4
      go_wp2_with fail
      refine hhx.mono ?_
      clear hhx
      rintro e w5 ⟨rfl, hb5⟩
      have B5 : Aside (Below wr.heap.size wr w5) := B4.out.trans (hb5.mono B4.out.size)
      clear hb5
      go_wp2
      go_ret
      exact ⟨rfl, B5.out⟩
set_option maxRecDepth 100000 in
set_option maxHeartbeats 2000000 in
theorem refRecord_any (s : ByteArray) (w : World) (hs : s.size ≤ 1000000) :
    Calls Tryz.prog 96 #[.string s] w fun e w' => ∃ r : ByteArray, r.data.toList = recL s.data.toList ∧ e = .returned (.string r) ∧ Below w.heap.size w w' := by
  have hst := crc_any s w hs
  obtain ⟨D, hD⟩ : ∃ D : ByteArray, Aside (D = ⟨(digs 8 (crcOf s.data.toList)).toArray⟩) := ⟨_, rfl⟩
  rw [← hD.out] at hst
  have hDs : D.size = 8 := by rw [hD.out]; simp [ByteArray.size, digs_len]
  obtain ⟨E1, h1, h1s, a1⟩ := add_two s ⟨#[35]⟩ (by show s.size + 1 ≤ _; omega)
  have hE1s : E1.size = s.size + 1 := h1s
  obtain ⟨E2, h2, h2s, a2⟩ := add_two E1 D (by omega)
  obtain ⟨E3, h3, h3s, a3⟩ := add_two E2 ⟨#[10]⟩ (by show E2.size + 1 ≤ _; omega)
  have HE : Aside (E3.data.toList = recL s.data.toList) := by
    show _ = _
    rw [h3, h2, h1, hD.out]
    unfold recL
    simp
  clear h1 h2 h3 h1s h2s h3s hE1s hDs
  go_enter Tryz.func96, Tryz.ntmps96
  go_wp2_with fail
  refine hst.mono ?_
  clear hst
  rintro e w1 ⟨rfl, hb⟩
  have H : Aside (Below w.heap.size w w1) := hb
  clear hb
  go_wp2
  go_ret
  exact ⟨E3, HE.out, rfl, H.out⟩
end Go.Proofs.YtcggmagdndhkbaaGreatDoor
end
section
namespace Go.Proofs.YtcggmagdndhkbaaGreatDoor
open Go.RowKit
theorem infoStr : (Tryz.prog.info? 9).map (fun i => (i.zero, i.size, i.bytes)) = some (some (.string ⟨#[]⟩), 1, 16) := by kernel_rfl
def curL (s : ByteArray) (fr k : Nat) : List UInt8 := (s.data.toList.drop fr).take (k - fr)
theorem cur_next (s : ByteArray) (fr k : Nat) (h : fr ≤ k) (hk : k < s.size) : curL s fr (k + 1) = curL s fr k ++ [s[k]] := by
  unfold curL
  have hb := byteAt s k hk
  have e : k + 1 - fr = (k - fr) + 1 := by omega
  rw [e, List.take_add_one, List.getElem?_drop, show fr + (k - fr) = k by omega]
  congr 1
  have : s.data.toList[k]? = some s[k] := by
    have := congrArg List.head? hb
    simpa [List.head?_drop] using this
  rw [this]; rfl
theorem cur_self (s : ByteArray) (k : Nat) : curL s k k = [] := by simp [curL]
theorem cur_extract (s : ByteArray) (fr k : Nat) (_h : fr ≤ k) : (s.extract fr k).data.toList = curL s fr k := by
  rw [Lib.extract_data]
  rfl
structure CutPS (s : ByteArray) (w0 : World) (o : Value) (k fr : Nat) (P : List ByteArray) (w : World) : Prop where
  own : w.ownsRow w0.heap.size 9 1 o P.length (P.map Value.string)
  below : Below w0.heap.size w0 w
  len : P.length ≤ k
  cut : P.map (·.data.toList) ++ hd (curL s fr k) (cutP 124 (s.data.toList.drop k)) = cutP 124 s.data.toList
theorem CutPS.dot {s : ByteArray} {w0 w : World} {o : Value} {k fr : Nat} {P : List ByteArray} (h : CutPS s w0 o k fr P w) (hf : fr ≤ k) (hk : k < s.size) (hd46 : s[k] = 124) :
    (P ++ [s.extract fr k]).map (·.data.toList) ++ hd (curL s (k + 1) (k + 1)) (cutP 124 (s.data.toList.drop (k + 1))) = cutP 124 s.data.toList := by
  have := h.cut
  rw [byteAt s k hk, hd46, cutP_dot] at this
  rw [← this, cur_self, hd_nil _ (cutP_ne _ _)]
  rw [List.map_append, List.map_cons, List.map_nil, cur_extract s fr k hf]
  simp [hd]
theorem CutPS.on {s : ByteArray} {w0 w : World} {o : Value} {k fr : Nat} {P : List ByteArray} (h : CutPS s w0 o k fr P w) (hf : fr ≤ k) (hk : k < s.size) (hd46 : s[k] ≠ 124) :
    CutPS s w0 o (k + 1) fr P w := by
  refine ⟨h.own, h.below, by have := h.len; omega, ?_⟩
  have := h.cut
  rw [byteAt s k hk, cutP_other _ _ _ hd46, hd_hd _ _ _ (cutP_ne _ _)] at this
  rw [cur_next s fr k hf hk]
  exact this
theorem CutPS.last {s : ByteArray} {w0 w : World} {o : Value} {k fr : Nat} {P : List ByteArray} (h : CutPS s w0 o k fr P w) (hf : fr ≤ k) (hk : k = s.size) :
    (P ++ [s.extract fr s.size]).map (·.data.toList) = cutP 124 s.data.toList := by
  have := h.cut
  subst hk
  rw [dropEnd] at this
  rw [← this]
  rw [List.map_append, List.map_cons, List.map_nil, cur_extract s fr s.size hf]
  simp [cutP, hd]
theorem own_next {w0 wr w5 : World} {o v' : Value} {P : List ByteArray} {b : ByteArray} {ob : Obj} (hown0 : wr.ownsRow w0.heap.size 9 1 o P.length (P.map Value.string)) (hb0 : Below w0.heap.size w0 wr)
    (hown : w5.ownsRow w0.heap.size 9 1 v' (P.length + 1) (P.map Value.string ++ [.string b])) (hg : (wr.alloc ob).grownBy w5 o.ownBlock) :
    w5.ownsRow w0.heap.size 9 1 v' (P ++ [b]).length ((P ++ [b]).map Value.string) ∧ Below w0.heap.size w0 w5 := by
  refine ⟨by simpa using hown, ?_⟩
  exact (hb0.alloc hb0.size _).grown hg (by have := hb0.size; simp; omega) (fun k hk => (hown0.lt k hk).1)
theorem byte124 (s : ByteArray) (k : Nat) (hk : k < s.size) : ((s[k].toNat : Int) == 124) = decide (s[k] = 124) := by
  by_cases h : s[k] = 124
  · simp [h]
  · have : ¬ s[k].toNat = 124 := fun e => h (UInt8.toNat_inj.1 e)
    rw [decide_eq_false h]; simp; omega
set_option maxRecDepth 100000 in
set_option maxHeartbeats 1000000 in
theorem cutBar_any (s : ByteArray) (w : World) (hs : s.size ≤ 70000) :
    Calls Tryz.prog 165 #[.string s, .int .u8 124] w fun e w' => ∃ (v : Value) (P : List ByteArray), e = .returned v ∧ w'.ownsRow w.heap.size 9 1 v P.length (P.map Value.string) ∧ P.map (·.data.toList) = cutP 124 s.data.toList ∧ Below w.heap.size w w' := by
  obtain ⟨i0, hi, hz0, hz1, hz2⟩ := info_parts infoStr
  go_enter Tryz.func165, Tryz.ntmps165
  go_wp2
  go_loopw [5, 6, 7] (fun o f i wr => ∃ k fr P, k ≤ s.size ∧ fr ≤ k ∧ i = .int .i64 (k : Nat) ∧ f = .int .i64 (fr : Nat) ∧ CutPS s w o k fr P wr) (fun _ _ i _ => s.size - (intOf i).toNat)
  case atStart => exact ⟨0, 0, [], Nat.zero_le _, Nat.le_refl _, rfl, rfl, ⟨World.ownsRow_nil _ _ _ _, Below.refl _ _, Nat.le_refl _, by rw [cur_self, hd_nil _ (cutP_ne _ _)]; simp⟩⟩
  case round =>
    obtain ⟨k, fr, P, hk, hf, rfl, rfl, hC⟩ := hrel
    by_cases hlt : k < s.size
    · have hdl : decide ((k : Int) < (s.size : Int)) = true := by simp; omega
      have h46 := byte124 s k hlt
      by_cases hd46 : s[k] = 124
      · rw [decide_eq_true hd46] at h46
        have HC := Lib.hid (hC.dot hf hlt hd46)
        clear hd46
        go_wp2_with (at_builtin; refine wpList_append_own _ rfl _ _ 123 rfl w.heap.size 9 i0 (.string ⟨#[]⟩) 1 16 Tryz.underlying123 hi hz0 hz1 hz2 rfl (by decide) _ _ _ rfl (hC.own.alloc _) _ 1 1 [.string (s.extract fr k)] rfl rfl (cell_one_new _ _ _) (by intro u hu; simp at hu; subst hu; rfl) (by unfold maxLen; have := hC.len; omega) (by have := hC.len; omega) (by have := hC.below.size; simp; omega) ?_; intro v' w5 hown hgrow _; have hN := own_next hC.own hC.below hown hgrow; clear hown hgrow)
        refine ⟨⟨k + 1, k + 1, P ++ [s.extract fr k], by omega, Nat.le_refl _, by go_num, by go_num, ⟨hN.1, hN.2, by have := hC.len; simp; omega, HC.out⟩⟩, ?_⟩
        simp [intOf]
        omega
      · rw [decide_eq_false hd46] at h46
        have hC' := hC.on hf hlt hd46
        clear hd46 hC
        go_wp2
        refine ⟨⟨k + 1, fr, P, by omega, by omega, by go_num, rfl, hC'⟩, ?_⟩
        simp [intOf]
        omega
    · have hdl : decide ((k : Int) < (s.size : Int)) = false := by simp; omega
      have HC := Lib.hid (hC.last hf (by omega))
      go_wp2_with (at_builtin; refine wpList_append_own _ rfl _ _ 123 rfl w.heap.size 9 i0 (.string ⟨#[]⟩) 1 16 Tryz.underlying123 hi hz0 hz1 hz2 rfl (by decide) _ _ _ rfl (hC.own.alloc _) _ 1 1 [.string (s.extract fr s.size)] rfl rfl (cell_one_new _ _ _) (by intro u hu; simp at hu; subst hu; rfl) (by unfold maxLen; have := hC.len; omega) (by have := hC.len; omega) (by have := hC.below.size; simp; omega) ?_; intro v' w5 hown hgrow _; have hN := own_next hC.own hC.below hown hgrow; clear hown hgrow)
      go_ret
      exact ⟨v', P ++ [s.extract fr s.size], rfl, hN.1, HC.out, hN.2⟩
end Go.Proofs.YtcggmagdndhkbaaGreatDoor
end
