/- Contracts of the reference's CRC and Record. -/
import Derived.Test.YtcggmagdndhkbaaDoorJrnSum
import Derived.Test.YtcggmagdndhkbaaDoorByteOne
import Derived.Test.YtcggmagdndhkbaaDoorHexRef
set_option linter.unusedVariables false
set_option linter.unusedSimpArgs false
namespace Go.Proofs.YtcggmagdndhkbaaDoor
open Go Go.RowKit Go.Lib Go.Sort

/-- The reference's division: a byte comes bit by bit. -/
def refN (b c : Nat) : Nat → Nat
  | 0 => c
  | j + 1 => if (refN b c j ^^^ b / 2 ^ j) % 2 = 1 then (refN b c j / 2) ^^^ 3988292384 else refN b c j / 2
theorem refN_succ (b c j : Nat) : refN b c (j + 1) = if (refN b c j ^^^ b / 2 ^ j) % 2 = 1 then (refN b c j / 2) ^^^ 3988292384 else refN b c j / 2 := rfl
theorem xor_half (a b : Nat) : (a ^^^ b) / 2 = a / 2 ^^^ b / 2 := by
  have h := Nat.shiftRight_xor_distrib (a := a) (b := b) (i := 1)
  simpa [Nat.shiftRight_eq_div_pow] using h
theorem ref_div (b c : Nat) : ∀ j, divN j (c ^^^ b) = refN b c j ^^^ b / 2 ^ j
  | 0 => by simp [divN, refN]
  | j + 1 => by
    have h2 : b / 2 ^ (j + 1) = b / 2 ^ j / 2 := by rw [Nat.pow_succ, Nat.div_div_eq_div_mul]
    have h3 : refN b c (j + 1) = if (refN b c j ^^^ b / 2 ^ j) % 2 = 1 then (refN b c j / 2) ^^^ 3988292384 else refN b c j / 2 := rfl
    rw [divN_succ, ref_div b c j, h2, h3]
    generalize refN b c j = r
    unfold div1
    rw [xor_half]
    split
    · rw [Nat.xor_assoc, Nat.xor_assoc, Nat.xor_comm (b / 2 ^ j / 2)]
    · rfl
theorem refN_lt (b c : Nat) (h : c < 4294967296) : ∀ j, refN b c j < 4294967296
  | 0 => h
  | j + 1 => by
    have := refN_lt b c h j
    unfold refN
    split
    · exact Nat.xor_lt_two_pow (n := 32) (by omega) (by omega)
    · omega
theorem ref_eight (b : UInt8) (c : Nat) : refN b.toNat c 8 = divN 8 (c ^^^ b.toNat) := by
  have := b.toNat_lt
  rw [ref_div, show b.toNat / 2 ^ 8 = 0 by omega, Nat.xor_zero]
theorem digB_toNat {u : Nat} (h : u ≤ 255) : (digB u).toNat = u := by
  unfold digB
  simp
  omega
theorem hex_four (c : Nat) (h : c < 4294967296) : hexL [digB (c / 16777216), digB (c / 65536 % 256), digB (c / 256 % 256), digB (c % 256)] = digs 8 c := by
  simp only [hexL]
  rw [digB_toNat (by omega), digB_toNat (by omega), digB_toNat (by omega), digB_toNat (by omega)]
  simp only [digs, List.nil_append, List.cons_append, List.append_assoc]
  rw [show c / 16777216 / 16 = c / 16 / 16 / 16 / 16 / 16 / 16 / 16 % 16 by omega, show c / 16777216 % 16 = c / 16 / 16 / 16 / 16 / 16 / 16 % 16 by omega, show c / 65536 % 256 / 16 = c / 16 / 16 / 16 / 16 / 16 % 16 by omega, show c / 65536 % 256 % 16 = c / 16 / 16 / 16 / 16 % 16 by omega, show c / 256 % 256 / 16 = c / 16 / 16 / 16 % 16 by omega, show c / 256 % 256 % 16 = c / 16 / 16 % 16 by omega, show c % 256 / 16 = c / 16 % 16 by omega, show c % 256 % 16 = c % 16 by omega]
theorem i64_xor_nat (a b : Nat) (ha : a < 4294967296) (hb : b < 4294967296) : bits .xor .i64 (a : Int) (b : Int) = ((a ^^^ b : Nat) : Int) := by
  have hx : a ^^^ b < 2 ^ 32 := Nat.xor_lt_two_pow (by omega) (by omega)
  show IntKind.i64.wrap ((BitVec.ofInt 64 (a : Int) ^^^ BitVec.ofInt 64 (b : Int)).toNat : Int) = _
  rw [BitVec.toNat_xor, ofInt_u64 a (by omega), ofInt_u64 b (by omega), IntKind.wrap_i64]
  omega

set_option maxRecDepth 100000 in
set_option maxHeartbeats 4000000 in
theorem crc_any (s : ByteArray) (w : World) (hs : s.size ≤ 1000000) :
    Calls Tryd.prog 22 #[.string s] w fun e w' => e = .returned (.string ⟨(digs 8 (crcOf s.data.toList)).toArray⟩) ∧ Below w.heap.size w w' := by
  obtain ⟨w0, hw0⟩ : ∃ w0, w0 = w := ⟨_, rfl⟩
  subst hw0
  obtain ⟨x, hx⟩ : ∃ x : Nat, Aside (x = crcOf s.data.toList) := ⟨_, rfl⟩
  rw [← hx.out]
  have hx32 : x < 4294967296 := by rw [hx.out]; exact crcOf_lt _
  go_enter Tryd.func22, Tryd.ntmps22
  go_wp2
  go_loopg [3, 4] s.size (fun kx s3 s4 wr => ∃ (j v : Nat), s3 = .int .i64 (v : Int) ∧ s4 = .int .i64 (j : Int) ∧ j ≤ s.size ∧ s.size - j ≤ kx ∧ v < 4294967296 ∧ Aside (v = crcL 4294967295 (s.data.toList.take j) ∧ wr = w0))
  case atStart => exact ⟨0, 4294967295, rfl, rfl, by omega, by omega, by omega, rfl, rfl⟩
  case round =>
    obtain ⟨j, c, rfl, rfl, hj, hjx, hc, A⟩ := hrel
    by_cases hlt : j < s.size
    · have d1 : decide ((j : Int) < (s.size : Int)) = true := by simp; omega
      have d1n : decide (j < s.size) = true := by simp; omega
      obtain ⟨u, hu⟩ : ∃ u, u = wr := ⟨_, rfl⟩
      subst hu
      obtain ⟨b, hb⟩ : ∃ b : Nat, Aside (b = s[j].toNat) := ⟨s[j].toNat, rfl⟩
      have hb256 : b < 256 := by rw [hb.out]; exact s[j].toNat_lt
      have hbs : (s[j].toNat : Int) = (b : Int) := by rw [hb.out]
      go_wp2
      go_loopg [3, 5] 8 (fun kx s3 s5 wr => ∃ (k v : Nat), s3 = .int .i64 (v : Int) ∧ s5 = .int .i64 (k : Int) ∧ k ≤ 8 ∧ 8 - k ≤ kx ∧ v < 4294967296 ∧ Aside (v = refN b c k ∧ wr = u))
      case atStart => exact ⟨0, c, rfl, rfl, by omega, by omega, hc, rfl, rfl⟩
      case round =>
        obtain ⟨k, v, rfl, rfl, hk, hkx, hv, A2⟩ := hrel
        by_cases hkl : k < 8
        · have d2 : decide ((k : Int) < (8 : Int)) = true := by simp; omega
          have d2n : decide (k < 8) = true := by simp; omega
          obtain ⟨q, hq⟩ : ∃ q : Nat, Aside (q = b / 2 ^ k) := ⟨_, rfl⟩
          have hq32 : q < 256 := by rw [hq.out]; exact Nat.lt_of_le_of_lt (Nat.div_le_self _ _) hb256
          have hcv : IntKind.u64.wrap (k : Int) = (k : Int) := by rw [IntKind.wrap_u64]; omega
          have hk0 : (0 : Int) ≤ (k : Int) := by omega
          have hk64 : (k : Int) ≤ 64 := by omega
          have hsh : (b : Int) / 2 ^ ((k : Int)).toNat = (q : Int) := by rw [hq.out, Int.toNat_natCast]; exact_mod_cast rfl
          have hsh2 : (b : Int) / 2 ^ k = (q : Int) := by rw [hq.out]; exact_mod_cast rfl
          have hsx : (s[j].toNat : Int) / 2 ^ ((k : Int)).toNat = (q : Int) := by rw [hbs]; exact hsh
          have hsx2 : (s[j].toNat : Int) / 2 ^ k = (q : Int) := by rw [hbs]; exact hsh2
          have hxo := i64_xor_nat v q hv (by omega)
          obtain ⟨y, hy⟩ : ∃ y : Nat, Aside (y = v ^^^ q) := ⟨_, rfl⟩
          rw [← hy.out] at hxo
          obtain ⟨hf, hhf⟩ : ∃ hf : Nat, Aside (hf = v / 2) := ⟨_, rfl⟩
          have hh : (v : Int) / 2 = (hf : Int) := by rw [hhf.out]; omega
          have hht : Int.tdiv (v : Int) 2 = (hf : Int) := by rw [hhf.out, Int.tdiv_eq_ediv_of_nonneg (by omega)]; omega
          by_cases hbit : y % 2 = 1
          · have hm : (y : Int) % 2 = 1 := by omega
            have hmt : Int.tmod (y : Int) 2 = 1 := by rw [Int.tmod_eq_emod_of_nonneg (by omega)]; omega
            obtain ⟨v', hv'⟩ : ∃ v' : Nat, Aside (v' = hf ^^^ 3988292384) := ⟨_, rfl⟩
            have hx2 : bits .xor .i64 (hf : Int) 3988292384 = (v' : Int) := by rw [hv'.out]; exact i64_xor_nat hf 3988292384 (by rw [hhf.out]; omega) (by omega)
            have HN : Aside (v' = refN b c (k + 1) ∧ wr = u ∧ v' < 4294967296) := by
              have e : v' = refN b c (k + 1) := by
                rw [hy.out, hq.out, A2.out.1] at hbit
                rw [hv'.out, hhf.out, A2.out.1, refN_succ, if_pos hbit]
              exact ⟨e, A2.out.2, by rw [e]; exact refN_lt b c hc _⟩
            clear A2 hsh hsx hsx2 hbit
            go_wp2
            go_roundg (8 - (k + 1))
            case measure => omega
            case rel => exact ⟨k + 1, v', rfl, by go_num, by omega, Nat.le_refl _, HN.out.2.2, HN.out.1, HN.out.2.1⟩
          · have hm : (y : Int) % 2 = 0 := by omega
            have hmt : Int.tmod (y : Int) 2 = 0 := by rw [Int.tmod_eq_emod_of_nonneg (by omega)]; omega
            have HN : Aside (hf = refN b c (k + 1) ∧ wr = u ∧ hf < 4294967296) := by
              have e : hf = refN b c (k + 1) := by
                rw [hy.out, hq.out, A2.out.1] at hbit
                rw [hhf.out, A2.out.1, refN_succ, if_neg hbit]
              exact ⟨e, A2.out.2, by rw [e]; exact refN_lt b c hc _⟩
            clear A2 hsh hsx hsx2 hbit
            go_wp2
            go_roundg (8 - (k + 1))
            case measure => omega
            case rel => exact ⟨k + 1, hf, rfl, by go_num, by omega, Nat.le_refl _, HN.out.2.2, HN.out.1, HN.out.2.1⟩
        · have d2 : decide ((k : Int) < (8 : Int)) = false := by simp; omega
          have d2n : decide (k < 8) = false := by simp; omega
          have HN : Aside (v = crcL 4294967295 (s.data.toList.take (j + 1)) ∧ wr = w0) := by
            have e8 : k = 8 := by omega
            have e1 := A2.out.1
            rw [e8, hb.out, ref_eight] at e1
            refine ⟨?_, A2.out.2.trans A.out.2⟩
            rw [← take_byte s j hlt, crcL_snoc, ← A.out.1]
            exact e1
          clear A A2
          go_wp2
          go_roundg (s.size - (j + 1))
          case measure => omega
          case rel => exact ⟨j + 1, v, rfl, by go_num, by omega, Nat.le_refl _, hv, HN.out⟩
    · have d1 : decide ((j : Int) < (s.size : Int)) = false := by simp; omega
      have d1n : decide (j < s.size) = false := by simp; omega
      have hxo : bits .xor .i64 (c : Int) 4294967295 = (x : Int) := by
        have h1 := i64_xor_nat c 4294967295 hc (by omega)
        rw [Nat.xor_comm, xor_all hc] at h1
        have h2 := A.out.1
        rw [List.take_of_length_le (by simp; omega)] at h2
        rw [hx.out]
        unfold crcOf
        rw [← h2]
        exact h1
      have HW : Aside (wr = w0) := A.out.2
      obtain rfl : wr = w0 := HW.out
      clear A HW
      obtain ⟨x1, hx1⟩ : ∃ x1 : Nat, Aside (x1 = x / 16777216) := ⟨_, rfl⟩
      obtain ⟨y2, hy2⟩ : ∃ y2 : Nat, Aside (y2 = x / 65536) := ⟨_, rfl⟩
      obtain ⟨x2, hx2⟩ : ∃ x2 : Nat, Aside (x2 = y2 % 256) := ⟨_, rfl⟩
      obtain ⟨y3, hy3⟩ : ∃ y3 : Nat, Aside (y3 = x / 256) := ⟨_, rfl⟩
      obtain ⟨x3, hx3⟩ : ∃ x3 : Nat, Aside (x3 = y3 % 256) := ⟨_, rfl⟩
      obtain ⟨x4, hx4⟩ : ∃ x4 : Nat, Aside (x4 = x % 256) := ⟨_, rfl⟩
      have l1 : x1 ≤ 255 := by rw [hx1.out]; exact Nat.le_of_lt_succ (Nat.div_lt_of_lt_mul (by omega))
      have l2 : x2 ≤ 255 := by rw [hx2.out]; exact Nat.le_of_lt_succ (Nat.mod_lt _ (by omega))
      have l3 : x3 ≤ 255 := by rw [hx3.out]; exact Nat.le_of_lt_succ (Nat.mod_lt _ (by omega))
      have l4 : x4 ≤ 255 := by rw [hx4.out]; exact Nat.le_of_lt_succ (Nat.mod_lt _ (by omega))
      have L4 : Aside (x2 ≤ 255 ∧ x3 ≤ 255 ∧ x4 ≤ 255) := ⟨l2, l3, l4⟩
      have b1 := byte_any x1 wr l1
      have q1 : (x : Int) / 16777216 = (x1 : Int) := by have := hx1.out; omega
      have q2 : (x : Int) / 65536 = (y2 : Int) := by have := hy2.out; omega
      have q2m : (y2 : Int) % 256 = (x2 : Int) := by have := hx2.out; omega
      have q3 : (x : Int) / 256 = (y3 : Int) := by have := hy3.out; omega
      have q3m : (y3 : Int) % 256 = (x3 : Int) := by have := hx3.out; omega
      have q4 : (x : Int) % 256 = (x4 : Int) := by have := hx4.out; omega
      have t1 : Int.tdiv (x : Int) 16777216 = (x1 : Int) := by rw [Int.tdiv_eq_ediv_of_nonneg (by omega)]; exact q1
      have t2 : Int.tdiv (x : Int) 65536 = (y2 : Int) := by rw [Int.tdiv_eq_ediv_of_nonneg (by omega)]; exact q2
      have t2m : Int.tmod (y2 : Int) 256 = (x2 : Int) := by rw [Int.tmod_eq_emod_of_nonneg (by omega)]; exact q2m
      have t3 : Int.tdiv (x : Int) 256 = (y3 : Int) := by rw [Int.tdiv_eq_ediv_of_nonneg (by omega)]; exact q3
      have t3m : Int.tmod (y3 : Int) 256 = (x3 : Int) := by rw [Int.tmod_eq_emod_of_nonneg (by omega)]; exact q3m
      have t4 : Int.tmod (x : Int) 256 = (x4 : Int) := by rw [Int.tmod_eq_emod_of_nonneg (by omega)]; exact q4
      have z1 : wrap64 (x1 : Int) = (x1 : Int) := by unfold wrap64; have := hx1.out; omega
      have z2 : wrap64 (y2 : Int) = (y2 : Int) := by unfold wrap64; have := hy2.out; omega
      have z3 : wrap64 (y3 : Int) = (y3 : Int) := by unfold wrap64; have := hy3.out; omega
      obtain ⟨F1, f1, f1s, a1⟩ := add_two ⟨#[digB x1]⟩ ⟨#[digB x2]⟩ (by show 1 + 1 ≤ _; omega)
      have g1 : F1.size = 2 := f1s
      obtain ⟨F2, f2, f2s, a2⟩ := add_two F1 ⟨#[digB x3]⟩ (by show F1.size + 1 ≤ _; omega)
      have g2 : F2.size = 3 := by rw [f2s, g1]; rfl
      obtain ⟨F3, f3, f3s, a3⟩ := add_two F2 ⟨#[digB x4]⟩ (by show F2.size + 1 ≤ _; omega)
      have g3 : F3.size = 4 := by rw [f3s, g2]; rfl
      have HF : Aside (hexL F3.data.toList = digs 8 x) := by
        show hexL F3.data.toList = _
        rw [f3, f2, f1, ← hex_four x hx32]
        have e2 : x2 = x / 65536 % 256 := by rw [hx2.out, hy2.out]
        have e3 : x3 = x / 256 % 256 := by rw [hx3.out, hy3.out]
        rw [hx1.out, e2, e3, hx4.out]
        rfl
      have H4 : Aside (x2 ≤ 255 ∧ x3 ≤ 255 ∧ x4 ≤ 255 ∧ F3.size ≤ 100) := ⟨L4.out.1, L4.out.2.1, L4.out.2.2, by rw [g3]; decide⟩
      clear f1 f2 f3 f1s f2s f3s g1 g2 g3 hx32 l1 l2 l3 l4
      go_wp2_with fail
      refine b1.mono ?_
      clear b1
      rintro e w1 ⟨rfl, hb1⟩
      have b2 := byte_any x2 w1 H4.out.1
      have B1 : Aside (Below wr.heap.size wr w1) := hb1
      clear hb1
      go_wp2_with fail
      refine b2.mono ?_
      clear b2
      rintro e w2 ⟨rfl, hb2⟩
      have b3 := byte_any x3 w2 H4.out.2.1
      have B2 : Aside (Below wr.heap.size wr w2) := B1.out.trans (hb2.mono B1.out.size)
      clear hb2
      go_wp2_with fail
      refine b3.mono ?_
      clear b3
      rintro e w3 ⟨rfl, hb3⟩
      have b4 := byte_any x4 w3 H4.out.2.2.1
      have B3 : Aside (Below wr.heap.size wr w3) := B2.out.trans (hb3.mono B2.out.size)
      clear hb3
      go_wp2_with fail
      refine b4.mono ?_
      clear b4
      rintro e w4 ⟨rfl, hb4⟩
      have hhx := hex_any F3 w4 (by have := H4.out.2.2.2; omega)
      rw [HF.out] at hhx
      have B4 : Aside (Below wr.heap.size wr w4) := B3.out.trans (hb4.mono B3.out.size)
      clear hb4
      go_wp2_with fail
      refine hhx.mono ?_
      clear hhx
      rintro e w5 ⟨rfl, hb5⟩
      have B5 : Aside (Below wr.heap.size wr w5) := B4.out.trans (hb5.mono B4.out.size)
      clear hb5
      go_wp2
      go_ret
      exact ⟨rfl, B5.out⟩

set_option maxRecDepth 100000 in
set_option maxHeartbeats 2000000 in
theorem refRecord_any (s : ByteArray) (w : World) (hs : s.size ≤ 1000000) :
    Calls Tryd.prog 15 #[.string s] w fun e w' => ∃ r : ByteArray, r.data.toList = recL s.data.toList ∧ e = .returned (.string r) ∧ Below w.heap.size w w' := by
  have hst := crc_any s w hs
  obtain ⟨D, hD⟩ : ∃ D : ByteArray, Aside (D = ⟨(digs 8 (crcOf s.data.toList)).toArray⟩) := ⟨_, rfl⟩
  rw [← hD.out] at hst
  have hDs : D.size = 8 := by rw [hD.out]; simp [ByteArray.size, digs_len]
  obtain ⟨E1, h1, h1s, a1⟩ := add_two s ⟨#[35]⟩ (by show s.size + 1 ≤ _; omega)
  have hE1s : E1.size = s.size + 1 := h1s
  obtain ⟨E2, h2, h2s, a2⟩ := add_two E1 D (by omega)
  obtain ⟨E3, h3, h3s, a3⟩ := add_two E2 ⟨#[10]⟩ (by show E2.size + 1 ≤ _; omega)
  have HE : Aside (E3.data.toList = recL s.data.toList) := by
    show _ = _
    rw [h3, h2, h1, hD.out]
    unfold recL
    simp
  clear h1 h2 h3 h1s h2s h3s hE1s hDs
  go_enter Tryd.func15, Tryd.ntmps15
  go_wp2_with fail
  refine hst.mono ?_
  clear hst
  rintro e w1 ⟨rfl, hb⟩
  have H : Aside (Below w.heap.size w w1) := hb
  clear hb
  go_wp2
  go_ret
  exact ⟨E3, HE.out, rfl, H.out⟩
end Go.Proofs.YtcggmagdndhkbaaDoor
