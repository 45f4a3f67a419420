/- Contracts of package journal's divide and sum. -/
import Derived.Test.YtcggmagdndhkbaaDoorJrnPure
import Derived.Test.YtcggmagdndhkbaaDoorByteAt
import Derived.Test.YtcggmagdndhkbaaDoorStrCut
import Derived.Test.YtcggmagdndhkbaaDoorProg
import Derived.WalkKit
import Derived.WalkSpells
import Derived.Below
import Derived.LoopN
import Derived.LoopTactic
import Derived.Lib.Hide
import Derived.KernelRfl
import Derived.Laws.BitsAllLaws
set_option linter.unusedVariables false
set_option linter.unusedSimpArgs false
namespace Go.Proofs.YtcggmagdndhkbaaDoor
open Go.RowKit Go.Lib Go.Sort

theorem and_one {v : Nat} (h : v < 4294967296) : bits .and .u32 (v : Int) 1 = ((v % 2 : Nat) : Int) := by
  have := u32_and_nat v 1 h (by omega)
  rw [Nat.and_one_is_mod] at this
  exact this
theorem xor_poly {v : Nat} (h : v < 4294967296) : bits .xor .u32 (v : Int) 3988292384 = ((v ^^^ 3988292384 : Nat) : Int) := u32_xor_nat v 3988292384 h (by omega)

theorem not_u32 {v : Nat} (h : v < 4294967296) : bits .xor .u32 IntKind.u32.max (v : Int) = ((4294967295 - v : Nat) : Int) := by
  have e : IntKind.u32.max = ((4294967295 : Nat) : Int) := by decide
  rw [e, u32_xor_nat _ _ (by omega) h, xor_all h]
set_option maxRecDepth 100000 in
set_option maxHeartbeats 2000000 in
theorem divide_any (c : Nat) (w : World) (hc : c < 4294967296) :
    Calls Tryd.prog 58 #[.int .u32 (c : Int)] w fun e w' => e = .returned (.int .u32 ((divN 8 c : Nat) : Int)) ∧ w' = w := by
  go_enter Tryd.func58, Tryd.ntmps58
  go_wp2
  go_loopg [0, 4] 8 (fun kx s0 s4 wr => ∃ (j v : Nat), s0 = .int .u32 (v : Int) ∧ s4 = .int .i64 (j : Int) ∧ j ≤ 8 ∧ 8 - j ≤ kx ∧ v < 4294967296 ∧ Aside (v = divN j c ∧ wr = w))
  case atStart => exact ⟨0, c, rfl, rfl, by omega, by omega, hc, rfl, rfl⟩
  case round =>
    obtain ⟨j, v, rfl, rfl, hj, hjx, hv, A⟩ := hrel
    by_cases hlt : j < 8
    · have d1 : decide ((j : Int) < (8 : Int)) = true := by simp; omega
      have d1n : decide (j < 8) = true := by simp; omega
      have ha := and_one hv
      obtain ⟨hf, hhf⟩ : ∃ hf : Nat, Aside (hf = v / 2) := ⟨_, rfl⟩
      have hh : (v : Int) / 2 = (hf : Int) := by rw [hhf.out]; omega
      by_cases hb : v % 2 = 1
      · rw [hb] at ha
        have hx := xor_poly (v := hf) (by rw [hhf.out]; omega)
        have hvj : hf ^^^ 3988292384 = divN (j + 1) c := by rw [divN_succ, ← A.out.1, hhf.out]; unfold div1; rw [if_pos hb]
        obtain ⟨v', hv'⟩ : ∃ v' : Nat, Aside (v' = hf ^^^ 3988292384) := ⟨_, rfl⟩
        rw [← hv'.out] at hx hvj
        have HV : Aside (v' = divN (j + 1) c ∧ wr = w ∧ v' < 4294967296) := ⟨hvj, A.out.2, by rw [hvj]; exact divN_lt _ hc⟩
        clear A hvj
        go_wp2
        go_roundg (8 - (j + 1))
        case measure => omega
        case rel => exact ⟨j + 1, v', rfl, by go_num, by omega, Nat.le_refl _, HV.out.2.2, HV.out.1, HV.out.2.1⟩
      · rw [show v % 2 = 0 by omega] at ha
        have hvj : hf = divN (j + 1) c := by rw [divN_succ, ← A.out.1, hhf.out]; unfold div1; rw [if_neg hb]
        have HV : Aside (hf = divN (j + 1) c ∧ wr = w ∧ hf < 4294967296) := ⟨hvj, A.out.2, by rw [hvj]; exact divN_lt _ hc⟩
        clear A hvj
        go_wp2
        go_roundg (8 - (j + 1))
        case measure => omega
        case rel => exact ⟨j + 1, hf, rfl, by go_num, by omega, Nat.le_refl _, HV.out.2.2, HV.out.1, HV.out.2.1⟩
    · have d1 : decide ((j : Int) < (8 : Int)) = false := by simp; omega
      have d1n : decide (j < 8) = false := by simp; omega
      have HV : Aside (v = divN 8 c ∧ wr = w) := by
        have e8 : j = 8 := by omega
        have := A.out
        rwa [e8] at this
      clear A
      go_wp2
      go_ret
      exact ⟨by rw [HV.out.1]; rfl, HV.out.2⟩

set_option maxRecDepth 100000 in
set_option maxHeartbeats 2000000 in
theorem sum_any (s : ByteArray) (w : World) (hs : s.size ≤ 1000000) :
    Calls Tryd.prog 45 #[.string s] w fun e w' => e = .returned (.int .u32 ((crcOf s.data.toList : Nat) : Int)) ∧ w' = w := by
  go_enter Tryd.func45, Tryd.ntmps45
  go_wp2
  go_loopg [3, 7] s.size (fun kx s3 s7 wr => ∃ (j v : Nat), s3 = .int .u32 (v : Int) ∧ s7 = .int .i64 (j : Int) ∧ j ≤ s.size ∧ s.size - j ≤ kx ∧ v < 4294967296 ∧ Aside (v = crcL 4294967295 (s.data.toList.take j) ∧ wr = w))
  case atStart => exact ⟨0, 4294967295, rfl, rfl, by omega, by omega, by omega, rfl, rfl⟩
  case round =>
    obtain ⟨j, v, rfl, rfl, hj, hjx, hv, A⟩ := hrel
    by_cases hlt : j < s.size
    · have d1 : decide ((j : Int) < (s.size : Int)) = true := by simp; omega
      have d1n : decide (j < s.size) = true := by simp; omega
      obtain ⟨x, hx⟩ : ∃ x : Nat, Aside (x = v ^^^ s[j].toNat) := ⟨v ^^^ s[j].toNat, rfl⟩
      have hb := s[j].toNat_lt
      have hcv : IntKind.u32.wrap (s[j].toNat : Int) = (s[j].toNat : Int) := by rw [IntKind.wrap_u32']; omega
      have hxx : bits .xor .u32 (v : Int) (s[j].toNat : Int) = (x : Int) := by rw [hx.out]; exact u32_xor_nat v s[j].toNat hv (by omega)
      have hx32 : x < 4294967296 := by rw [hx.out]; exact xor_byte hv s[j]
      have hdv := divide_any x wr hx32
      obtain ⟨v', hv'⟩ : ∃ v' : Nat, Aside (v' = divN 8 x) := ⟨_, rfl⟩
      rw [← hv'.out] at hdv
      have HV : Aside (v' = crcL 4294967295 (s.data.toList.take (j + 1)) ∧ wr = w ∧ v' < 4294967296) := ⟨by rw [← take_byte s j hlt, crcL_snoc, ← A.out.1, hv'.out, hx.out], A.out.2, by rw [hv'.out]; exact divN_lt 8 hx32⟩
      clear A
      go_wp2_with fail
      refine hdv.mono ?_
      clear hdv
      rintro e w1 ⟨rfl, rfl⟩
      go_wp2
      go_roundg (s.size - (j + 1))
      case measure => omega
      case rel => exact ⟨j + 1, v', rfl, by go_num, by omega, Nat.le_refl _, HV.out.2.2, HV.out.1, HV.out.2.1⟩
    · have d1 : decide ((j : Int) < (s.size : Int)) = false := by simp; omega
      have d1n : decide (j < s.size) = false := by simp; omega
      have hvv : v = crcL 4294967295 s.data.toList := by
        have := A.out.1
        rwa [List.take_of_length_le (by simp; omega)] at this
      have HV : Aside (crcOf s.data.toList = 4294967295 - v ∧ wr = w) := ⟨by rw [hvv]; rfl, A.out.2⟩
      clear A hvv
      go_wp2
      go_ret
      refine ⟨?_, HV.out.2⟩
      rw [HV.out.1]
      show Ending.returned (Value.int .u32 _) = _
      rw [not_u32 hv]
end Go.Proofs.YtcggmagdndhkbaaDoor
