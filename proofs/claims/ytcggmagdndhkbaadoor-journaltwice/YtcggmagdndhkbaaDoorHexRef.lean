/- Contracts of the reference's Hex and hexDigit, over the translation. -/
import Derived.Test.YtcggmagdndhkbaaDoorHexWalks
import Derived.Test.YtcggmagdndhkbaaDoorDecOne
import Derived.Deep.QuietTactic
import Derived.BigQuiet
namespace Go.Proofs.YtcggmagdndhkbaaDoor
open Go.RowKit

theorem hexCut (x : Int) (w : World) (h0 : 0 ≤ x) (h1 : x < 16) : (Instr.slice 9 (.string ⟨#[48, 49, 50, 51, 52, 53, 54, 55, 56, 57, 97, 98, 99, 100, 101, 102]⟩) (some (.int .i64 x)) (some (.int .i64 (x + 1))) none).run Tryd.prog w = .ok (.string ⟨[hexd x.toNat].toArray⟩) w := by
  rcases (by omega : x = 0 ∨ x = 1 ∨ x = 2 ∨ x = 3 ∨ x = 4 ∨ x = 5 ∨ x = 6 ∨ x = 7 ∨ x = 8 ∨ x = 9 ∨ x = 10 ∨ x = 11 ∨ x = 12 ∨ x = 13 ∨ x = 14 ∨ x = 15) with rfl | rfl | rfl | rfl | rfl | rfl | rfl | rfl | rfl | rfl | rfl | rfl | rfl | rfl | rfl | rfl
  all_goals kernel_rfl
theorem cutHigh (c : UInt8) (w : World) : (Instr.slice 9 (.string ⟨#[48, 49, 50, 51, 52, 53, 54, 55, 56, 57, 97, 98, 99, 100, 101, 102]⟩) (some (.int .i64 ((c.toNat : Int) / 16))) (some (.int .i64 ((c.toNat : Int) / 16 + 1))) none).run Tryd.prog w = .ok (.string ⟨[hexd (c.toNat / 16)].toArray⟩) w := by
  have := c.toNat_lt
  have e := hexCut ((c.toNat : Int) / 16) w (by omega) (by omega)
  rw [show ((c.toNat : Int) / 16).toNat = c.toNat / 16 by omega] at e
  exact e
theorem cutLow (c : UInt8) (w : World) : (Instr.slice 9 (.string ⟨#[48, 49, 50, 51, 52, 53, 54, 55, 56, 57, 97, 98, 99, 100, 101, 102]⟩) (some (.int .i64 ((c.toNat : Int) % 16))) (some (.int .i64 ((c.toNat : Int) % 16 + 1))) none).run Tryd.prog w = .ok (.string ⟨[hexd (c.toNat % 16)].toArray⟩) w := by
  have := c.toNat_lt
  have e := hexCut ((c.toNat : Int) % 16) w (by omega) (by omega)
  rw [show ((c.toNat : Int) % 16).toNat = c.toNat % 16 by omega] at e
  exact e

set_option maxRecDepth 100000 in
set_option maxHeartbeats 2000000 in
theorem hex_any (s : ByteArray) (w : World) (hs : s.size ≤ 1000000) :
    Calls Tryd.prog 25 #[.string s] w fun e w' => e = .returned (.string ⟨(hexL s.data.toList).toArray⟩) ∧ Below w.heap.size w w' := by
  generalize hR : hexL s.data.toList = R
  have HR := Lib.hid hR
  clear hR
  go_enter Tryd.func25, Tryd.ntmps25
  go_wp2
  go_loopw [3, 4] (fun v i wr => ∃ (k : Nat) (done : List UInt8), k ≤ s.size ∧ done.length = 2 * k ∧ i = .int .i64 (k : Nat) ∧ v = .string ⟨done.toArray⟩ ∧ Below w.heap.size w wr ∧ Hid (done ++ hexL (s.data.toList.drop k) = R)) (fun _ i _ => s.size - (intOf i).toNat)
  case atStart => exact ⟨0, [], Nat.zero_le _, rfl, rfl, rfl, Below.refl _ _, Lib.hid (by simpa using HR.out)⟩
  case round =>
    obtain ⟨k, done, hk, hdl, rfl, rfl, hB, HD⟩ := hrel
    have HL := Lib.hid hdl
    by_cases hlt : k < s.size
    · have hdt : decide ((k : Int) < (s.size : Int)) = true := by simp; omega
      have HE := Lib.hid (hex_step s k hlt done R HD.out)
      have hc := s[k].toNat_lt
      have x1 := cutHigh s[k]
      have x2 := cutLow s[k]
      have a1 := fun w => add_texts done [hexd (s[k].toNat / 16)] (by simp; omega) w
      have a2 := fun w => add_texts (done ++ [hexd (s[k].toNat / 16)]) [hexd (s[k].toNat % 16)] (by simp; omega) w
      clear HD hdl
      generalize hc1 : hexd (s[k].toNat / 16) = c1 at x1 HE a1 a2
      generalize hc2 : hexd (s[k].toNat % 16) = c2 at x2 HE a2
      clear hc1 hc2
      have i1 : IntKind.i64.wrap ((s[k].toNat : Int) / 16 + 1) = (s[k].toNat : Int) / 16 + 1 := by rw [IntKind.wrap_i64]; omega
      have i2 : IntKind.i64.wrap ((s[k].toNat : Int) % 16 + 1) = (s[k].toNat : Int) % 16 + 1 := by rw [IntKind.wrap_i64]; omega
      go_wp2_with fail
      go_quiet (fail)
      go_wp2
      refine ⟨⟨k + 1, done ++ [c1, c2], by omega, by have := HL.out; simp; omega, by go_num, rfl, below_draws hB _, HE⟩, ?_⟩
      simp [intOf]
      omega
    · have hdt : decide ((k : Int) < (s.size : Int)) = false := by simp; omega
      have HE : Hid (R = done) := Lib.hid (by have := HD.out; rw [show k = s.size by omega, dropEnd] at this; simpa [hexL] using this.symm)
      go_wp2
      go_ret
      exact ⟨by rw [HE.out]; rfl, hB⟩

theorem hexI_num : ∀ c : Fin 256, hexI (UInt8.ofNat c.1) = if 48 ≤ (c.1 : Int) ∧ (c.1 : Int) ≤ 57 then (c.1 : Int) - 48 else if 97 ≤ (c.1 : Int) ∧ (c.1 : Int) ≤ 102 then (c.1 : Int) - 97 + 10 else -1 := by decide +kernel
end Go.Proofs.YtcggmagdndhkbaaDoor
