/- A text cut in two, and texts put together. -/
import Derived.Test.YtcggmagdndhkbaaDoorProg
import Derived.WalkKit
import Derived.WalkSpells
import Derived.Below
import Derived.Laws.IdiomStrings
import Derived.Laws.Concat
import Derived.Laws.Strings
import Derived.Lib.Hide
import Derived.KernelRfl
namespace Go.Proofs.YtcggmagdndhkbaaDoor
open Go.RowKit

theorem cut_left (s : ByteArray) (c : Nat) (h : c ≤ s.size) : ∃ F : ByteArray, F.data.toList = s.data.toList.take c ∧ ∀ w, (Instr.slice 9 (.string s) none (some (.int .i64 (c : Int))) none).run Tryd.prog w = .ok (.string F) w := by
  refine ⟨s.extract 0 c, by simp, fun w => ?_⟩
  have h1 : (c : Int) ≤ (s.size : Int) := by omega
  have h0 : (0 : Int) ≤ (c : Int) := by omega
  go_simp
theorem cut_right (s : ByteArray) (c : Nat) (h : c ≤ s.size) : ∃ F : ByteArray, F.data.toList = s.data.toList.drop c ∧ ∀ w, (Instr.slice 9 (.string s) (some (.int .i64 (c : Int))) none none).run Tryd.prog w = .ok (.string F) w := by
  refine ⟨s.extract c s.size, by simp; rw [List.take_of_length_le (by simp)], fun w => ?_⟩
  have h1 : (c : Int) ≤ (s.size : Int) := by omega
  have h0 : (0 : Int) ≤ (c : Int) := by omega
  go_simp
theorem add_two (x y : ByteArray) (h : x.size + y.size ≤ 9223372036854775807) : ∃ F : ByteArray, F.data.toList = x.data.toList ++ y.data.toList ∧ F.size = x.size + y.size ∧ ∀ w, (Op.stringOp .add x y).run Tryd.prog w = .ok (.string F) w := by
  refine ⟨x ++ y, by simp, by simp, fun w => ?_⟩
  rw [run_string_add_sum w x y h]
theorem bytes_ext {x y : ByteArray} (h : x.data.toList = y.data.toList) : x = y := by
  cases x; cases y
  simp at h
  rw [h]
theorem take_byte (s : ByteArray) (k : Nat) (h : k < s.size) : s.data.toList.take k ++ [s[k]] = s.data.toList.take (k + 1) := by
  have hl : k < s.data.toList.length := by simpa using h
  rw [List.take_succ_eq_append_getElem hl]
  congr 1
theorem beqL_no {x y : ByteArray} (h : x ≠ y) : (x.toList == y.toList) = false := by
  rw [ByteArray.toList_eq, ByteArray.toList_eq]
  exact beq_false_of_ne (fun e => h (bytes_ext e))
theorem beq_no {x y : ByteArray} (h : x ≠ y) : (x == y) = false := by
  cases x with
  | mk a =>
    cases y with
    | mk b =>
      have hab : a ≠ b := fun e => h (by rw [e])
      show (a == b) = false
      simpa using hab
end Go.Proofs.YtcggmagdndhkbaaDoor
