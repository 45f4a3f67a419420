/- Two operations compared, over the translation. -/
import Derived.Test.YtcggmagdndhkbaaDoorProg
import Derived.WalkKit
import Derived.WalkSpells
import Derived.LaidEql
import Derived.WideShapes
namespace Go.Proofs.YtcggmagdndhkbaaDoor
open Go.RowKit

/-- Two operations, compared. -/
def eqB (t b n : Int) (k : Nat) (node other : Int) (name value : ByteArray) (t' b' n' : Int) (k' : Nat) (node' other' : Int) (name' value' : ByteArray) : Bool := decide (t = t' ∧ b = b' ∧ n = n' ∧ k = k' ∧ node = node' ∧ other = other' ∧ name = name' ∧ value = value')
theorem eqOp (t b n : Int) (k : Nat) (node other : Int) (name value : ByteArray) (t' b' n' : Int) (k' : Nat) (node' other' : Int) (name' value' : ByteArray) (w : World) : (Op.equalIn 10000 35 (.agg #[.int .i64 t, .int .i64 b, .int .i64 n, .int .u8 (k : Int), .int .i64 node, .int .i64 other, .string name, .string value]) (.agg #[.int .i64 t', .int .i64 b', .int .i64 n', .int .u8 (k' : Int), .int .i64 node', .int .i64 other', .string name', .string value'])).run Tryd.prog w = .ok (eqB t b n k node other name value t' b' n' k' node' other' name' value') w := by
  have hs : ∀ x y : ByteArray, x.toList = y.toList ↔ x = y := fun x y => ⟨fun h => by rw [ByteArray.toList_eq, ByteArray.toList_eq] at h; exact WideShapes.bytes_inj h, fun h => by rw [h]⟩
  unfold eqB
  go_simp
  simp only [Int.natCast_inj]
  by_cases h1 : t = t' <;> by_cases h2 : b = b' <;> by_cases h3 : n = n' <;> by_cases h4 : k = k' <;> by_cases h5 : node = node' <;> by_cases h6 : other = other' <;> by_cases h7 : name = name' <;> by_cases h8 : value = value' <;> simp [h1, h2, h3, h4, h5, h6, h7, h8]
theorem eqB_self (t b n : Int) (k : Nat) (node other : Int) (name value : ByteArray) : eqB t b n k node other name value t b n k node other name value = true := by simp [eqB]
end Go.Proofs.YtcggmagdndhkbaaDoor
