/- A text, byte by byte. -/
import Derived.Test.YtcggmagdndhkbaaDoorProg
import Derived.Test.YtcggmagdndhkbaaDoorVecPure
import Derived.WalkKit
import Derived.WalkSpells
import Derived.Below
import Derived.LoopN
import Derived.LoopTactic
import Derived.Lib.Hide
namespace Go.Proofs.YtcggmagdndhkbaaDoor
open Go.RowKit

theorem byteAt (s : ByteArray) (k : Nat) (h : k < s.size) : s.data.toList.drop k = s[k] :: s.data.toList.drop (k + 1) := by
  have hl : k < s.data.toList.length := by simpa using h
  rw [List.drop_eq_getElem_cons hl]
  simp
  rfl
theorem dropEnd (s : ByteArray) : s.data.toList.drop s.size = [] := by
  rw [List.drop_eq_nil_iff]; simp
theorem pow_lt (k v : Nat) (h : v < 10 ^ k) (hk : k < 18) : v < 100000000000000000 := by
  have : 10 ^ k ≤ 10 ^ 17 := Nat.pow_le_pow_right (by decide) (by omega)
  omega
theorem pow_next (k v d : Nat) (h : v < 10 ^ k) (hd : d < 10) : 10 * v + d < 10 ^ (k + 1) := by
  rw [Nat.pow_succ]; omega
end Go.Proofs.YtcggmagdndhkbaaDoor
