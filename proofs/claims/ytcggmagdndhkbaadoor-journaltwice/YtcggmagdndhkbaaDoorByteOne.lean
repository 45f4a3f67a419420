/- Contract of the reference's Byte; texts put together. -/
import Derived.Test.YtcggmagdndhkbaaDoorProg
import Derived.WalkKit
import Derived.WalkSpells
import Derived.Below
import Derived.Laws.IdiomStrings
import Derived.Laws.Concat
import Derived.Lib.Hide
namespace Go.Proofs.YtcggmagdndhkbaaDoor
open Go.RowKit

/-- A byte (a name of its own, so that no rule turns it). -/
def digB (u : Nat) : UInt8 := UInt8.ofNat u

set_option maxRecDepth 100000 in
set_option maxHeartbeats 400000 in
theorem byte_any (u : Nat) (w : World) (h2 : u ≤ 255) :
    Calls Tryd.prog 23 #[.int .i64 (u : Int)] w fun e w' => e = .returned (.string ⟨#[digB u]⟩) ∧ Below w.heap.size w w' := by
  have hcv : (convert 46 9 (.slice (some ⟨w.heap.size, 0, none⟩) 1 1)).run Tryd.prog (w.alloc (.cells #[.int .u8 (u : Int)] 5)) = .ok (.string ⟨#[digB u]⟩) (w.alloc (.cells #[.int .u8 (u : Int)] 5)) := by
    refine run_convert_bytes_back (P := Tryd.prog) _ 46 9 5 ⟨w.heap.size, 0, none⟩ 1 [digB u] Tryd.underlying46 Tryd.underlying5 Tryd.underlying9 ?_
    intro j hj
    have hj0 : j = 0 := by simpa using hj
    subst hj0
    simp [go_sem, Addr.add, digB]
    omega
  go_enter Tryd.func23, Tryd.ntmps23
  go_wp2
  go_ret
  exact ⟨rfl, (Below.refl _ _).alloc (Nat.le_refl _) _⟩

theorem add_texts (x y : List UInt8) (h : x.length + y.length ≤ 9223372036854775807) (w : World) : (Op.stringOp .add ⟨x.toArray⟩ ⟨y.toArray⟩).run Tryd.prog w = .ok (.string ⟨(x ++ y).toArray⟩) w := by
  rw [run_string_add_sum w ⟨x.toArray⟩ ⟨y.toArray⟩ (by simpa [ByteArray.size] using h)]
  congr 2

end Go.Proofs.YtcggmagdndhkbaaDoor
