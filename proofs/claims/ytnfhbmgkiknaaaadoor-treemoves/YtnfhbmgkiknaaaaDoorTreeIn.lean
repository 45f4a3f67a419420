/- Contracts of package tree: New, Moves, Place, Inside. -/
import Derived.Test.YtnfhbmgkiknaaaaDoorTreeMap
import Derived.Test.YtnfhbmgkiknaaaaDoorRowOver
import Derived.Test.YtnfhbmgkiknaaaaDoorProg
import Derived.Deep.QuietTactic
import Derived.BigQuiet
import Derived.WalkKit
import Derived.WalkSmall
import Derived.RegionTactic
import Derived.Laws.Pointers
import Derived.Carry
namespace Go.Proofs.YtnfhbmgkiknaaaaDoor
open Go.RowKit Go.Maps

theorem zeroPl (w : World) : (zeroValue 95).run Tryd.prog w = .ok (encP zeroP) w := Tryd.zeroValue95 w

theorem MapAt.looks {w : World} {b n : Nat} {f : Sta} (h : MapAt Tryd.prog 3 w b n f) {k : Int} (hk : Wf k) :
    (Instr.lookup 128 (.map (some b)) (.int .i64 k) true).run Tryd.prog w = .ok (.tuple #[encP ((f k).getD zeroP), .bool (f k).isSome]) w :=
  h.look Tryd.underlying3 Tryd.underlying128 (zeroPl w) hk
theorem MapAt.looks1 {w : World} {b n : Nat} {f : Sta} (h : MapAt Tryd.prog 3 w b n f) {k : Int} (hk : Wf k) :
    (Instr.lookup 128 (.map (some b)) (.int .i64 k) false).run Tryd.prog w = .ok (encP ((f k).getD zeroP)) w :=
  h.look1 Tryd.underlying3 Tryd.underlying128 (zeroPl w) hk

set_option maxHeartbeats 400000 in
theorem treeNew (w : World) : Calls Tryd.prog 51 #[] w fun e w' => e = .returned (.pointer (some ⟨w.heap.size + 1, 0, none⟩)) ∧ w' = (w.alloc (.map #[] 0)).alloc (.cells #[.map (some w.heap.size), .slice none 0 0] 131) := by
  have hmm := @run_makeMap Tryd.prog
  go_enter Tryd.func51, Tryd.ntmps51
  go_wp2
  go_ret
  exact ⟨rfl, rfl⟩

set_option maxHeartbeats 400000 in
theorem treeMoves (w : World) (bt n : Nat) (ao : Option Addr) (cap : Nat) (h : w.cell? ⟨bt, 1, none⟩ = some (.slice ao n cap)) :
    Calls Tryd.prog 57 #[.pointer (some ⟨bt, 0, none⟩)] w fun e w' => e = .returned (.int .i64 n) ∧ w' = w := by
  go_enter Tryd.func57, Tryd.ntmps57
  go_wp2
  go_ret
  exact ⟨rfl, rfl⟩
end Go.Proofs.YtnfhbmgkiknaaaaDoor
