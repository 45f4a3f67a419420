import Derived.Test.YtcggmagdndhkbaaGreatDoorMt36
import Derived.Test.YtcggmagdndhkbaaGreatDoorMt39
import Derived.Test.YtcggmagdndhkbaaGreatDoorCards
import Derived.Test.YtcggmagdndhkbaaGreatDoorTie
section
namespace Go.Proofs.YtcggmagdndhkbaaGreatDoor.Meets
open Go.ChangeShapes Go.WideShapes Go.ChangeAt Go.RowKit Go.Joins Go.ChangeMaps
theorem said : Rows.ReplicaMeetsSaid :=
  OpenClaim.holds_of_wide 4 Tryz.f4 rfl rfl rfl rfl rfl rfl rfl ⟨rfl, rfl, rfl, rfl, rfl⟩ rfl rfl rfl rfl rfl (by kernel_rfl) Tryz.func4 closed
    (of_decide_eq_true (by kernel_rfl)) (by unfold Func.isWrapper; first | (rw [if_pos (by decide +kernel)]; kernel_rfl) | (rw [if_neg (by decide +kernel)]; exact ⟨rfl, rfl⟩))
    (fun os started H enc _ => lifted os started H enc)
theorem plain (f : FuncId) (fn : Func) (hf : Tryz.pinned.checked.prog.funcNamed "concordat/concordatlaw2.ReplicaMeets" = some f) (hfn : Tryz.pinned.checked.prog.funcs[f]? = some fn) :
    true = Tryz.pinned.checked.prog.looks [] ∧ ∀ (j : Nat) t, fn.params[j]? = some t → Tryz.pinned.checked.prog.wantsStandIn t = false := by
  obtain rfl : f = 4 := Option.some.inj ((show Tryz.prog.funcNamed "concordat/concordatlaw2.ReplicaMeets" = some 4 by kernel_rfl).symm.trans hf) |>.symm
  obtain rfl : fn = Tryz.f4 := (Option.some.inj (Tryz.func4.symm.trans hfn)).symm
  refine ⟨by kernel_rfl, fun j t ht => ?_⟩
  rw [Tryz.params4] at ht
  have hm : t ∈ [41, 42] := by simpa using Array.mem_of_getElem? ht
  have hall : ([41, 42].all fun u => !Tryz.prog.wantsStandIn u) = true := by kernel_rfl
  exact (show Tryz.prog.wantsStandIn t = false by simpa using List.all_eq_true.1 hall t hm)
end Go.Proofs.YtcggmagdndhkbaaGreatDoor.Meets
namespace Go.Proofs.YtcggmagdndhkbaaGreatDoor
theorem replicaMeets_card : Rows.ReplicaMeetsCardSaid :=
  Claim7.holds_tied_plain_at .later [] _ _ _ _ Meets.said (fun _ h => by cases h) (by kernel_rfl) (fun _ h => by cases h) replicaMeets_row_tie rfl ⟨rfl, rfl⟩ (by kernel_rfl) rfl Meets.plain (by kernel_rfl)
end Go.Proofs.YtcggmagdndhkbaaGreatDoor
end
