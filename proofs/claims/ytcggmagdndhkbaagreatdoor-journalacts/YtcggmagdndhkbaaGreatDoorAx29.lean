import Derived.Test.YtcggmagdndhkbaaGreatDoorAx25
import Derived.Test.YtcggmagdndhkbaaGreatDoorAx28
import Derived.Test.YtcggmagdndhkbaaGreatDoorCards
import Derived.Test.YtcggmagdndhkbaaGreatDoorTie
section
namespace Go.Proofs.YtcggmagdndhkbaaGreatDoor.Acts
open Go.ChangeShapes Go.WideShapes Go.ChangeAt Go.RowKit Go.Joins Go.ChangeMaps
theorem said : Rows.JournalActsSaid :=
  OpenClaim.holds_of_wide 7 Tryz.f7 rfl rfl rfl rfl rfl rfl rfl ⟨rfl, rfl, rfl, rfl, rfl⟩ rfl rfl rfl rfl rfl (by kernel_rfl) Tryz.func7 closed
    (of_decide_eq_true (by kernel_rfl)) (by unfold Func.isWrapper; first | (rw [if_pos (by decide +kernel)]; kernel_rfl) | (rw [if_neg (by decide +kernel)]; exact ⟨rfl, rfl⟩))
    (fun os started H enc _ => lifted os started H enc)
theorem plain (f : FuncId) (fn : Func) (hf : Tryz.pinned.checked.prog.funcNamed "concordat/concordatlaw2.JournalActs" = some f) (hfn : Tryz.pinned.checked.prog.funcs[f]? = some fn) :
    true = Tryz.pinned.checked.prog.looks [] ∧ ∀ (j : Nat) t, fn.params[j]? = some t → Tryz.pinned.checked.prog.wantsStandIn t = false := by
  obtain rfl : f = 7 := Option.some.inj ((show Tryz.prog.funcNamed "concordat/concordatlaw2.JournalActs" = some 7 by kernel_rfl).symm.trans hf) |>.symm
  obtain rfl : fn = Tryz.f7 := (Option.some.inj (Tryz.func7.symm.trans hfn)).symm
  refine ⟨by kernel_rfl, fun j t ht => ?_⟩
  rw [Tryz.params7] at ht
  have hm : t ∈ [9, 88] := by simpa using Array.mem_of_getElem? ht
  have hall : ([9, 88].all fun u => !Tryz.prog.wantsStandIn u) = true := by kernel_rfl
  exact (show Tryz.prog.wantsStandIn t = false by simpa using List.all_eq_true.1 hall t hm)
end Go.Proofs.YtcggmagdndhkbaaGreatDoor.Acts
namespace Go.Proofs.YtcggmagdndhkbaaGreatDoor
theorem journalActs_card : Rows.JournalActsCardSaid :=
  Claim7.holds_tied_plain_at .later [] _ _ _ _ Acts.said (fun _ h => by cases h) (by kernel_rfl) (fun _ h => by cases h) journalActs_row_tie rfl ⟨rfl, rfl⟩ (by kernel_rfl) rfl Acts.plain (by kernel_rfl)
end Go.Proofs.YtcggmagdndhkbaaGreatDoor
end
