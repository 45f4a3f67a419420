/- Proved: for any list of steps the law MeshRises returns true and leaves its arguments as they were (chapter 10: what a replica knows is never less, but behind Boot; what is booted knows all of its own that was made with no error); on the condition alone that the listed variables hold what the program's text, and for five tables the library's, lays there. -/
import Derived.Test.YtfkekfibjnjcnaaGreatDoorMrLift
import Derived.Test.YtfkekfibjnjcnaaGreatDoorMrFacts
import Derived.Test.YtfkekfibjnjcnaaGreatDoorCards
import Derived.Test.YtfkekfibjnjcnaaGreatDoorTie
set_option linter.unusedSimpArgs false
set_option linter.unusedVariables false
section
namespace Go.Proofs.YtfkekfibjnjcnaaGreatDoor.MRises
open Go.ChangeShapes Go.WideShapes Go.ChangeAt Go.RowKit Go.Joins Go.ChangeMaps
theorem said:Rows.MeshRisesSaid:=
 OpenClaim.holds_of_wide 3 Tryz.f3 rfl rfl rfl rfl rfl rfl rfl ⟨rfl,rfl,rfl,rfl,rfl⟩ rfl rfl rfl rfl rfl (by kernel_rfl) Tryz.func3 closed
  (of_decide_eq_true (by kernel_rfl)) (by unfold Func.isWrapper;first | (rw [if_pos (by decide+kernel)];kernel_rfl) | (rw [if_neg (by decide+kernel)];exact ⟨rfl,rfl⟩))
  (fun os started H enc _=>lifted os started H enc)
theorem plain (f:FuncId) (fn:Func) (hf:Tryz.pinned.checked.prog.funcNamed "concordat/concordatlaw3.MeshRises" =some f) (hfn:Tryz.pinned.checked.prog.funcs[f]? =some fn):
  false=Tryz.pinned.checked.prog.looks []∧∀(j:Nat) t,fn.params[j]? =some t→Tryz.pinned.checked.prog.wantsStandIn t=false:=by
 obtain rfl:f=3:=Option.some.inj ((show Tryz.prog.funcNamed "concordat/concordatlaw3.MeshRises" =some 3 by kernel_rfl).symm.trans hf) |>.symm
 obtain rfl:fn=Tryz.f3:=(Option.some.inj (Tryz.func3.symm.trans hfn)).symm
 refine ⟨by kernel_rfl,fun j t ht=> ?_⟩
 rw [Tryz.params3] at ht
 have hm:t∈ [22]:=by simpa using Array.mem_of_getElem? ht
 have hall:([22].all fun u=> !Tryz.prog.wantsStandIn u)=true:=by kernel_rfl
 exact (show Tryz.prog.wantsStandIn t=false by simpa using List.all_eq_true.1 hall t hm)
end Go.Proofs.YtfkekfibjnjcnaaGreatDoor.MRises
namespace Go.Proofs.YtfkekfibjnjcnaaGreatDoor
theorem meshRises_card:Rows.MeshRisesCardSaid:=
 Claim7.holds_tied_plain_at .later [] _ _ _ _ MRises.said (fun _ h=>by cases h) (by kernel_rfl) (fun _ h=>by cases h) meshRises_row_tie rfl ⟨rfl,rfl⟩ (by kernel_rfl) rfl MRises.plain (by kernel_rfl)
end Go.Proofs.YtfkekfibjnjcnaaGreatDoor
end
