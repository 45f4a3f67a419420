/- Proved:for any script the law PlayAgain returns true and leaves its argument as it was (chapter 11:the same script makes the same play;behind Calm all have one state);on the condition alone that the listed variables hold what the program's text,and for five tables the library's,lays there. -/
import Derived.Test.YtebpcnkdhgnghaaGreatDoorPA43
import Derived.Test.YtebpcnkdhgnghaaGreatDoorTie
set_option linter.unusedSimpArgs false
set_option linter.unusedVariables false
section
namespace Go.Proofs.YtebpcnkdhgnghaaGreatDoor.PAgain
open Go.Proofs.Tryz
open Go.ChangeShapes Go.WideShapes Go.ChangeAt Go.RowKit Go.Joins Go.ChangeMaps
theorem plain (f:FuncId) (fn:Func) (hf:Tryz.pinned.checked.prog.funcNamed "concordat/concordatlaw3.PlayAgain" =some f) (hfn:Tryz.pinned.checked.prog.funcs[f]? =some fn):
  true=Tryz.pinned.checked.prog.looks []/\∀(j:Nat) t,fn.params[j]? =some t->Tryz.pinned.checked.prog.wantsStandIn t=false:=by
 obtain rfl:f=4:=Option.some.inj ((show prog.funcNamed "concordat/concordatlaw3.PlayAgain" =some 4 by kernel_rfl).symm.trans hf) |>.symm
 obtain rfl:fn=f4:=(Option.some.inj (func4.symm.trans hfn)).symm
 refine ⟨zk,fun j t ht=> ?_⟩
 rw [params4] at ht
 have hm:t∈ [42]:=by simpa using Array.mem_of_getElem? ht
 have hall:([42].all fun u=> !prog.wantsStandIn u)=true:=zk
 exact (show prog.wantsStandIn t=false by simpa using List.all_eq_true.1 hall t hm)
end Go.Proofs.YtebpcnkdhgnghaaGreatDoor.PAgain
namespace Go.Proofs.YtebpcnkdhgnghaaGreatDoor
theorem playAgain_card:Rows.PlayAgainCardSaid:=
 Claim7.holds_tied_plain_at .later [] _ _ _ _ PAgain.said (fun _ h=>qS) zk (fun _ h=>qS) playAgain_row_tie rfl ⟨rfl,rfl⟩ zk rfl PAgain.plain PAgain.goes
