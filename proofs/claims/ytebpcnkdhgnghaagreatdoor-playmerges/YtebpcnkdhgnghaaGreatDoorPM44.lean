/- Proved:for any lists of operations the law PlayMerges returns true and leaves its argument as it was (chapter 11:the state of any lists,one behind the other,or the first error and its place,as the document's reference has it);on the condition alone that the listed variables hold what the program's text,and for five tables the library's,lays there. -/
import Derived.Test.YtebpcnkdhgnghaaGreatDoorPM36
import Derived.Test.YtebpcnkdhgnghaaGreatDoorPM43
import Derived.Test.YtebpcnkdhgnghaaGreatDoorTie
set_option linter.unusedSimpArgs false
set_option linter.unusedVariables false
section
namespace Go.Proofs.YtebpcnkdhgnghaaGreatDoor.PMerges
open Go.Proofs.Tryz
open Go.ChangeShapes Go.WideShapes Go.ChangeAt Go.RowKit Go.Joins Go.ChangeMaps
theorem plain (f:FuncId) (fn:Func) (hf:Tryz.pinned.checked.prog.funcNamed "concordat/concordatlaw3.PlayMerges" =some f) (hfn:Tryz.pinned.checked.prog.funcs[f]? =some fn):
  true=Tryz.pinned.checked.prog.looks []/\∀(j:Nat) t,fn.params[j]? =some t->Tryz.pinned.checked.prog.wantsStandIn t=false:=by
 obtain rfl:f=3:=Option.some.inj ((show prog.funcNamed "concordat/concordatlaw3.PlayMerges" =some 3 by kernel_rfl).symm.trans hf) |>.symm
 obtain rfl:fn=f3:=(Option.some.inj (func3.symm.trans hfn)).symm
 refine ⟨zo,fun j t ht=> ?_⟩
 rw [params3] at ht
 have hm:t∈ [22]:=by simpa using Array.mem_of_getElem? ht
 have hall:([22].all fun u=> !prog.wantsStandIn u)=true:=zo
 exact (show prog.wantsStandIn t=false by simpa using List.all_eq_true.1 hall t hm)
end Go.Proofs.YtebpcnkdhgnghaaGreatDoor.PMerges
namespace Go.Proofs.YtebpcnkdhgnghaaGreatDoor
theorem playMerges_card:Rows.PlayMergesCardSaid:=
 Claim7.holds_tied_plain_at .later [] _ _ _ _ PMerges.said (fun _ h=>qD) zo (fun _ h=>qD) playMerges_row_tie rfl ⟨rfl,rfl⟩ zo rfl PMerges.plain PMerges.goes
