/- Proved: for any lines and any cut the law ScriptAgain returns true and leaves its arguments as they were (chapter 13: the same lines make the same answers; those of a beginning are the beginning of those of all); on the condition alone that the listed variables hold what the program's text, and for five tables the library's, lays there. -/
import Derived.Test.YtjclejjkganhfaaGreatDoorSA17
import Derived.Test.YtjclejjkganhfaaGreatDoorSA31
import Derived.Test.YtjclejjkganhfaaGreatDoorTie
set_option linter.unusedSimpArgs false
set_option linter.unusedVariables false
section
namespace Go.Proofs.YtjclejjkganhfaaGreatDoor.SAgain
open Go.Proofs.Tryz
open ChangeShapes WideShapes ChangeAt RowKit Joins ChangeMaps
theorem plain(f:FuncId)(fn:Func)(hf:Tryz.pinned.checked.prog.funcNamed "concordat/concordatlaw3.ScriptAgain" =some f)(hfn:Tryz.pinned.checked.prog.funcs[f]? =some fn):
  true=Tryz.pinned.checked.prog.looks []/\∀(j:Nat) t,fn.params[j]? =some t->Tryz.pinned.checked.prog.wantsStandIn t=false:=by
 obtain rfl:f=4:=Option.some.inj ((show prog.funcNamed "concordat/concordatlaw3.ScriptAgain" =some 4 by kernel_rfl).symm.trans hf) |>.symm
 obtain rfl:fn=f4:=(Option.some.inj (func4.symm.trans hfn)).symm;refine ⟨zk,fun j t ht=> ?_⟩;rw [params4] at ht
 have hm:t∈ [34,3]:=by simpa using Array.mem_of_getElem? ht
 have hall:([34,3].all fun u=> !prog.wantsStandIn u)=true:=zk;exact (show prog.wantsStandIn t=false by simpa using List.all_eq_true.1 hall t hm)
end Go.Proofs.YtjclejjkganhfaaGreatDoor.SAgain
namespace Go.Proofs.YtjclejjkganhfaaGreatDoor
theorem scriptAgain_card:Rows.ScriptAgainCardSaid:=
 Claim7.holds_tied_plain_at .later [] _ _ _ _ SAgain.adj (fun _ h=>qd) zk (fun _ h=>qd) scriptAgain_row_tie rfl ⟨rfl,rfl⟩ zk rfl SAgain.plain SAgain.adb
