/- Proved: for any lines the law ScriptReads returns true and leaves its argument as it was (chapter 13: each line is answered, what is no line is told, and too many lines are none); on the condition alone that the listed variables hold what the program's text, and for five tables the library's, lays there. -/
import Derived.Test.YtjclejjkganhfaaGreatDoorSR25
import Derived.Test.YtjclejjkganhfaaGreatDoorSR38
import Derived.Test.YtjclejjkganhfaaGreatDoorTie
set_option linter.unusedSimpArgs false
set_option linter.unusedVariables false
section
namespace Go.Proofs.YtjclejjkganhfaaGreatDoor.SReads
open Go.Proofs.Tryz
open ChangeShapes WideShapes ChangeAt RowKit Joins ChangeMaps
theorem plain(f)(fn)(hf:Tryz.pinned.checked.prog.funcNamed "concordat/concordatlaw3.ScriptReads" =some f)(hfn:Tryz.pinned.checked.prog.funcs[f]? =some fn):
  true=Tryz.pinned.checked.prog.looks []/\∀(j:Nat) t,fn.params[j]? =some t->Tryz.pinned.checked.prog.wantsStandIn t=false:=by
 obtain rfl:f=3:=Option.some.inj ((show prog.funcNamed "concordat/concordatlaw3.ScriptReads" =some 3 by kernel_rfl).symm.trans hf) |>.symm
 obtain rfl:fn=f3:=(Option.some.inj (func3.symm.trans hfn)).symm;refine ⟨zk,fun j t ht=> ?_⟩;rw [params3] at ht
 have hm:t∈ [22]:=by simpa using Array.mem_of_getElem? ht
 have hall:([22].all fun u=> !prog.wantsStandIn u)=true:=zk;exact (show prog.wantsStandIn t=false by simp_all)
end Go.Proofs.YtjclejjkganhfaaGreatDoor.SReads
namespace Go.Proofs.YtjclejjkganhfaaGreatDoor
theorem scriptReads_card:Rows.ScriptReadsCardSaid:=
 Claim7.holds_tied_plain_at .later [] _ _ _ _ SReads.adC (fun _ h=>qa) zk (fun _ h=>qa) scriptReads_row_tie rfl ⟨rfl,rfl⟩ zk rfl SReads.plain SReads.adA
