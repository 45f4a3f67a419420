/- Proved:for any list of steps and any two numbers the law MeshAsks returns true and leaves its arguments as they were (chapter 10:where one asks another one,and both notes come,it knows all that that one knew);on the condition alone that the listed variables hold what the program's text,and for five tables the library's,lays there. -/
import Derived.Test.YtfkekfibjnjcnaaGreatDoorAskLift
import Derived.Test.YtfkekfibjnjcnaaGreatDoorAskFacts
import Derived.Test.YtfkekfibjnjcnaaGreatDoorCards
import Derived.Test.YtfkekfibjnjcnaaGreatDoorTie
set_option linter.unusedSimpArgs false
set_option linter.unusedVariables false
section
namespace Go.Proofs.YtfkekfibjnjcnaaGreatDoor.Asks
open Go.Proofs.Tryz
open Go.ChangeShapes Go.WideShapes Go.ChangeAt Go.RowKit Go.Joins Go.ChangeMaps
theorem said:Rows.MeshAsksSaid:=
 OpenClaim.holds_of_wide 5 f5 rfl rfl rfl rfl rfl rfl rfl ⟨rfl,rfl,rfl,rfl,rfl⟩ rfl rfl rfl rfl rfl zk func5 closed
  (of_decide_eq_true zk) zT
  (fun os started H enc _=>lifted os started H enc)
theorem plain (f:FuncId) (fn:Func) (hf:Tryz.pinned.checked.prog.funcNamed "concordat/concordatlaw3.MeshAsks" =some f) (hfn:Tryz.pinned.checked.prog.funcs[f]? =some fn):
  false=Tryz.pinned.checked.prog.looks []/\∀(j:Nat) t,fn.params[j]? =some t->Tryz.pinned.checked.prog.wantsStandIn t=false:=by
 obtain rfl:f=5:=Option.some.inj ((show prog.funcNamed "concordat/concordatlaw3.MeshAsks" =some 5 by kernel_rfl).symm.trans hf) |>.symm
 obtain rfl:fn=f5:=(Option.some.inj (func5.symm.trans hfn)).symm
 refine ⟨zk,fun j t ht=> ?_⟩
 rw [params5] at ht
 have hm:t∈ [22,3,3]:=qE
 have hall:([22,3,3].all fun u=> !prog.wantsStandIn u)=true:=zk
 exact (show prog.wantsStandIn t=false by simpa using Zl.1 hall t hm)
end Go.Proofs.YtfkekfibjnjcnaaGreatDoor.Asks
namespace Go.Proofs.YtfkekfibjnjcnaaGreatDoor
theorem meshAsks_card:Rows.MeshAsksCardSaid:=
 Claim7.holds_tied_plain_at .later [] _ _ _ _ Asks.said (fun _ h=>yR) zk (fun _ h=>yR) meshAsks_row_tie rfl ⟨rfl,rfl⟩ zk rfl Asks.plain zk
