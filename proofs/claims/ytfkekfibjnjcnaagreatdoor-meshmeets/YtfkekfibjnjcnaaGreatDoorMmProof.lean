/- Proved:for any number of replicas and any list of steps the law MeshMeets returns true and leaves its arguments as they were (chapter 10:wherever power was cut,whatever was lost,twice,or late,behind Calm every operation that was made with no error,and no other,is known);on the condition alone that the listed variables hold what the program's text,and for five tables the library's,lays there. -/
import Derived.Test.YtfkekfibjnjcnaaGreatDoorMmLift
import Derived.Test.YtfkekfibjnjcnaaGreatDoorMmFacts
import Derived.Test.YtfkekfibjnjcnaaGreatDoorCards
import Derived.Test.YtfkekfibjnjcnaaGreatDoorTie
set_option linter.unusedSimpArgs false
set_option linter.unusedVariables false
section
namespace Go.Proofs.YtfkekfibjnjcnaaGreatDoor.MMeets
open Go.Proofs.Tryz
open Go.ChangeShapes Go.WideShapes Go.ChangeAt Go.RowKit Go.Joins Go.ChangeMaps
theorem said:Rows.MeshMeetsSaid:=
 OpenClaim.holds_of_wide 4 f4 rfl rfl rfl rfl rfl rfl rfl ⟨rfl,rfl,rfl,rfl,rfl⟩ rfl rfl rfl rfl rfl zk func4 closed
  (of_decide_eq_true zk) zT
  (fun os started H enc _=>lifted os started H enc)
theorem plain (f:FuncId) (fn:Func) (hf:Tryz.pinned.checked.prog.funcNamed "concordat/concordatlaw3.MeshMeets" =some f) (hfn:Tryz.pinned.checked.prog.funcs[f]? =some fn):
  false=Tryz.pinned.checked.prog.looks []/\∀(j:Nat) t,fn.params[j]? =some t->Tryz.pinned.checked.prog.wantsStandIn t=false:=by
 obtain rfl:f=4:=Option.some.inj ((show prog.funcNamed "concordat/concordatlaw3.MeshMeets" =some 4 by kernel_rfl).symm.trans hf) |>.symm
 obtain rfl:fn=f4:=(Option.some.inj (func4.symm.trans hfn)).symm
 refine ⟨zk,fun j t ht=> ?_⟩
 rw [params4] at ht
 have hm:t∈ [3,22]:=qE
 have hall:([3,22].all fun u=> !prog.wantsStandIn u)=true:=zk
 exact (show prog.wantsStandIn t=false by simpa using Zl.1 hall t hm)
end Go.Proofs.YtfkekfibjnjcnaaGreatDoor.MMeets
namespace Go.Proofs.YtfkekfibjnjcnaaGreatDoor
theorem meshMeets_card:Rows.MeshMeetsCardSaid:=
 Claim7.holds_tied_plain_at .later [] _ _ _ _ MMeets.said (fun _ h=>yR) zk (fun _ h=>yR) meshMeets_row_tie rfl ⟨rfl,rfl⟩ zk rfl MMeets.plain zk
