/- Proved:for any list of turns,any two numbers and any text the law ViewShows returns true and leaves its arguments as they were (chapter 9:what a view lists in a node,what it finds by a path,the path of a node,and what is lost,is what the document's reference answers);on the condition alone that the listed variables hold what the program's text,and for the tables the library's,lays there. -/
import Derived.Test.YtpdbnnimdkfajaaGreatDoorVS31
import Derived.Test.YtpdbnnimdkfajaaGreatDoorVS49
import Derived.Test.YtpdbnnimdkfajaaGreatDoorCards
import Derived.Test.YtpdbnnimdkfajaaGreatDoorTie
set_option linter.unusedSimpArgs false
set_option linter.unusedVariables false
section
namespace Go.Proofs.YtpdbnnimdkfajaaGreatDoor.Vs
open Go.Proofs.Tryz
open Go.ChangeShapes Go.WideShapes Go.ChangeAt Go.RowKit Go.Joins Go.ChangeMaps
theorem said:Rows.ViewShowsSaid:=
 OpenClaim.holds_of_wide 4 f4 rfl rfl rfl rfl rfl rfl rfl ⟨rfl,rfl,rfl,rfl,rfl⟩ rfl rfl rfl rfl rfl zj func4 closed
  (of_decide_eq_true zj) (by unfold Func.isWrapper;first | (rw [if_pos (by decide+kernel)];kernel_rfl) | (rw [if_neg (by decide+kernel)];exact ⟨rfl,rfl⟩))
  (fun os started H enc _=>lifted os started H enc)
theorem plain (f:FuncId) (fn:Func) (hf:Tryz.pinned.checked.prog.funcNamed "concordat/concordatlaw2.ViewShows" =some f) (hfn:Tryz.pinned.checked.prog.funcs[f]? =some fn):
  true=Tryz.pinned.checked.prog.looks []/\∀(j:Nat) t,fn.params[j]? =some t->Tryz.pinned.checked.prog.wantsStandIn t=false:=by
 obtain rfl:f=4:=Option.some.inj ((show prog.funcNamed "concordat/concordatlaw2.ViewShows" =some 4 by kernel_rfl).symm.trans hf) |>.symm
 obtain rfl:fn=f4:=(Option.some.inj (func4.symm.trans hfn)).symm
 refine ⟨zj,fun j t ht=> ?_⟩
 rw [params4] at ht
 have hm:t∈ [77,3,3,9]:=by simpa using Array.mem_of_getElem? ht
 have hall:([77,3,3,9].all fun u=> !prog.wantsStandIn u)=true:=zj
 exact (show prog.wantsStandIn t=false by simpa using List.all_eq_true.1 hall t hm)
end Go.Proofs.YtpdbnnimdkfajaaGreatDoor.Vs
namespace Go.Proofs.YtpdbnnimdkfajaaGreatDoor
theorem viewShows_card:Rows.ViewShowsCardSaid:=
 Claim7.holds_tied_plain_at .later [] _ _ _ _ Vs.said (fun _ h=>yA) zj (fun _ h=>yA) viewShows_row_tie rfl ⟨rfl,rfl⟩ zj rfl Vs.plain zj
