import Derived.Test.YtjclejjkganhfaaGreatDoorMacA
import Derived.Test.YtjclejjkganhfaaGreatDoorRows
import Derived.Test.YtjclejjkganhfaaGreatDoorChecked
import Derived.LaidMore
import Derived.LaidHandle
import Derived.LaidLaws
import Derived.Lay
set_option linter.unusedSimpArgs false
set_option linter.unusedVariables false
set_option maxRecDepth 100000
namespace Go.Proofs.YtjclejjkganhfaaGreatDoor
open Go.Proofs.Tryz
section
def SReads.I1:List (String×DataW Unit):=Rows.scriptReadsRow.laid.filter fun x=>x.2.handleName?.isNone
theorem SReads.acE(os)(args):laidMetH prog Rows.scriptReadsRow.laid (((World.doorLaid prog 400 os).layVars prog I1).forCall (fun _ _=>0) ⟨#[],args,[]⟩).memory:=by
 have e1:(I1.filter fun x=>(I1.map (·.1)).contains x.1)=I1:=List.filter_eq_self.2 fun x hx=>List.contains_iff_mem.2 (Zj.2 ⟨x,hx,rfl⟩)
 have e2:(I1.filter fun x=> !(I1.map (·.1)).contains x.1)= []:=List.filter_eq_nil_iff.2 fun x hx=>by rw [List.contains_iff_mem.2 (Zj.2 ⟨x,hx,rfl⟩)];simp
 have h:laidMet prog I1 ((World.doorLaid prog 400 os).layVars prog I1):=
  laidMet_layVars (w0:=World.doorLaid prog 400 os) (I1.map (·.1)) [] (by rw [e1]) (by rw [e1];kernel_rfl) (by rw [e1];kernel_rfl) (by rw [e2];exact LaidIn.none)
 have h':=h.of_heap (w':=(((World.doorLaid prog 400 os).layVars prog I1).forCall (fun _ _=>0) ⟨#[],args,[]⟩).memory) (by simp [World.memory,World.forCall,Input.heap]);exact laidMetH_of_parts3 (fuel:=8) h' zk zk
theorem SReads.abT(os)(args):(((World.doorLaid prog 400 os).layVars prog I1).forCall (fun _ _=>0) ⟨#[],args,[]⟩).Shaped prog:=
 World.shaped_of_ZipB zk zk

end