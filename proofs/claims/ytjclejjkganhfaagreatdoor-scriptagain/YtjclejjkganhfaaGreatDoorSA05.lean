import Derived.Test.YtjclejjkganhfaaGreatDoorMacA
import Derived.Test.YtjclejjkganhfaaGreatDoorRows
import Derived.Test.YtjclejjkganhfaaGreatDoorChecked
import Derived.LaidMore
import Derived.LaidHandle
import Derived.LaidLaws
import Derived.Lay
set_option linter.unusedSimpArgs false
set_option linter.unusedVariables false
set_option maxRecDepth 100000
namespace Go.Proofs.YtjclejjkganhfaaGreatDoor
open Go.Proofs.Tryz
section
def SAgain.J2:List (String×DataW Unit):=Rows.scriptAgainRow.laid.filter fun x=>x.2.handleName?.isNone
theorem SAgain.aci(os:Os)(args:Array Value):laidMetH prog Rows.scriptAgainRow.laid (((World.doorLaid prog 400 os).layVars prog J2).forCall (fun _ _=>0) ⟨#[],args,[]⟩).memory:=by
 have e1:(J2.filter fun x=>(J2.map (·.1)).contains x.1)=J2:=List.filter_eq_self.2 fun x hx=>List.contains_iff_mem.2 (Zm.2 ⟨x,hx,rfl⟩)
 have e2:(J2.filter fun x=> !(J2.map (·.1)).contains x.1)= []:=List.filter_eq_nil_iff.2 fun x hx=>by rw [List.contains_iff_mem.2 (Zm.2 ⟨x,hx,rfl⟩)];simp
 have h:laidMet prog J2 ((World.doorLaid prog 400 os).layVars prog J2):=
  laidMet_layVars (w0:=World.doorLaid prog 400 os) (J2.map (·.1)) [] (by rw [e1]) (by rw [e1];kernel_rfl) (by rw [e1];kernel_rfl) (by rw [e2];exact LaidIn.none)
 have h':=h.of_heap (w':=(((World.doorLaid prog 400 os).layVars prog J2).forCall (fun _ _=>0) ⟨#[],args,[]⟩).memory) (by simp [World.memory,World.forCall,Input.heap]);exact laidMetH_of_parts3 (fuel:=8) h' zk zk
theorem SAgain.abA(os:Os)(args:Array Value):(((World.doorLaid prog 400 os).layVars prog J2).forCall (fun _ _=>0) ⟨#[],args,[]⟩).Shaped prog:=
 World.shaped_of_ZipB zk zk

end