import Derived.Test.YtebpcnkdhgnghaaGreatDoorMacA
import Derived.Test.YtebpcnkdhgnghaaGreatDoorRows
import Derived.LaidMore
import Derived.Lay
set_option linter.unusedSimpArgs false
set_option linter.unusedVariables false
set_option maxRecDepth 100000
namespace Go.Proofs.YtebpcnkdhgnghaaGreatDoor.PMerges
open Go.Proofs.Tryz
section
def plainLaid:List (String×DataW Unit):=Rows.playMergesRow.laid.filter fun x=>x.2.handleName?.isNone
theorem LH (os:Os) (args:Array Value):laidMetH prog Rows.playMergesRow.laid (((World.doorLaid prog 400 os).layVars prog plainLaid).forCall (fun _ _=>0) ⟨#[],args,[]⟩).memory:=by
 have e1:(plainLaid.filter fun x=>(plainLaid.map (·.1)).contains x.1)=plainLaid:=List.filter_eq_self.2 fun x hx=>List.contains_iff_mem.2 (uh.2 ⟨x,hx,rfl⟩)
 have e2:(plainLaid.filter fun x=> !(plainLaid.map (·.1)).contains x.1)= []:=List.filter_eq_nil_iff.2 fun x hx=>by rw [List.contains_iff_mem.2 (uh.2 ⟨x,hx,rfl⟩)];simp
 have h:laidMet prog plainLaid ((World.doorLaid prog 400 os).layVars prog plainLaid):=
  laidMet_layVars (w0:=World.doorLaid prog 400 os) (plainLaid.map (·.1)) [] (by rw [e1]) (by rw [e1];kernel_rfl) (by rw [e1];kernel_rfl) (by rw [e2];exact LaidIn.none)
 have h':=h.of_heap (w':=(((World.doorLaid prog 400 os).layVars prog plainLaid).forCall (fun _ _=>0) ⟨#[],args,[]⟩).memory) (by simp [World.memory,World.forCall,Input.heap])
 exact laidMetH_of_parts3 (fuel:=8) h' zo zo
theorem Cr (os:Os) (args:Array Value):(((World.doorLaid prog 400 os).layVars prog plainLaid).forCall (fun _ _=>0) ⟨#[],args,[]⟩).Shaped prog:=
 World.shaped_of_ZipB zo zo
