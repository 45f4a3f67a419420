import Derived.Test.YtfkekfibjnjcnaaGreatDoorRows
import Derived.Test.YtfkekfibjnjcnaaGreatDoorChecked
import Derived.LaidMore
import Derived.LaidHandle
import Derived.LaidLaws
import Derived.Lay
import Derived.KernelRfl
set_option linter.unusedSimpArgs false
set_option linter.unusedVariables false
set_option maxRecDepth 100000
namespace Go.Proofs.YtfkekfibjnjcnaaGreatDoor.MRises
section
def plainLaid:List (String×DataW Unit):=Rows.meshRisesRow.laid.filter fun x=>x.2.handleName?.isNone
theorem wit_met (os:Os) (args:Array Value):laidMetH Tryz.prog Rows.meshRisesRow.laid (((World.doorLaid Tryz.prog 400 os).layVars Tryz.prog plainLaid).forCall (fun _ _=>0) ⟨#[],args,[]⟩).memory:=by
 have e1:(plainLaid.filter fun x=>(plainLaid.map (·.1)).contains x.1)=plainLaid:=List.filter_eq_self.2 fun x hx=>List.contains_iff_mem.2 (List.mem_map.2 ⟨x,hx,rfl⟩)
 have e2:(plainLaid.filter fun x=> !(plainLaid.map (·.1)).contains x.1)= []:=List.filter_eq_nil_iff.2 fun x hx=>by rw [List.contains_iff_mem.2 (List.mem_map.2 ⟨x,hx,rfl⟩)];simp
 have h:laidMet Tryz.prog plainLaid ((World.doorLaid Tryz.prog 400 os).layVars Tryz.prog plainLaid):=
  laidMet_layVars (w0:=World.doorLaid Tryz.prog 400 os) (plainLaid.map (·.1)) [] (by rw [e1]) (by rw [e1];kernel_rfl) (by rw [e1];kernel_rfl) (by rw [e2];exact LaidIn.none)
 have h':=h.of_heap (w':=(((World.doorLaid Tryz.prog 400 os).layVars Tryz.prog plainLaid).forCall (fun _ _=>0) ⟨#[],args,[]⟩).memory) (by simp [World.memory,World.forCall,Input.heap])
 exact laidMetH_of_parts3 (fuel:=8) h' (by kernel_rfl) (by kernel_rfl)
theorem wit_shaped (os:Os) (args:Array Value):(((World.doorLaid Tryz.prog 400 os).layVars Tryz.prog plainLaid).forCall (fun _ _=>0) ⟨#[],args,[]⟩).Shaped Tryz.prog:=
 World.shaped_of_ZipB (by kernel_rfl) (by kernel_rfl)
end
end Go.Proofs.YtfkekfibjnjcnaaGreatDoor.MRises
