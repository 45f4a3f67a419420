import Derived.Test.YtfkekfibjnjcnaaGreatDoorMacA
import Derived.Test.YtfkekfibjnjcnaaGreatDoorRows
import Derived.LaidMore
import Derived.Lay
set_option linter.unusedSimpArgs false
set_option linter.unusedVariables false
set_option maxRecDepth 100000
namespace Go.Proofs.YtfkekfibjnjcnaaGreatDoor.Asks
open Go.Proofs.Tryz
section
def plainLaid:List (String×DataW Unit):=Rows.meshAsksRow.laid.filter fun x=>x.2.handleName?.isNone
theorem wit_met (os:Os) (args:Array Value):laidMetH prog Rows.meshAsksRow.laid (((World.doorLaid prog 400 os).layVars prog plainLaid).forCall (fun _ _=>0) ⟨#[],args,[]⟩).memory:=by
 have e1:(plainLaid.filter fun x=>(plainLaid.map (·.1)).contains x.1)=plainLaid:=Zp.2 fun x hx=>ZG.2 (vV.2 ⟨x,hx,rfl⟩)
 have e2:(plainLaid.filter fun x=> !(plainLaid.map (·.1)).contains x.1)= []:=List.filter_eq_nil_iff.2 fun x hx=>yF
 have h:laidMet prog plainLaid ((World.doorLaid prog 400 os).layVars prog plainLaid):=
  laidMet_layVars (w0:=World.doorLaid prog 400 os) (plainLaid.map (·.1)) [] (by rw [e1]) yT yT xA
 have h':=h.of_heap (w':=(((World.doorLaid prog 400 os).layVars prog plainLaid).forCall (fun _ _=>0) ⟨#[],args,[]⟩).memory) yZ
 exact laidMetH_of_parts3 (fuel:=8) h' zk zk
theorem wit_shaped (os:Os) (args:Array Value):(((World.doorLaid prog 400 os).layVars prog plainLaid).forCall (fun _ _=>0) ⟨#[],args,[]⟩).Shaped prog:=
 World.shaped_of_ZipB zk zk
