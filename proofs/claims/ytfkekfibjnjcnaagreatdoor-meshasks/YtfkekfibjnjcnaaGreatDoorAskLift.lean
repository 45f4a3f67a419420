import Derived.Test.YtfkekfibjnjcnaaGreatDoorMeshAsksW
import Derived.Test.YtfkekfibjnjcnaaGreatDoorAskWit
set_option linter.unusedSimpArgs false
set_option linter.unusedVariables false
set_option maxRecDepth 100000
namespace Go.Proofs.YtfkekfibjnjcnaaGreatDoor.Asks
open Go.Proofs.Tryz
section
open Go.ChangeShapes Go.WideShapes Go.ChangeAt Go.RowKit Go.Joins Go.ChangeMaps
theorem own:ownKnob prog.godebug=none:=zk
theorem laidOut:laidOutB prog=true:=zk
theorem env_of_row {W:World} (h:laidMetH prog Rows.meshAsksRow.laid W) (hsh:W.ShapedOpen prog):∃ad:Nat->Addr,EnvM W.heap.size ad W:=by
 rw [MakeChecks.laidMetH_plain _ _ _ zk] at h
 have h':laidMet prog meshLaid W:=h
 exact envM_of h' hsh
theorem handed {H:Type} {enc:TypeId×Value->H} {C:Checked} {os:Os} {f:FuncId} {fn:Func} {s:ChangeSpec} {apart fresh handsOn again:Bool} {X:World->Array Value->Prop}
  (hX:∀(w w':World) (args:Array Value),w.heap=w'.heap->X w args->X w' args)
  (own:ownKnob C.prog.godebug=none) (started:os.Started) (noInit:C.prog.inits.idxOf? f=none) (hfn:C.prog.funcs[f]? =some fn)
  (witness:∃(w:World) (tape:Tape) (i:Input),w.os=os/\(w.forCall tape i).Shaped C.prog/\i.vars= []/\Input.okWide C.prog (w.forCall tape i) .any w.heap.size f i/\
   ((s.pre enc C.prog fn [] apart (w.forCall tape i).memory i.args/\X (w.forCall tape i).memory i.args)/\sizedMet enc C.prog fn (OpenSpec.ofChange s) apart (w.forCall tape i).memory i.args)/\({} :Assume).holds C.prog (lone (Frame.enter C.prog f i.args .normal) [] (w.forCall tape i)))
  (contract:∀(W:World) (base:Nat) (args:Array Value) (ds gs:List (DataW H)) (before:List MemPlace),
   (∀(j:Nat) t v,fn.params[j]? =some t->args[j]? =some v->Value.okWide C.prog W .any base t v)->
   DataW.Whole enc C.prog fn.params.toList s.vars apart W args.toList ds gs before->X W args->W.ShapedOpen C.prog->
   Calls C.prog f args W fun e W'=>∃v,e= .returned v/\s.post enc C.prog fn apart fresh handsOn again W args v W'):
  ReturnsInHanded {} C os f .any (fun w args=>(s.pre enc C.prog fn [] apart w args/\X w args)/\sizedMet enc C.prog fn (OpenSpec.ofChange s) apart w args) (s.post enc C.prog fn apart fresh handsOn again):=by
 refine returnsInHanded_of_calls own started noInit witness ?_
 intro w tape i _ shape _ ok pre _
 obtain ⟨-,-,-,g,hg,-,-,-,-,vals⟩:=ok
 obtain rfl:g=fn:=Option.some.inj (hg.symm.trans hfn)
 obtain ⟨⟨⟨ds,gs,before,whole,-⟩,listed⟩,-⟩:=pre
 refine (contract (w.forCall tape i) w.heap.size i.args ds gs before vals (DataW.Whole.of_heap (w':=w.forCall tape i) zu whole) (hX _ _ _ zu listed) shape).mono ?_
 rintro _ W' ⟨v,rfl,post⟩
 exact ChangeSpec.post_blind post
theorem lifted (os:Os) (started:os.Started) (H:Type) (enc:TypeId×Value->H):
  ReturnsInHanded {} Tryz.checked os 5 .any (fun w args=>(Rows.meshAsksSpec.pre enc prog f5 [] false w args/\laidMetH prog Rows.meshAsksRow.laid w)/\sizedMet enc prog f5 (OpenSpec.ofChange Rows.meshAsksSpec) false w args)
   (Rows.meshAsksSpec.post enc prog f5 false true false false):=by
 refine handed (C:=Tryz.checked) (X:=fun w _=>laidMetH prog Rows.meshAsksRow.laid w) (fun _ _ _ hh h=>h.of_heap hh) own started zk func5
  (ChangeSpec.witness_shaped (enc:=enc) (C:=Tryz.checked) (os:=os) (X:=fun w _=>laidMetH prog Rows.meshAsksRow.laid w) false ((World.doorLaid prog 400 os).layVars prog plainLaid) #[.slice none 0 0,.int .i64 0,.int .i64 0] 8 (World.layVars_os _ _ _) (wit_shaped os _) zk zk zk (wit_met os _)) ?_
 intro W base args ds gs before hval0 hW hL hsh
 have hval:∀(j:Nat) t v,f5.params[j]? =some t->args[j]? =some v->Value.okWide prog W .any base t v:=hval0
 have hW':=hW
 obtain ⟨p,q,hA0,hV,rfl,hfz,hnd⟩:=hW
 have hA:DataW.TrodAll enc prog W 0 (fun _=>true) true f5.params.toList args.toList ds p:=hA0
 rw [params5] at hA hval
 obtain ⟨z0,z1,z2,d0,d1,d2,p0,p1,p2,rfl,rfl,rfl,h0,h1,h2⟩:=trodAll_three hA
 obtain ⟨rfl,rfl⟩:=trodVars_none hV
 obtain ⟨ao,len,cap,rfl⟩:=okWide_slice underlying22 (hval 0 22 z0 rfl rfl)
 obtain ⟨a,rfl,rfl,rfl,wa⟩:=open_int underlying3 (hval 1 3 z1 rfl rfl) h1
 obtain ⟨b,rfl,rfl,rfl,wb⟩:=open_int underlying3 (hval 2 3 z2 rfl rfl) h2
 obtain ⟨xs,rfl,hmax,hX,hok⟩:=steps_in h0
 obtain ⟨ad,hE⟩:=env_of_row hL hsh
 have walk:Calls prog 5 #[.slice ao xs.length cap,.int .i64 a,.int .i64 b] W fun e w'=>e= .returned (.bool true)/\Below W.heap.size W w':=
  asks_law W ao cap xs a b hE hX qH hok (i64S wa) (i64S wb)
 refine walk.mono fun e W' ⟨he,hb⟩=> ?_
 subst he
 have hlt0:∀x∈p0,x.block<W.heap.size:=fun x hx=>qK
 refine ⟨_,rfl,_,_,_,[],p0++([]++ []),[],hW',?_,?_,?_,hb.frame _,fun h=>yR⟩
 ·exact trodAll_mk1 (shut_bool underlying4 true)
 ·exact trodAll_mk3 (Below.trod laidOut zk (of_decide_eq_true zk) h0 hb hlt0) (shut_int underlying3 wa) (shut_int underlying3 wb)
 rfl
