import Derived.Test.YtpdbnnimdkfajaaGreatDoorVS23
import Derived.Test.YtpdbnnimdkfajaaGreatDoorVS48
set_option linter.unusedSimpArgs false
set_option linter.unusedVariables false
set_option maxRecDepth 100000
namespace Go.Proofs.YtpdbnnimdkfajaaGreatDoor.Vs
open Go.Proofs.Tryz
variable {P:Program} {W w:World}
section
open Go.ChangeShapes Go.WideShapes Go.ChangeAt Go.RowKit Go.Joins Go.ChangeMaps
theorem own:ownKnob prog.godebug=none:=zj
theorem laidOut:laidOutB prog=true:=zj
def nine:List (String×Nat×List UInt8):=[("concordat/api.ErrBound",2,[99,111,110,99,111,114,100,97,116,58,32,98,111,117,110,100]),("concordat/api.ErrShape",4,[99,111,110,99,111,114,100,97,116,58,32,115,104,97,112,101]),("concordat/api.ErrName",5,[99,111,110,99,111,114,100,97,116,58,32,110,97,109,101]),("concordat/api.ErrKind",6,[99,111,110,99,111,114,100,97,116,58,32,107,105,110,100]),("concordat/api.ErrNone",0,[99,111,110,99,111,114,100,97,116,58,32,110,111,110,101]),("concordat/api.ErrExist",7,[99,111,110,99,111,114,100,97,116,58,32,101,120,105,115,116]),("concordat/api.ErrFull",1,[99,111,110,99,111,114,100,97,116,58,32,102,117,108,108]),("concordat/api.ErrGap",8,[99,111,110,99,111,114,100,97,116,58,32,103,97,112]),("concordat/api.ErrCycle",9,[99,111,110,99,111,114,100,97,116,58,32,99,121,99,108,101])]
def nineLaid:List (String×DataW Unit):=nine.map fun x=>(x.1,.iface "*errors.errorString" (.ptr (.agg [.lit (.string x.2.2)])))
theorem nine_named:∀x∈nine,prog.globalNamed x.1=some x.2.1/\(prog.globals[x.2.1]?).map (·.type)=some 27:=by
 have h:(nine.all fun x=>(prog.globalNamed x.1==some x.2.1) &&((prog.globals[x.2.1]?).map (·.type)==some 27))=true:=zj
 intro x hx
 have:=List.all_eq_true.1 h x hx
 simpa using this
theorem laidVars_parts {P:Program} {w:World} :∀(l1 l2:List (String×DataW Unit)) (ps:List MemPlace),DataW.LaidVars P w (l1++l2) ps->∃q1 q2,DataW.LaidVars P w l1 q1/\DataW.LaidVars P w l2 q2/\ps=q1++q2
 | [],l2,ps,h=>⟨[],ps,rfl,h,rfl⟩
 | x::l1,l2,ps,h=>by
  obtain ⟨g,t,cs,fuel,p,q,a1,a2,a3,a4,a5,rfl⟩:=h
  obtain ⟨q1,q2,b1,b2,rfl⟩:=laidVars_parts l1 l2 q a5
  exact ⟨_,q2,⟨g,t,cs,fuel,p,q1,a1,a2,a3,a4,b1,rfl⟩,b2,zm⟩
theorem laidMet_mid (l1 l2 l3:List (String×DataW Unit)) (h:laidMet P (l1++(l2++l3)) w):laidMet P l2 w:=by
 obtain ⟨ps,hv,hnd,hr⟩:=h
 obtain ⟨q1,q2,-,b,rfl⟩:=laidVars_parts l1 (l2++l3) ps hv
 obtain ⟨q3,q4,c,-,rfl⟩:=laidVars_parts l2 l3 q2 b
 exact ⟨q3,c,(vz.1 (vz.1 hnd).2.1).1,fun b off hm=>hr b off (vi _ (jP _ hm))⟩
theorem max_of (hsh:W.ShapedOpen prog):∃m:Int,W.cell? ⟨13,0,none⟩=some (.int .i64 m):=
 Go.Proofs.cell_of_shapedOpen_int (zero:= #[.int .i64 0]) (t:=3) hsh (of_decide_eq_true zj) zj rfl zj zj underlying3
theorem env_of_row (h:laidMetH prog Rows.viewShowsRow.laid W) (hsh:W.ShapedOpen prog):∃(ad:Nat->Addr) (m:Int),Cyc ad/\EnvT W.heap.size ad W/\EnvV m W:=by
 rw [MakeChecks.laidMetH_plain _ _ _ zj] at h
 have h':laidMet prog plainLaid W:=h
 have hmid:laidMet prog nineLaid W:=laidMet_mid [("math/bits.deBruijn32tab",Rows.laid_math_bits_deBruijn32tab),("math/bits.deBruijn64tab",Rows.laid_math_bits_deBruijn64tab),("internal/strconv.uint64pow10",Rows.laid_internal_strconv_uint64pow10),("unicode/utf8.acceptRanges",Rows.laid_unicode_utf8_acceptRanges)] nineLaid [("unicode/utf8.first",Rows.laid_unicode_utf8_first)] h'
 obtain ⟨az,hat⟩:=some_of nine nine_named hmid
 have hp:("internal/strconv.uint64pow10",Rows.laid_internal_strconv_uint64pow10)∈plainLaid:=.tail _ (.tail _ (.head _))
 have ht:=tab_of (Lib.laidMet.reads h' hp)
 have hg:14<W.heap.size:=by
  unfold Lib.TabIs at ht
  exact jl W ⟨14,0,none⟩ ((World.var?_cell gPow ht 0).trans (show _=some (Value.int .u64 1) by kernel_rfl))
 obtain ⟨m,hm⟩:=max_of hsh
 exact ⟨fun i=>if i=100 then ⟨1,0,none⟩ else az.getD (i - 1) ⟨0,0,none⟩,m,rfl,⟨⟨⟨hat 0 _ rfl,hat 1 _ rfl,hat 2 _ rfl,hat 3 _ rfl⟩,hat 4 _ rfl,hat 5 _ rfl,hat 6 _ rfl,hat 7 _ rfl,fun _=>hat 8 _ rfl,zi,jj _⟩,Lib.tabBelow_of_tabIs ht⟩,⟨ht,hm⟩⟩
theorem handed {H:Type} {enc:TypeId×Value->H} {C:Checked} {os:Os} {f:FuncId} {fn:Func} {s:ChangeSpec} {apart fresh handsOn again:Bool} {X:World->Array Value->Prop}
  (hX:∀(w w':World) (args:Array Value),w.heap=w'.heap->X w args->X w' args)
  (own:ownKnob C.prog.godebug=none) (started:os.Started) (noInit:C.prog.inits.idxOf? f=none) (hfn:C.prog.funcs[f]? =some fn)
  (witness:∃(w:World) (tape:Tape) (i:Input),w.os=os/\(w.forCall tape i).Shaped C.prog/\i.vars= []/\Input.okWide C.prog (w.forCall tape i) .any w.heap.size f i/\
   ((s.pre enc C.prog fn [] apart (w.forCall tape i).memory i.args/\X (w.forCall tape i).memory i.args)/\sizedMet enc C.prog fn (OpenSpec.ofChange s) apart (w.forCall tape i).memory i.args)/\({} :Assume).holds C.prog (lone (Frame.enter C.prog f i.args .normal) [] (w.forCall tape i)))
  (contract:∀(W:World) (base:Nat) (args:Array Value) (ds gs:List (DataW H)) (before:List MemPlace),
   (∀(j:Nat) t v,fn.params[j]? =some t->args[j]? =some v->Value.okWide C.prog W .any base t v)->
   DataW.Whole enc C.prog fn.params.toList s.vars apart W args.toList ds gs before->X W args->W.ShapedOpen C.prog->
   Calls C.prog f args W fun e W'=>∃v,e= .returned v/\s.post enc C.prog fn apart fresh handsOn again W args v W'):
  ReturnsInHanded {} C os f .any (fun w args=>(s.pre enc C.prog fn [] apart w args/\X w args)/\sizedMet enc C.prog fn (OpenSpec.ofChange s) apart w args) (s.post enc C.prog fn apart fresh handsOn again):=by
 refine returnsInHanded_of_calls own started noInit witness ?_
 intro w tape i _ shape _ ok pre _
 obtain ⟨-,-,-,g,hg,-,-,-,-,vals⟩:=ok
 obtain rfl:g=fn:=Option.some.inj (hg.symm.trans hfn)
 obtain ⟨⟨⟨ds,gs,before,whole,-⟩,listed⟩,-⟩:=pre
 refine (contract (w.forCall tape i) w.heap.size i.args ds gs before vals (DataW.Whole.of_heap (w':=w.forCall tape i) zu whole) (hX _ _ _ zu listed) shape).mono ?_
 rintro _ W' ⟨v,rfl,post⟩
 exact ChangeSpec.post_blind post
theorem lifted (os:Os) (started:os.Started) (H:Type) (enc:TypeId×Value->H):
  ReturnsInHanded {} Tryz.checked os 4 .any (fun w args=>(Rows.viewShowsSpec.pre enc prog f4 [] false w args/\laidMetH prog Rows.viewShowsRow.laid w)/\sizedMet enc prog f4 (OpenSpec.ofChange Rows.viewShowsSpec) false w args)
   (Rows.viewShowsSpec.post enc prog f4 false true false false):=by
 refine handed (C:=Tryz.checked) (X:=fun w _=>laidMetH prog Rows.viewShowsRow.laid w) (fun _ _ _ hh h=>h.of_heap hh) own started zj func4
  (ChangeSpec.witness_shaped (enc:=enc) (C:=Tryz.checked) (os:=os) (X:=fun w _=>laidMetH prog Rows.viewShowsRow.laid w) false ((World.doorLaid prog 400 os).layVars prog plainLaid) #[.slice none 0 0,.int .i64 0,.int .i64 0,.string ⟨#[]⟩] 8 (World.layVars_os _ _ _) (wit_shaped os _) zj zj zj (wit_met os _)) ?_
 intro W base args ds gs before hval0 hW hL hsh
 have hval:∀(j:Nat) t v,f4.params[j]? =some t->args[j]? =some v->Value.okWide prog W .any base t v:=hval0
 have hW':=hW
 obtain ⟨p,q,hA0,hV0,rfl,hfz,hnd⟩:=hW
 have hA:DataW.TrodAll enc prog W 0 (fun _=>true) true f4.params.toList args.toList ds p:=hA0
 rw [params4] at hA hval
 obtain ⟨v0,v1,v2,v3,d0,d1,d2,d3,p0,p1,p2,p3,rfl,rfl,rfl,h0,h1,h2,h3⟩:=trodAll_four hA
 obtain ⟨rfl,rfl⟩:=trodVars_none hV0
 obtain ⟨ao,len,cap,rfl⟩:=okWide_slice underlying77 (hval 0 77 v0 rfl rfl)
 obtain ⟨by_,rfl,rfl,rfl,wc⟩:=open_int underlying3 (hval 1 3 v1 rfl rfl) h1
 obtain ⟨inn,rfl,rfl,rfl,wi⟩:=open_int underlying3 (hval 2 3 v2 rfl rfl) h2
 obtain ⟨path,rfl,rfl,rfl,ws⟩:=open_string underlying9 (hval 3 9 v3 rfl rfl) h3
 obtain ⟨xs,rfl,hmax,hX,hok⟩:=turns_in h0
 obtain ⟨ad,m,hcy,hE,hV⟩:=env_of_row hL hsh
 have walk:Calls prog 4 #[.slice ao xs.length cap,.int .i64 by_,.int .i64 inn,.string path] W fun e w'=>e= .returned (.bool true)/\Below W.heap.size W w':=
  viewShows_law W ao cap xs by_ inn path wi hE hV hcy hX (by simp only [maxLen] at hmax;omega) hok
 refine walk.mono fun e W' ⟨he,hb⟩=> ?_
 subst he
 have hlt0:∀x∈p0,x.block<W.heap.size:=fun x hx=>by simpa using hW'.lt x (by simp [hx])
 refine ⟨_,rfl,_,_,_,[],p0++([]++([]++ [])),[],hW',?_,?_,?_,hb.frame _,fun h=>yA⟩
 ·exact trodAll_mk1 (shut_bool underlying4 true)
 ·exact trodAll_mk4 (Below.trod laidOut zj (of_decide_eq_true zj) h0 hb hlt0) (shut_int underlying3 wc) (shut_int underlying3 wi) (shut_string underlying9 ws)
 rfl
