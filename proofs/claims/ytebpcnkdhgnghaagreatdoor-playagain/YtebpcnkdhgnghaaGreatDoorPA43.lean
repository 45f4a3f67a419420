import Derived.Test.YtebpcnkdhgnghaaGreatDoorPA08
import Derived.Test.YtebpcnkdhgnghaaGreatDoorPA42
set_option linter.unusedSimpArgs false
set_option linter.unusedVariables false
set_option maxRecDepth 100000
set_option maxHeartbeats 64000000
section
namespace Go.Proofs.YtebpcnkdhgnghaaGreatDoor
open Go.Proofs.Tryz
open Go Go.RowKit Go.Lib Go.Sort Go.Maps
open scoped Classical
theorem DP {A C:List OpX} {s t:List UInt8} (hW:WellK A) (hp:A.Perm C) (h:StateIs A s) (k:StateIs C t):t=s:=(h.same hW hp k).symm
theorem oJ {B:Nat} {ad:Nat->Addr} (w:World) (la:Option Addr) (lc:Nat) (xs:List Int) (hE0:EnvM B ad w) (hEr0:Errs B ad w) (hin:InRow eL w la xs) (hnil:la=none->lc=0) (hl:xs.length<9223372036854775808) (hok:∀x∈xs,Cc x):
  Calls prog 4 #[.slice la xs.length lc] w fun e w'=>e= .returned (.bool true)/\Below w.heap.size w w':=by
 have hact:=DN w hE0 hEr0
 obtain ⟨S,hS⟩:=ze w.heap.size
 have H0:Aside (EnvM S ad w/\Errs S ad w/\InRow eL w la xs/\(la=none->lc=0)/\(∀x∈xs,Cc x)/\S<=w.heap.size):=by
  rw [hS.o]
  exact ⟨hE0.up hE0.t.env.size zg,hEr0.up hEr0.size zg,hin,hnil,hok,jL _⟩
 clear hE0 hEr0 hin hnil hok
 go_enter func4,ntmps4
 go_wp2_with fail
 refine hact.mono ?_
 clear hact
 rintro e w1 ⟨rfl,hb1⟩
 have HB1:Aside (Below w.heap.size w w1):=hb1
 clear hb1
 by_cases h150:150<xs.length
 ·have d1:decide ((150:Int)<(xs.length:Int))=true:=by simp;omega
  have d1n:decide (150<xs.length)=true:=zl
  go_wp2
  go_ret
  exact ⟨rfl,HB1.o⟩
 have d1:decide ((150:Int)<(xs.length:Int))=false:=zl
 have d1n:decide (150<xs.length)=false:=zl
 have hna:=ou (B:=S) w1 3 zj zj (jM H0.o.2.2.2.2.2 HB1.o.size)
 go_wp2_with fail
 refine hna.mono ?_
 clear hna
 rintro e w2 ⟨ba,rfl,H2⟩
 obtain ⟨Sb,hSb⟩:=ze w2.heap.size
 have hnb:=ou (B:=Sb) w2 3 zj zj (by rw [hSb.o];exact jL _)
 go_wp2_with fail
 refine hnb.mono ?_
 clear hnb
 rintro e w3 ⟨bb,rfl,H3⟩
 have H4:Aside (∃Ka sa Kb sb,TwoAt (fun _=>False) S Sb ba bb Ka sa [] Kb sb [] w3/\SameM Ka Kb sa sb [] []/\WfM Ka []/\MeshI 3 0 [] Ka (fun _=>[]) sa []/\MeshI 3 0 [] Kb (fun _=>[]) sb [])/\Aside (Below S w w3/\S<=Sb/\Sb<=w3.heap.size):=by
  obtain ⟨Ka,sa,hma,hba,hKa,hsa,_⟩:=H2.o
  obtain ⟨Kb,sb,hmb,hbb,hKb,hsb,_⟩:=H3.o
  have q2:Below S w w2:=by rw [hS.o];exact zi HB1.o hba
  have q3:Below S w w3:=by rw [hS.o] at q2 |-;exact zi q2 hbb
  rw [hSb.o] at hmb |-
  exact ⟨⟨Ka,sa,Kb,sb,EM hma hbb hmb,(AW hKa hKb hsa hsb).1,(AW hKa hKb hsa hsb).2,sU hKa hsa,sU hKb hsb⟩,q3,jM H0.o.2.2.2.2.2 q2.size,hbb.size⟩
 obtain ⟨HT3,HB3⟩:=H4
 clear H2 H3 hSb
 obtain ⟨so,cap,w4,hrunX,HX4⟩:=mG w3 la lc xs (H0.o.2.2.1.later (by rw [<-hS.o];exact HB3.o.1)) H0.o.2.2.2.1 zj
 obtain ⟨Ka,sa,Kb,sb,hT3,hSM,hWf,hIa,hIb⟩:=HT3.o
 have hb4:Below S w w4:=HB3.o.1.trans (HX4.o.1.mono (jM HB3.o.2.1 HB3.o.2.2))
 have hra:=Ii (ad:=ad) w4 (hT3.more HX4.o.1) HB3.o.2.1 so cap xs H0.o.2.2.2.2.1 (HX4.o.2.2.imp id (fun ⟨g,ob,e1,e2,e3,e4⟩=>⟨g,ob,e1,.inr ⟨e2,(jJ.1 e3).1⟩,e3,e4⟩)) hIa zq (H0.o.1.mono hb4) (H0.o.2.1.mono hb4) zj HX4.o.2.1
 have HSM:Aside (SameM Ka Kb sa sb [] []/\WfM Ka []/\MeshI 3 0 [] Kb (fun _=>[]) sb []/\Below S w w4/\Sb<=w4.heap.size):=⟨hSM,hWf,hIb,hb4,jM HB3.o.2.2 HX4.o.1.size⟩
 clear HT3 hT3 hSM hWf hIa hIb hb4 HX4
 go_wp2_with (at_builtin;refine Lib.wpList_append_run _ rfl _ _ _ _ rfl _ _ rfl rfl _ _ hrunX ?_)
 refine hra.mono ?_
 clear hra hrunX
 rintro e w5 ⟨a5,c5,cs,G5,K5,D5,s5,N5,rfl,H5⟩
 obtain ⟨hT5,hb5,hI5,hN5,hrow5,hRX5,hcl5⟩:=H5.o
 have hbS5:Below S w w5:=HSM.o.2.2.2.1.trans hb5
 have hsz5:Sb<=w5.heap.size:=jM HSM.o.2.2.2.2 hb5.size
 obtain ⟨so6,cap6,w6,hrunY,HX6⟩:=mG w5 la lc xs (H0.o.2.2.1.later (by rw [<-hS.o];exact hbS5)) H0.o.2.2.2.1 zj
 have hb6:Below S w w6:=hbS5.trans (HX6.o.1.mono (jM HB3.o.2.1 hsz5))
 have hsz6:Sb<=w6.heap.size:=jM hsz5 HX6.o.1.size
 have hrb:=DM (ad:=ad) w6 (hT5.more HX6.o.1) so6 cap6 xs H0.o.2.2.2.2.1 (HX6.o.2.2.imp id (fun ⟨g,ob,e1,e2,e3,e4⟩=>⟨g,ob,e1,.inr ⟨e2,(jJ.1 e3).1⟩,jM hsz5 e2,e3,e4⟩)) HSM.o.2.2.1 zq ((H0.o.1.mono hb6).up HB3.o.2.1 hsz6) ((H0.o.2.1.mono hb6).up HB3.o.2.1 hsz6) zj HX6.o.2.1
 have H6:Aside (Below S w w6/\w6.ownsRow S 3 1 (.slice a5 xs.length c5) cs.length (aB eL cs)/\RX Ka sa [] xs K5 s5 N5 cs/\cs.length=xs.length/\MeshI 3 (0+xs.length) G5 K5 D5 s5 N5):=⟨hb6,au hrow5 (fun g hg=>HX6.o.1.block g (hrow5.lt g hg).2),hRX5,hcl5,hI5⟩
 clear hT5 hb5 hI5 hN5 hrow5 hRX5 hcl5 H5 hbS5 hsz5 HX6 hb6 hsz6
 go_wp2_with (at_builtin;refine Lib.wpList_append_run _ rfl _ _ _ _ rfl _ _ rfl rfl _ _ hrunY ?_)
 refine hrb.mono ?_
 clear hrb hrunY
 rintro e w7 ⟨a7,c7,ds,G7,K7,D7,s7,N7,rfl,H7⟩
 obtain ⟨hT7,hb7,hI7,hN7,hrow7,hRX7,hcl7,hkept⟩:=H7.o
 obtain ⟨hcd,hSM7⟩:=JF HSM.o.1 HSM.o.2.1 H6.o.2.2.1 hRX7
 have hcl:=H6.o.2.2.2.1
 have hrow5:w7.ownsRow S 3 1 (.slice a5 xs.length c5) cs.length (aB eL cs):=au H6.o.2.1 (fun g hg=>by
  obtain ⟨o,ho⟩:=iC H6.o.2.1 hg
  rw [hkept g o (.inl hg) ho,ho])
 rw [<-hcd] at hrow7
 rw [<-hcl] at hrow5 hrow7
 have hsame:=kK w7 a5 a7 c5 c7 cs zj (gD hrow5) (gD hrow7)
 rw [hcl] at hsame
 have HT7:Aside (TwoAt (fun _=>False) S Sb ba bb K5 s5 N5 K7 s7 N7 w7/\Below S w w7/\MeshI 3 (0+xs.length) G7 K7 D7 s7 N7/\SameM K5 K7 s5 s7 N5 N7/\MeshI 3 (0+xs.length) G5 K5 D5 s5 N5):=⟨hT7.less (fun k q=>q.elim),H6.o.1.trans (hb7.mono HB3.o.2.1),hI7,hSM7,H6.o.2.2.2.2⟩
 clear hT7 hb7 hI7 hN7 hrow7 hRX7 hcl7 hkept hcd hSM7 hcl hrow5 H7 H6
 go_wp2_with fail
 refine hsame.mono ?_
 clear hsame
 rintro e w8 ⟨rfl,hb8⟩
 have HB8:Aside (Below S w w8/\Sb<=w8.heap.size):=by
  have q:=HT7.o.2.1
  have:S<=w7.heap.size:=by rw [hS.o] at q |-;exact q.size
  have q7:Sb<=w7.heap.size:=by
   obtain ⟨_,_,_,_,_,_,_,_,_,_,_,_,_,_,_,_,_,h,_⟩:=HT7.o.1
   exact h.base
  exact ⟨q.trans (hb8.mono this),jM q7 hb8.size⟩
 have hca:=EB (ad:=ad) w8 (HT7.o.1.later hb8) HB3.o.2.1 HT7.o.2.2.2.2 (H0.o.1.mono HB8.o.1) zj
 clear hb8
 go_wp2_with fail
 refine hca.mono ?_
 clear hca
 rintro e w9 ⟨K9,D9,s9,rfl,H9⟩
 have HB9:Aside (Below S w w9/\Sb<=w9.heap.size):=⟨HB8.o.1.trans H9.o.2.1,jM HB8.o.2 H9.o.2.1.size⟩
 have hcb:=BJ (ad:=ad) w9 H9.o.1 HT7.o.2.2.1 ((H0.o.1.mono HB9.o.1).up HB3.o.2.1 HB9.o.2) zj
 go_wp2_with fail
 refine hcb.mono ?_
 clear hcb
 rintro e w10 ⟨K10,D10,s10,rfl,H10⟩
 have HB10:Aside (Below S w w10/\Sb<=w10.heap.size):=⟨HB9.o.1.trans (H10.o.2.1.mono HB3.o.2.1),jM HB9.o.2 H10.o.2.1.size⟩
 have HP:Aside ((aX (K9 1)).Perm (aX (K10 2))/\RowsK (K9 1)/\RowsK (K10 2)/\(aX (K9 1)).length<=150/\(aX (K10 2)).length<=150):=by
  have q1:=H9.o.2.2.1.len (r:=1) zj
  have q2:=H10.o.2.2.1.len (r:=2) zj
  exact ⟨Fv HT7.o.2.2.2.1 HT7.o.2.2.2.2 HT7.o.2.2.1 H9.o.2.2.1 H10.o.2.2.1 H9.o.2.2.2 H10.o.2.2.2 zj zj,H9.o.2.2.1.rows 1 zj,H10.o.2.2.1.rows 2 zj,zj,zj⟩
 obtain ⟨owa,pva,fva,bpa,bra,da,dva,ca,owb,pvb,fvb,bpb,brb,db,dvb,cb,ha,hb2,hne,hXf⟩:=H10.o.1
 have HM:Aside (MeshAt (fun _=>none) S w10 owa 3 ba pva fva bpa bra da dva ca K9 s9 []/\MeshAt (fun _=>none) Sb w10 owb 3 bb pvb fvb bpb brb db dvb cb K10 s10 []/\EnvM S ad w10):=⟨ha,hb2,H0.o.1.mono HB10.o.1⟩
 have hr1:Calls prog 18 #[.pointer (some ⟨ba,0,none⟩),.int .i64 1] w10 fun e w'=>e= .returned (.tuple #[.pointer (some ⟨bra 1,0,none⟩),.nilIface])/\w'=w10:=gK w10 1 zj ha HM.o.2.2
 have hr2:Calls prog 18 #[.pointer (some ⟨bb,0,none⟩),.int .i64 2] w10 fun e w'=>e= .returned (.tuple #[.pointer (some ⟨brb 2,0,none⟩),.nilIface])/\w'=w10:=gK w10 2 zj hb2 (HM.o.2.2.up HB3.o.2.1 HB10.o.2)
 have hs1:=gh w10 (ca 1) (bra 1) _ (K9 1) (ha.rep 1 zj).1.rep HM.o.2.2.t.is (by have:=HP.o.2.2.2.1;omega)
 clear ha hb2 hne hXf H9 H10 HT7 HB8 HB9 HSM
 go_wp2_with fail
 refine hr1.mono ?_
 clear hr1
 rintro e w11 ⟨rfl,hw⟩
 obtain rfl:w10=w11:=hw.symm
 clear hw
 go_wp2_with fail
 refine hr2.mono ?_
 clear hr2
 rintro e w11 ⟨rfl,hw⟩
 obtain rfl:w10=w11:=hw.symm
 clear hw
 obtain ⟨r1,hr1⟩:=ze (bra 1)
 obtain ⟨r2,hr2⟩:=ze (brb 2)
 rw [<-hr1.o] at hs1 |-
 rw [<-hr2.o]
 go_wp2_with fail
 refine hs1.mono ?_
 clear hs1
 rintro e w11 ⟨s,rfl,hS1,hb11⟩
 have hs2:=gh w11 (cb 2) (brb 2) _ (K10 2) ((HM.o.2.1.later hb11).rep 2 zj).1.rep (HM.o.2.2.later hb11).t.is (by have:=HP.o.2.2.2.2;omega)
 rw [<-hr2.o] at hs2
 have H11:Aside (Below w10.heap.size w10 w11/\StateIs (aX (K9 1)) s):=⟨hb11,hS1⟩
 clear hS1 hb11
 go_wp2_with fail
 refine hs2.mono ?_
 clear hs2
 rintro e w12 ⟨t,rfl,hS2,hb12⟩
 have hts:=DP HP.o.2.1.well HP.o.1 H11.o.2 hS2
 subst hts
 have H12:Aside (Below w10.heap.size w10 w12):=zi H11.o.1 hb12
 have ho1:=AJ w12 (ca 1) (bra 1) _ (K9 1) ((HM.o.1.later H12.o).rep 1 zj).1.rep (by have:=HP.o.2.2.2.1;omega)
 rw [<-hr1.o] at ho1
 clear hS2 hb12 H11
 go_wp2_with fail
 refine ho1.mono ?_
 clear ho1
 rintro e w13 ⟨v13,ys,rfl,hO13,hst13,hb13,hnew13⟩
 have H13:Aside (Below w10.heap.size w10 w13):=zi H12.o hb13
 have ho2:=AJ w13 (cb 2) (brb 2) _ (K10 2) ((HM.o.2.1.later H13.o).rep 2 zj).1.rep (by have:=HP.o.2.2.2.2;omega)
 rw [<-hr2.o] at ho2
 have HO:Aside (OpsAt w13 v13 ys/\ae (aX (K9 1)) ys):=⟨hO13,hst13⟩
 clear hO13 hst13 hb13 hnew13
 go_wp2_with fail
 refine ho2.mono ?_
 clear ho2
 rintro e w14 ⟨v14,zs,rfl,hO14,hst14,hb14,hnew14⟩
 have hyz:=Ad HP.o.2.1 HP.o.2.2.1 HP.o.1 HO.o.2 hst14
 subst hyz
 have hyl:ys.length<=1000:=by
  have q1:=(bG HO.o.2).1.length_eq
  have q2:=HP.o.2.2.2.1
  omega
 have hso:=ID w14 v13 v14 ys (HO.o.1.later hb14) hO14 hyl
 have H14:Aside (Below w10.heap.size w10 w14):=zi H13.o hb14
 clear hO14 hst14 hb14 hnew14 hyl
 go_wp2_with fail
 refine hso.mono ?_
 clear hso
 rintro e w15 ⟨rfl,hb15⟩
 have H15:Aside (Below w.heap.size w w15):=by
  have q:=HB10.o.1
  rw [hS.o] at q
  exact q.trans ((zi H14.o hb15).mono q.size)
 clear hb15
 go_wp2
 go_ret
 exact ⟨rfl,H15.o⟩
end Go.Proofs.YtebpcnkdhgnghaaGreatDoor
end
section
namespace Go.Proofs.YtebpcnkdhgnghaaGreatDoor
open Go.ChangeShapes Go.WideShapes Go.RowKit Go.Deep
theorem Iy {H:Type} {enc:TypeId×Value->H} {W:World} {base:Nat} {sp:Nat->Bool} {held:Bool} {ao:Option Addr} {len cap:Nat} {d:DataW H} {p:List MemPlace}
  (h:DataW.Trod enc Tryz.prog W base sp held 42 (.slice ao len cap) d p):∃zs:List Int,zs.length=len/\len<=maxLen/\InRow eL W ao zs/\(ao=none->cap=0)/\∀x∈zs,Cc x:=by
 obtain ⟨fuel,hf⟩:=h
 rcases open_slice Tryz.underlying42 hf with ⟨hcs,_⟩ | ⟨a,len',cap',m,n,D,Pl,hcs,_,hl,hmax,hm,_,hx⟩
 ·simp [Value.cells] at hcs
  obtain ⟨rfl,rfl,rfl⟩:=hcs
  exact ⟨[],rfl,jX _,.inl rfl,fun _=>rfl,fun x hx=>zP⟩
 simp [Value.cells] at hcs
 obtain ⟨rfl,rfl,rfl⟩:=hcs
 have hmm:len<=m:=by subst hm;split<;>omega
 rcases Nat.eq_zero_or_pos len with h0 | hpos
 ·exact ⟨[],h0.symm,zj,.inl rfl,fun q=>(by cases q),fun x hx=>zP⟩
 have key:∀i,i<len->∃z:Int,Cc z/\W.cell? (a.add i)=some (.int .i64 z):=fun i hi=>by
  obtain ⟨cs',h1,h2⟩:=hx i zj
  rw [Dn] at h1
  obtain ⟨z,e0,_,wz⟩:=DataW.trod_int Tryz.underlying3 h2
  have:=(World.cells?_some h1).2.2 0 zj
  rw [e0] at this
  rw [Nat.mul_one] at this
  obtain ⟨b,off,spot⟩:=a
  refine ⟨z,?_,by simpa [Addr.add] using this⟩
  simp [Lit.wf,IntKind.min,IntKind.max,IntKind.signed,IntKind.bits] at wz
  unfold Cc
  omega
 obtain ⟨f,hf⟩:=choose_lt key
 obtain ⟨b,off,spot⟩:=a
 have hspot:spot=none:=by
  have hz:=(hf 0 hpos).2
  simpa [Addr.add] using World.cell?_spot hz
 subst hspot
 refine ⟨(List.range len).map f,zq,zj,.inr ⟨b,off,rfl,fun j u hj=> ?_⟩,fun q=>(by cases q),fun x hx=> ?_⟩
 ·have hjl:j<len:=by
   have:=(jI.1 hj).1
   rw [aa (k:=1) (fun _=>rfl)] at this
   exact kn3
  have hm:((List.range len).map f)[j]? =some (f j):=by rw [vP,List.getElem?_range hjl];rfl
  have h2:=bd (enc:=eL) (k:=1) (fun _=>rfl) hm (show 0<1 by omega)
  rw [Nat.mul_one,vI,hj] at h2
  have h1:=(hf j hjl).2
  rw [add_plain] at h1
  rw [h1,h2]
  rfl
 obtain ⟨i,hi,rfl⟩:=vp.1 hx
 exact (hf i (List.mem_range.1 hi)).1
end Go.Proofs.YtebpcnkdhgnghaaGreatDoor
end
section
namespace Go.Proofs.YtebpcnkdhgnghaaGreatDoor.PAgain
open Go.Proofs.Tryz
open Go.ChangeShapes Go.WideShapes Go.ChangeAt Go.RowKit Go.Joins Go.ChangeMaps
theorem own:ownKnob prog.godebug=none:=zk
theorem Lh:laidOutB prog=true:=zk
theorem Ae {W:World} (h:laidMetH prog Rows.playAgainRow.laid W) (hsh:W.ShapedOpen prog):∃ad:Nat->Addr,EnvM W.heap.size ad W/\Errs W.heap.size ad W:=by
 have h':laidMet prog plainLaid W/\handlesMet prog io W:=h
 have h1:laidMet prog oL W:=h'.1
 exact Lv h1 h'.2 hsh
theorem My {H:Type} {enc:TypeId×Value->H} {C:Checked} {os:Os} {f:FuncId} {fn:Func} {s:ChangeSpec} {apart fresh handsOn again:Bool} {X:World->Array Value->Prop}
  (hX:∀(w w':World) (args:Array Value),w.heap=w'.heap->X w args->X w' args)
  (own:ownKnob C.prog.godebug=none) (started:os.Started) (noInit:C.prog.inits.idxOf? f=none) (hfn:C.prog.funcs[f]? =some fn)
  (witness:∃(w:World) (tape:Tape) (i:Input),w.os=os/\(w.forCall tape i).Shaped C.prog/\i.vars= []/\Input.okWide C.prog (w.forCall tape i) .any w.heap.size f i/\
   ((s.pre enc C.prog fn [] apart (w.forCall tape i).memory i.args/\X (w.forCall tape i).memory i.args)/\sizedMet enc C.prog fn (OpenSpec.ofChange s) apart (w.forCall tape i).memory i.args)/\({} :Assume).holds C.prog (lone (Frame.enter C.prog f i.args .normal) [] (w.forCall tape i)))
  (contract:∀(W:World) (base:Nat) (args:Array Value) (ds gs:List (DataW H)) (before:List MemPlace),
   (∀(j:Nat) t v,fn.params[j]? =some t->args[j]? =some v->Value.okWide C.prog W .any base t v)->
   DataW.Whole enc C.prog fn.params.toList s.vars apart W args.toList ds gs before->X W args->W.ShapedOpen C.prog->
   Calls C.prog f args W fun e W'=>∃v,e= .returned v/\s.post enc C.prog fn apart fresh handsOn again W args v W'):
  ReturnsInHanded {} C os f .any (fun w args=>(s.pre enc C.prog fn [] apart w args/\X w args)/\sizedMet enc C.prog fn (OpenSpec.ofChange s) apart w args) (s.post enc C.prog fn apart fresh handsOn again):=by
 refine returnsInHanded_of_calls own started noInit witness ?_
 intro w tape i _ shape _ ok pre _
 obtain ⟨-,-,-,g,hg,-,-,-,-,vals⟩:=ok
 obtain rfl:g=fn:=Option.some.inj (hg.symm.trans hfn)
 obtain ⟨⟨⟨ds,gs,before,whole,-⟩,listed⟩,-⟩:=pre
 refine (contract (w.forCall tape i) w.heap.size i.args ds gs before vals (DataW.Whole.of_heap (w':=w.forCall tape i) zt whole) (hX _ _ _ zt listed) shape).mono ?_
 rintro _ W' ⟨v,rfl,post⟩
 exact ChangeSpec.post_blind post
theorem MD (os:Os) (started:os.Started) (H:Type) (enc:TypeId×Value->H):
  ReturnsInHanded {} Tryz.checked os 4 .any (fun w args=>(Rows.playAgainSpec.pre enc prog f4 [] false w args/\laidMetH prog Rows.playAgainRow.laid w)/\sizedMet enc prog f4 (OpenSpec.ofChange Rows.playAgainSpec) false w args)
   (Rows.playAgainSpec.post enc prog f4 false true false false):=by
 refine My (C:=Tryz.checked) (X:=fun w _=>laidMetH prog Rows.playAgainRow.laid w) (fun _ _ _ hh h=>h.of_heap hh) own started zk func4
  (ChangeSpec.witness_shaped (enc:=enc) (C:=Tryz.checked) (os:=os) (X:=fun w _=>laidMetH prog Rows.playAgainRow.laid w) false ((World.doorLaid prog 400 os).layVars prog plainLaid) #[.slice none 0 0] 8 (World.layVars_os _ _ _) (CV os _) zk zk zk (KV os _)) ?_
 intro W base args ds gs before hval0 hW hL hsh
 have hval:∀(j:Nat) t v,f4.params[j]? =some t->args[j]? =some v->Value.okWide prog W .any base t v:=hval0
 have hW':=hW
 obtain ⟨p,q,hA0,hV,rfl,hfz,hnd⟩:=hW
 have hA:DataW.TrodAll enc prog W 0 (fun _=>true) true f4.params.toList args.toList ds p:=hA0
 rw [params4] at hA hval
 obtain ⟨z0,d0,rfl,rfl,h0⟩:=trodAll_one hA
 obtain ⟨rfl,rfl⟩:=trodVars_none hV
 obtain ⟨ao,len,cap,rfl⟩:=okWide_slice underlying42 (hval 0 42 z0 rfl rfl)
 obtain ⟨xs,rfl,hmax,hX,hnil,hok⟩:=Iy h0
 obtain ⟨ad,hE,hR⟩:=Ae hL hsh
 have walk:Calls prog 4 #[.slice ao xs.length cap] W fun e w'=>e= .returned (.bool true)/\Below W.heap.size W w':=
  oJ W ao cap xs hE hR hX hnil (by simp only [maxLen] at hmax;omega) hok
 refine walk.mono fun e W' ⟨he,hb⟩=> ?_
 subst he
 have hlt0:∀x∈p,x.block<W.heap.size:=fun x hx=>by simpa using hW'.lt x (by simp [hx])
 refine ⟨_,rfl,_,_,_,[],p,[],hW',?_,?_,?_,hb.frame _,fun h=>qS⟩
 ·exact trodAll_mk1 (shut_bool underlying4 true)
 ·exact trodAll_mk1 (Below.trod Lh zk (of_decide_eq_true zk) h0 hb hlt0)
 rfl
end Go.Proofs.YtebpcnkdhgnghaaGreatDoor.PAgain
end
section
namespace Go.Proofs.YtebpcnkdhgnghaaGreatDoor.PAgain
open Go.ChangeShapes Go.WideShapes Go.ChangeAt Go.RowKit Go.Joins Go.ChangeMaps
theorem said:Rows.PlayAgainSaid:=
 OpenClaim.holds_of_wide 4 Tryz.f4 rfl rfl rfl rfl rfl rfl rfl ⟨rfl,rfl,rfl,rfl,rfl⟩ rfl rfl rfl rfl rfl zk Tryz.func4 Mu
  (of_decide_eq_true zk) (by unfold Func.isWrapper;first | (rw [if_pos yI];kernel_rfl) | (rw [if_neg yI];exact ⟨rfl,rfl⟩))
  (fun os started H enc _=>MD os started H enc)
