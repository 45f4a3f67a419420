import Derived.Test.YtebpcnkdhgnghaaGreatDoorPA17
import Derived.Test.YtebpcnkdhgnghaaGreatDoorPA19
import Derived.Test.YtebpcnkdhgnghaaGreatDoorPA20
set_option linter.unusedSimpArgs false
set_option linter.unusedVariables false
set_option maxRecDepth 100000
set_option maxHeartbeats 64000000
namespace Go.Proofs.YtebpcnkdhgnghaaGreatDoor
open Go.Proofs.Tryz
variable {ls:List (List UInt8)} {B b:Nat} {ad:Nat→Addr} {x:OpX} {v:Value} {W w w':World}
section
open Go.RowKit Go.Shelf Go.Maps
section
variable {P:Program} {ops:Array Oper} {Q:Exit→Act→World→Prop} {md:Region.Mode} {S:World→Prop} {z:Nat}
theorem sH {i:Nat} {o:Oper} {fuel:Nat} {listed:Array Bool} {a:Act} (hr:Region.ready md ops listed= [i]) (ho:ops[i]? =some o) (hz:listed.getD z false=true)
  (h:∀K:Act->World->Prop,(∀a' w',cW P md ops Q S z fuel (listed.setIfInBounds i true) a' w'->K a' w')->if Region.wanted o (yielded ops a.tmps)=true then Oper.wp P o a w K Q else K (a.put o.dst undef) w):cW P md ops Q S z (fuel+1) listed a w:=by
 refine ⟨fun h0=>yK,fun j hj=> ?_⟩
 rw [hr] at hj
 simp only [jS] at hj
 subst hj
 have:=h (fun a' w'=>(S w'\/(listed.setIfInBounds j true).getD z false=true)/\cW P md ops Q S z fuel (listed.setIfInBounds j true) a' w') (fun a' w' h2=>⟨.inr (iM hz),h2⟩)
 unfold wpOp
 simp only [ho]
 split
 ·rename_i hw
  exact kg1
 rename_i hw
 exact kh6
end
theorem Kk:(prog.info? 9).map (fun i=>(i.zero,i.size,i.bytes))=some (some (.string ⟨#[]⟩),1,16):=zk
def CL (ls:List (List UInt8)):List Value:=ls.map fun l=>.string ⟨l.toArray⟩
theorem GY (a b:List (List UInt8)):CL (a++b)=CL a++CL b:=vz
structure TellSt (b:Nat) (ls:List (List UInt8)) (v:Value) (w:World):Prop where
 box:Boxed w b 102 v
 row:w.ownsRow (b+1) 9 1 v ls.length (CL ls)
theorem TellSt.lt (h:TellSt b ls v w):b<w.heap.size:=(jJ.1 h.box).1
theorem TellSt.later (h:TellSt b ls v w) (hb:Below w.heap.size w w'):TellSt b ls v w':=
 ⟨(hb.block b h.lt).trans h.box,au h.row (fun g hg=>hb.block g (h.row.lt g hg).2)⟩
def wP (b:Nat) (line:List UInt8) (ls:List (List UInt8)) (v:Value) (w:World) (e:Ending) (w':World):Prop:=
 ∃v',e= .returned (.tuple #[])/\TellSt b (ls++ [line]) v' w'/\Keeps (fun k=>k=b\/v.ownBlock=some k) w w'/\∀k,v'.ownBlock=some k->v.ownBlock=some k\/w.heap.size<=k
theorem Cv {u:World} (h:TellSt b ls v w) (hb:Below w.heap.size w u) (line:List UInt8) (hls:ls.length<=1000000):
  ∃g cap w',(Builtin.append_ #[102,102] 102 #[v,.slice (some ⟨u.heap.size,0,none⟩) 1 1]).run prog (u.alloc (.cells #[.string ⟨line.toArray⟩] 9))= .ok (.slice (some ⟨g,0,none⟩) (ls.length+1) cap) w'/\
   w'.cell? ⟨b,0,none⟩=some v/\w'.frozen? ⟨b,0,none⟩=false/\wP b line ls v w (.returned (.tuple #[])) (w'.setCell ⟨b,0,none⟩ (.slice (some ⟨g,0,none⟩) (ls.length+1) cap)):=by
 obtain ⟨i0,hi,hz0,hz1,hz2⟩:=info_parts Kk
 have hu:=h.later hb
 have hlt:=hu.lt
 obtain ⟨v',w',hrun,hown,hgrow,hcase⟩:=dZ (P:=prog) (u.alloc (.cells #[.string ⟨line.toArray⟩] 9)) (b+1) 102 102 9 i0 _ 1 16 underlying102 hi hz0 hz1 hz2 rfl zj v ls.length (CL ls) (hu.row.alloc _) ⟨u.heap.size,0,none⟩ 1 1 zj [.string ⟨line.toArray⟩] rfl
  (ui (cs:= #[.string ⟨line.toArray⟩]) (t:=9) (fr:=(0,0)) (heap_alloc_new u _)) qt zu zj qV
 obtain ⟨g,cap,rfl⟩:=ownsRow_succ hown
 have hvb:∀k,v.ownBlock=some k->b+1<=k/\k<w.heap.size:=fun k hk=>h.row.lt k hk
 have hK1:Keeps (fun k=>v.ownBlock=some k) u w':=(((Keeps.refl (fun k=>v.ownBlock=some k) u).alloc _).trans ((aP hgrow).mono (fun k _ hk=>by rw [<-hk])))
 have hK2:Keeps (fun k=>v.ownBlock=some k) w w':=((aV hb).mono (fun k hk hle=>absurd hk zj)).trans hK1
 have hbb:w'.heap[b]? =u.heap[b]? :=hK1.block b hlt (fun e=>by have:=(hvb b e).1;omega)
 have hbox:Boxed w' b 102 v:=hbb.trans hu.box
 refine ⟨g,cap,w',hrun,hbox.cell,hbox.frozen,.slice (some ⟨g,0,none⟩) (ls.length+1) cap,rfl,⟨?_,?_⟩,?_,?_⟩
 ·exact heap_setCell_same w' b 0 _ _ _ hbox
 ·rw [jP,ub,GY]
  refine au hown (fun k hk=> ?_)
  have hkb:=(hown.lt k hk).1
  exact Below.heap_setCell _ _ _ k (by show k≠b;omega)
 ·exact ⟨hK2.os,hK2.tape,hK2.output,by simpa using hK2.size,fun k hk hn=>by
   rw [Below.heap_setCell _ _ _ k (show k≠b from fun e=>hn (.inl e))]
   exact hK2.block k hk (fun e=>hn (.inr e))⟩
 intro k hk
 rcases hcase with ⟨g1,c1,e1,e2⟩ | ⟨e1,_⟩
 ·cases e2
  subst e1
  exact .inl hk
 rw [hk] at e1
 cases e1
 exact .inr (by have:=hb.size;simp;omega)
theorem BA (nd:Int) (ws:List (List UInt8)):(⟨(Lib.itoa nd).toArray⟩:ByteArray)++⟨#[32]⟩++⟨(Lib.join ws [32]).toArray⟩=⟨(kr nd ws).toArray⟩:=by
 apply ByteArray.ext
 simp [kr]
theorem oR (w:World) (b:Nat) (nd:Int) (wb c:Nat) (ws:List ByteArray) (ls:List (List UInt8)) (v:Value) (hst:TellSt b ls v w) (hw:∀(j:Nat) x,ws[j]? =some x->w.cell? ⟨wb,0+j,none⟩=some (.string x)) (hwb:wb<w.heap.size) (hwc:ws.length<=c) (hws:ws.length<=10)
  (htab:Lib.TabIs prog w "internal/strconv.uint64pow10" .u64 Lib.pow10Tab) (h0: -9223372036854775808<=nd) (h1:nd<=9223372036854775807) (hlen:(Lib.join (ws.map (·.data.toList)) [32]).length<=200000) (hls:ls.length<=1000000):
  Calls prog 48 #[.int .i64 nd,.slice (some ⟨wb,0,none⟩) ws.length c,.pointer (some ⟨b,0,none⟩)] w (wP b (kr nd (ws.map (·.data.toList))) ls v w):=by
 have HT:Aside (Lib.TabBelow prog w.heap.size w "internal/strconv.uint64pow10" .u64 Lib.pow10Tab):=Lib.tabBelow_of_tabIs htab
 have itoaU:∀u,Below w.heap.size w u->Calls prog 49 #[.int .i64 nd] u fun e w'=>e= .returned (.string ⟨(Lib.itoa nd).toArray⟩)/\Below u.heap.size u w':=fun u hu=>lT nd h0 h1 u (HT.o u hu)
 have joinU:∀u,Below w.heap.size w u->Calls prog 50 #[.slice (some ⟨wb,0,none⟩) ws.length c,.string ⟨#[32]⟩] u fun e w'=>e= .returned (.string ⟨(Lib.join (ws.map (·.data.toList)) [32]).toArray⟩)/\Below u.heap.size u w':=fun u hu=>
  Tryz.strings_Join wb 0 c ws ⟨#[32]⟩ u (fun j x hj=>(hu.cell (p:=⟨wb,0+j,none⟩) hwb).trans (hw j x hj)) (jW hwb hu.size) zj hwc (by show (Lib.join _ [32]).length<=_;omega)
 have HI:Aside (∀u,Below w.heap.size w u->Calls prog 49 #[.int .i64 nd] u fun e w'=>e= .returned (.string ⟨(Lib.itoa nd).toArray⟩)/\Below u.heap.size u w'):=itoaU
 have HJ:Aside (∀u,Below w.heap.size w u->Calls prog 50 #[.slice (some ⟨wb,0,none⟩) ws.length c,.string ⟨#[32]⟩] u fun e w'=>e= .returned (.string ⟨(Lib.join (ws.map (·.data.toList)) [32]).toArray⟩)/\Below u.heap.size u w'):=joinU
 have HS:Aside (TellSt b ls v w):=hst
 have HB0:Aside (Below w.heap.size w w.drew):=(jN _ w).drew
 have hS0:w.drew.cell? ⟨b,0,none⟩=some v:=(hst.later HB0.o).box.cell
 have hLB:=BA nd (ws.map (·.data.toList))
 have hIL:(Lib.itoa nd).length<=1000:=by have:=Lib.itoa_length_le nd h0 h1;omega
 obtain ⟨jn,hjn⟩:=za (Lib.join (ws.map (·.data.toList)) [32])
 rw [<-hjn] at HJ hLB hlen
 obtain ⟨line,hline⟩:=za (kr nd (ws.map (·.data.toList)))
 rw [<-hline] at hLB |-
 obtain ⟨it,hit⟩:=za (Lib.itoa nd)
 rw [<-hit] at HI hLB hIL
 obtain ⟨sl,hsl⟩:∃sl:Nat,sl=ws.length:=⟨_,rfl⟩
 rw [<-hsl] at HJ |-
 have n1:¬9223372036854775807<it.length+1:=zj
 have n2:¬9223372036854775807<it.length+1+jn.length:=zj
 clear itoaU joinU hst hw hwb hwc hws htab h0 h1 hlen hjn hline hit hsl HT hIL
 go_enter func48,ntmps48
 go_upto_region 0 with fail
 refine bJ (S:=fun w'=>w'.cell? ⟨b,0,none⟩=some v) (z:=8) zk hS0 (fun hHeld=> ?_)
 refine ay (i:=0) (v:= ?v0) zo zk rfl zk zk zk zk (fun _ _ _ h=>h) (Or.inl ⟨zt,?hy0⟩) hHeld ?rest0
 case hy0=>(intro w' hSw;go_simp;try with_reducible rfl)
 refine qn ?_
 refine aW (i:=1) (v:= ?v1) zo rfl zk zk zk (fun _ _ _ h=>h) (Or.inl ⟨zt,?hy1⟩) hHeld ?rest1
 case hy1=>(intro w' _;go_simp;try with_reducible rfl)
 refine qn ?_
 refine aW (i:=4) (v:= ?v4) zo rfl zk zk zk (fun _ _ _ h=>h) (Or.inl ⟨zt,?hy4⟩) hHeld ?rest4
 case hy4=>(intro w' _;go_simp;try with_reducible rfl)
 refine qn ?_
 refine aI (i:=2) zk rfl (fun K hK=> ?_)
 go_simp
 refine (HI.o _ HB0.o).mono ?_
 rintro e w1 ⟨rfl,hb1⟩
 have B1:Below w.heap.size w w1:=zi HB0.o hb1
 have hS1:=(HS.o.later B1).box.cell
 refine hK _ _ (.inl hS1) ?_
 clear hK K hb1
 refine qn ?_
 refine aW (i:=3) (v:= ?v3) zo rfl zk zk zk (fun _ _ _ h=>h) (Or.inl ⟨zt,?hy3⟩) hS1 ?rest3
 case hy3=>(intro w' _;go_simp;try with_reducible rfl)
 refine qn ?_
 refine aI (i:=5) zk rfl (fun K hK=> ?_)
 go_simp
 refine (HJ.o _ B1).mono ?_
 rintro e w2 ⟨rfl,hb2⟩
 have B2:Below w.heap.size w w2:=zi B1 hb2
 have hS2:=(HS.o.later B2).box.cell
 refine hK _ _ (.inl hS2) ?_
 clear hK K hb2
 refine qn ?_
 obtain ⟨g,cap,w3,hrun,hc3,hf3,hout⟩:=Cv HS.o B2 line hls
 have HO:Aside _:=hout
 clear hout
 refine aW (i:=6) (v:= ?v6a) zo rfl zk zk zk (fun _ _ _ h=>h) (Or.inl ⟨zt,?hy6a⟩) hS2 ?rest6a
 case hy6a=>(intro w' _;go_simp;try with_reducible rfl)
 refine qn ?_
 try rw [hLB]
 refine aI (i:=7) zk rfl (fun K hK=> ?_)
 go_simp
 refine hK _ _ (.inl ((HS.o.later (B2.alloc B2.size _)).box.cell)) ?_
 clear hK K
 refine qn ?_
 refine aI (i:=8) zk rfl (fun K hK=> ?_)
 rw [if_pos zt]
 simp only [ud,ux,uy]
 refine Lib.wp_append_run _ _ _ _ _ rfl v (.slice (some ⟨w2.heap.size,0,none⟩) 1 1) rfl rfl _ w3 hrun ?_
 refine hK _ _ (.inr ⟨rfl,zo⟩) ?_
 clear hK K hrun
 refine qn ?_
 refine sH (i:=9) zk rfl zk (fun K hK=> ?_)
 go_simp
 refine hK _ _ ?_
 clear hK K hc3 hf3
 refine bI zk ?_ _
 go_wp2
 go_end0
 obtain ⟨v',_,h⟩:=HO.o
 exact ⟨v',rfl,h⟩
end
section
open Go Go.RowKit Go.Lib Go.Sort
theorem CY (c:UInt8) (l:List UInt8):Lib.index (c::l) [35]=if c=35 then 0 else if Lib.index l [35]= -1 then -1 else Lib.index l [35]+1:=by
 rw [Lib.index]
 by_cases h:c=35
 ·subst h
  rw [if_pos rfl]
  simp
 rw [if_neg h]
 have:([35]:List UInt8).isPrefixOf (c::l)=false:=by simp [List.isPrefixOf];exact fun e=>h e.symm
 rw [this]
 simp
theorem rE:∀l:List UInt8,(Lib.cut l [35]).1=ahead l
 | []=>by
  unfold Lib.cut
  split<;>simp [ahead]
 | c::l=>by
  have ih:=rE l
  unfold Lib.cut at ih |-
  have hg:=Lib.index_ge l [35]
  rw [CY]
  by_cases h:c=35
  ·rw [if_pos h]
   simp [ahead,h]
  rw [if_neg h]
  unfold ahead
  rw [if_neg h]
  by_cases h1:Lib.index l [35]= -1
  ·rw [if_pos h1,if_neg zj]
   rw [if_neg zj] at ih
   rw [<-ih]
  rw [if_neg h1,if_pos zj]
  rw [if_pos zj] at ih
  rw [<-ih,show (Lib.index l [35]+1).toNat=(Lib.index l [35]).toNat+1 by omega]
  rfl
def eH:OpX:=(0,0,0,0,0,0,⟨#[]⟩,⟨#[]⟩)
theorem Bh (s:ByteArray) (w:World) (hE:FactJ ad w) (hs:s.size<=1000000):
  Calls prog 351 #[.string s] w fun e w'=>∃(x:OpX) (er:Value),e= .returned (.tuple #[tg x,er])/\Aside (Below w.heap.size w w'/\((gi s.data.toList=some x/\er= .nilIface)\/(gi s.data.toList=none/\x=eH/\∃a,er= .iface 450 (.pointer (some a))))):=by
 obtain ⟨m,hm⟩:=hE.mx
 cases hp:bH s.data.toList with
 | none=>
  refine (DJ s w hs m hm hE.et hp).mono ?_
  rintro e w' ⟨rfl,hb⟩
  exact ⟨eH,_,rfl,hb,.inr ⟨by unfold gi;rw [hp],rfl,_,rfl⟩⟩
 | some p=>
  obtain ⟨c,n1,n2,n3,n4,n5,nm,v⟩:=p
  have hl:=nC hp
  have hlen:nm.length<=1000000/\v.length<=1000000:=by
   have e:=congrArg List.length hl
   unfold dX at e
   simp only [eY,jP,jY,vw] at e
   have e6:=gN v
   have:s.data.toList.length=s.size:=zq
   omega
  by_cases hc:opE n1 n2 n3 c.toNat n4 n5 nm v=0
  ·refine (KI s w hs m hm hE.txt.op4 c n1 n2 n3 n4 n5 nm v hp hlen.1 hlen.2 hc).mono ?_
   rintro e w' ⟨rfl,hb⟩
   exact ⟨((n1:Int),(n2:Int),(n3:Int),c.toNat,(n4:Int),(n5:Int),⟨nm.toArray⟩,⟨v.toArray⟩),_,rfl,hb,.inl ⟨by unfold gi;rw [hp];dsimp only;rw [if_pos hc],rfl⟩⟩
  refine (EA s w hs m hm hE.txt.op4 c n1 n2 n3 n4 n5 nm v hp hlen.1 hlen.2 hc).mono ?_
  rintro e w' ⟨rfl,hb⟩
  exact ⟨eH,_,rfl,hb,.inr ⟨by unfold gi;rw [hp];dsimp only;rw [if_neg hc],rfl,_,rfl⟩⟩
end
section
open Go Go.RowKit Go.Lib Go.Sort
theorem gC {fn:Func} {p u u':Tmp} {ty:TypeId} (h:fn.results= #[.cell p ty,.tmp u,.tmp u']) (tmps:Array Value) (P:Program) (w:World):
  (results fn tmps).run P w=
   ((asAddr (tmps.getD p undef)).run P w).andThen fun a w1=>((loadVar ty a).run P w1).andThen fun v w2=>.ok (.tuple #[v,tmps.getD u undef,tmps.getD u' undef]) w2:=by
 exact kk2
def OpJ (W:World) (b:Nat) (x:OpX):Prop:=W.heap[b]? =some (.cells #[.int .i64 x.1,.int .i64 x.2.1,.int .i64 x.2.2.1,.int .u8 (x.2.2.2.1:Int),.int .i64 x.2.2.2.2.1,.int .i64 x.2.2.2.2.2.1,.string x.2.2.2.2.2.2.1,.string x.2.2.2.2.2.2.2] 61 (0,0))
theorem OpJ.new (w:World) (x:OpX):OpJ (w.alloc (.cells #[.int .i64 x.1,.int .i64 x.2.1,.int .i64 x.2.2.1,.int .u8 (x.2.2.2.1:Int),.int .i64 x.2.2.2.2.1,.int .i64 x.2.2.2.2.2.1,.string x.2.2.2.2.2.2.1,.string x.2.2.2.2.2.2.2] 61)) w.heap.size x:=heap_alloc_new w _
theorem OpJ.lt (h:OpJ W b x):b<W.heap.size:=(jJ.1 h).1
theorem OpJ.later (h:OpJ w b x) (hb:Below w.heap.size w w'):OpJ w' b x:=(hb.block b h.lt).trans h
theorem OpJ.cells (h:OpJ W b x):W.cell? ⟨b,0,none⟩=some (.int .i64 x.1)/\W.cell? ⟨b,1,none⟩=some (.int .i64 x.2.1)/\W.cell? ⟨b,2,none⟩=some (.int .i64 x.2.2.1)/\W.cell? ⟨b,3,none⟩=some (.int .u8 (x.2.2.2.1:Int))/\W.cell? ⟨b,4,none⟩=some (.int .i64 x.2.2.2.2.1)/\W.cell? ⟨b,5,none⟩=some (.int .i64 x.2.2.2.2.2.1)/\W.cell? ⟨b,6,none⟩=some (.string x.2.2.2.2.2.2.1)/\W.cell? ⟨b,7,none⟩=some (.string x.2.2.2.2.2.2.2)/\∀o,W.frozen? ⟨b,o,none⟩=false:=by
 unfold OpJ at h
 refine ⟨?_,?_,?_,?_,?_,?_,?_,?_,fun o=> ?_⟩
 ·exact kl9
 ·exact kl9
 ·exact kl9
 ·exact kl9
 ·exact kl9
 ·exact kl9
 ·exact kl9
 ·exact kl9
 simp [World.frozen?,h]
theorem GS (h:Below w.heap.size w W) (hb:w.heap.size<=b) (o:Nat) (vs:List Value):Below w.heap.size w (W.setCells b o vs):=h.trans ((aY b vs o W).below h.size (fun k e=>zj))
def NV (w:World) (s:ByteArray) (e:Ending) (w':World):Prop:=∃(x:OpX) (n:Nat) (z:Bool),e= .returned (.tuple #[tg x,.int .i64 (n:Int),.bool z])/\Aside (Below w.heap.size w w'/\((z=true/\cY s.data.toList=some (x,n))\/(z=false/\cY s.data.toList=none/\x=eH/\n=0)))
theorem sh (s:ByteArray) (w:World) (hE:EnvJ B ad w) (hs:s.size<=100000):
  Calls prog 340 #[.string s] w (NV w s):=by
 obtain ⟨S,hS⟩:=ze w.heap.size
 obtain ⟨U,hU⟩:=ze (w.alloc (.cells #[.int .i64 0,.int .i64 0,.int .i64 0,.int .u8 0,.int .i64 0,.int .i64 0,.string ⟨#[]⟩,.string ⟨#[]⟩] 61))
 have hbU:Below w.heap.size w U:=yg
 have Z0:OpJ U S eH:=by rw [hU.o,hS.o];exact OpJ.new w eH
 obtain ⟨m,hm⟩:=(hE.later hbU).here.mx
 have hcut:=Tryz.strings_Cut s ⟨#[35]⟩ m U zj hm
 obtain ⟨t1,ht1⟩:∃t1:ByteArray,Aside (t1=⟨(Lib.cut s.data.toList (⟨#[35]⟩:ByteArray).data.toList).1.toArray⟩):=⟨_,rfl⟩
 obtain ⟨t2,ht2⟩:∃t2:ByteArray,Aside (t2=⟨(Lib.cut s.data.toList (⟨#[35]⟩:ByteArray).data.toList).2.1.toArray⟩):=⟨_,rfl⟩
 obtain ⟨zc,hzc⟩:∃zc:Bool,Aside (zc=(Lib.cut s.data.toList (⟨#[35]⟩:ByteArray).data.toList).2.2):=⟨_,rfl⟩
 rw [<-ht1.o,<-ht2.o,<-hzc.o] at hcut
 have HT:Aside (t1.data.toList=ahead s.data.toList):=by
  show _=_
  rw [ht1.o]
  exact rE s.data.toList
 have hts:t1.size<=100000:=by
  have h1:=rd s.data.toList
  rw [<-HT.o] at h1
  have h2:t1.data.toList.length=t1.size:=zq
  have h3:s.data.toList.length=s.size:=zq
  omega
 have H0:Aside (OpJ U S eH/\EnvJ B ad U/\Below w.heap.size w U):=⟨Z0,hE.later hbU,hbU⟩
 clear hE hbU Z0 hm
 go_enter func340,ntmps340
 go_upto_region 1 with fail
 rw [<-hU.o,<-hS.o]
 go_wp2_with fail
 refine hcut.mono ?_
 clear hcut
 rintro e w1 ⟨rfl,nd,hw1⟩
 have hb1:Below U.heap.size U w1:=by rw [hw1];exact ⟨rfl,rfl,rfl,jL _,fun _ _=>rfl⟩
 have H1:Aside (OpJ w1 S eH/\EnvJ B ad w1/\Below w.heap.size w w1):=⟨H0.o.1.later hb1,H0.o.2.1.later hb1,zi H0.o.2.2 hb1⟩
 clear hw1 hb1
 have hrd:=Bh t1 w1 H1.o.2.1.here zj
 go_wp2_with fail
 refine hrd.mono ?_
 clear hrd
 rintro e w2 ⟨x,er,rfl,H2⟩
 have HR2:Aside ((gi (ahead s.data.toList)=some x/\er= .nilIface)\/(gi (ahead s.data.toList)=none/\x=eH/\∃a,er= .iface 450 (.pointer (some a)))):=by
  have:=H2.o.2
  rw [HT.o] at this
  exact this
 obtain ⟨V,hV⟩:=ze (w2.alloc (.cells #[.int .i64 x.1,.int .i64 x.2.1,.int .i64 x.2.2.1,.int .u8 (x.2.2.2.1:Int),.int .i64 x.2.2.2.2.1,.int .i64 x.2.2.2.2.2.1,.string x.2.2.2.2.2.2.1,.string x.2.2.2.2.2.2.2] 61))
 obtain ⟨Q,hQ⟩:=ze w2.heap.size
 have hbV:Below w1.heap.size w1 V:=by rw [hV.o];exact H2.o.1.alloc H2.o.1.size _
 have OV:OpJ V Q x:=by rw [hV.o,hQ.o];exact OpJ.new w2 x
 have HV:Aside (OpJ V S eH/\OpJ V Q x/\EnvJ B ad V/\Below w.heap.size w V/\S<Q):=⟨H1.o.1.later hbV,OV,H1.o.2.1.later hbV,zi H1.o.2.2 hbV,by rw [hQ.o];exact jW H1.o.1.lt H2.o.1.size⟩
 clear hbV OV
 unfold tg
 go_upto_region 3 with fail
 rw [<-hV.o,<-hQ.o]
 rcases HR2.o with ⟨hr,he⟩ | ⟨hr,hx,a,he⟩
 ·subst he
  have hrc:=nR t1 V zj HV.o.2.2.1.here.deb
  have HRO:Aside (gi (ahead s.data.toList)=some x):=hr
  clear hr HR2
  go_wp2_with fail
  refine hrc.mono ?_
  clear hrc
  rintro e w3 ⟨r,hr,rfl,hb3⟩
  have hpf:=Tryz.strings_HasPrefix s r w3
  obtain ⟨z,hz⟩:∃z:Bool,Aside (z=Lib.hasPrefix s.data.toList r.data.toList):=⟨_,rfl⟩
  rw [<-hz.o] at hpf
  rw [HT.o] at hr
  have H3:Aside (OpJ w3 S eH/\OpJ w3 Q x/\Below w.heap.size w w3/\r.data.toList=bs (ahead s.data.toList)):=⟨HV.o.1.later hb3,HV.o.2.1.later hb3,zi HV.o.2.2.2.1 hb3,hr⟩
  clear hr hb3
  go_wp2_with fail
  refine hpf.mono ?_
  clear hpf
  rintro e w4 ⟨rfl,rfl⟩
  obtain ⟨z0,z1,z2,z3,z4,z5,z6,z7,zf⟩:=H3.o.1.cells
  unfold eH at z0 z1 z2 z3 z4 z5 z6 z7
  dsimp only at z0 z1 z2 z3 z4 z5 z6 z7
  obtain ⟨j0,j1,j2,j3,j4,j5,j6,j7,jf⟩:=H3.o.2.1.cells
  cases z with
  | true=>
   have HF:Aside (cY s.data.toList=some (x,r.size)):=by
    have hp:bs (ahead s.data.toList)<+:s.data.toList:=by
     have:=hz.o
     rw [H3.o.2.2.2] at this
     exact List.isPrefixOf_iff_prefix.1 this.symm
    show cY s.data.toList=_
    unfold cY
    rw [HRO.o]
    dsimp only
    rw [if_pos hp,<-H3.o.2.2.2]
    simp
   go_wp2
   (try simp only [Exit.inBlock,Exit.then])
   refine bodyPost_ret (v:=.tuple #[tg x,.int .i64 (r.size:Int),.bool true]) ?_ rfl ⟨x,r.size,true,rfl,?_,.inl ⟨rfl,HF.o⟩⟩
   ·rw [gC rfl]
    unfold tg
    go_simp
   exact GS (b:=S) H3.o.2.2.1 jc 0 [.int .i64 x.1,.int .i64 x.2.1,.int .i64 x.2.2.1,.int .u8 (x.2.2.2.1:Int),.int .i64 x.2.2.2.2.1,.int .i64 x.2.2.2.2.2.1,.string x.2.2.2.2.2.2.1,.string x.2.2.2.2.2.2.2]
  | false=>
   have HF:Aside (cY s.data.toList=none):=by
    have hp:¬bs (ahead s.data.toList)<+:s.data.toList:=fun q=>by
     have h1:=hz.o
     rw [H3.o.2.2.2] at h1
     have h2:Lib.hasPrefix s.data.toList (bs (ahead s.data.toList))=true:=List.isPrefixOf_iff_prefix.2 q
     rw [h2] at h1
     cases h1
    show cY s.data.toList=_
    unfold cY
    rw [HRO.o]
    dsimp only
    rw [if_neg hp]
   clear j0 j1 j2 j3 j4 j5 j6 j7 jf
   go_wp2
   (try simp only [Exit.inBlock,Exit.then])
   refine bodyPost_ret (v:=.tuple #[tg eH,.int .i64 0,.bool false]) ?_ rfl ⟨eH,0,false,rfl,?_,.inr ⟨rfl,HF.o,rfl,rfl⟩⟩
   ·rw [gC rfl]
    unfold tg eH
    go_simp
   exact GS (b:=S) H3.o.2.2.1 jc 0 [.int .i64 0,.int .i64 0,.int .i64 0,.int .u8 0,.int .i64 0,.int .i64 0,.string ⟨#[]⟩,.string ⟨#[]⟩]
 subst he
 have HF:Aside (cY s.data.toList=none):=by
  show cY s.data.toList=_
  unfold cY
  rw [hr]
 obtain ⟨z0,z1,z2,z3,z4,z5,z6,z7,zf⟩:=HV.o.1.cells
 unfold eH at z0 z1 z2 z3 z4 z5 z6 z7
 dsimp only at z0 z1 z2 z3 z4 z5 z6 z7
 clear hr HR2
 go_wp2
 (try simp only [Exit.inBlock,Exit.then])
 refine bodyPost_ret (v:=.tuple #[tg eH,.int .i64 0,.bool false]) ?_ rfl ⟨eH,0,false,rfl,?_,.inr ⟨rfl,HF.o,rfl,rfl⟩⟩
 ·rw [gC rfl]
  unfold tg eH
  go_simp
 exact GS (b:=S) HV.o.2.2.2.1 jc 0 [.int .i64 0,.int .i64 0,.int .i64 0,.int .u8 0,.int .i64 0,.int .i64 0,.string ⟨#[]⟩,.string ⟨#[]⟩]
end
section
open Go Go.RowKit Go.Lib Go.Sort
theorem MG {base n:Nat} {e:TypeId} {k:Nat} {xs:List Value} (h:w.ownsRow base e k v n xs) (hs:∀g,v.ownBlock=some g->w'.heap[g]? =w.heap[g]?):w'.ownsRow base e k v n xs:=by
 refine ⟨h.1,?_⟩
 rcases h.2 with q | ⟨g,cap,cur,rfl,hb,hg,rest⟩
 ·exact .inl q
 exact .inr ⟨g,cap,cur,rfl,hb,(hs g rfl).trans hg,rest⟩
theorem PL (w:World) (x:OpX):∀j u,(cN x)[j]? =some u->(w.alloc (.cells #[.int .i64 x.1,.int .i64 x.2.1,.int .i64 x.2.2.1,.int .u8 (x.2.2.2.1:Int),.int .i64 x.2.2.2.2.1,.int .i64 x.2.2.2.2.2.1,.string x.2.2.2.2.2.2.1,.string x.2.2.2.2.2.2.2] 61)).cell? ((⟨w.heap.size,0,none⟩:Addr).add j)=some u:=
 ui (cs:= #[.int .i64 x.1,.int .i64 x.2.1,.int .i64 x.2.2.1,.int .u8 (x.2.2.2.1:Int),.int .i64 x.2.2.2.2.1,.int .i64 x.2.2.2.2.2.1,.string x.2.2.2.2.2.2.1,.string x.2.2.2.2.2.2.2]) (t:=61) (fr:=(0,0)) (heap_alloc_new w _)
theorem PV (x:OpX):∀u∈cN x,u.oneCell'=true:=by
 intro u hu
 simp only [cN,jQ,uu,or_false] at hu
 rcases hu with rfl | rfl | rfl | rfl | rfl | rfl | rfl | rfl<;>rfl
theorem Bg (xs:List OpX) (x:OpX):cellsOf (xs++ [x])=cellsOf xs++cN x:=by simp [cellsOf]
theorem FL (s:ByteArray) (n:Nat) (h:n<=s.size):∃F:ByteArray,F.data.toList=s.data.toList.drop n/\F.size=s.size - n/\∀w,(Instr.slice 9 (.string s) (some (.int .i64 (n:Int))) none none).run prog w= .ok (.string F) w:=by
 obtain ⟨F,h1,h2⟩:=EK s n h
 refine ⟨F,h1,?_,h2⟩
 have:=congrArg List.length h1
 exact kn3
def tK (w:World) (s:ByteArray) (e:Ending) (w':World):Prop:=∃v:Value,e= .returned (.tuple #[v,.int .i64 ((ab s.data.toList).2:Int)])/\Aside (w'.ownsRow w.heap.size 61 8 v (ab s.data.toList).1.length (cellsOf (ab s.data.toList).1)/\Below w.heap.size w w')
theorem AS (b:List UInt8):(ab b).2<=b.length/\10*(ab b).1.length<=b.length:=by
 obtain ⟨r,h1,h2,h3,h4⟩:=wa b.length b zg
 have e:=congrArg List.length h1
 rw [jP] at e
 refine ⟨zj,?_⟩
 have:∀l:List OpX,10*l.length<=(cu l).length:=by
  intro l
  induction l with
  | nil=>simp
  | cons x l ih=>
   show _<=(bs (aA x)++cu l).length
   rw [jP,bB,jY]
   omega
 have:=this (ab b).1
 omega
theorem Fr (s:ByteArray) (w:World) (hE:EnvJ B ad w) (hs:s.size<=100000):
  Calls prog 313 #[.string s] w (tK w s):=by
 obtain ⟨i0,hi0,hz0,hz1,hz2⟩:=info_parts fV
 obtain ⟨T,hT⟩:=ze (ab s.data.toList)
 have HE:Aside (EnvJ B ad w):=hE
 clear hE
 unfold tK
 rw [<-hT.o]
 go_enter func313,ntmps313
 go_wp2
 go_loopg [4,5] s.size (fun kx s4 s5 W=>∃(n:Nat) (xs:List OpX) (ov:Value),ov=s4/\s5= .int .i64 (n:Int)/\n<=s.size/\s.size - n<=kx/\xs.length<=20000/\Aside (W.ownsRow w.heap.size 61 8 ov xs.length (cellsOf xs)/\Below w.heap.size w W/\T=(xs++(ab (s.data.toList.drop n)).1,n+(ab (s.data.toList.drop n)).2)))
 case atStart=>exact ⟨0,[],_,rfl,rfl,jX _,jL _,zq,⟨vD _ _ _ _,jN _ w,by rw [hT.o];simp⟩⟩
 case round=>
  obtain ⟨n,xs,ov,rfl,rfl,hn,hnx,hxl,A⟩:=hrel
  obtain ⟨F,hF,hFs,hsl⟩:=FL s n hn
  have HFF:Aside (F.data.toList=s.data.toList.drop n):=hF
  have hrr:=sh F wr (HE.o.later A.o.2.1) zj
  obtain ⟨u,hu⟩:=za wr
  subst hu
  clear hF
  go_wp2_with fail
  refine hrr.mono ?_
  clear hrr
  rintro e w1 ⟨x,m,z,rfl,H1⟩
  have HR:Aside ((z=true/\cY (s.data.toList.drop n)=some (x,m))\/(z=false/\cY (s.data.toList.drop n)=none/\x=eH/\m=0)):=by
   have:=H1.o.2
   rw [HFF.o] at this
   exact this
  obtain ⟨V,hV⟩:=ze (w1.alloc (.cells #[.int .i64 x.1,.int .i64 x.2.1,.int .i64 x.2.2.1,.int .u8 (x.2.2.2.1:Int),.int .i64 x.2.2.2.2.1,.int .i64 x.2.2.2.2.2.1,.string x.2.2.2.2.2.2.1,.string x.2.2.2.2.2.2.2] 61))
  obtain ⟨Q,hQ⟩:=ze w1.heap.size
  have hbV:Below u.heap.size u V:=by rw [hV.o];exact H1.o.1.alloc H1.o.1.size _
  have OV:OpJ V Q x:=by rw [hV.o,hQ.o];exact OpJ.new w1 x
  have HV:Aside (V.ownsRow w.heap.size 61 8 ov xs.length (cellsOf xs)/\Below w.heap.size w V):=⟨MG A.o.1 (fun g hg=>hbV.block g (A.o.1.lt g hg).2),zi A.o.2.1 hbV⟩
  clear hbV
  unfold tg
  go_upto_region 4 with fail
  rw [<-hV.o,<-hQ.o]
  cases z with
  | false=>
   have hr:cY (s.data.toList.drop n)=none:=by
    rcases HR.o with ⟨q,_⟩ | ⟨_,q,_⟩
    ·cases q
    exact q
   have HT:Aside (T=(xs,n)):=by
    show T=(xs,n)
    have:=A.o.2.2
    rw [im hr] at this
    exact kn3
   clear hr A HR OV
   go_wp2
   go_ret2
   exact ⟨ov,by rw [HT.o];rfl,by rw [HT.o];exact HV.o.1,HV.o.2⟩
  | true=>
   have hr:cY (s.data.toList.drop n)=some (x,m):=by
    rcases HR.o with ⟨_,q⟩ | ⟨q,_⟩
    ·exact q
    cases q
   have hp:=iS hr
   rw [vx] at hp
   have hsz:s.data.toList.length=s.size:=zq
   rw [hsz] at hp
   have hwr:IntKind.i64.wrap ((n:Int)+(m:Int))=((n+m:Nat):Int):=zr
   obtain ⟨nm,hnm⟩:∃nm:Nat,Aside (nm=n+m):=⟨_,rfl⟩
   rw [<-hnm.o] at hwr
   have HT:Aside (T=((xs++ [x])++(ab (s.data.toList.drop nm)).1,nm+(ab (s.data.toList.drop nm)).2)/\(xs++ [x]).length<=20000):=by
    have h1:=A.o.2.2
    rw [kW hr,List.drop_drop] at h1
    refine ⟨by rw [h1,hnm.o];simp;omega,?_⟩
    have hle:=AS s.data.toList
    rw [<-hT.o,h1] at hle
    simp at hle |-
    omega
   obtain ⟨j0,j1,j2,j3,j4,j5,j6,j7,jf⟩:=OV.cells
   clear hr A HR
   go_wp2_with (at_builtin;refine wpList_append_own _ rfl _ _ 25 rfl w.heap.size 61 i0 _ 8 80 underlying25 hi0 hz0 hz1 hz2 rfl zj _ _ _ rfl (HV.o.1.alloc _) ⟨V.heap.size,0,none⟩ 1 1 (cN x) rfl ?qc1 ?qc2 ?qc3 ?qc4 ?qc5 ?qc6 ?_)
   case qc1=>rfl
   case qc2=>first | exact PL V x | exact fun j u h=>h
   case qc3=>exact PV x
   case qc4=>simp only [maxLen];omega
   case qc5=>omega
   case qc6=>have:=HV.o.2.size;first | omega | (simp;omega)
   intro v' w4 hown hgrow hnil
   have HN:Aside (w4.ownsRow w.heap.size 61 8 v' (xs++ [x]).length (cellsOf (xs++ [x]))/\Below w.heap.size w w4):=by
    refine ⟨?_,?_⟩
    ·rw [Bg,jP]
     exact hown
    exact (HV.o.2.alloc HV.o.2.size _).grown hgrow (by simp;have:=HV.o.2.size;omega) (fun k hk=>(HV.o.1.lt k hk).1)
   clear hown hgrow hnil j0 j1 j2 j3 j4 j5 j6 j7 jf OV
   go_wp2
   go_roundg (s.size - nm)
   case measure=>have:=hnm.o;omega
   case rel=>exact ⟨nm,xs++ [x],_,rfl,rfl,by have:=hnm.o;omega,jL _,HT.o.2,HN.o.1,HN.o.2,HT.o.1⟩
end
section
open Go Go.RowKit Go.Lib Go.Sort
theorem EC (g n cap k:Nat) (w:World) (h:k<=cap):(Instr.slice 184 (.slice (some ⟨g,0,none⟩) n cap) none (some (.int .i64 (k:Int))) none).run prog w= .ok (.slice (some ⟨g,0,none⟩) k cap) w:=by
 exact km5
def iI (st:DSt):DSt:=(st.1.take (ab st.1).2,false,false,st.2.2.2)
def Kg (d:Nat) (v:Value) (w:World) (st:DSt) (e:Ending) (w':World):Prop:=∃rv:Value,e= .returned (.tuple #[rv,.nilIface])/\Aside (WroteD d v w (iI st) w'/\w'.ownsRow w.heap.size 61 8 rv (ab st.1).1.length (cellsOf (ab st.1).1)/\Keeps (fun k=>k=d) w w')
theorem sj {d:Nat} {st:DSt} (w:World) (hD:DiskAt w d v st) (hE:EnvJ B ad w) (hO:∀k,nP d v k->B<=k) (hB:st.1.length<=65536):
  Calls prog 269 #[.pointer (some ⟨d,0,none⟩)] w (Kg d v w st):=by
 obtain ⟨B0,off,waits,left⟩:=st
 have hon:=Mt w hD
 obtain ⟨g,cap,hvs⟩:=hD.row.shape
 dsimp only at hvs hB
 have H0:Aside (DiskAt w d v (B0,off,waits,left)/\EnvJ B ad w/\∀k,nP d v k->B<=k):=⟨hD,hE,hO⟩
 have HV:Aside (v= .slice (some ⟨g,0,none⟩) B0.length cap):=hvs
 clear hD hE hO hvs
 go_enter func269,ntmps269
 go_wp2_with fail
 refine hon.mono ?_
 clear hon
 rintro e w1 ⟨⟨u,rfl⟩,H1⟩
 have hby:=Fo w1 H1.o.1
 dsimp only at hby
 obtain ⟨s,hs⟩:∃s:ByteArray,Aside (s=⟨B0.toArray⟩):=⟨_,rfl⟩
 rw [<-hs.o] at hby
 have hsd:s.data.toList=B0:=by rw [hs.o]
 have hss:s.size<=65536:=by rw [hs.o];simpa [ByteArray.size] using hB
 have hE1:EnvJ B ad w1:=H0.o.2.1.mono (H1.o.2.below H0.o.2.1.size (fun k e=>by rw [e];exact H0.o.2.2 d (.inl rfl)))
 have hrd:=Fr s w1 hE1 zj
 obtain ⟨T,hT⟩:=ze (ab B0)
 unfold tK at hrd
 rw [hsd,<-hT.o] at hrd
 clear hsd hE1
 go_wp2_with fail
 refine hby.mono ?_
 clear hby
 rintro e w2 ⟨rfl,rfl⟩
 go_wp2_with fail
 refine hrd.mono ?_
 clear hrd
 rintro e w3 ⟨rv,rfl,H3⟩
 have hD3:=H1.o.1.later H3.o.2
 obtain ⟨c0,c1,c2,c3,cf⟩:=hD3.c
 rw [HV.o] at c0
 obtain ⟨k,hk⟩:=ze T.2
 have hkB:k<=B0.length:=by
  rw [hk.o,hT.o]
  exact (AS B0).1
 have hcap:B0.length<=cap:=by
  obtain ⟨g',cap',cur,fr,e1,_,_,h3,_⟩:=hD3.row
  rw [HV.o] at e1
  cases e1
  exact h3
 have hsl:=fun W=>EC g B0.length cap k W zj
 rw [<-hk.o]
 have HF:Aside (WroteD d v w (B0.take T.2,false,false,left) (w3.setCell ⟨d,0,none⟩ (.slice (some ⟨g,0,none⟩) k cap))/\(w3.setCell ⟨d,0,none⟩ (.slice (some ⟨g,0,none⟩) k cap)).ownsRow w.heap.size 61 8 rv T.1.length (cellsOf T.1)/\Keeps (fun k=>k=d) w (w3.setCell ⟨d,0,none⟩ (.slice (some ⟨g,0,none⟩) k cap))):=by
  have hrow:RowB w3 (.slice (some ⟨g,0,none⟩) k cap) (B0.take T.2):=by
   have:=hD3.row
   dsimp only at this
   rw [HV.o] at this
   rw [<-hk.o]
   exact this.cut hkB
  have hne:(Value.slice (some ⟨g,0,none⟩) k cap).ownBlock≠some d:=by
   have:=hD3.ne
   rw [HV.o] at this
   exact this
  have h4:=DiskAt.set0 hD3.cell hrow hne hD3.left
  have hk3:Keeps (fun k=>k=d) w2 w3:=(aV H3.o.2).mono (fun k hk q=>zj)
  have hkk:Keeps (fun k=>k=d) w (w3.setCell ⟨d,0,none⟩ (.slice (some ⟨g,0,none⟩) k cap)):=(H1.o.2.trans hk3).trans h4.2
  refine ⟨⟨_,h4.1,hkk.mono (fun k _ e=>.inl e),fun g' hg'=>.inl (by rw [HV.o];exact hg')⟩,?_,hkk⟩
  have hr:=H3.o.1
  have hr':=MG hr (w':=w3.setCell ⟨d,0,none⟩ (.slice (some ⟨g,0,none⟩) k cap)) (fun g' hg'=>h4.2.block g' (hr.lt g' hg').2 (fun e=>by have:=(hr.lt g' hg').1;have:=H1.o.1.lt;omega))
  have hws:w.heap.size<=w2.heap.size:=H1.o.2.size
  rcases hr'.2 with q | ⟨g2,cap2,cur2,e1,hb2,rest⟩
  ·exact ⟨hr'.1,.inl q⟩
  exact ⟨hr'.1,.inr ⟨g2,cap2,cur2,e1,jM hws hb2,rest⟩⟩
 clear hD3 c1 c2 c3 hkB hcap H3 H1
 go_wp2
 go_ret2
 refine ⟨rv,rfl,?_⟩
 unfold iI
 dsimp only
 rw [<-hT.o]
 exact HF.o
end
section
open Go
theorem kX:∀(r:List UInt8) (B:List UInt8) (left:Int),dQ (B,false,false,left) r=(true,(B++r,false,false,left))
 | [],B,left=>by simp [dQ]
 | c::r,B,left=>by
  have h:wr1 (B,false,false,left) c=(true,(B++ [c],false,false,left)):=by unfold wr1;simp
  rw [dQ,h,if_pos rfl,kX r]
  simp
theorem FK (c:UInt8) (r:List UInt8) (B:List UInt8) (left:Int):dQ (B,true,false,left) (c::r)=(false,(B,true,false,left)):=by
 have h:wr1 (B,true,false,left) c=(false,(B,true,false,left)):=by unfold wr1;simp
 rw [dQ,h,if_neg zq]
theorem wg:∀(r:List UInt8) (B:List UInt8) (left:Nat),dQ (B,false,true,(left:Int)) r=if r.length<=left then (true,(B++r,false,true,((left - r.length:Nat):Int))) else (false,(B++r.take left,true,false,0))
 | [],B,left=>by simp [dQ]
 | c::r,B,0=>by
  have h:wr1 (B,false,true,((0:Nat):Int)) c=(false,(B,true,false,0)):=by unfold wr1;simp
  rw [dQ,h,if_neg zq,if_neg zq]
  simp
 | c::r,B,left+1=>by
  have h:wr1 (B,false,true,((left+1:Nat):Int)) c=(true,(B++ [c],false,true,(left:Int))):=by
   unfold wr1
   have:¬((left:Int)+1=0):=zj
   simp [this]
  rw [dQ,h,if_pos rfl,wg r (B++ [c]) left]
  by_cases hl:r.length<=left
  ·rw [if_pos hl,if_pos yJ]
   simp
  rw [if_neg hl,if_neg yJ]
  simp
theorem KT (t:List UInt8):∃c r,bs t=c::r:=by
 cases h:bs t with
 | nil=>have:=bB t;rw [h] at this;simp at this
 | cons c r=>exact ⟨c,r,rfl⟩
theorem Dv (dn:List OpX) (x:OpX):cu (dn++ [x])=cu dn++bs (aA x):=by
 rw [kJ]
 show cu dn++(bs (aA x)++ [])=_
 rw [vZ]
theorem Eu (dn:List OpX) (h:∀x∈dn,iN x=0):ab (cu dn)=(dn,(cu dn).length):=by
 have:=iq dn [] h rT
 rwa [vZ] at this
theorem lU {B:List UInt8} {left:Int} (he:iN x=0) (hl:B.length+(bs (aA x)).length<=65536):dW (B,false,false,left) x=(0,(B++bs (aA x),false,false,left)):=by
 unfold dW
 rw [if_neg (fun q=>q he),if_neg zO,kX]
 rfl
