import Derived.Test.YtehighgebbdenaaGreatDoorRa13
import Derived.Test.YtehighgebbdenaaGreatDoorRa20
import Derived.Shelf.Strings.OnBuilder
import Derived.Shelf.Strconv.Itoa3
import Derived.Lib.ItoaLen
import Derived.Shelf.Sort.Plain
import Derived.Shelf.Slices.In.SortNone
import Derived.Sort.OwnSortedInts
set_option linter.unusedVariables false
set_option maxRecDepth 100000
set_option maxHeartbeats 64000000
section
namespace Go.Proofs.YtehighgebbdenaaGreatDoor
open scoped Classical
variable {A B:List OpX} {s t:List UInt8}
def gg (nd:Int) (ws:List (List UInt8)):List UInt8:=Lib.itoa nd++ [32]++Lib.join ws [32]
def bZ (p:Plc):List UInt8:=gg p.1 [[105,110],Lib.itoa p.2.1,p.2.2.data.toList]
def cu (t:Int×List UInt8):List UInt8:=gg t.1 [[116,101,120,116],t.2]
def gv (m:Mrk):List UInt8:=gg m.1 [[109,97,114,107],m.2.1.data.toList,m.2.2.data.toList]
def cL (t:Int×List UInt8):Bool:=decide (t.2≠ [])
def pe (qs:List Plc) (ts:List (Int×List UInt8)) (ms:List Mrk):List (List UInt8):=qs.map bZ++(ts.filter cL).map cu++ms.map gv
structure IsTexts (A:List OpX) (ts:List (Int×List UInt8)):Prop where
 rise:ts.Pairwise (fun a b=>a.1<b.1)
 mem:∀nd,nd∈ts.map (·.1)↔KnownN A nd
 line:∀t∈ts,∃L,LineIs A t.1 L/\t.2=co L
theorem IsTexts.perm {A B:List OpX} {ts:List (Int×List UInt8)} (h:IsTexts A ts) (e:A.Perm B):IsTexts B ts:=by
 refine ⟨h.rise,fun nd=>(h.mem nd).trans ⟨fun q=>q.mono (fun x hx=>e.mem_iff.1 hx),fun q=>q.mono (fun x hx=>e.mem_iff.2 hx)⟩,fun t ht=> ?_⟩;obtain ⟨L,h1,h2⟩:=h.line t ht;exact ⟨L,h1.perm e,h2⟩
theorem IsTexts.unique {A:List OpX} {ts us:List (Int×List UInt8)} (h:IsTexts A ts) (k:IsTexts A us):ts=us:=by
 have one:∀ {xs ys:List (Int×List UInt8)},IsTexts A xs->IsTexts A ys->∀p,p∈xs->p∈ys:=fun {xs ys} hx hy p hp=>by
  have:p.1∈ys.map (·.1):=(hy.mem _).2 ((hx.mem _).1 (ut.2 ⟨p,hp,rfl⟩));obtain ⟨q,hq,e⟩:=ut.1 this;obtain ⟨L,l1,l2⟩:=hx.line p hp;obtain ⟨M,m1,m2⟩:=hy.line q hq;have e':q.1=p.1:=e;rw [e'] at m1;obtain rfl:=l1.unique m1;have:q=p:=Prod.ext e' (m2.trans l2.symm);rwa [this] at hq
 exact fH (R:=fun a b:Int×List UInt8=>a.1<b.1) (fun a=>Int.lt_irrefl _) (fun a b c=>Int.lt_trans) h.rise k.rise (fun p=>⟨one h k p,one k h p⟩)
def StateIs (A:List OpX) (s:List UInt8):Prop:=∃ms qs ts A' mm,ms.Perm (ai A)/\ax ms/\IsPlaces (aN ms) qs/\IsTexts A ts/\A'.Perm A/\IsMarks (dh A') mm/\s=Lib.join (pe qs ts mm) [10]
theorem StateIs.perm {A B:List OpX} {s:List UInt8} (h:StateIs A s) (e:A.Perm B):StateIs B s:=by
 obtain ⟨ms,qs,ts,A',mm,h1,h2,h3,h4,h5,h6,h7⟩:=h;exact ⟨ms,qs,ts,A',mm,h1.trans (e.filterMap _),h2,h3,h4.perm e,h5.trans e,h6,h7⟩
theorem WellK.oneO (h:WellK A):OneO A:=fun x hx y hy e1 e2=>h.stamp hx hy (by unfold stO;rw [e1,e2])
theorem OneO.mono (h:OneO A) (e:∀x,x∈B->x∈A):OneO B:=fun x hx y hy=>h x (e x hx) y (e y hy)
theorem By (h:OneO A) (e:A.Perm B):dh A=dh B:=
 pT (fun m=>(e.filterMap _).mem_iff) h.marks
theorem StateIs.unique {A:List OpX} {s t:List UInt8} (hA:WellK A) (h:StateIs A s) (k:StateIs A t):s=t:=by
 obtain ⟨ms,qs,ts,A',mm,h1,h2,h3,h4,h5,h6,rfl⟩:=h;obtain ⟨ms',qs',ts',A'',mm',k1,k2,k3,k4,k5,k6,rfl⟩:=k;obtain rfl:=gH (h1.trans k1.symm) h2 k2;obtain rfl:=h3.unique k3;obtain rfl:=h4.unique k4;have e:dh A'=dh A'':=By (hA.oneO.mono (fun x hx=>h5.mem_iff.1 hx)) (h5.trans k5.symm);rw [e] at h6;obtain rfl:=h6.unique k6;rfl
theorem StateIs.same (hA:WellK A) (e:A.Perm B) (h:StateIs A s) (k:StateIs B t):s=t:=h.unique hA (k.perm e.symm)
theorem join_nil (x:List UInt8):Lib.join [] x= []:=rfl
end Go.Proofs.YtehighgebbdenaaGreatDoor
end
section
namespace Go.Proofs
open Go.Proofs.Tryz
open Go.Shelf
def Tryz.lays156_ren:Go.Shelf.Ren:=⟨fun | 156=>74 | 165=>138 | 166=>139 | 169=>140 | 240=>199 | 241=>200 | 276=>241 | 277=>242 | n=>n,fun | 31=>141 | 9=>9 | 3=>3 | 4=>4 | 0=>0 | 20=>20 | 72=>228 | 76=>42 | 70=>226 | 37=>221 | 75=>27 | 127=>291 | 164=>262 | 5=>5 | 80=>54 | n=>n,fun | n=>n⟩
theorem Tryz.lays156:Go.Proofs.Lays.n156 prog Tryz.lays156_ren:={
 mixed:=zq
 f156:=func74.trans (congrArg some zq)
 f165:=func138.trans (congrArg some zq)
 f166:=func139.trans (congrArg some zq)
 f169:=func140.trans (congrArg some zq)
 f240:=func199.trans (congrArg some zq)
 f241:=func200.trans (congrArg some zq)
 f276:=func241.trans (congrArg some zq)
 f277:=func242.trans (congrArg some zq)
 t0:=underlying0
 a0:=isAgg0
 z0:=sizeOf0
 v0:=zeroValue0
 t3:=underlying3
 a3:=isAgg3
 z3:=sizeOf3
 v3:=zeroValue3
 t4:=underlying4
 a4:=isAgg4
 z4:=sizeOf4
 v4:=zeroValue4
 t9:=underlying9
 a9:=isAgg9
 z9:=sizeOf9
 v9:=zeroValue9
 t20:=underlying20
 a20:=isAgg20
 z20:=sizeOf20
 v20:=zeroValue20
 t31:=underlying141
 a31:=isAgg141
 z31:=sizeOf141
 v31:=zeroValue141
 t37:=underlying221
 a37:=isAgg221
 z37:=sizeOf221
 v37:=zeroValue221
 t70:=underlying226
 a70:=isAgg226
 z70:=sizeOf226
 v70:=zeroValue226
 t72:=underlying228
 a72:=isAgg228
 z72:=sizeOf228
 v72:=zeroValue228
 t75:=underlying27
 a75:=isAgg27
 z75:=sizeOf27
 v75:=zeroValue27
 t76:=underlying42
 a76:=isAgg42
 z76:=sizeOf42
 v76:=zeroValue42
 t127:=underlying291
 a127:=isAgg291
 z127:=sizeOf291
 v127:=zeroValue291
 t164:=underlying262
 a164:=isAgg262
 z164:=sizeOf262
 v164:=zeroValue262}
theorem Tryz.Builder_Extra_156:Builder.Extra prog Tryz.lays156_ren:={
 sizeBuilder:=zq
 liesBuilder:=zq
 t5:=underlying5
 a5:=isAgg5
 z5:=sizeOf5
 v5:=zeroValue5
 infoByte:=zq
 cellsByte:=zq
 sizeByte:=zq
 neB5:=zu}
open Go.RowKit in
theorem Tryz.strings_Join_none (a:Option Addr) (c:Nat) (sep:ByteArray) (w:World):
  Calls prog 74 #[.slice a 0 c,.string sep] w fun e w'=>e= .returned (.string ⟨#[]⟩)/\w'=w:=Any.strings_Join_none Tryz.lays156 Tryz.Builder_Extra_156 a c sep w
open Go.RowKit in
theorem Tryz.strings_Join (bk o c:Nat) (xs:List ByteArray) (sep:ByteArray) (w:World) (hcells:∀(j:Nat) x,xs[j]? =some x->w.cell? ⟨bk,o+j,none⟩=some (.string x)) (hbk:bk<w.heap.size) (hN:xs.length<=140737488355328) (hcap:xs.length<=c) (hlen:(Lib.join (xs.map (·.data.toList)) sep.data.toList).length<=140737488355328):
  Calls prog 74 #[.slice (some ⟨bk,o,none⟩) xs.length c,.string sep] w fun e w'=>e= .returned (.string ⟨(Lib.join (xs.map (·.data.toList)) sep.data.toList).toArray⟩)/\Below w.heap.size w w':=Any.strings_Join Tryz.lays156 Tryz.Builder_Extra_156 bk o c xs sep w hcells hbk hN hcap hlen
def Tryz.laysM171_ren:Go.Shelf.Ren:=⟨fun | 171=>73 | 243=>137 | 246=>198 | 283=>237 | 284=>238 | 285=>239 | 286=>240 | 129=>253 | 317=>285 | 318=>286 | 319=>287 | 320=>288 | 337=>310 | 338=>311 | n=>n,fun | 3=>3 | 9=>9 | 2=>2 | 4=>4 | 171=>335 | 0=>0 | 53=>336 | 37=>221 | 5=>5 | 173=>339 | 212=>369 | 51=>351 | 20=>20 | 213=>370 | 46=>295 | 232=>397 | 233=>398 | n=>n,fun | 17=>14 | 18=>17 | 19=>18 | n=>n⟩
theorem Tryz.laysM171:Go.Proofs.LaysM.n171 prog Tryz.laysM171_ren:={
 mixed:=zq
 f129:=func253.trans (congrArg some zq)
 f171:=func73.trans (congrArg some zq)
 f243:=func137.trans (congrArg some zq)
 f246:=func198.trans (congrArg some zq)
 f283:=func237.trans (congrArg some zq)
 f284:=func238.trans (congrArg some zq)
 f285:=func239.trans (congrArg some zq)
 f286:=func240.trans (congrArg some zq)
 f317:=func285.trans (congrArg some zq)
 f318:=func286.trans (congrArg some zq)
 f319:=func287.trans (congrArg some zq)
 f320:=func288.trans (congrArg some zq)
 f337:=func310.trans (congrArg some zq)
 f338:=func311.trans (congrArg some zq)
 t0:=underlying0
 a0:=isAgg0
 z0:=sizeOf0
 v0:=zeroValue0
 t2:=underlying2
 a2:=isAgg2
 z2:=sizeOf2
 v2:=zeroValue2
 t3:=underlying3
 a3:=isAgg3
 z3:=sizeOf3
 v3:=zeroValue3
 t4:=underlying4
 a4:=isAgg4
 z4:=sizeOf4
 v4:=zeroValue4
 t5:=underlying5
 a5:=isAgg5
 z5:=sizeOf5
 v5:=zeroValue5
 t9:=underlying9
 a9:=isAgg9
 z9:=sizeOf9
 v9:=zeroValue9
 t20:=underlying20
 a20:=isAgg20
 z20:=sizeOf20
 v20:=zeroValue20
 t37:=underlying221
 a37:=isAgg221
 z37:=sizeOf221
 v37:=zeroValue221
 t46:=underlying295
 a46:=isAgg295
 z46:=sizeOf295
 v46:=zeroValue295
 t51:=underlying351
 a51:=isAgg351
 z51:=sizeOf351
 v51:=zeroValue351
 t53:=underlying336
 a53:=isAgg336
 z53:=sizeOf336
 v53:=zeroValue336
 t171:=underlying335
 a171:=isAgg335
 z171:=sizeOf335
 v171:=zeroValue335
 t173:=underlying339
 a173:=isAgg339
 z173:=sizeOf339
 v173:=zeroValue339
 t212:=underlying369
 a212:=isAgg369
 z212:=sizeOf369
 v212:=zeroValue369
 t213:=underlying370
 a213:=isAgg370
 z213:=sizeOf370
 t232:=underlying397
 a232:=isAgg397
 z232:=sizeOf397
 v232:=zeroValue397
 t233:=underlying398
 a233:=isAgg398
 z233:=sizeOf398
 v233:=zeroValue398
 g17:=zq
 g18:=zq
 g19:=zq
 i0:=zq
 i2:=zq
 i3:=zq
 i4:=zq
 i5:=zq
 i9:=zq
 i20:=zq
 i37:=zq
 i46:=zq
 i51:=zq
 i53:=zq
 i171:=zq
 i173:=zq
 i212:=zq
 i232:=zq
 i233:=zq
 m17:=zq
 m18:=zq
 m19:=zq}
open Go.RowKit Go.Sort Go.Lib in
theorem Tryz.strconv_Itoa (n:Int) (h0: -9223372036854775808<=n) (h1:n<=9223372036854775807) (w:World) (htab:Lib.TabIs prog w "internal/strconv.uint64pow10" .u64 Lib.pow10Tab):
  Calls prog 73 #[.int .i64 n] w fun e w'=>e= .returned (.string ⟨(Lib.itoa n).toArray⟩)/\∃k os,w'=grow (w.drewN k) os:=Any.strconv_Itoa Tryz.laysM171 n h0 h1 w htab
end Go.Proofs
end
section
namespace Go.Proofs.YtehighgebbdenaaGreatDoor
open Go.RowKit
theorem wl (n:Int) (h0: -9223372036854775808<=n) (h1:n<=9223372036854775807) (w:World) (htab:Lib.TabIs Tryz.prog w "internal/strconv.uint64pow10" .u64 Lib.pow10Tab):
  Calls Tryz.prog 73 #[.int .i64 n] w fun e w'=>e= .returned (.string ⟨(Lib.itoa n).toArray⟩)/\Below w.heap.size w w':=by
 refine (Tryz.strconv_Itoa n h0 h1 w htab).mono ?_;rintro e w' ⟨rfl,k,os,rfl⟩;exact ⟨rfl,Lib.below_grow _ _ zg _ _⟩
end Go.Proofs.YtehighgebbdenaaGreatDoor
end
section
namespace Go.Proofs.YtehighgebbdenaaGreatDoor
open Go.Proofs.Tryz
open Go.RowKit Go.Shelf Go.Maps
variable {ls:List (List UInt8)} {b:Nat} {v:Value} {w:World}
section
variable {P:Program} {ops:Array Oper} {Q:Exit→Act→World→Prop} {md:Region.Mode} {S:World→Prop} {z:Nat}
theorem sZ {i:Nat} {o:Oper} {fuel:Nat} {listed:Array Bool} {a:Act} (hr:Region.ready md ops listed= [i]) (ho:ops[i]? =some o) (hz:listed.getD z false=true)
  (h:∀K:Act->World->Prop,(∀a' w',cU P md ops Q S z fuel (listed.setIfInBounds i true) a' w'->K a' w')->if Region.wanted o (yielded ops a.tmps)=true then Oper.wp P o a w K Q else K (a.put o.dst undef) w):cU P md ops Q S z (fuel+1) listed a w:=by
 refine ⟨fun h0=>qk,fun j hj=> ?_⟩;rw [hr] at hj;simp only [uq] at hj;subst hj;have:=h (fun a' w'=>(S w'\/(listed.setIfInBounds j true).getD z false=true)/\cU P md ops Q S z fuel (listed.setIfInBounds j true) a' w') (fun a' w' h2=>⟨.inr (iP hz),h2⟩);unfold wpOp;simp only [ho];split
 ·rename_i hw;exact ki4
 rename_i hw;exact kk6
end
theorem II:(prog.info? 9).map (fun i=>(i.zero,i.size,i.bytes))=some (some (.string ⟨#[]⟩),1,16):=zq
def Ah (ls:List (List UInt8)):List Value:=ls.map fun l=>.string ⟨l.toArray⟩
theorem Co (a b:List (List UInt8)):Ah (a++b)=Ah a++Ah b:=uI
structure TellSt (b:Nat) (ls:List (List UInt8)) (v:Value) (w:World):Prop where
 box:Boxed w b 141 v
 row:w.ownsRow (b+1) 9 1 v ls.length (Ah ls)
theorem TellSt.lt (h:TellSt b ls v w):b<w.heap.size:=(vO.1 h.box).1
theorem TellSt.later {w':World} (h:TellSt b ls v w) (hb:Below w.heap.size w w'):TellSt b ls v w':=
 ⟨(hb.block b h.lt).trans h.box,dP h.row (fun g hg=>hb.block g (h.row.lt g hg).2)⟩
def wX (b:Nat) (line:List UInt8) (ls:List (List UInt8)) (v:Value) (w:World) (e:Ending) (w':World):Prop:=
 ∃v',e= .returned (.tuple #[])/\TellSt b (ls++ [line]) v' w'/\Keeps (fun k=>k=b\/v.ownBlock=some k) w w'/\∀k,v'.ownBlock=some k->v.ownBlock=some k\/w.heap.size<=k
theorem Ad {u:World} (h:TellSt b ls v w) (hb:Below w.heap.size w u) (line:List UInt8) (hls:ls.length<=1000000):
  ∃g cap w',(Builtin.append_ #[141,141] 141 #[v,.slice (some ⟨u.heap.size,0,none⟩) 1 1]).run prog (u.alloc (.cells #[.string ⟨line.toArray⟩] 9))= .ok (.slice (some ⟨g,0,none⟩) (ls.length+1) cap) w'/\
   w'.cell? ⟨b,0,none⟩=some v/\w'.frozen? ⟨b,0,none⟩=false/\wX b line ls v w (.returned (.tuple #[])) (w'.setCell ⟨b,0,none⟩ (.slice (some ⟨g,0,none⟩) (ls.length+1) cap)):=by
 obtain ⟨i0,hi,hz0,hz1,hz2⟩:=info_parts II;have hu:=h.later hb;have hlt:=hu.lt
 obtain ⟨v',w',hrun,hown,hgrow,hcase⟩:=iF (P:=prog) (u.alloc (.cells #[.string ⟨line.toArray⟩] 9)) (b+1) 141 141 9 i0 _ 1 16 underlying141 hi hz0 hz1 hz2 rfl zo v ls.length (Ah ls) (hu.row.alloc _) ⟨u.heap.size,0,none⟩ 1 1 zo [.string ⟨line.toArray⟩] rfl
  (World.news_of_block (cs:= #[.string ⟨line.toArray⟩]) (t:=9) (fr:=(0,0)) (heap_alloc_new u _)) (by simp [Value.oneCell']) zH zo (by rw [uP];omega)
 obtain ⟨g,cap,rfl⟩:=ownsRow_succ hown
 have hvb:∀k,v.ownBlock=some k->b+1<=k/\k<w.heap.size:=fun k hk=>h.row.lt k hk
 have hK1:Keeps (fun k=>v.ownBlock=some k) u w':=(((Keeps.refl (fun k=>v.ownBlock=some k) u).alloc _).trans ((aP hgrow).mono (fun k _ hk=>by rw [<-hk])))
 have hK2:Keeps (fun k=>v.ownBlock=some k) w w':=((aW hb).mono (fun k hk hle=>absurd hk zo)).trans hK1;have hbb:w'.heap[b]? =u.heap[b]? :=hK1.block b hlt (fun e=>by have:=(hvb b e).1;omega);have hbox:Boxed w' b 141 v:=hbb.trans hu.box;refine ⟨g,cap,w',hrun,hbox.cell,hbox.frozen,.slice (some ⟨g,0,none⟩) (ls.length+1) cap,rfl,⟨?_,?_⟩,?_,?_⟩
 ·exact heap_setCell_same w' b 0 _ _ _ hbox
 ·rw [ub,Zp,Co];refine dP hown (fun k hk=> ?_);have hkb:=(hown.lt k hk).1;exact Below.heap_setCell _ _ _ k (by show k≠b;omega)
 ·exact ⟨hK2.os,hK2.tape,hK2.output,by simpa using hK2.size,fun k hk hn=>by
   rw [Below.heap_setCell _ _ _ k (show k≠b from fun e=>hn (.inl e))]
   exact hK2.block k hk (fun e=>hn (.inr e))⟩
 intro k hk
 rcases hcase with ⟨g1,c1,e1,e2⟩ | ⟨e1,_⟩
 ·cases e2
  subst e1;exact .inl hk
 rw [hk] at e1
 cases e1
 exact .inr (by have:=hb.size;simp;omega)
theorem Aq (nd:Int) (ws:List (List UInt8)):(⟨(Lib.itoa nd).toArray⟩:ByteArray)++⟨#[32]⟩++⟨(Lib.join ws [32]).toArray⟩=⟨(gg nd ws).toArray⟩:=by
 apply ByteArray.ext;simp [gg]
theorem oI (w:World) (b:Nat) (nd:Int) (wb c:Nat) (ws:List ByteArray) (ls:List (List UInt8)) (v:Value) (hst:TellSt b ls v w) (hw:∀(j:Nat) x,ws[j]? =some x->w.cell? ⟨wb,0+j,none⟩=some (.string x)) (hwb:wb<w.heap.size) (hwc:ws.length<=c) (hws:ws.length<=10)
  (htab:Lib.TabIs prog w "internal/strconv.uint64pow10" .u64 Lib.pow10Tab) (h0: -9223372036854775808<=nd) (h1:nd<=9223372036854775807) (hlen:(Lib.join (ws.map (·.data.toList)) [32]).length<=100000) (hls:ls.length<=1000000):
  Calls prog 72 #[.int .i64 nd,.slice (some ⟨wb,0,none⟩) ws.length c,.pointer (some ⟨b,0,none⟩)] w (wX b (gg nd (ws.map (·.data.toList))) ls v w):=by
 have HT:Aside (Lib.TabBelow prog w.heap.size w "internal/strconv.uint64pow10" .u64 Lib.pow10Tab):=Lib.tabBelow_of_tabIs htab
 have itoaU:∀u,Below w.heap.size w u->Calls prog 73 #[.int .i64 nd] u fun e w'=>e= .returned (.string ⟨(Lib.itoa nd).toArray⟩)/\Below u.heap.size u w':=fun u hu=>wl nd h0 h1 u (HT.o u hu)
 have joinU:∀u,Below w.heap.size w u->Calls prog 74 #[.slice (some ⟨wb,0,none⟩) ws.length c,.string ⟨#[32]⟩] u fun e w'=>e= .returned (.string ⟨(Lib.join (ws.map (·.data.toList)) [32]).toArray⟩)/\Below u.heap.size u w':=fun u hu=>
  Tryz.strings_Join wb 0 c ws ⟨#[32]⟩ u (fun j x hj=>(hu.cell (p:=⟨wb,0+j,none⟩) hwb).trans (hw j x hj)) (um hwb hu.size) zo hwc (by show (Lib.join _ [32]).length<=_;omega)
 have HI:Aside (∀u,Below w.heap.size w u->Calls prog 73 #[.int .i64 nd] u fun e w'=>e= .returned (.string ⟨(Lib.itoa nd).toArray⟩)/\Below u.heap.size u w'):=itoaU;have HJ:Aside (∀u,Below w.heap.size w u->Calls prog 74 #[.slice (some ⟨wb,0,none⟩) ws.length c,.string ⟨#[32]⟩] u fun e w'=>e= .returned (.string ⟨(Lib.join (ws.map (·.data.toList)) [32]).toArray⟩)/\Below u.heap.size u w'):=joinU;have HS:Aside (TellSt b ls v w):=hst;have HB0:Aside (Below w.heap.size w w.drew):=(vP _ w).drew;have hS0:w.drew.cell? ⟨b,0,none⟩=some v:=(hst.later HB0.o).box.cell;have hLB:=Aq nd (ws.map (·.data.toList))
 have hIL:(Lib.itoa nd).length<=1000:=by have:=Lib.itoa_length_le nd h0 h1;omega
 obtain ⟨jn,hjn⟩:=zc (Lib.join (ws.map (·.data.toList)) [32]);rw [<-hjn] at HJ hLB hlen;obtain ⟨line,hline⟩:=zc (gg nd (ws.map (·.data.toList)))
 rw [<-hline] at hLB |-
 obtain ⟨it,hit⟩:=zc (Lib.itoa nd);rw [<-hit] at HI hLB hIL
 obtain ⟨sl,hsl⟩:∃sl:Nat,sl=ws.length:=⟨_,rfl⟩
 rw [<-hsl] at HJ |-
 have n1:¬9223372036854775807<it.length+1:=zo;have n2:¬9223372036854775807<it.length+1+jn.length:=zo;clear itoaU joinU hst hw hwb hwc hws htab h0 h1 hlen hjn hline hit hsl HT hIL;go_enter func72,ntmps72;go_upto_region 0 with fail;refine bs (S:=fun w'=>w'.cell? ⟨b,0,none⟩=some v) (z:=8) zq hS0 (fun hHeld=> ?_);refine aw (i:=0) (v:= ?v0) zu zq rfl zq zq zq zq (fun _ _ _ h=>h) (Or.inl ⟨zA,?hy0⟩) hHeld ?rest0
 case hy0=>(intro w' hSw;go_simp;try with_reducible rfl)
 refine qn ?_;refine aX (i:=1) (v:= ?v1) zu rfl zq zq zq (fun _ _ _ h=>h) (Or.inl ⟨zA,?hy1⟩) hHeld ?rest1
 case hy1=>(intro w' _;go_simp;try with_reducible rfl)
 refine qn ?_;refine aX (i:=4) (v:= ?v4) zu rfl zq zq zq (fun _ _ _ h=>h) (Or.inl ⟨zA,?hy4⟩) hHeld ?rest4
 case hy4=>(intro w' _;go_simp;try with_reducible rfl)
 refine qn ?_;refine aF (i:=2) zq rfl (fun K hK=> ?_);go_simp;refine (HI.o _ HB0.o).mono ?_;rintro e w1 ⟨rfl,hb1⟩;have B1:Below w.heap.size w w1:=zj HB0.o hb1;have hS1:=(HS.o.later B1).box.cell;refine hK _ _ (.inl hS1) ?_;clear hK K hb1;refine qn ?_;refine aX (i:=3) (v:= ?v3) zu rfl zq zq zq (fun _ _ _ h=>h) (Or.inl ⟨zA,?hy3⟩) hS1 ?rest3
 case hy3=>(intro w' _;go_simp;try with_reducible rfl)
 refine qn ?_;refine aF (i:=5) zq rfl (fun K hK=> ?_);go_simp;refine (HJ.o _ B1).mono ?_;rintro e w2 ⟨rfl,hb2⟩;have B2:Below w.heap.size w w2:=zj B1 hb2;have hS2:=(HS.o.later B2).box.cell;refine hK _ _ (.inl hS2) ?_;clear hK K hb2;refine qn ?_;obtain ⟨g,cap,w3,hrun,hc3,hf3,hout⟩:=Ad HS.o B2 line hls;have HO:Aside _:=hout;clear hout;refine aX (i:=6) (v:= ?v6a) zu rfl zq zq zq (fun _ _ _ h=>h) (Or.inl ⟨zA,?hy6a⟩) hS2 ?rest6a
 case hy6a=>(intro w' _;go_simp;try with_reducible rfl)
 refine qn ?_
 try rw [hLB]
 refine aF (i:=7) zq rfl (fun K hK=> ?_);go_simp;refine hK _ _ (.inl ((HS.o.later (B2.alloc B2.size _)).box.cell)) ?_;clear hK K;refine qn ?_;refine aF (i:=8) zq rfl (fun K hK=> ?_);rw [if_pos zA];simp only [ZC,Yg,Yh];refine Lib.wp_append_run _ _ _ _ _ rfl v (.slice (some ⟨w2.heap.size,0,none⟩) 1 1) rfl rfl _ w3 hrun ?_;refine hK _ _ (.inr ⟨rfl,zu⟩) ?_;clear hK K hrun;refine qn ?_;refine sZ (i:=9) zq rfl zq (fun K hK=> ?_);go_simp;refine hK _ _ ?_;clear hK K hc3 hf3;refine bu zq ?_ _;go_wp2;go_end0;obtain ⟨v',_,h⟩:=HO.o;exact ⟨v',rfl,h⟩
end Go.Proofs.YtehighgebbdenaaGreatDoor
end
section
namespace Go.Proofs
open Go.Proofs.Tryz
open Go.Shelf
def Tryz.lays189_ren:Go.Shelf.Ren:=⟨fun | 189=>142 | 125=>203 | 257=>202 | 128=>252 | 129=>253 | 294=>243 | 295=>244 | 296=>245 | 297=>246 | 298=>247 | 299=>248 | 216=>249 | 300=>250 | 301=>251 | 328=>289 | 329=>290 | 330=>291 | 331=>292 | 332=>293 | 215=>168 | 343=>312 | n=>n,fun | 28=>93 | 3=>3 | 46=>295 | 0=>0 | 51=>351 | 53=>336 | 4=>4 | 183=>345 | 182=>344 | 131=>88 | 5=>5 | 9=>9 | 218=>371 | 222=>375 | 228=>390 | 229=>113 | n=>n,fun | n=>n⟩
theorem Tryz.lays189:Go.Proofs.Lays.n189 prog Tryz.lays189_ren:={
 mixed:=zq
 f125:=func203.trans (congrArg some zq)
 f128:=func252.trans (congrArg some zq)
 f129:=func253.trans (congrArg some zq)
 f189:=func142.trans (congrArg some zq)
 f215:=func168.trans (congrArg some zq)
 f216:=func249.trans (congrArg some zq)
 f257:=func202.trans (congrArg some zq)
 f294:=func243.trans (congrArg some zq)
 f295:=func244.trans (congrArg some zq)
 f296:=func245.trans (congrArg some zq)
 f297:=func246.trans (congrArg some zq)
 f298:=func247.trans (congrArg some zq)
 f299:=func248.trans (congrArg some zq)
 f300:=func250.trans (congrArg some zq)
 f301:=func251.trans (congrArg some zq)
 f328:=func289.trans (congrArg some zq)
 f329:=func290.trans (congrArg some zq)
 f330:=func291.trans (congrArg some zq)
 f331:=func292.trans (congrArg some zq)
 f332:=func293.trans (congrArg some zq)
 f343:=func312.trans (congrArg some zq)
 t0:=underlying0
 a0:=isAgg0
 z0:=sizeOf0
 v0:=zeroValue0
 t3:=underlying3
 a3:=isAgg3
 z3:=sizeOf3
 v3:=zeroValue3
 t4:=underlying4
 a4:=isAgg4
 z4:=sizeOf4
 v4:=zeroValue4
 t5:=underlying5
 a5:=isAgg5
 z5:=sizeOf5
 v5:=zeroValue5
 t9:=underlying9
 a9:=isAgg9
 z9:=sizeOf9
 v9:=zeroValue9
 t28:=underlying93
 a28:=isAgg93
 z28:=sizeOf93
 v28:=zeroValue93
 t46:=underlying295
 a46:=isAgg295
 z46:=sizeOf295
 v46:=zeroValue295
 t51:=underlying351
 a51:=isAgg351
 z51:=sizeOf351
 v51:=zeroValue351
 t53:=underlying336
 a53:=isAgg336
 z53:=sizeOf336
 v53:=zeroValue336
 t131:=underlying88
 a131:=isAgg88
 z131:=sizeOf88
 v131:=zeroValue88
 t182:=underlying344
 a182:=isAgg344
 z182:=sizeOf344
 v182:=zeroValue344
 t183:=underlying345
 a183:=isAgg345
 z183:=sizeOf345
 v183:=zeroValue345
 t218:=underlying371
 a218:=isAgg371
 z218:=sizeOf371
 v218:=zeroValue371
 t222:=underlying375
 a222:=isAgg375
 z222:=sizeOf375
 v222:=zeroValue375
 t228:=underlying390
 a228:=isAgg390
 z228:=sizeOf390
 v228:=zeroValue390
 t229:=underlying113
 a229:=isAgg113
 z229:=sizeOf113
 v229:=zeroValue113}
open Go.Sort Go.RowKit in
theorem Tryz.slices_Sort_int (blk off cap:Nat) (zs:List Int) (w:World) (hH:Holds (Value.int .i64) w blk off zs.toArray) (hblk:blk<w.heap.size) (hsz:zs.length<4611686018427387904):
  Calls prog 142 #[.slice (some ⟨blk,off,none⟩) zs.length cap] w fun e w'=>
   e= .returned (.tuple #[])/\∃n os,w'=grow (putRow (Value.int .i64) (Sort.ahead w n) blk off (zs.mergeSort fun x y=>decide (x<=y)).toArray) os:=Any.slices_Sort_int Tryz.lays189 blk off cap zs w hH hblk hsz
open Go.RowKit Go.Sort in
theorem Tryz.slices_Sort_int_none (p:Option Addr) (cap:Nat) (w:World):
  Calls prog 142 #[.slice p 0 cap] w fun e w'=>e= .returned (.tuple #[])/\w'=w:=Any.slices_Sort_int_none Tryz.lays189 p cap w
end Go.Proofs
end
section
namespace Go.Proofs.YtehighgebbdenaaGreatDoor
open Go.Proofs.Tryz
open Go.RowKit Go.Shelf Go.Maps
open scoped Classical
variable {D:DataW Unit} {ks:List Int} {f:kO}
attribute [local go_sem] Oper.semAt_some
def Jb (f:kO) (ks:List Int):Prop:=ks.Nodup/\∀k,k∈ks↔(f k).isSome=true
def CollT (D:DataW Unit) (f:kO) (left:Lit->Bool) (ks:List Int):Prop:=
 ks.Nodup/\(∀k∈ks,(f k).isSome=true/\left (.int .i64 k)=false)/\∀k,Wf k->has D (.int .i64 k)=true->left (.int .i64 k)=false->k∈ks
theorem tN (D:DataW Unit) (f:kO):CollT D f (has D) []:=⟨List.nodup_nil,fun p hp=>by simp at hp,fun k _ h1 h2=>by rw [h1] at h2;cases h2⟩
theorem CollT.step {left:Lit->Bool} (h:CollT D f left ks) {x:Int} (hl:left (.int .i64 x)=true) (hf:(f x).isSome=true):CollT D f (fun z=>left z && !z.sameKey (.int .i64 x)) (ks++ [x]):=by
 obtain ⟨h1,h2,h3⟩:=h;refine ⟨?_,fun p hp=> ?_,fun k hw hh hlk=> ?_⟩
 ·rw [Ze];refine ⟨h1,zv,fun a ha b hb=> ?_⟩;simp only [uq] at hb;subst hb;intro e;subst e;have:=(h2 _ ha).2;rw [hl] at this
  cases this
 ·rcases vW.1 hp with hp | hp
  ·have:=h2 p hp;exact ⟨this.1,by show (left (.int .i64 p) &&_)=false;rw [this.2];rfl⟩
  simp only [uq] at hp;subst hp;refine ⟨hf,?_⟩
  show (left (.int .i64 p) && !Lit.sameKey (.int .i64 p) (.int .i64 p))=false
  rw [km];simp
 have hlk:(left (.int .i64 k) && !Lit.sameKey (.int .i64 k) (.int .i64 x))=false:=hlk;rw [km] at hlk;by_cases e:k=x
 ·subst e;simp
 refine uF _ (h3 k hw hh ?_);simpa [e] using hlk
theorem CollT.all {left:Lit->Bool} (h:CollT D f left ks) (hr:ReadsT D f) (G:Jq f) (hl:∀kl,left kl=false):Jb f ks:=by
 refine ⟨h.1,fun p=>⟨fun hp=>(h.2.1 p hp).1,fun hp=> ?_⟩⟩;obtain ⟨q,hq⟩:=Ya.1 hp;have hw:=G p q hq;exact h.2.2 p hw (by rw [hr.has hw,hp]) (hl _)
theorem GL (F:Fence) (n:Nat) (h8:F.fn 143) (hro:F.round=none) (hn:1<=n) (l Bm b nn:Nat) (D0:DataW Unit) (f:kO) (hr:ReadsT D0 f) (G:Jq f) (J Jx:List Int->World->Prop)
  (hY:∀pre x W,J pre W->pre.length<nn->YieldAt F (n - 1) prog l #[.int .i64 x] W fun e W'=>
   (e= .returned (.bool true)/\J (pre++ [x]) W'/\KeepsWalks W W')\/(e= .returned (.bool false)/\Jx (pre++ [x]) W'))
  (W:World) (hJ:AbidesFrom W.heap.size J) (hm:W.cell? ⟨Bm,0,none⟩=some (.map (some b))) (hown:W.ownsMap prog 3 IS b nn D0) (h0:J [] W):
  CallsIn F n prog 143 #[.func (.yield l) #[] #[],.pointer (some ⟨Bm,0,none⟩)] W fun e W'=>(∃v,e= .returned v)/\
   ((∃xs,Jb f xs/\J xs W')\/(∃pre,True/\Jx pre W')):=by
 refine callsIn_of_wp func143 rfl h8 ?_ hro;simp only [ntmps143,uA,uu,uM,Nat.reduceAdd,Nat.reduceSub,uT,uU,Zh,uX,Zb,Zl];have hsn:=hown.size_le
 gi_wp2_with (first
  | (gi_at_range;refine wpListIn_range_own _ rfl _ 67 rfl 3 148 (int_keyed underlying3) underlying67 _ b nn _ rfl hown ?_;intro w0 hrg0 hg0 hs0)
  | gi_in)
 go_frame
 gi_loopw [3] (fun _ wr=>∃(left:Lit->Bool) (cnt:Nat) (ps:List Int),wr.ranges prog 3 IS b W.heap.size nn D0 left cnt/\ps.length+cnt<=nn/\CollT D0 f left ps/\J ps wr)
  (fun _ wr=>wr.rangeLeft b W.heap.size)
 case atStart=>
  exact ⟨_,_,[],hrg0,by simpa using hsn,tN D0 f,hJ [] W w0 none h0 hg0 (fun r e=>yL)⟩
 case round=>
  obtain ⟨left,cnt,ps,hrg,hcs,hC,hJs⟩:=hrel
  gi_wp2_with (first
   | (gi_at_next;refine wpListIn_next_ranges _ rfl _ rfl 3 (int_keyed underlying3) IS (Value.int .i64) il (fun key kl hk=>qM) (fun v y hv=>by obtain ⟨c,rfl,_⟩:=nj hv;exact ⟨c,rfl⟩) b W.heap.size nn _ _ _ rfl hrg ?_ ?_)
   | gi_in)
  ·exact ko7
  intro x c1 kl yd yp w2 cnt2 hkey hlk hv hat hrg2 hlt hg2 hs2 hen;obtain ⟨x',ex,rfl,hwx⟩:=Maps.keyOf_int_inv underlying3 hkey
  obtain rfl:x=x':=by simpa using ex
  have hfx:(f x).isSome=true:=by rw [<-hr.has hwx];exact has_true_of_atKey hat
  have hJ2:J ps w2:=hJ ps wr w2 (some W.heap.size) hJs hg2 (fun r e=>jw);obtain ⟨fn,tmps,assign,body,hy,hR⟩:=hY ps x _ hJ2 zo;have hC2:=hC.step hlk hfx;have H3:Aside (RoundIn F (n - 1) prog l fn tmps assign body _ _):=hR;clear hs2 hR hJ2;gi_wp2;refine RoundIn.mono H3.o ?_;rintro e W3 (⟨rfl,hJ4,hk4⟩ | ⟨rfl,hJx4⟩)
  ·gi_wp2;have hrg4:=hrg2.of_walks hk4;go_roundw
   case rel=>exact ⟨_,cnt2,ps++ [x],hrg4,zr,hC2,hJ4⟩
   case measure=>rw [hrg4.left_eq,hrg.left_eq];exact hlt
  gi_wp2;refine bodyPost_ret (results_none rfl _ _ _) rfl ?_;exact ⟨⟨_,rfl⟩,.inr ⟨ps++ [x],trivial,hJx4⟩⟩
theorem Fq (F:Fence) (n:Nat) (hf:F.fn 76) (hro:F.round=none) (mb:Option Nat) (w:World):
  CallsIn F n prog 76 #[.map mb] w fun e w'=>e= .returned (.func (.func 143) #[] #[.pointer (some ⟨w.heap.size,0,none⟩)])/\w'=w.alloc (.cells #[.map mb] 67):=by
 refine callsIn_of_wp func76 rfl hf ?_ hro;simp only [ntmps76,uA,uu,uM,Nat.reduceAdd,Nat.reduceSub,uT,uU,Zh,uX,Zb,Zl];gi_wp2;go_ret;exact km8
theorem Bz (F:Fence) (n:Nat) (h8:F.fn 143) (hro:F.round=none) (hn:1<=n) (Bm b nn:Nat) (f:kO) (w:World) (hBm:Bm<w.heap.size) (hm:w.cell? ⟨Bm,0,none⟩=some (.map (some b))) (hM:TMapAt w b nn f):
  SeqStopsK F n prog 143 #[.pointer (some ⟨Bm,0,none⟩)] (fun x:Int=> #[.int .i64 x]) KeepsWalks (fun xs=>Jb f xs) (fun _=>True) nn w:=fun l J Jx W hW hJ _ hY h0=>by
 have hbl:=hM.lt;obtain ⟨⟨D,hown,hr⟩,G⟩:=hM.same (hW.block b hbl);exact GL F n h8 hro hn l Bm b nn D f hr G J Jx hY W hJ ((hW.cell (p:=⟨Bm,0,none⟩) hBm).trans hm) hown h0
theorem Lr:(prog.info? 3).map (fun i=>(i.zero,i.size,i.bytes))=some (some (.int .i64 0),1,8):=zq
theorem IJ (w:World) (x:Int) (j:Nat) (u:Value) (hj:([Value.int .i64 x]:List Value)[j]? =some u):(w.alloc (.cells #[.int .i64 x] 3)).cell? ((⟨w.heap.size,0,none⟩:Addr).add j)=some u:=by
 rw [Addr.add_lit,vY];have h:=heap_alloc_new w (.cells #[.int .i64 x] 3);simp only [World.cell?,h];rw [<-hj];simp
theorem IF (x:Int):∀u∈([Value.int .i64 x]:List Value),u.oneCell'=true:=by simp [Value.oneCell']
def nu (ks:List Int):List Value:=ks.map fun k=>.int .i64 k
theorem mu (w:World) (Bm b nn:Nat) (f:kO) (hBm:Bm<w.heap.size) (hm:w.cell? ⟨Bm,0,none⟩=some (.map (some b))) (hM:TMapAt w b nn f) (hnn:nn<=2000000):
  Calls prog 201 #[.slice none 0 0,.func (.func 143) #[] #[.pointer (some ⟨Bm,0,none⟩)]] w fun e w'=>∃v ps,e= .returned v/\Jb f ps/\ps.length<=nn/\w'.ownsRow w.heap.size 3 1 v ps.length (nu ps)/\Below w.heap.size w w':=by
 obtain ⟨i0,hi,hz0,hz1,hz2⟩:=info_parts Lr;refine (callsIn_wide (n:=4)).1 ?_;refine callsIn_of_wp_marks func201 rfl trivial ?_ rfl;simp only [ntmps201,uA,uu,uM,Nat.reduceAdd,Nat.reduceSub,uT,uU,Zh,uX,Zb,Zl];gi_wp2;obtain ⟨w1,hw1⟩:=zc (w.alloc (.cells #[.slice none 0 0] 93));rw [<-hw1];have hB0:Below w.heap.size w w1:=qj;have hs1:w1.heap.size=w.heap.size+1:=xS;obtain ⟨B,hB⟩:=zc w.heap.size;have e1:Boxed w1 B 93 (.slice none 0 0):=qU
 rw [<-hB] at hB0 hs1 hBm |-
 have HB:Aside (B=w.heap.size):=hB;have hBw:B<=w.heap.size:=zo;clear hB;have hm1:=(hB0.cell (p:=⟨Bm,0,none⟩) hBm).trans hm;have hM1:=hM.same (hB0.block b (by have:=HB.o;have:=hM.lt;omega));clear hw1 hm hM
 refine wpIn_rangeFunc_ownH rfl zo (gf:=143) (lb:= #[.pointer (some ⟨Bm,0,none⟩)]) rfl trivial (enters_of func143 zq rfl)
  (Bz Fence.wide (4 - 1) trivial rfl zo Bm b nn f w1 zo hm1 hM1) walksK_t (walksK_b (w:=w1)) (vP _ _) (fun _=>rfl)
  (fun pre W=>((∃v,Boxed W B 93 v/\W.ownsRow B 3 1 v pre.length (nu pre)/\pre.length<=nn))/\(w1.heap.size<=W.heap.size/\Below B w W))
  (fun _ _ _=>False)
  (OwnFrom.and (Own.from (holdsRow_own B B 93 3 1 (fun pre=>pre.length) (fun pre=>nu pre) (fun pre _=>pre.length<=nn)) _) (OwnFrom.and (fun _ X Y row hs hg _=>uf hs hg.size) (ownFrom_below zo zo)))
  (fun _ _ _ _ _ hs _ _=>hs)
  ⟨⟨_,e1,un w1 B _ _,vV _⟩,vM _,hB0⟩
  (fun x a' W=>a'= {tmps:= #[.slice none 0 0,.func (.func 143) #[] #[.pointer (some ⟨Bm,0,none⟩)],.pointer (some ⟨B,0,none⟩),undef,.slice none 0 0,.int .i64 x,.func (.func 143) #[] #[.pointer (some ⟨Bm,0,none⟩)],.int .i64 x,undef,undef,undef,undef,undef],defers:=[]})
  (fun x a'=>Own.from (fun _ X Y row hs hg hr=>hs) _)
  ?assign ?body ?done ?stop
 case assign=>
  rintro l pre x W K ⟨⟨v,hv,hrow,hpl⟩,hsz,hBW⟩ hK;have hK':Aside _:=hK;have hBs:B<=W.heap.size:=zo;clear hK;gi_wp2;refine hK'.o _ _ ((KeepsOthers.refl _).from _) (KeepsOthers.refl _).walks ⟨⟨v,hv,hrow,hpl⟩,hsz,hBW⟩ rfl
 case body=>
  rintro l pre x a' W hl _ ⟨⟨v,hv,hrow,hpl⟩,hsz,hBW⟩ rfl hlt;have g1:=hv.cell;have hBs:B<=W.heap.size:=zo;gi_wp2_with (gi_at_builtin;refine wpListIn_append_own _ rfl _ _ 93 rfl B 3 i0 _ 1 8 underlying93 hi hz0 hz1 hz2 rfl zo _ _ _ rfl (hrow.alloc _) ⟨W.heap.size,0,none⟩ 1 1 [.int .i64 x] rfl rfl (IJ W x) (IF x) zH zo zr ?_;intro v' w2 hown' hgrow _;obtain ⟨g',cap',rfl⟩:=ownsRow_succ hown';obtain ⟨hv1,hv2,hr2,hk2,hb2⟩:=hv.appended zu hrow hBs zg hown' hgrow;have hc1:=hv1.cell;have hf1:=hv1.frozen);exact ⟨hk2.from _,hk2.walks,⟨⟨_,hv2,by rw [ub,Zp];unfold nu at*;rw [uI];simpa using hr2,zr⟩,jX,hBW.trans hb2⟩⟩
 case done=>
  rintro D ys W hD hall ⟨⟨v,hv,hrow,hpl⟩,hsz,hBW⟩ hK;have g1:=hv.cell;gi_wp2;refine ⟨zv,.inl ⟨_,_,rfl,run_takeDeferred hK,?_⟩⟩;refine ⟨v,by simp [results,f201,go_sem],v,ys,rfl,hall,hpl,?_,?_⟩
  ·exact kp3
  exact kg2
 case stop=>
  exact kp0
theorem lu (w:World) (Bm b nn:Nat) (f:kO) (hBm:Bm<w.heap.size) (hm:w.cell? ⟨Bm,0,none⟩=some (.map (some b))) (hM:TMapAt w b nn f) (hnn:nn<=2000000):
  Calls prog 141 #[.func (.func 143) #[] #[.pointer (some ⟨Bm,0,none⟩)]] w fun e w'=>∃v ps,e= .returned v/\Jb f ps/\ps.length<=nn/\w'.ownsRow w.heap.size 3 1 v ps.length (nu ps)/\Below w.heap.size w w':=by
 have ha:=mu w Bm b nn f hBm hm hM hnn;go_enter func141,ntmps141;go_wp2_with fail;refine ha.mono ?_;clear ha;rintro e w1 ⟨v,ps,rfl,h⟩;have HH:Aside _:=h;clear h;go_wp2;go_ret;exact ⟨v,ps,rfl,HH.o⟩
theorem tA (hn:ks.Nodup):(ks.mergeSort fun x y=>decide (x<=y)).Pairwise (· < ·):=by
 have h1:=List.pairwise_mergeSort (le:=fun x y:Int=>decide (x<=y)) (fun a b c h1 h2=>by simp only [decide_eq_true_eq] at*;omega) (fun a b=>by simp only [Zz,decide_eq_true_eq];omega) ks;have h2:(ks.mergeSort fun x y=>decide (x<=y)).Nodup:=(List.mergeSort_perm ks _).nodup_iff.2 hn;exact (h1.and h2).imp (fun {a b} h=>by have h1:=h.1;have h2:=h.2;simp only [decide_eq_true_eq] at h1;omega)
theorem mz (w:World) (Bm b nn:Nat) (f:kO) (hBm:Bm<w.heap.size) (hm:w.cell? ⟨Bm,0,none⟩=some (.map (some b))) (hM:TMapAt w b nn f) (hnn:nn<=100000):
  Calls prog 75 #[.func (.func 143) #[] #[.pointer (some ⟨Bm,0,none⟩)]] w fun e w'=>∃v ks,e= .returned v/\ks.Pairwise (· < ·)/\(∀k,k∈ks↔(f k).isSome=true)/\ks.length<=nn/\w'.ownsRow w.heap.size 3 1 v ks.length (nu ks)/\Below w.heap.size w w':=by
 have hc:=lu w Bm b nn f hBm hm hM zo;go_enter func75,ntmps75;go_wp2_with fail;refine hc.mono ?_;clear hc;rintro e w1 ⟨v,ps,rfl,hall,hpl,hown,hb⟩
 rcases hown.2 with ⟨rfl,h0⟩ | ⟨g,cap,cur,rfl,hbg,hgb,r1,r2,r3,r4⟩
 ·have hps:ps= []:=uh.1 h0;subst hps
  have HH:Aside ((∀k,k∈([]:List Int)↔(f k).isSome=true)/\Below w.heap.size w w1):=⟨hall.2,hb⟩
  have hs:=Tryz.slices_Sort_int_none none 0 w1;clear hall hown hb h0;go_wp2_with fail;refine hs.mono ?_;clear hs;rintro e w' ⟨rfl,rfl⟩;go_wp2;go_ret;exact ⟨_,[],rfl,List.Pairwise.nil,HH.o.1,vV _,un _ _ _ _,HH.o.2⟩
 have hH:Sort.Holds (Value.int .i64) w1 g 0 ps.toArray:=holds_of_blockI hgb (by simpa [nu] using r4);have hgl:g<w1.heap.size:=(vO.1 hgb).1;have hs:=Tryz.slices_Sort_int g 0 cap ps w1 hH hgl zo;have hlen:(ps.mergeSort fun x y=>decide (x<=y)).length=ps.length:=List.length_mergeSort _
 have H1:Aside (∀n os,(Sort.grow (Sort.putRow (Value.int .i64) (Sort.ahead w1 n) g 0 (ps.mergeSort fun x y=>decide (x<=y)).toArray) os).ownsRow w.heap.size 3 1 (.slice (some ⟨g,0,none⟩) ps.length cap) ps.length (nu (ps.mergeSort fun x y=>decide (x<=y)))/\Below w.heap.size w (Sort.grow (Sort.putRow (Value.int .i64) (Sort.ahead w1 n) g 0 (ps.mergeSort fun x y=>decide (x<=y)).toArray) os)):=fun n os=>
  ⟨ownsRow_sortedI hlen hbg hgb r1 r2 r3,hb.grown (grownBy_sortedI _) hb.size (fun j hj=>by cases hj;exact hbg)⟩
 have HH:Aside (Jb f ps/\ps.length<=nn):=⟨hall,hpl⟩
 have HL:Aside ((ps.mergeSort fun x y=>decide (x<=y)).length=ps.length):=hlen;clear hall hown hb hpl hbg hgl hgb r1 r2 r3 r4 hH hlen;go_wp2_with fail;refine hs.mono ?_;clear hs;rintro e w2 ⟨rfl,n,os,rfl⟩;have H2:=H1.o n os
 generalize Sort.grow (Sort.putRow (Value.int .i64) (Sort.ahead w1 n) g 0 (ps.mergeSort fun x y=>decide (x<=y)).toArray) os=w2 at H2 |-
 have H3:Aside _:=H2;clear H1 H2;go_wp2;go_ret;exact ⟨_,ps.mergeSort fun x y=>decide (x<=y),rfl,tA HH.o.1.1,fun k=>((List.mergeSort_perm ps _).mem_iff).trans (HH.o.1.2 k),by rw [HL.o];exact HH.o.2,by rw [HL.o];exact H3.o.1,H3.o.2⟩
