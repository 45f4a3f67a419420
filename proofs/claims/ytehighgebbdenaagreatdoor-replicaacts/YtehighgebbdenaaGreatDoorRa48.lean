/- Proved: for any number, any list of acts, any vector and any node the law ReplicaActs returns true and leaves its arguments as they were (chapter 7: what a replica answers to any acts, its state, vector, time, operations, differences and text, is what the document's reference answers); on the condition alone that the listed variables hold what the program's text, and for three tables and a handle the library's, lays there. -/
import Derived.Test.YtehighgebbdenaaGreatDoorRa47
import Derived.LaidMore
import Derived.Lib.SmallJoins
import Derived.Lib.LaidU8
import Derived.Lay
import Derived.Test.YtehighgebbdenaaGreatDoorCards
import Derived.Test.YtehighgebbdenaaGreatDoorTie
set_option linter.unusedVariables false
set_option linter.unusedSimpArgs false
set_option maxRecDepth 100000
set_option maxHeartbeats 64000000
section
namespace Go.Proofs.YtehighgebbdenaaGreatDoor
theorem pL {P:Program} {W:World} {ti tp te ts:TypeId} {ms:Array (String×TypeId)} {nm:String} {f:Field}
  (hi:P.underlying ti=some (.interface ms)) (hrow:∀u,P.typeName? 3 u=some nm->u=tp) (hp:P.underlying tp=some (.pointer te)) (he:P.underlying te=some (.struct #[f])) (hft:f.type=ts) (hfo:f.offset=0) (hs:P.underlying ts=some .string) (hc:P.cellsOf te=1) (hcs:P.cellsOf ts=1):
  ∀(l:List (String×Nat×List UInt8)) (ps:List MemPlace),
   (∀x∈l,P.globalNamed x.1=some x.2.1/\(P.globals[x.2.1]?).map (·.type)=some ti)->
   DataW.LaidVars P W (l.map fun x=>(x.1,.iface nm (.ptr (.agg [.lit (.string x.2.2)])))) ps->ps.Nodup->
   (∀b off,MemPlace.cell b off∈ps->(∃c t,W.heap[b]? =some (.cells c t (0,0)))/\∀u v,W.cell? ⟨b,off,none⟩=some (.iface u v)->Value.okWide P W .any 0 u v)->
   ∃az:List Addr,az.length=l.length/\(∀(i:Nat) (x:String×Nat×List UInt8) (a:Addr),l[i]? =some x->az[i]? =some a->W.cell? ⟨x.2.1,0,none⟩=some (.iface tp (.pointer (some a))))/\
    (∀a∈az,(∃c t,W.heap[a.block]? =some (.cells c t (0,0)))/\MemPlace.cell a.block a.off∈ps)/\az.Nodup
 | [],ps,_,_,_,_=>⟨[],rfl,zv,zv,List.nodup_nil⟩
 | x::l,ps,hx,hv,hnd,hr=>by
  obtain ⟨g,t,cs,fuel,p,q,hg,ht,hvar,hd,hq,e⟩:=hv;subst e;obtain ⟨hg',ht'⟩:=hx x (uv);obtain rfl:=Option.some.inj (hg'.symm.trans hg);obtain rfl:=Option.some.inj (ht'.symm.trans ht);obtain ⟨l0⟩:=cs
  have ok0:∀u v,l0= [.iface u v]->Value.okWide P W .any 0 u v:=fun u v e=>by
   subst e;exact (hr x.2.1 0 (by simp [MemPlace.row])).2 u v (by simpa using World.var?_cell hg hvar 0)
  obtain ⟨a0,s0,rfl,hc0,hs0,hz0,rfl⟩:=errorString_of_trod hi hrow hp he hft hfo hs hc hcs hd ok0;have hnd2:=Ze.1 hnd;obtain ⟨az,hl,h1,h2,h3⟩:=pL hi hrow hp he hft hfo hs hc hcs l q (fun y hy=>hx y (ul _ hy)) hq hnd2.2.1 (fun b off hm=>hr b off (uL _ hm));have hm0:MemPlace.cell a0.block a0.off∈MemPlace.row ⟨x.2.1,0,none⟩ (#[Value.iface tp (.pointer (some a0))]:Array Value).size++MemPlace.row a0 1:=uL _ (by simp [MemPlace.row]);refine ⟨a0::az,by simp [hl],?_,?_,?_⟩
  ·intro i y a hy ha
   cases i with
   | zero=>
    simp only [List.getElem?_cons_zero,Option.some.injEq] at hy ha;subst hy ha;simpa using World.var?_cell hg hvar 0
   | succ i=>
    simp only [List.getElem?_cons_succ] at hy ha;exact h1 i y a hy ha
  ·intro a ha
   rcases vT.1 ha with rfl | ha
   ·exact ⟨(hr _ _ (uF _ hm0)).1,uF _ hm0⟩
   exact ⟨(h2 a ha).1,uL _ (h2 a ha).2⟩
  refine List.nodup_cons.2 ⟨fun hin=> ?_,h3⟩;exact hnd2.2.2 _ hm0 _ (h2 a0 hin).2 rfl
theorem Tryz.yStar: "*" ++ "errors.errorString" = "*errors.errorString" :=zu
theorem Tryz.yRow (u:TypeId) (h:Tryz.prog.typeName? 3 u=some "*errors.errorString"):u=399:=
 typeName_ptr_named (nm:= "errors.errorString") (by rw [Tryz.yStar];kernel_rfl) zq zu u (by rw [Tryz.yStar];exact h)
theorem Tryz.yCellsS:Tryz.prog.cellsOf 417=1:=zq
theorem Tryz.yCellsString:Tryz.prog.cellsOf 9=1:=zq
end Go.Proofs.YtehighgebbdenaaGreatDoor
end
section
namespace Go.Proofs.YtehighgebbdenaaGreatDoor
end Go.Proofs.YtehighgebbdenaaGreatDoor
end
section
namespace Go.Proofs.YtehighgebbdenaaGreatDoor
open Go.RowKit
theorem ke:Tryz.prog.cellsOf 3=1:=zq
end Go.Proofs.YtehighgebbdenaaGreatDoor
end
section
namespace Go.Proofs.YtehighgebbdenaaGreatDoor
open Go.Proofs.Tryz
open Go.ChangeShapes Go.WideShapes Go.ChangeAt Go.RowKit Go.Joins
theorem sA:prog.cellsOf 38=8:=zq
theorem sX:prog.cellsOf 36=2:=zq
theorem CR:prog.cellsOf 5=1:=zq
theorem Cn:prog.cellsOf 9=1:=zq
def opD (H:Type) (t b n:Int) (k:Nat) (node other:Int) (name value:ByteArray):DataW H:=.agg [.agg [.lit (.int .i64 t),.lit (.int .i64 b)],.lit (.int .i64 n),.lit (.int .u8 (k:Int)),.lit (.int .i64 node),.lit (.int .i64 other),.lit (.string name.data.toList),.lit (.string value.data.toList)]
structure MV (t b n:Int) (k:Nat) (node other:Int) (name value:ByteArray):Prop where
 t:(Lit.int .i64 t).wf=true
 b:(Lit.int .i64 b).wf=true
 n:(Lit.int .i64 n).wf=true
 k:(Lit.int .u8 (k:Int)).wf=true
 node:(Lit.int .i64 node).wf=true
 other:(Lit.int .i64 other).wf=true
 name:name.size<=maxLen
 value:value.size<=maxLen
theorem KP {α:Type} {cs:List α} (h:cs.length=8):∃c0 c1 c2 c3 c4 c5 c6 c7,cs= [c0,c1,c2,c3,c4,c5,c6,c7]:=by
 match cs,h with
 | [c0,c1,c2,c3,c4,c5,c6,c7],_=>exact ⟨c0,c1,c2,c3,c4,c5,c6,c7,rfl⟩
theorem Dx {H:Type} {enc:TypeId×Value->H} {W:World} {base:Nat} {sp:Nat->Bool} {held:Bool} {fuel:Nat} {cs:List Value} {x:DataW H×List MemPlace} (h:DataW.trod enc prog W base sp held fuel 38 cs=some x):
  ∃(t b n:Int) (k:Nat) (node other:Int) (name value:ByteArray),cs= [.int .i64 t,.int .i64 b,.int .i64 n,.int .u8 (k:Int),.int .i64 node,.int .i64 other,.string name,.string value]/\x=(opD H t b n k node other name value,[])/\MV t b n k node other name value:=by
 obtain ⟨xs,m,_,rfl,hl,hlen,hf⟩:=DataW.trod_struct underlying38 h;rw [sA] at hl;obtain ⟨c0,c1,c2,c3,c4,c5,c6,c7,rfl⟩:=KP hl
 match xs,hlen with
 | [y0,y1,y2,y3,y4,y5,y6],_=>
  have g0:=hf 0 _ rfl;have g1:=hf 1 _ rfl;have g2:=hf 2 _ rfl;have g3:=hf 3 _ rfl;have g4:=hf 4 _ rfl;have g5:=hf 5 _ rfl;have g6:=hf 6 _ rfl;simp [sX,ke,CR,Cn] at g0 g1 g2 g3 g4 g5 g6;obtain ⟨z0,z1,m2,rfl,-,s0,s1⟩:=trod_struct2 underlying36 g0;simp [ke] at s0 s1;obtain ⟨t,e0,rfl,w0⟩:=DataW.trod_int underlying3 s0;obtain ⟨b,e1,rfl,w1⟩:=DataW.trod_int underlying3 s1;obtain ⟨n,e2,rfl,w2⟩:=DataW.trod_int underlying3 g1;obtain ⟨k,e3,rfl,w3⟩:=DataW.trod_int underlying5 g2;obtain ⟨node,e4,rfl,w4⟩:=DataW.trod_int underlying3 g3;obtain ⟨other,e5,rfl,w5⟩:=DataW.trod_int underlying3 g4;obtain ⟨name,e6,rfl,w6⟩:=DataW.trod_string underlying9 g5;obtain ⟨value,e7,rfl,w7⟩:=DataW.trod_string underlying9 g6;simp at e0 e1 e2 e3 e4 e5 e6 e7;subst e0 e1 e2 e3 e4 e5 e6 e7
  have hk:0<=k:=by
   simp [Lit.wf,IntKind.min,IntKind.max,IntKind.signed,IntKind.bits] at w3;omega
  obtain ⟨k',rfl⟩:∃k':Nat,k=(k':Int):=⟨k.toNat,zo⟩
  exact ⟨t,b,n,k',node,other,name,value,rfl,by simp [opD],⟨w0,w1,w2,w3,w4,w5,w6,w7⟩⟩
end Go.Proofs.YtehighgebbdenaaGreatDoor
end
section
namespace Go.Proofs.YtehighgebbdenaaGreatDoor
open Go.ChangeShapes Go.WideShapes Go.RowKit Go.Deep Go.Sort
theorem GU {H:Type} {enc:TypeId×Value->H} {w:World} {base:Nat} {spare:Nat->Bool} {held:Bool} {n:Nat} {a:Addr} {x:DataW H×List MemPlace} {cs:List Value}
  (hc:w.cells? base a 8=some cs) (h:DataW.trod enc Tryz.prog w base spare held n 38 cs=some x):∃o:OpX,∀c,c<8->w.cell? (a.add c)=(au o)[c]? :=by
 obtain ⟨t,b,m,k,node,other,name,value,rfl,-,-⟩:=Dx h;exact ⟨(t,b,m,k,node,other,name,value),fun c h8=>(World.cells?_some hc).2.2 c h8⟩
theorem rb (f:Nat->OpX) (len i c:Nat) (hi:i<len) (h8:c<8):(cellsOf ((List.range len).map f))[i*8+c]? =(au (f i))[c]? :=by
 have hl:i<((List.range len).map f).length:=qG;rw [bO _ i c hl h8,getElem!_pos ((List.range len).map f) i hl];rw [vN yT,getElem!_pos _ c yT];simp
theorem Et {H:Type} {enc:TypeId×Value->H} {W:World} {base:Nat} {sp:Nat->Bool} {held:Bool} {ao:Option Addr} {len cap:Nat} {d:DataW H} {p:List MemPlace}
  (h:DataW.Trod enc Tryz.prog W base sp held 32 (.slice ao len cap) d p):
  len<=maxLen/\(len=0\/∃xs:List OpX,xs.length=len/\OpsAt W (.slice ao len cap) xs):=by
 obtain ⟨fuel,hf⟩:=h
 rcases open_slice Tryz.underlying32 hf with ⟨hcs,_⟩ | ⟨a,len',cap',m,n,D,Pl,hcs,_,hl,hmax,hm,_,hx⟩
 ·simp [Value.cells] at hcs;obtain ⟨rfl,rfl,rfl⟩:=hcs;exact ⟨vV _,.inl rfl⟩
 simp [Value.cells] at hcs;obtain ⟨rfl,rfl,rfl⟩:=hcs;refine ⟨zo,?_⟩
 have hmm:len<=m:=by subst hm;split<;>omega
 rcases ZK len with h0 | hpos
 ·exact .inl h0
 right
 have key:∀i,i<len->∃o:OpX,∀c,c<8->W.cell? ((a.add (i*8)).add c)=(au o)[c]? :=fun i hi=>by
  obtain ⟨cs',h1,h2⟩:=hx i zo;rw [sA] at h1;exact GU h1 h2
 obtain ⟨f,hf⟩:=choose_lt key;obtain ⟨b,off,spot⟩:=a;have h00:W.cell? ((Addr.add ⟨b,off,spot⟩ (0*8)).add 0)=some (.int .i64 (f 0).1):=hf 0 hpos 0 zo
 have hspot:spot=none:=by simpa [Addr.add] using World.cell?_spot h00
 subst hspot;refine ⟨(List.range len).map f,zv,.inr ⟨b,off,cap,zv,fun j u hj=> ?_⟩⟩;have hjl:=(vL.1 hj).1;rw [aH] at hjl
 have hjl:j<len*8:=by simpa using hjl
 have e:j / 8*8+j % 8=j:=zo;have h1:=hf (j / 8) zo (j % 8) zo;have h2:=rb f len (j / 8) (j % 8) zo zo;rw [e] at h2;rw [<-h2,hj,add_plain,add_plain,Zc,e] at h1;exact h1
end Go.Proofs.YtehighgebbdenaaGreatDoor
end
section
namespace Go.Proofs.YtehighgebbdenaaGreatDoor
open Go.Proofs.Tryz
open Go.ChangeShapes Go.WideShapes Go.ChangeAt Go.RowKit Go.Joins
theorem gPow:prog.globalNamed "internal/strconv.uint64pow10" =some 14:=zq
theorem tPow:(prog.globals[14]?).map (·.type)=some 369:=zq
theorem Gw:prog.cellsOf 369=20:=zq
theorem Hl:prog.cellsOf 336=1:=zq
theorem KU {W:World} (h:Lib.VarReads prog W "internal/strconv.uint64pow10" (Lib.tabData .u64 Lib.pow10Tab)):Lib.TabIs prog W "internal/strconv.uint64pow10" .u64 Lib.pow10Tab:=by
 obtain ⟨g,t,cs,fuel,p,hg,ht,hvar,hd⟩:=h;obtain rfl:=Option.some.inj (gPow.symm.trans hg);obtain rfl:=Option.some.inj (tPow.symm.trans ht);unfold Lib.TabIs;rw [hvar,<-Lib.cells_of_tab underlying369 underlying336 Hl Gw hd]
end Go.Proofs.YtehighgebbdenaaGreatDoor
end
section
namespace Go.Proofs.YtehighgebbdenaaGreatDoor
open Go.Proofs.Tryz
open Go.ChangeShapes Go.WideShapes Go.ChangeAt Go.RowKit Go.Joins Go.Deep
variable {p:List MemPlace} {cap:Nat} {sp:Nat→Bool} {ao:Option Addr} {W:World}
theorem AZ:prog.cellsOf 23=4:=zq
theorem GQ {H:Type} {enc:TypeId×Value->H} {base:Nat} {r:Reach} {b0:Nat} {held:Bool} {v:Value} {d:DataW H}
  (hv:Value.okWide prog W r b0 23 v) (h:DataW.Trod enc prog W base sp held 23 v d p):
  ∃x0 x1 x2 x3:Int,v= .agg #[.int .i64 x0,.int .i64 x1,.int .i64 x2,.int .i64 x3]/\d= .agg [.lit (.int .i64 x0),.lit (.int .i64 x1),.lit (.int .i64 x2),.lit (.int .i64 x3)]/\p= []/\
   (Lit.int .i64 x0).wf=true/\(Lit.int .i64 x1).wf=true/\(Lit.int .i64 x2).wf=true/\(Lit.int .i64 x3).wf=true:=by
 obtain ⟨cs,rfl,hsz,_⟩:∃cs,v= .agg cs/\cs.size=prog.cellsOf 23/\Row.okWide prog W r b0 23 cs:=by
  simpa [Value.okWide,underlying23] using hv
 rw [AZ] at hsz;obtain ⟨c0,c1,c2,c3,rfl⟩:=array4 hsz;obtain ⟨fuel,hf⟩:=h;obtain ⟨y0,y1,y2,y3,m,hx,hy0,hy1,hy2,hy3⟩:=trod_array4 underlying23 ke hf;obtain ⟨x0,e0,rfl,w0⟩:=DataW.trod_int underlying3 hy0;obtain ⟨x1,e1,rfl,w1⟩:=DataW.trod_int underlying3 hy1;obtain ⟨x2,e2,rfl,w2⟩:=DataW.trod_int underlying3 hy2;obtain ⟨x3,e3,rfl,w3⟩:=DataW.trod_int underlying3 hy3;simp at e0 e1 e2 e3;subst e0 e1 e2 e3;simp only [Prod.mk.injEq] at hx;exact ⟨x0,x1,x2,x3,rfl,hx.1,by rw [hx.2];rfl,w0,w1,w2,w3⟩
theorem Gf {H:Type} {enc:TypeId×Value->H} {base:Nat} {held:Bool} {x0 x1 x2 x3:Int}
  (w0:(Lit.int .i64 x0).wf=true) (w1:(Lit.int .i64 x1).wf=true) (w2:(Lit.int .i64 x2).wf=true) (w3:(Lit.int .i64 x3).wf=true):
  DataW.Trod enc prog W base sp held 23 (.agg #[.int .i64 x0,.int .i64 x1,.int .i64 x2,.int .i64 x3]) (DataW.agg [.lit (.int .i64 x0),.lit (.int .i64 x1),.lit (.int .i64 x2),.lit (.int .i64 x3)]) []:=
 ⟨2,by simp [DataW.trod,Value.cells,underlying23,underlying3,AZ,ke,w0,w1,w2,w3,show List.range 4= [0,1,2,3] from rfl]⟩
theorem wI:prog.cellsOf 40=10:=zq
theorem Em:prog.cellsOf 32=1:=zq
theorem CU:prog.cellsOf 4=1:=zq
theorem LA {z:Int} (h:(Lit.int .i64 z).wf=true): -9223372036854775808<=z/\z<=9223372036854775807:=by
 exact ks0
theorem u8W {k:Nat} (h:(Lit.int .u8 (k:Int)).wf=true):k<256:=by
 exact ks0
theorem Jw {H:Type} {enc:TypeId×Value->H} {base:Nat} {held:Bool} {len:Nat} {d:DataW H}
  (h:DataW.Trod enc prog W base sp held 32 (.slice ao len cap) d p):∃xs:List OpX,xs.length=len/\len<=maxLen/\OpsIn W ao xs:=by
 obtain ⟨hm,hx⟩:=Et h
 rcases hx with rfl | ⟨xs,hl,h0 | ⟨b,off,c,he,hc⟩⟩
 ·exact ⟨[],rfl,hm,.inl rfl⟩
 ·exact ⟨xs,hl,hm,.inl h0.2⟩
 cases he
 exact ⟨xs,hl,hm,.inr ⟨b,off,rfl,hc⟩⟩
structure Js (W:World) (a:CI):Prop where
 ops:OpsIn W a.2.2.1 a.2.2.2.2
 len:a.2.2.2.2.length<9223372036854775808
 wf:a.2.1.2.2.2.1<256/\(-9223372036854775808<=aL a.2.1/\aL a.2.1<=9223372036854775807)/\(-9223372036854775808<=aJ a.2.1/\aJ a.2.1<=9223372036854775807)
theorem GY {H:Type} {enc:TypeId×Value->H} {base:Nat} {held:Bool} {fuel:Nat} {cs:List Value} {x:DataW H×List MemPlace} (h:DataW.trod enc prog W base sp held fuel 40 cs=some x):
  ∃a:CI,cs=rt a/\Js W a:=by
 obtain ⟨xs,m,_,rfl,hl,hlen,hf⟩:=DataW.trod_struct underlying40 h;rw [wI] at hl
 match cs,hl with
 | [c0,c1,c2,c3,c4,c5,c6,c7,c8,c9],_=>
 match xs,hlen with
 | [y0,y1,y2],_=>
  have g0:=hf 0 _ rfl;have g1:=hf 1 _ rfl;have g2:=hf 2 _ rfl;simp [CU,sA,Em] at g0 g1 g2;obtain ⟨bb,e0,-⟩:=DataW.trod_bool underlying4 g0;obtain ⟨t,b,n,k,node,other,name,value,e1,-,wo⟩:=Dx g1
  obtain ⟨oa,len,oc,e2⟩:∃oa len oc,c9= .slice oa len oc:=by
   rcases open_slice underlying32 g2 with ⟨h,_⟩ | ⟨a,len,cap,_,_,_,_,h,_⟩
   ·simp at h;exact ⟨_,_,_,h⟩
   simp at h;exact ⟨_,_,_,h⟩
  simp at e0 e1;obtain ⟨rfl,rfl,rfl,rfl,rfl,rfl,rfl,rfl⟩:=e1;subst e0 e2
  have hT:DataW.Trod enc prog W base sp held 32 (.slice oa len oc) y2.1 y2.2:=⟨_,by simpa [Value.cells] using g2⟩
  obtain ⟨ol,rfl,hmax,hin⟩:=Jw hT;exact ⟨(bb,(t,b,n,k,node,other,name,value),(oa,oc,ol)),rfl,hin,by simp only [maxLen] at hmax;show ol.length<_;omega,u8W wo.k,LA wo.node,LA wo.other⟩
theorem FN {H:Type} {enc:TypeId×Value->H} {base:Nat} {held:Bool} {len:Nat} {d:DataW H}
  (h:DataW.Trod enc prog W base sp held 22 (.slice ao len cap) d p):
  ∃xs:List CI,xs.length=len/\len<=maxLen/\InRow rt W ao xs/\∀a∈xs,Js W a:=by
 obtain ⟨fuel,hf⟩:=h
 rcases open_slice underlying22 hf with ⟨hcs,_⟩ | ⟨a,len',cap',m,n,D,Pl,hcs,_,hl,hmax,hm,_,hx⟩
 ·simp [Value.cells] at hcs;obtain ⟨rfl,rfl,rfl⟩:=hcs;exact ⟨[],rfl,vV _,.inl rfl,fun x hx=>qP⟩
 simp [Value.cells] at hcs;obtain ⟨rfl,rfl,rfl⟩:=hcs
 have hmm:len<=m:=by subst hm;split<;>omega
 rcases ZK len with h0 | hpos
 ·exact ⟨[],h0.symm,zo,.inl rfl,fun x hx=>qP⟩
 have key:∀i,i<len->∃o:CI,Js W o/\∀c,c<10->W.cell? ((a.add (i*10)).add c)=(rt o)[c]? :=fun i hi=>by
  obtain ⟨cs',h1,h2⟩:=hx i zo;rw [wI] at h1;obtain ⟨o,rfl,ho⟩:=GY h2;exact ⟨o,ho,fun c h10=>(World.cells?_some h1).2.2 c h10⟩
 obtain ⟨f,hf⟩:=choose_lt key;obtain ⟨b,off,spot⟩:=a;have h00:W.cell? ((Addr.add ⟨b,off,spot⟩ (0*10)).add 0)=some (.bool (f 0).1):=(hf 0 hpos).2 0 zo
 have hspot:spot=none:=by simpa [Addr.add] using World.cell?_spot h00
 subst hspot;refine ⟨(List.range len).map f,zv,zo,.inr ⟨b,off,rfl,fun j u hj=> ?_⟩,fun x hx=> ?_⟩
 ·have hjl:j<len*10:=by
   have:=(vL.1 hj).1;rw [bR mC] at this;simpa using this
  have hi:j / 10<len:=zo;have e:j / 10*10+j % 10=j:=zo
  have hm:((List.range len).map f)[j / 10]? =some (f (j / 10)):=by rw [Zf,List.getElem?_range hi];rfl
  have h2:=dM (enc:=rt) mC hm (show j % 10<10 by omega);rw [e] at h2;have h1:=(hf (j / 10) hi).2 (j % 10) zo;rw [<-h2,hj,add_plain,add_plain,Zc,e] at h1;exact h1
 obtain ⟨i,hi,rfl⟩:=ut.1 hx;exact (hf i (List.mem_range.1 hi)).1
end Go.Proofs.YtehighgebbdenaaGreatDoor
end
section
namespace Go.Proofs.YtehighgebbdenaaGreatDoor
open Go.Proofs.Tryz
open Go.RowKit
theorem Tryz.yEt:prog.globalNamed "errors.errorType" =some 12:=zq
theorem Tryz.yRt:(prog.cutTypes.find? (·.1== "internal/reflectlite.rtype")).map (·.2)=some 306:=zq
theorem Tryz.yOneRow:((List.range prog.types.size).filter fun t=>prog.rowNamed t [101,114,114,111,114])= [27]:=zq
def sents:List (String×Nat×List UInt8):=[("concordat/api.ErrText",3,[99,111,110,99,111,114,100,97,116,58,32,116,101,120,116]),("concordat/api.ErrBound",2,[99,111,110,99,111,114,100,97,116,58,32,98,111,117,110,100]),("concordat/api.ErrShape",4,[99,111,110,99,111,114,100,97,116,58,32,115,104,97,112,101]),("concordat/api.ErrName",5,[99,111,110,99,111,114,100,97,116,58,32,110,97,109,101]),("concordat/api.ErrKind",6,[99,111,110,99,111,114,100,97,116,58,32,107,105,110,100]),("concordat/api.ErrNone",0,[99,111,110,99,111,114,100,97,116,58,32,110,111,110,101]),("concordat/api.ErrExist",7,[99,111,110,99,111,114,100,97,116,58,32,101,120,105,115,116]),("concordat/api.ErrFull",1,[99,111,110,99,111,114,100,97,116,58,32,102,117,108,108]),("concordat/api.ErrGap",8,[99,111,110,99,111,114,100,97,116,58,32,103,97,112]),("concordat/api.ErrCycle",9,[99,111,110,99,111,114,100,97,116,58,32,99,121,99,108,101]),("concordat/api.ErrOff",10,[99,111,110,99,111,114,100,97,116,58,32,111,102,102]),("concordat/api.ErrSum",11,[99,111,110,99,111,114,100,97,116,58,32,115,117,109])]
def lh:List (String×DataW Unit):=sents.map fun x=>(x.1,.iface "*errors.errorString" (.ptr (.agg [.lit (.string x.2.2)])))
def nD:List (String×DataW Unit):=[("errors.errorType",.iface "internal/reflectlite.rtype" (.agg [.ptr (.lit (.string [101,114,114,111,114]))]))]
theorem td:∀x∈sents,prog.globalNamed x.1=some x.2.1/\(prog.globals[x.2.1]?).map (·.type)=some 27:=by
 have h:(sents.all fun x=>(prog.globalNamed x.1==some x.2.1) &&((prog.globals[x.2.1]?).map (·.type)==some 27))=true:=zq;intro x hx;have:=List.all_eq_true.1 h x hx;simpa using this
theorem JU {W:World} (h1:laidMet prog lh W) (h2:handlesMet prog nD W):∃ad:Nat->Addr,Errs W.heap.size ad W:=by
 obtain ⟨ps,hv,hnd,hr⟩:=h1;obtain ⟨az,hl,hcell,hrow,hn⟩:=pL underlying27 Tryz.yRow underlying399 underlying417 rfl rfl underlying9 Tryz.yCellsS Tryz.yCellsString sents ps td hv hnd hr;have hl:az.length=12:=hl
 have hget:∀i,i<12->az[i]? =some (az.getD i ⟨0,0,none⟩):=fun i hi=>by
  rw [List.getD_eq_getElem?_getD,vN zo];rfl
 have hat:∀i x,i<12->sents[i]? =some x->W.cell? ⟨x.2.1,0,none⟩=some (.iface 399 (.pointer (some (az.getD i ⟨0,0,none⟩)))):=fun i x hi hx=>hcell i x _ hx (hget i hi)
 have hmem:∀i,i<12->az.getD i ⟨0,0,none⟩∈az:=fun i hi=>vQ (hget i hi)
 have het:W.cell? ⟨12,0,none⟩=some (.iface 306 (.agg #[.pointer (some ⟨19,27,none⟩)])):=by
  obtain ⟨name,u,ty,e1,e2,e3,e4,e5⟩:=h2 _ (uq.2 rfl);have en:name= [101,114,114,111,114]:=(Option.some.inj e1).symm;subst en;obtain rfl:=Option.some.inj (Tryz.yRt.symm.trans e2)
  have hm:ty∈(List.range prog.types.size).filter fun t=>prog.rowNamed t [101,114,114,111,114]:=Zy.2 ⟨List.mem_range.2 e3,e4⟩
  rw [Tryz.yOneRow] at hm;obtain rfl:=uq.1 hm;have hh:typeHandle prog 27= .pointer (some ⟨19,27,none⟩):=zq;rw [hh] at e5;simpa using World.var?_cell Tryz.yEt e5 0
 have lt_of:∀(b o:Nat) (v:Value),W.cell? ⟨b,o,none⟩=some v->b<W.heap.size:=fun b o v hc=>by
  rcases uJ b W.heap.size with h | h
  ·exact h
  simp [World.cell?,Zn h] at hc
 refine ⟨fun i=>az.getD i ⟨0,0,none⟩,hat 0 _ zu rfl,hat 1 _ zu rfl,hat 2 _ zu rfl,hat 3 _ zu rfl,hat 4 _ zu rfl,hat 5 _ zu rfl,hat 6 _ zu rfl,hat 7 _ zu rfl,hat 8 _ zu rfl,hat 9 _ zu rfl,hat 10 _ zu rfl,hat 11 _ zu rfl,het,?_,?_,?_,?_,vM _⟩
 ·intro i hi;obtain ⟨⟨c,t,e⟩,_⟩:=hrow _ (hmem i hi)
  rcases uJ (az.getD i ⟨0,0,none⟩).block W.heap.size with h | h
  ·exact h
  rw [Zn h] at e;cases e
 ·exact fun i hi=>(hrow _ (hmem i hi)).1
 ·intro i j hi hj hne e;have e1:=hget i hi;have e2:=hget j hj;have e:az.getD i ⟨0,0,none⟩=az.getD j ⟨0,0,none⟩:=e;rw [e] at e1;exact hne ((List.getElem?_inj zo hn).1 (e1.trans e2.symm))
 have l0:=lt_of _ _ _ het;have l1:=lt_of _ _ _ (hat 0 _ zu rfl);have l2:=lt_of _ _ _ (hat 1 _ zu rfl);have l3:=lt_of _ _ _ (hat 2 _ zu rfl);have l4:=lt_of _ _ _ (hat 3 _ zu rfl);have l5:=lt_of _ _ _ (hat 4 _ zu rfl);have l6:=lt_of _ _ _ (hat 5 _ zu rfl);have l7:=lt_of _ _ _ (hat 6 _ zu rfl);have l8:=lt_of _ _ _ (hat 7 _ zu rfl);have l9:=lt_of _ _ _ (hat 8 _ zu rfl);have l10:=lt_of _ _ _ (hat 9 _ zu rfl);have l11:=lt_of _ _ _ (hat 10 _ zu rfl);have l12:=lt_of _ _ _ (hat 11 _ zu rfl)
 first | exact l0 | exact l1 | exact l2 | exact l3 | exact l4 | exact l5 | exact l6 | exact l7 | exact l8 | exact l9 | exact l10 | exact l11 | exact l12
end Go.Proofs.YtehighgebbdenaaGreatDoor
end
section
namespace Go.Proofs.YtehighgebbdenaaGreatDoor.Ra
open Go.Proofs.Tryz
def plainLaid:List (String×DataW Unit):=Rows.replicaActsRow.laid.filter fun x=>x.2.handleName?.isNone
theorem JV (os:Os) (args:Array Value):laidMetH prog Rows.replicaActsRow.laid (((World.doorLaid prog 400 os).layVars prog plainLaid).forCall (fun _ _=>0) ⟨#[],args,[]⟩).memory:=by
 have e1:(plainLaid.filter fun x=>(plainLaid.map (·.1)).contains x.1)=plainLaid:=List.filter_eq_self.2 fun x hx=>List.contains_iff_mem.2 (ut.2 ⟨x,hx,rfl⟩)
 have e2:(plainLaid.filter fun x=> !(plainLaid.map (·.1)).contains x.1)= []:=List.filter_eq_nil_iff.2 fun x hx=>by rw [List.contains_iff_mem.2 (ut.2 ⟨x,hx,rfl⟩)];simp
 have h:laidMet prog plainLaid ((World.doorLaid prog 400 os).layVars prog plainLaid):=
  laidMet_layVars (w0:=World.doorLaid prog 400 os) (plainLaid.map (·.1)) [] (by rw [e1]) (by rw [e1];kernel_rfl) (by rw [e1];kernel_rfl) (by rw [e2];exact LaidIn.none)
 have h':=h.of_heap (w':=(((World.doorLaid prog 400 os).layVars prog plainLaid).forCall (fun _ _=>0) ⟨#[],args,[]⟩).memory) (by simp [World.memory,World.forCall,Input.heap]);exact laidMetH_of_parts3 (fuel:=8) h' zq zq
theorem Ao (os:Os) (args:Array Value):(((World.doorLaid prog 400 os).layVars prog plainLaid).forCall (fun _ _=>0) ⟨#[],args,[]⟩).Shaped prog:=
 World.shaped_of_ZipB zq zq
end Go.Proofs.YtehighgebbdenaaGreatDoor.Ra
end
section
namespace Go.Proofs.YtehighgebbdenaaGreatDoor.Ra
open Go.Proofs.Tryz
open Go.ChangeShapes Go.WideShapes Go.ChangeAt Go.RowKit Go.Joins Go.ChangeMaps
theorem own:ownKnob prog.godebug=none:=zq
theorem JL:laidOutB prog=true:=zq
theorem gD {P:Program} {w:World} :∀(l1 l2:List (String×DataW Unit)) (ps:List MemPlace),DataW.LaidVars P w (l1++l2) ps->∃q1 q2,DataW.LaidVars P w l1 q1/\DataW.LaidVars P w l2 q2/\ps=q1++q2
 | [],l2,ps,h=>⟨[],ps,rfl,h,rfl⟩
 | x::l1,l2,ps,h=>by
  obtain ⟨g,t,cs,fuel,p,q,a1,a2,a3,a4,a5,rfl⟩:=h;obtain ⟨q1,q2,b1,b2,rfl⟩:=gD l1 l2 q a5;exact ⟨_,q2,⟨g,t,cs,fuel,p,q1,a1,a2,a3,a4,b1,rfl⟩,b2,zv⟩
theorem mv {P:Program} {w:World} (l1 l2:List (String×DataW Unit)) (h:laidMet P (l1++l2) w):laidMet P l2 w:=by
 obtain ⟨ps,hv,hnd,hr⟩:=h;obtain ⟨q1,q2,-,b,rfl⟩:=gD l1 l2 ps hv;exact ⟨q2,b,(Ze.1 hnd).2.1,fun b off hm=>hr b off (uL _ hm)⟩
theorem Aa {W:World} (h:laidMetH prog Rows.replicaActsRow.laid W):∃ad:Nat->Addr,Cyc ad/\EnvP W.heap.size ad W:=by
 have h':laidMet prog plainLaid W/\handlesMet prog nD W:=h;have hmid:laidMet prog lh W:=mv [("math/bits.deBruijn32tab",Rows.laid_math_bits_deBruijn32tab),("math/bits.deBruijn64tab",Rows.laid_math_bits_deBruijn64tab),("internal/strconv.uint64pow10",Rows.laid_internal_strconv_uint64pow10)] lh h'.1;obtain ⟨ad0,hE0⟩:=JU hmid h'.2
 obtain ⟨ad,hcy,hE⟩:∃ad,Cyc ad/\Errs W.heap.size ad W:=by
  have e:∀i,i<12->(if i=100 then (⟨1,0,none⟩:Addr) else ad0 i)=ad0 i:=fun i hi=>if_neg zo
  refine ⟨fun i=>if i=100 then ⟨1,0,none⟩ else ad0 i,rfl,hE0.c0,hE0.c1,hE0.c2,hE0.c3,hE0.c4,hE0.c5,hE0.c6,hE0.c7,hE0.c8,hE0.c9,hE0.c10,hE0.c11,hE0.et,fun i hi=> ?_,fun i hi=> ?_,fun i j hi hj hne=> ?_,hE0.big,hE0.size⟩
  ·rw [e i hi];exact hE0.lt i hi
  ·rw [e i hi];exact hE0.row i hi
  rw [e i hi,e j hj];exact hE0.ne i j hi hj hne
 have hp:("internal/strconv.uint64pow10",Rows.laid_internal_strconv_uint64pow10)∈plainLaid:=.tail _ (.tail _ (.head _));have ht:=KU (Lib.laidMet.reads h'.1 hp);exact ⟨ad,hcy,⟨⟨⟨hE.c1,hE.c2,hE.c3,hE.c4⟩,hE.c5,hE.c6,hE.c7,hE.c8,fun _=>hE.c9,hE.big,vM _⟩,Lib.tabBelow_of_tabIs ht⟩,hE⟩
theorem LX {H:Type} {enc:TypeId×Value->H} {C:Checked} {os:Os} {f:FuncId} {fn:Func} {s:ChangeSpec} {apart fresh handsOn again:Bool} {X:World->Array Value->Prop}
  (hX:∀(w w':World) (args:Array Value),w.heap=w'.heap->X w args->X w' args)
  (own:ownKnob C.prog.godebug=none) (started:os.Started) (noInit:C.prog.inits.idxOf? f=none) (hfn:C.prog.funcs[f]? =some fn)
  (witness:∃(w:World) (tape:Tape) (i:Input),w.os=os/\(w.forCall tape i).Shaped C.prog/\i.vars= []/\Input.okWide C.prog (w.forCall tape i) .any w.heap.size f i/\
   ((s.pre enc C.prog fn [] apart (w.forCall tape i).memory i.args/\X (w.forCall tape i).memory i.args)/\sizedMet enc C.prog fn (OpenSpec.ofChange s) apart (w.forCall tape i).memory i.args)/\({} :Assume).holds C.prog (lone (Frame.enter C.prog f i.args .normal) [] (w.forCall tape i)))
  (contract:∀(W:World) (base:Nat) (args:Array Value) (ds gs:List (DataW H)) (before:List MemPlace),
   (∀(j:Nat) t v,fn.params[j]? =some t->args[j]? =some v->Value.okWide C.prog W .any base t v)->
   DataW.Whole enc C.prog fn.params.toList s.vars apart W args.toList ds gs before->X W args->W.ShapedOpen C.prog->
   Calls C.prog f args W fun e W'=>∃v,e= .returned v/\s.post enc C.prog fn apart fresh handsOn again W args v W'):
  ReturnsInHanded {} C os f .any (fun w args=>(s.pre enc C.prog fn [] apart w args/\X w args)/\sizedMet enc C.prog fn (OpenSpec.ofChange s) apart w args) (s.post enc C.prog fn apart fresh handsOn again):=by
 refine returnsInHanded_of_calls own started noInit witness ?_;intro w tape i _ shape _ ok pre _;obtain ⟨-,-,-,g,hg,-,-,-,-,vals⟩:=ok;obtain rfl:g=fn:=Option.some.inj (hg.symm.trans hfn);obtain ⟨⟨⟨ds,gs,before,whole,-⟩,listed⟩,-⟩:=pre;refine (contract (w.forCall tape i) w.heap.size i.args ds gs before vals (DataW.Whole.of_heap (w':=w.forCall tape i) zA whole) (hX _ _ _ zA listed) shape).mono ?_;rintro _ W' ⟨v,rfl,post⟩;exact ChangeSpec.post_blind post
theorem KQ (os:Os) (started:os.Started) (H:Type) (enc:TypeId×Value->H):
  ReturnsInHanded {} Tryz.checked os 3 .any (fun w args=>(Rows.replicaActsSpec.pre enc prog f3 [] false w args/\laidMetH prog Rows.replicaActsRow.laid w)/\sizedMet enc prog f3 (OpenSpec.ofChange Rows.replicaActsSpec) false w args)
   (Rows.replicaActsSpec.post enc prog f3 false true false false):=by
 refine LX (C:=Tryz.checked) (X:=fun w _=>laidMetH prog Rows.replicaActsRow.laid w) (fun _ _ _ hh h=>h.of_heap hh) own started zq func3
  (ChangeSpec.witness_shaped (enc:=enc) (C:=Tryz.checked) (os:=os) (X:=fun w _=>laidMetH prog Rows.replicaActsRow.laid w) false ((World.doorLaid prog 400 os).layVars prog plainLaid) #[.int .i64 0,.slice none 0 0,.agg #[.int .i64 0,.int .i64 0,.int .i64 0,.int .i64 0],.int .i64 0] 8 (World.layVars_os _ _ _) (Ao os _) zq zq zq (JV os _)) ?_
 intro W base args ds gs before hval0 hW hL _;have hval:∀(j:Nat) t v,f3.params[j]? =some t->args[j]? =some v->Value.okWide prog W .any base t v:=hval0;have hW':=hW;obtain ⟨p,q,hA0,hV,rfl,hfz,hnd⟩:=hW;have hA:DataW.TrodAll enc prog W 0 (fun _=>true) true f3.params.toList args.toList ds p:=hA0;rw [params3] at hA hval;obtain ⟨z0,z1,z2,z3,d0,d1,d2,d3,p0,p1,p2,p3,rfl,rfl,rfl,h0,h1,h2,h3⟩:=trodAll_four hA;obtain ⟨rfl,rfl⟩:=trodVars_none hV;obtain ⟨by_,rfl,rfl,rfl,wb⟩:=open_int underlying3 (hval 0 3 z0 rfl rfl) h0;obtain ⟨ao,len,cap,rfl⟩:=okWide_slice underlying22 (hval 1 22 z1 rfl rfl);obtain ⟨v0,v1,v2,v3,rfl,rfl,rfl,w0,w1,w2,w3⟩:=GQ (hval 2 23 z2 rfl rfl) h2;obtain ⟨node,rfl,rfl,rfl,wn⟩:=open_int underlying3 (hval 3 3 z3 rfl rfl) h3;obtain ⟨xs,rfl,hmax,hX,hok⟩:=FN h1;obtain ⟨ad,hcy,hE⟩:=Aa hL
 have hnd: -2^63<=node/\node<2^63:=by have:=LA wn;omega
 have walk:Calls prog 3 #[.int .i64 by_,.slice ao xs.length cap,.agg #[.int .i64 v0,.int .i64 v1,.int .i64 v2,.int .i64 v3],.int .i64 node] W fun e w'=>e= .returned (.bool true)/\Below W.heap.size W w':=
  Iw W by_ ao cap xs v0 v1 v2 v3 node hE hcy hX (by simp only [maxLen] at hmax;omega) (fun a ha=>⟨(hok a ha).ops,(hok a ha).len⟩) (fun a ha=>(hok a ha).wf) hnd
 refine walk.mono fun e W' ⟨he,hb⟩=> ?_
 subst he
 have hlt1:∀x∈p1,x.block<W.heap.size:=fun x hx=>by simpa using hW'.lt x (by simp [hx])
 refine ⟨_,rfl,_,_,_,[],[]++(p1++([]++ [])),[],hW',?_,?_,?_,hb.frame _,fun h=>qF⟩
 ·exact trodAll_mk1 (shut_bool underlying4 true)
 ·exact trodAll_mk4 (shut_int underlying3 wb) (Below.trod JL zq (of_decide_eq_true zq) h1 hb hlt1) (Gf w0 w1 w2 w3) (shut_int underlying3 wn)
 rfl
end Go.Proofs.YtehighgebbdenaaGreatDoor.Ra
end
section
namespace Go.Proofs.YtehighgebbdenaaGreatDoor.Ra
theorem jfP:(Rows.replicaActsRow.inPlace==Tryz.prog.inPlace 3)=true:=zq
theorem jfU:(Rows.replicaActsRow.unfollowed==Tryz.prog.unfollowed 3)=true:=zq
end Go.Proofs.YtehighgebbdenaaGreatDoor.Ra
end
section
namespace Go.Proofs.YtehighgebbdenaaGreatDoor.Ra
theorem jfR:(Rows.replicaActsRow.recurses==Tryz.prog.recurses 3)=true:=zq
theorem jfN:(Rows.replicaActsRow.named==Tryz.prog.varsNamed 3)=true:=zq
end Go.Proofs.YtehighgebbdenaaGreatDoor.Ra
end
section
namespace Go.Proofs.YtehighgebbdenaaGreatDoor.Ra
theorem Ke:joinedFacts Tryz.prog 3 Tryz.f3 Rows.replicaActsSpec Rows.replicaActsRow=true:=by
 unfold joinedFacts;rw [jfP,jfU,jfR,jfN];kernel_rfl
end Go.Proofs.YtehighgebbdenaaGreatDoor.Ra
end
section
namespace Go.Proofs.YtehighgebbdenaaGreatDoor.Ra
open Go.Proofs.Tryz
open Go.ChangeShapes Go.WideShapes Go.ChangeAt Go.RowKit Go.Joins Go.ChangeMaps
theorem said:Rows.ReplicaActsSaid:=
 OpenClaim.holds_of_wide 3 f3 rfl rfl rfl rfl rfl rfl rfl ⟨rfl,rfl,rfl,rfl,rfl⟩ rfl rfl rfl rfl rfl zq func3 Ke
  (of_decide_eq_true zq) (by unfold Func.isWrapper;first | (rw [if_pos (by decide+kernel)];kernel_rfl) | (rw [if_neg (by decide+kernel)];exact ⟨rfl,rfl⟩))
  (fun os started H enc _=>KQ os started H enc)
theorem plain (f:FuncId) (fn:Func) (hf:Tryz.pinned.checked.prog.funcNamed "concordat/concordatlaw2.ReplicaActs" =some f) (hfn:Tryz.pinned.checked.prog.funcs[f]? =some fn):
  true=Tryz.pinned.checked.prog.looks []/\∀(j:Nat) t,fn.params[j]? =some t->Tryz.pinned.checked.prog.wantsStandIn t=false:=by
 obtain rfl:f=3:=Option.some.inj ((show prog.funcNamed "concordat/concordatlaw2.ReplicaActs" =some 3 by kernel_rfl).symm.trans hf) |>.symm
 obtain rfl:fn=f3:=(Option.some.inj (func3.symm.trans hfn)).symm;refine ⟨zq,fun j t ht=> ?_⟩;rw [params3] at ht
 have hm:t∈ [3,22,23,3]:=by simpa using Array.mem_of_getElem? ht
 have hall:([3,22,23,3].all fun u=> !prog.wantsStandIn u)=true:=zq;exact (show prog.wantsStandIn t=false by simpa using List.all_eq_true.1 hall t hm)
end Go.Proofs.YtehighgebbdenaaGreatDoor.Ra
namespace Go.Proofs.YtehighgebbdenaaGreatDoor
theorem replicaActs_card:Rows.ReplicaActsCardSaid:=
 Claim7.holds_tied_plain_at .later [] _ _ _ _ Ra.said (fun _ h=>qF) zq (fun _ h=>qF) replicaActs_row_tie rfl ⟨rfl,rfl⟩ zq rfl Ra.plain zq
