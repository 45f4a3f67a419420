import Derived.Test.YtebpcnkdhgnghaaGreatDoorPM11
import Derived.Stop.Asserts
set_option linter.unusedSimpArgs false
set_option linter.unusedVariables false
set_option maxHeartbeats 64000000
namespace Go.Proofs.YtebpcnkdhgnghaaGreatDoor
open Go.Proofs.Tryz
variable {T:Int} {L:List (bU×aG)} {B base i p:Nat} {ad:Nat→Addr} {x:OpX} {R:Rws} {v:Value} {w w':World}
section
theorem Dt (h:RowsK R) {T l:List OpX} (hT:WellK T) (hc:Compat (aQ R) T) (hl:∀x,x∈l->x∈T) (hl2:∀x,x∈T->x∈aQ R\/x∈l) (hlen:(aQ R).length+l.length<=400):∃fresh,(∀a,aK (aQ R) l a->a= .inr fresh)/\FreshK (aQ R) fresh/\(∀x,x∈aQ R++fresh↔x∈aQ R\/x∈T)/\WellK (aQ R++fresh):=by
 obtain ⟨out,h1,h2⟩:=mL h.num.one hT.one hc hT.ok (l:=l) 0 (fresh:=[]) (fun x hx=>hl x hx) (fun x hx=>zW)
 obtain ⟨k1,k2,k3,k4,k5⟩:=dY (cL _) h1
 have hmem:∀x,x∈aQ R++out↔x∈aQ R\/x∈T:=fun x=>by
  rw [vL]
  constructor
  ·rintro (q | q)
   ·exact .inl q
   exact .inr (h2 x q)
  rintro (q | q)
  ·exact .inl q
  rcases hl2 x q with q | q
  ·exact .inl q
  exact k4 x q
 have hw:WellK (aQ R++out):=(h.well.union hT hc).congr (fun x=>by rw [vL];exact (hmem x).symm)
 refine ⟨out,fun a ha=> ?_,k1,hmem,hw⟩
 unfold aK at ha
 rw [h1] at ha
 dsimp only at ha
 rcases ha with ⟨⟨x,hx,q1,q2⟩,_⟩ | ⟨_,⟨x,hx,y,hy,q1,q2,q3⟩,_⟩ | ⟨_,_,⟨x,hx,q⟩,_⟩ | ⟨_,q,_⟩ | ⟨_,_,q⟩
 ·exact ((hw.gap x hx).elim q1 q2).elim
 ·exact (q3 (hw.rise x hx y hy q1 q2)).elim
 ·exact (q (hw.refs x hx)).elim
 ·simp at k5;omega
 exact q
structure NextOp (R:Rws) (i:Nat) (T:Int) (x:OpX):Prop where
 ok:ai x=0
 by_:byO x=(i:Int)
 num:aw x=((R i).length:Int)+1
 time:x.1=T+1
 refs:RefOk (x::aQ R) x
theorem MT {R:Rws} (h:NumK R) {i:Nat} (hi:i<4) {y:OpX} (hy:y∈aQ R) (e:byO y=(i:Int)):aw y<=((R i).length:Int):=by
 obtain ⟨k,hk,hyk⟩:=mem_allR.1 hy
 obtain ⟨j,hj,q1,q2,_⟩:=h.get hk hyk
 have:k=i:=zj
 subst this
 have:=(vA.1 hj).1
 omega
theorem NextOp.well {R:Rws} {i:Nat} {T:Int} {x:OpX} (hx:NextOp R i T x) (hR:RowsK R) (hi:i<4) (hT:∀y∈aQ R,y.1<=T):WellK (x::aQ R)/\∀y∈aQ R,byO y=byO x->aw y<aw x:=by
 have hnew:∀y∈aQ R,byO y=byO x->aw y<aw x:=fun y hy e=>by
  have:=MT hR.num hi hy (e.trans hx.by_)
  have:=hx.num
  omega
 refine ⟨hR.well.add hx.ok ?_ hnew (fun y hy=> ?_) hx.refs,hnew⟩
 ·by_cases h0:(R i).length=0
  ·left
   have:=hx.num
   omega
  right
  have hl:(R i).length - 1<(R i).length:=zj
  have hm:(R i)[(R i).length - 1]∈R i:=uS hl
  obtain ⟨j,hj,q1,q2,_⟩:=hR.num.get hi hm
  have hlast:=hR.num i hi ((R i).length - 1) _ (vF hl)
  refine ⟨(R i)[(R i).length - 1],mem_allR.2 ⟨i,hi,hm⟩,by rw [q1,hx.by_],?_⟩
  have h3:=hlast.2.1
  have:=hx.num
  omega
 have h1:=hT y hy
 have h2:=hx.time
 unfold CLt stO
 dsimp only
 omega
theorem CE (hx:NextOp R i T x) (hR:RowsK R) (hi:i<4) (hT:∀y∈aQ R,y.1<=T):Compat (aQ R) (x::aQ R):=fun a ha b hb e1 e2=>by
 rcases vJ.1 hb with rfl | hb
 ·have:=(hx.well hR hi hT).2 a ha e1
  omega
 exact hR.well.one a ha b hb e1 e2
theorem NumK.nodup (h:NumK R):(aQ R).Nodup:=by
 have row:∀i,i<4->(R i).Nodup:=fun i hi=>by
  unfold List.Nodup
  rw [ub]
  intro a b ha hb hab e
  have h1:=h i hi a _ (vF ha)
  have h2:=h i hi b _ (vF hb)
  rw [e] at h1
  have:=h1.2.1
  have:=h2.2.1
  omega
 have off:∀i j,i<4->j<4->i≠j->∀a∈R i,∀b∈R j,a≠b:=fun i j hi hj hij a ha b hb e=>by
  obtain ⟨_,_,q1,_⟩:=h.get hi ha
  obtain ⟨_,_,q2,_⟩:=h.get hj hb
  rw [e] at q1
  omega
 unfold aQ
 simp only [uH,vL]
 refine ⟨row 0 zj,⟨row 1 zj,⟨row 2 zj,row 3 zj,off 2 3 zj zj zj⟩,fun a ha b hb=> ?_⟩,fun a ha b hb=> ?_⟩
 ·rcases hb with hb | hb
  ·exact off 1 2 zj zj zj a ha b hb
  exact off 1 3 zj zj zj a ha b hb
 rcases hb with hb | hb | hb
 ·exact off 0 1 zj zj zj a ha b hb
 ·exact off 0 2 zj zj zj a ha b hb
 exact off 0 3 zj zj zj a ha b hb
theorem gv {α:Type} [DecidableEq α]:∀ {l H:List α},l.Nodup->(∀x,x∈l->x∈H)->l.length<=H.length
 | [],_,_,_=>vM _
 | x::t,H,hn,hs=>by
  obtain ⟨h1,h2⟩:=List.nodup_cons.1 hn
  have hx:x∈H:=hs x zt
  have:=gv (l:=t) (H:=H.erase x) h2 (fun y hy=>(List.mem_erase_of_ne (fun e=>h1 (by rw [<-e];exact hy))).2 (hs y xE))
  rw [List.length_erase_of_mem hx] at this
  have hp:0<H.length:=List.length_pos_of_mem hx
  rw [ud]
  omega
end
section
open scoped Classical
end
section
open Go Go.RowKit
def kw (m:bU×aG):List Value:=[.int .i64 m.1.1,.string m.1.2,.string m.2.1,.int .i64 m.2.2.1,.int .i64 m.2.2.2]
theorem cQ (m:bU×aG):(kw m).length=5:=rfl
theorem He (m:bU×aG):∀v∈kw m,v.oneCell'=true:=by
 intro v hv
 simp [kw] at hv
 rcases hv with rfl | rfl | rfl | rfl | rfl<;>rfl
theorem MU:(prog.info? 89).map (fun i=>(i.zero,i.size,i.bytes))=some (some (.agg #[.int .i64 0,.string ⟨#[]⟩,.string ⟨#[]⟩,.int .i64 0,.int .i64 0]),5,56):=zo
theorem InRow.mark {ao:Option Addr} {zs:List (bU×aG)} (h:InRow kw w ao zs) {a t b:Int} {s c:ByteArray} (hi:zs[i]? =some ((a,s),(c,(t,b)))):∃blk off,ao=some ⟨blk,off,none⟩/\w.cell? ⟨blk,off+i*5,none⟩=some (.int .i64 a)/\w.cell? ⟨blk,off+i*5+1,none⟩=some (.string s)/\w.cell? ⟨blk,off+i*5+2,none⟩=some (.string c)/\w.cell? ⟨blk,off+i*5+3,none⟩=some (.int .i64 t)/\w.cell? ⟨blk,off+i*5+4,none⟩=some (.int .i64 b):=by
 obtain ⟨blk,off,h1,h2⟩:=h.get cQ hi
 exact ⟨blk,off,h1,h2 0 _ rfl,h2 1 _ rfl,h2 2 _ rfl,h2 3 _ rfl,h2 4 _ rfl⟩
theorem kZ {n:Nat} {xs:List Value} (ho:w.ownsRow base 89 5 v n xs) (hn:n<=2000) (hbase:base<=w.heap.size) (ap:Option Addr) (c:Nat) (ys:List (bU×aG)) (hy:ys.length<=2000) (hap:InRow kw w ap ys) (hc:ap=none->c=0) (ty:TypeId):
  ∃v' w',(Builtin.append_ #[85,85] ty #[v,.slice ap ys.length c]).run prog w= .ok v' w'/\w'.ownsRow base 89 5 v' (n+ys.length) (xs++aI kw ys)/\w.grownBy w' v.ownBlock:=
 Cn underlying85 MU zj zj rfl cQ He ho hn hbase ap c ys hy hap hc ty
structure MksAt (base:Nat) (w:World) (p:Nat) (v:Value) (L:List (bU×aG)):Prop where
 cell:w.heap[p]? =some (.cells #[v] 87 (0,0))
 row:w.ownsRow base 89 5 v L.length (aI kw L)
 low:p<base
theorem MksAt.c0 (h:MksAt base w p v L):w.cell? ⟨p,0,none⟩=some v:=qJ
theorem MksAt.lt (h:MksAt base w p v L):p<w.heap.size:=(vD.1 h.cell).1
theorem MksAt.ne (h:MksAt base w p v L):∀g,v.ownBlock=some g->g≠p/\g<w.heap.size/\base<=g:=fun g hg=>by
 exact kk0
theorem MksAt.same (h:MksAt base w p v L) (h1:w'.heap[p]? =w.heap[p]?) (h2:∀g,v.ownBlock=some g->w'.heap[g]? =w.heap[g]?):MksAt base w' p v L:=
 ⟨h1.trans h.cell,av h.row h2,h.low⟩
theorem MksAt.later (h:MksAt base w p v L) (hb:Below w.heap.size w w'):MksAt base w' p v L:=
 h.same (hb.block _ h.lt) (fun g hg=>hb.block g (h.row.lt g hg).2)
def LaidIn (base:Nat) (w:World) (p:Nat) (v:Value) (L':List (bU×aG)) (w':World):Prop:=
 ∃v',MksAt base w' p v' L'/\Keeps (fun b=>b=p\/some b=v.ownBlock) w w'/\(∀g,v'.ownBlock=some g->v.ownBlock=some g\/w.heap.size<=g)
theorem IN (u:World) (base p k:Nat) (ao:Option Addr) (cap:Nat) (L:List (bU×aG)) (a:Int) (s c:ByteArray) (t b:Int) (h:MksAt base u p (.slice ao L.length cap) L) (hbase:base<=u.heap.size) (hL:L.length<=900) (hk:k<=L.length):
  ∃v1 W1 v3 W3,(∃a1 c1,v1=Value.slice a1 k c1)/\(∃a3 c3,v3=Value.slice a3 (k+1) c3)/\
   (Builtin.append_ #[85,85] 85 #[.slice none 0 0,.slice ao k cap]).run prog u= .ok v1 W1/\
   (Builtin.append_ #[85,85] 85 #[v1,.slice (some ⟨W1.heap.size,0,none⟩) 1 1]).run prog (W1.alloc (.cells #[.int .i64 a,.string s,.string c,.int .i64 t,.int .i64 b] 89))= .ok v3 W3/\
   Keeps (fun _=>False) u W1/\W3.cell? ⟨p,0,none⟩=some (.slice ao L.length cap)/\
   (InRow kw W3 (ao.map (fun x=>x.add (k*5))) (L.drop k))/\
   ∀ap c',InRow kw W3 ap (L.drop k)->(ap=none->c'=0)->∃v4 W4,(∃a4 n4 c4,v4=Value.slice a4 n4 c4)/\(Builtin.append_ #[85,85] 85 #[v3,.slice ap (L.length - k) c']).run prog W3= .ok v4 W4/\W4.cell? ⟨p,0,none⟩=some (.slice ao L.length cap)/\W4.frozen? ⟨p,0,none⟩=false/\
    Aside (MksAt base (W4.setCell ⟨p,0,none⟩ v4) p v4 (L.take k++((a,s),(c,(t,b)))::L.drop k)/\Keeps (fun b=>b=p) u (W4.setCell ⟨p,0,none⟩ v4)/\(∀g,v4.ownBlock=some g->u.heap.size<=g)):=by
 have hnc:ao=none->cap=0:=by
  rcases h.row.2 with ⟨h1,h2⟩ | ⟨g,cap',cur,hv,_⟩
  ·simp only [Value.slice.injEq] at h1
   exact fun _=>h1.2.2
  cases hv;exact fun e=>yE
 have hlt:∀g o,ao=some ⟨g,o,none⟩->g<u.heap.size:=fun g o e=>by
  subst e
  rcases h.row.2 with ⟨h1,_⟩ | ⟨g',cap',cur,hv,_⟩
  ·simp at h1
  cases hv
  exact (h.row.lt g rfl).2
 have hIn:=sG cQ h.row
 have l1:(L.take k).length=k:=yw
 obtain ⟨v1,W1,r1,o1,g1⟩:=kZ (w:=u) (base:=u.heap.size) (n:=0) (v:=.slice none 0 0) (xs:=[]) (uf _ _ _ _) zj zj ao cap (L.take k) zj (hIn.part cQ k hk).1 hnc 85
 rw [l1] at r1 o1
 have hk1:Keeps (fun _=>False) u W1:=(aV g1).mono (fun b _ e=>yE)
 have hs1:=hk1.size
 obtain ⟨W2,hW2⟩:=zc (W1.alloc (.cells #[.int .i64 a,.string s,.string c,.int .i64 t,.int .i64 b] 89))
 have hk2:Keeps (fun _=>False) W1 W2:=jZ
 have hs2:W2.heap.size=W1.heap.size+1:=by rw [hW2];simp
 have hx2:W2.heap[W1.heap.size]? =some (.cells #[.int .i64 a,.string s,.string c,.int .i64 t,.int .i64 b] 89 (0,0)):=by rw [hW2];exact heap_alloc_new W1 _
 have hI2:InRow kw W2 (some ⟨W1.heap.size,0,none⟩) [((a,s),(c,(t,b)))]:=.inr ⟨_,0,rfl,fun j x hj=>by
  simp only [World.cell?,hx2]
  rw [<-hj]
  simp [aI,kw]⟩
 have o2:W2.ownsRow u.heap.size 89 5 v1 (0+k) ([]++aI kw (L.take k)):=av o1 (fun g hg=>hk2.block g (o1.lt g hg).2 (fun e=>e))
 obtain ⟨v3,W3,r3,o3,g3⟩:=kZ (base:=u.heap.size) (by rw [vQ] at o2;exact o2) zj zj (some ⟨W1.heap.size,0,none⟩) 1 [((a,s),(c,(t,b)))] zt hI2 (fun e=>yE) 85
 have hk3:Keeps (fun b=>some b=v1.ownBlock) W2 W3:=aV g3
 have hs3:=hk3.size
 have hv1:∀b,some b=v1.ownBlock->u.heap.size<=b:=fun b e=>(o1.lt b e.symm).1
 have hI3:InRow kw W3 ao L:=hIn.kept (fun g o e=>by
  have hg:=hlt g o e
  rw [hk3.block g zj (fun e'=>by have:=hv1 g e';omega),hk2.block g zj (fun e=>e),hk1.block g zj (fun e=>e)])
 have hp3:W3.heap[p]? =u.heap[p]? :=by
  have hg:=h.lt
  rw [hk3.block p zj (fun e'=>by have:=hv1 p e';omega),hk2.block p zj (fun e=>e),hk1.block p zj (fun e=>e)]
 have ld:(L.drop k).length=L.length - k:=ur
 have o3':W3.ownsRow u.heap.size 89 5 v3 (k+1) (aI kw (L.take k++ [((a,s),(c,(t,b)))])):=by rw [ah];exact o3
 refine ⟨v1,W1,v3,W3,?_,fh o3',r1,by rw [<-hW2];exact r3,hk1,by rw [uc (a:=⟨p,0,none⟩) hp3];exact h.c0,(hI3.part cQ k hk).2,fun ap c' hap hc'=> ?_⟩
 ·obtain ⟨a1,c1,e⟩:=fh o1
  exact ⟨a1,c1,by rw [e,vQ]⟩
 obtain ⟨v4,W4,r4,o4,g4⟩:=kZ (base:=u.heap.size) o3' zj zj ap c' (L.drop k) zj hap hc' 85
 rw [ld] at r4
 have hk4:Keeps (fun b=>some b=v3.ownBlock) W3 W4:=aV g4
 have hv3:∀b,some b=v3.ownBlock->u.heap.size<=b:=fun b e=>(o3.lt b e.symm).1
 have hg:=h.lt
 have hp4:W4.heap[p]? =u.heap[p]? :=(hk4.block p zj (fun e'=>by have:=hv3 p e';omega)).trans hp3
 have hc4:W4.heap[p]? =some (.cells #[.slice ao L.length cap] 87 (0,0)):=hp4.trans h.cell
 refine ⟨v4,W4,(by obtain ⟨a4,c4,e⟩:=fh o4;exact ⟨_,_,_,e⟩),r4,by simp [World.cell?,hc4],by simp [World.frozen?,hc4],?_,?_,fun g hg=>(o4.lt g hg).1⟩
 ·have hks:Keeps (fun b=>b=p) W4 (W4.setCell ⟨p,0,none⟩ v4):=aZ p [_] 0 W4
  have e1:aI kw (L.take k++ [((a,s),(c,(t,b)))])++aI kw (L.drop k)=aI kw (L.take k++((a,s),(c,(t,b)))::L.drop k):=by rw [<-ah];simp
  have e2:k+1+(L.drop k).length=(L.take k++((a,s),(c,(t,b)))::L.drop k).length:=zq
  rw [e1,e2] at o4
  have o5:(W4.setCell ⟨p,0,none⟩ v4).ownsRow base 89 5 v4 (L.take k++((a,s),(c,(t,b)))::L.drop k).length (aI kw (L.take k++((a,s),(c,(t,b)))::L.drop k)):=
   nj (av (w':=W4.setCell ⟨p,0,none⟩ v4) o4 (fun g hg'=>hks.block g (o4.lt g hg').2 (fun e=>by have:=(o4.lt g hg').1;omega))) hbase
  exact ⟨heap_setCell_same W4 p 0 _ _ _ hc4,o5,h.low⟩
 refine ((((hk1.mono (fun _ _ e=>e.elim)).then hk2 (fun _ _ e=>e.elim)).then hk3 (fun b hb e=> ?_)).then hk4 (fun b hb e=> ?_)).then (aZ p [v4] 0 W4) (fun b _ e=>e)
 ·have:=hv1 b e;omega
 have:=hv3 b e;omega
end
section
open Go.RowKit Go.Extern.Stop Go.Stop Go.Extern
theorem Tryz.xValueOfPP (t:Addr) (w:World):(ReflectliteValue.unpack (.iface 158 (.pointer (some t)))).run prog w
  = .ok (.agg #[.pointer (some ⟨19,158,none⟩),.pointer (some ⟨w.heap.size,0,none⟩),.int .u64 150]) (w.alloc (.cells #[.pointer (some t)] 158)):=zo
theorem Tryz.xTypePP (a:Addr) (w:World):(ReflectliteValue.methodAny (ReflectliteValue.valueError "reflectlite.Value.Type" 0) (fun t _ _ _=>ReflectliteType.toType t) #[.agg #[.pointer (some ⟨19,158,none⟩),.pointer (some a),.int .u64 150]]).run prog w
  = .ok (.iface 306 (.agg #[.pointer (some ⟨19,158,none⟩)])) w:=zo
theorem Tryz.xMethodKind (h:Value) (w:World):(Go.method 580 306 (.agg #[h]) "Kind").run prog w= .ok (393,h) w:=zo
theorem Tryz.xKindPP (w:World):((ReflectliteType.abiMethod fun t=>Functor.map (fun a:Nat=>Value.int IntKind.u8 (a:Int)) (Rtype.kind t)) #[.pointer (some ⟨19,158,none⟩)]).run prog w= .ok (.int .u8 22) w:=zo
theorem Tryz.xKindP (w:World):((ReflectliteType.abiMethod fun t=>Functor.map (fun a:Nat=>Value.int IntKind.u8 (a:Int)) (Rtype.kind t)) #[.pointer (some ⟨19,72,none⟩)]).run prog w= .ok (.int .u8 22) w:=zo
theorem Tryz.xIsNilPP (a p:Addr) (W:World) (ha:W.cell? a=some (.pointer (some p))):
  (ReflectliteValue.method (ReflectliteValue.valueError "reflectlite.Value.IsNil" 0) ReflectliteValue.isNil #[.agg #[.pointer (some ⟨19,158,none⟩),.pointer (some a),.int .u64 150]]).run prog W= .ok (.bool false) W:=by
 rw [show (ReflectliteValue.method (ReflectliteValue.valueError "reflectlite.Value.IsNil" 0) ReflectliteValue.isNil #[.agg #[.pointer (some ⟨19,158,none⟩),.pointer (some a),.int .u64 150]]).run prog W=(ReflectliteValue.isNil 158 a 150 22).run prog W by kernel_rfl]
 simp [ReflectliteValue.isNil,loadVar,isAgg,underlying,underlying158,ha,Result.andThen]
theorem Tryz.xMethodElem (h:Value) (w:World):(Go.method 580 306 (.agg #[h]) "Elem").run prog w= .ok (408,.agg #[h]) w:=zo
theorem Tryz.xMethodImplements (h:Value) (w:World):(Go.method 580 306 (.agg #[h]) "Implements").run prog w= .ok (409,.agg #[h]) w:=zo
theorem Tryz.xMethodAssignableTo (h:Value) (w:World):(Go.method 580 306 (.agg #[h]) "AssignableTo").run prog w= .ok (406,.agg #[h]) w:=zo
theorem Tryz.xElemPP (w:World):(ReflectliteType.method ReflectliteType.elem #[.agg #[.pointer (some ⟨19,158,none⟩)]]).run prog w= .ok (.iface 306 (.agg #[.pointer (some ⟨19,72,none⟩)])) w:=zo
theorem Tryz.xImplementsP (w:World):(ReflectliteType.relation "Implements" ReflectliteType.implements_ #[.agg #[.pointer (some ⟨19,72,none⟩)],.iface 306 (.agg #[.pointer (some ⟨19,36,none⟩)])]).run prog w= .ok (.bool true) w:=zo
theorem Tryz.xTypeOfP (v:Value) (w:World):(ReflectliteType.typeOf #[.iface 72 v]).run prog w= .ok (.iface 306 (.agg #[.pointer (some ⟨19,72,none⟩)])) w:=zo
theorem Tryz.xTypeOfS (v:Value) (w:World):(ReflectliteType.typeOf #[.iface 450 v]).run prog w= .ok (.iface 306 (.agg #[.pointer (some ⟨19,450,none⟩)])) w:=zo
theorem Tryz.xAssignableP (w:World):(ReflectliteType.relation "AssignableTo" ReflectliteType.assignableTo #[.agg #[.pointer (some ⟨19,72,none⟩)],.iface 306 (.agg #[.pointer (some ⟨19,72,none⟩)])]).run prog w= .ok (.bool true) w:=zo
theorem Tryz.xAssignableS (w:World):(ReflectliteType.relation "AssignableTo" ReflectliteType.assignableTo #[.agg #[.pointer (some ⟨19,450,none⟩)],.iface 306 (.agg #[.pointer (some ⟨19,72,none⟩)])]).run prog w= .ok (.bool false) w:=zo
theorem Tryz.xValueOfP (e:Addr) (w:World):(ReflectliteValue.unpack (.iface 72 (.pointer (some e)))).run prog w
  = .ok (.agg #[.pointer (some ⟨19,72,none⟩),.pointer (some ⟨w.heap.size,0,none⟩),.int .u64 150]) (w.alloc (.cells #[.pointer (some e)] 72)):=zo
theorem Tryz.xElemOfPP (w:World):(Rtype.elem? 158).run prog w= .ok (some 72) w:=zo
theorem Tryz.xMkP (p:Addr) (w:World):(ReflectliteValue.mk 72 p ReflectliteValue.flagAddr).run prog w= .ok (.agg #[.pointer (some ⟨19,72,none⟩),.pointer (some p),.int .u64 406]) w:=zo
theorem Tryz.xElemVPP (a p:Addr) (W:World) (ha:W.cell? a=some (.pointer (some p))):
  (ReflectliteValue.method (ReflectliteValue.valueError "reflectlite.Value.Elem" 0) ReflectliteValue.elem #[.agg #[.pointer (some ⟨19,158,none⟩),.pointer (some a),.int .u64 150]]).run prog W
   = .ok (.agg #[.pointer (some ⟨19,72,none⟩),.pointer (some p),.int .u64 406]) W:=by
 rw [show (ReflectliteValue.method (ReflectliteValue.valueError "reflectlite.Value.Elem" 0) ReflectliteValue.elem #[.agg #[.pointer (some ⟨19,158,none⟩),.pointer (some a),.int .u64 150]]).run prog W=(ReflectliteValue.elem 158 a 150 22).run prog W by kernel_rfl]
 simp [ReflectliteValue.elem,loadVar,isAgg,underlying,underlying158,ha,Result.andThen,Tryz.xElemOfPP,Tryz.xMkP]
theorem Tryz.xSetP (ta b e:Addr) (old:Value) (W:World) (hb:W.cell? b=some (.pointer (some e))) (ht:W.cell? ta=some old) (hf:W.frozen? ta=false):
  (ReflectliteValue.set #[.agg #[.pointer (some ⟨19,72,none⟩),.pointer (some ta),.int .u64 406],.agg #[.pointer (some ⟨19,72,none⟩),.pointer (some b),.int .u64 150]]).run prog W
   = .ok (.tuple #[]) (W.setCell ta (.pointer (some e))):=by
 rw [show (ReflectliteValue.set #[.agg #[.pointer (some ⟨19,72,none⟩),.pointer (some ta),.int .u64 406],.agg #[.pointer (some ⟨19,72,none⟩),.pointer (some b),.int .u64 150]]).run prog W=
  ((do let x <-loadVar 72 b;storeVar 72 ta x;pure (.tuple #[])):Sem Value).run prog W by kernel_rfl]
 simp [loadVar,isAgg,underlying,underlying72,hb,Result.andThen,storeVar,Value.cells,storeCells,Addr.add]
 rw [run_store prog W ta _ _ zv]
 simp [ht,hf]
theorem Tryz.xNoAsS (v:Value) (xT:TypeId) (w:World):(Instr.typeAssert (.iface 450 v) xT 310 true).run prog w= .ok (.tuple #[.nilIface,.bool false]) w:=run_typeAssert_lacksB underlying310 zo zo v xT w
theorem Tryz.xNoIsS (v:Value) (xT:TypeId) (w:World):(Instr.typeAssert (.iface 450 v) xT 317 true).run prog w= .ok (.tuple #[.nilIface,.bool false]) w:=run_typeAssert_lacksB underlying317 zo zo v xT w
theorem Tryz.xNoUnwrapS (v:Value) (xT:TypeId) (w:World):(Instr.typeAssert (.iface 450 v) xT 313 true).run prog w= .ok (.tuple #[.nilIface,.bool false]) w:=run_typeAssert_lacksB underlying313 zo zo v xT w
theorem Tryz.xNoUnwrapsS (v:Value) (xT:TypeId) (w:World):(Instr.typeAssert (.iface 450 v) xT 315 true).run prog w= .ok (.tuple #[.nilIface,.bool false]) w:=run_typeAssert_lacksB underlying315 zo zo v xT w
theorem Tryz.xNoIsP (v:Value) (xT:TypeId) (w:World):(Instr.typeAssert (.iface 72 v) xT 317 true).run prog w= .ok (.tuple #[.nilIface,.bool false]) w:=run_typeAssert_lacksB underlying317 zo zo v xT w
theorem Tryz.xHasUnwrapP (v:Value) (xT:TypeId) (w:World):(Instr.typeAssert (.iface 72 v) xT 313 true).run prog w= .ok (.tuple #[.iface 72 v,.bool true]) w:=run_typeAssert_hasB underlying313 zo v xT w
theorem Tryz.xMethodUnwrap (v:Value) (w:World):(Go.method 580 72 v "Unwrap").run prog w= .ok (398,v) w:=zo
def NT:Array Value->Sem Value:=ReflectliteType.method fun t=>do Rtype.noPackHeld "Comparable" t;pure (.bool (<-typeInfo t).comparable)
theorem Tryz.xComparable (w:World):(NT #[.agg #[.pointer (some ⟨19,450,none⟩)]]).run prog w= .ok (.bool true) w:=zo
theorem Tryz.xMethodComparable (v:Value) (w:World):(Go.method 580 306 v "Comparable").run prog w= .ok (407,v) w:=zo
theorem Tryz.xComp:(prog.info? 450).map (·.comparable)=some true:=zo
theorem Tryz.xSize:(prog.info? 468).map (·.size)=some 1:=zo
end
section
open Go.RowKit Go.Extern.Stop Go.Stop Go.Extern
theorem Mw (a t:Addr) (w:World) (hg:w.cell? ⟨12,0,none⟩=some (.iface 306 (.agg #[.pointer (some ⟨19,36,none⟩)]))):
  Calls prog 74 #[.iface 450 (.pointer (some a)),.iface 158 (.pointer (some t))] w fun ev w'=>ev= .returned (.bool false)/\Below w.heap.size w w':=by
 have h6:= @run_callFunc_extern prog 141 _ (fun args=>ReflectliteValue.unpack (args.getD 0 (.tuple #[]))) func141 zo zo zo zo
 have h7:= @run_callFunc_extern prog 142 _ (ReflectliteValue.methodAny (ReflectliteValue.valueError "reflectlite.Value.Type" 0) (fun t _ _ _=>ReflectliteType.toType t)) func142 zo zo zo zo
 have h8:= @run_callFunc_extern prog 143 _ (ReflectliteValue.method (ReflectliteValue.valueError "reflectlite.Value.IsNil" 0) ReflectliteValue.isNil) func143 zo zo zo zo
 have h27:= @run_callFunc_extern prog 393 _ (ReflectliteType.abiMethod fun t=>do pure (.int .u8 (<-Rtype.kind t))) func393 zo zo zo zo
 have h37:= @run_callFunc_extern prog 408 _ (ReflectliteType.method ReflectliteType.elem) func408 zo zo zo zo
 have h38:= @run_callFunc_extern prog 409 _ (ReflectliteType.relation "Implements" ReflectliteType.implements_) func409 zo zo zo zo
 have h10:= @run_callFunc_extern prog 145 _ ReflectliteType.typeOf func145 zo zo zo zo
 have h35:= @run_callFunc_extern prog 406 _ (ReflectliteType.relation "AssignableTo" ReflectliteType.assignableTo) func406 zo zo zo zo
 have tO:=Tryz.xTypeOfS
 have mA:=Tryz.xMethodAssignableTo
 have a25:=Tryz.xAssignableS
 have f6:=Tryz.xValueOfPP
 have f7:=Tryz.xTypePP
 have mK:=Tryz.xMethodKind
 have mE:=Tryz.xMethodElem
 have mI:=Tryz.xMethodImplements
 have k27:=Tryz.xKindPP
 have k25:=Tryz.xKindP
 have e27:=Tryz.xElemPP
 have i25:=Tryz.xImplementsP
 have nA:=Tryz.xNoAsS
 have uE:=Tryz.xNoUnwrapS
 have vE:=Tryz.xNoUnwrapsS
 have n8:=Tryz.xIsNilPP ⟨w.heap.size,0,none⟩ t ((w.alloc (.cells #[.pointer (some t)] 158)).alloc (.cells #[.pointer (some ⟨19,158,none⟩),.pointer (some ⟨w.heap.size,0,none⟩),.int .u64 150] 240)) zt
 have hlt:12<w.heap.size:=by
  rcases uB 12 w.heap.size with h | h
  ·exact h
  simp [World.cell?,Ze h] at hg
 have hg2:((w.alloc (.cells #[.pointer (some t)] 158)).alloc (.cells #[.pointer (some ⟨19,158,none⟩),.pointer (some ⟨w.heap.size,0,none⟩),.int .u64 150] 240)).cell? ⟨12,0,none⟩=some (.iface 306 (.agg #[.pointer (some ⟨19,36,none⟩)])):=by
  exact kl0
 go_enter func74,ntmps74
 go_wp2
 refine wp_loop_rounds 1 ?_
 rw [rounds_succ]
 go_wp2
 go_ret
 exact ⟨rfl,((zh _ _).alloc zt _).alloc zq _⟩
theorem NY (e t:Addr) (old:Value) (w:World) (hg:w.cell? ⟨12,0,none⟩=some (.iface 306 (.agg #[.pointer (some ⟨19,36,none⟩)]))) (ht0:w.cell? t=some old) (hf0:w.frozen? t=false):
  Calls prog 74 #[.iface 72 (.pointer (some e)),.iface 158 (.pointer (some t))] w fun ev w'=>ev= .returned (.bool true)/\w'=((((w.alloc (.cells #[.pointer (some t)] 158)).alloc (.cells #[.pointer (some ⟨19,158,none⟩),.pointer (some ⟨w.heap.size,0,none⟩),.int .u64 150] 240)).alloc (.cells #[.pointer (some ⟨19,158,none⟩),.pointer (some ⟨w.heap.size,0,none⟩),.int .u64 150] 240)).alloc (.cells #[.pointer (some e)] 72)).setCell t (.pointer (some e)):=by
 have h6:= @run_callFunc_extern prog 141 _ (fun args=>ReflectliteValue.unpack (args.getD 0 (.tuple #[]))) func141 zo zo zo zo
 have h7:= @run_callFunc_extern prog 142 _ (ReflectliteValue.methodAny (ReflectliteValue.valueError "reflectlite.Value.Type" 0) (fun t _ _ _=>ReflectliteType.toType t)) func142 zo zo zo zo
 have h8:= @run_callFunc_extern prog 143 _ (ReflectliteValue.method (ReflectliteValue.valueError "reflectlite.Value.IsNil" 0) ReflectliteValue.isNil) func143 zo zo zo zo
 have h27:= @run_callFunc_extern prog 393 _ (ReflectliteType.abiMethod fun t=>do pure (.int .u8 (<-Rtype.kind t))) func393 zo zo zo zo
 have h37:= @run_callFunc_extern prog 408 _ (ReflectliteType.method ReflectliteType.elem) func408 zo zo zo zo
 have h38:= @run_callFunc_extern prog 409 _ (ReflectliteType.relation "Implements" ReflectliteType.implements_) func409 zo zo zo zo
 have h10:= @run_callFunc_extern prog 145 _ ReflectliteType.typeOf func145 zo zo zo zo
 have h35:= @run_callFunc_extern prog 406 _ (ReflectliteType.relation "AssignableTo" ReflectliteType.assignableTo) func406 zo zo zo zo
 have h11:= @run_callFunc_extern prog 208 _ (ReflectliteValue.method (ReflectliteValue.valueError "reflectlite.Value.Elem" 0) ReflectliteValue.elem) func208 zo zo zo zo
 have h12:= @run_callFunc_extern prog 209 _ ReflectliteValue.set func209 zo zo zo zo
 have tO:=Tryz.xTypeOfP
 have mA:=Tryz.xMethodAssignableTo
 have a25:=Tryz.xAssignableP
 have v25:=Tryz.xValueOfP
 have f6:=Tryz.xValueOfPP
 have f7:=Tryz.xTypePP
 have mK:=Tryz.xMethodKind
 have mE:=Tryz.xMethodElem
 have mI:=Tryz.xMethodImplements
 have k27:=Tryz.xKindPP
 have k25:=Tryz.xKindP
 have e27:=Tryz.xElemPP
 have i25:=Tryz.xImplementsP
 have n8:=Tryz.xIsNilPP ⟨w.heap.size,0,none⟩ t ((w.alloc (.cells #[.pointer (some t)] 158)).alloc (.cells #[.pointer (some ⟨19,158,none⟩),.pointer (some ⟨w.heap.size,0,none⟩),.int .u64 150] 240)) zt
 have hlt:12<w.heap.size:=by
  rcases uB 12 w.heap.size with h | h
  ·exact h
  simp [World.cell?,Ze h] at hg
 have hg2:((w.alloc (.cells #[.pointer (some t)] 158)).alloc (.cells #[.pointer (some ⟨19,158,none⟩),.pointer (some ⟨w.heap.size,0,none⟩),.int .u64 150] 240)).cell? ⟨12,0,none⟩=some (.iface 306 (.agg #[.pointer (some ⟨19,36,none⟩)])):=by
  exact kl0
 have htl:t.block<w.heap.size:=by
  rcases uB t.block w.heap.size with h | h
  ·exact h
  simp [World.cell?,Ze h] at ht0
 have el:=Tryz.xElemVPP ⟨w.heap.size,0,none⟩ t (((w.alloc (.cells #[.pointer (some t)] 158)).alloc (.cells #[.pointer (some ⟨19,158,none⟩),.pointer (some ⟨w.heap.size,0,none⟩),.int .u64 150] 240)).alloc (.cells #[.pointer (some ⟨19,158,none⟩),.pointer (some ⟨w.heap.size,0,none⟩),.int .u64 150] 240)) (by rw [uw _ _ ⟨w.heap.size,0,none⟩ zq];simp)
 have st:=Tryz.xSetP t ⟨w.heap.size+1+1+1,0,none⟩ e old ((((w.alloc (.cells #[.pointer (some t)] 158)).alloc (.cells #[.pointer (some ⟨19,158,none⟩),.pointer (some ⟨w.heap.size,0,none⟩),.int .u64 150] 240)).alloc (.cells #[.pointer (some ⟨19,158,none⟩),.pointer (some ⟨w.heap.size,0,none⟩),.int .u64 150] 240)).alloc (.cells #[.pointer (some e)] 72))
  (by rw [ZE _ _ _ _ zt];rfl)
  (by rw [uw _ _ t zq,uw _ _ t zq,uw _ _ t zq,uw _ _ t htl];exact ht0)
  (by rw [ZP _ _ t zq,ZP _ _ t zq,ZP _ _ t zq,ZP _ _ t (Nat.ne_of_lt htl)];exact hf0)
 go_enter func74,ntmps74
 go_wp2
 refine wp_loop_rounds 1 ?_
 rw [rounds_succ]
 exact kb3
theorem FB (e t:Addr) (old:Value) (w:World) (hg:w.cell? ⟨12,0,none⟩=some (.iface 306 (.agg #[.pointer (some ⟨19,36,none⟩)]))) (ht0:w.cell? t=some old) (hf0:w.frozen? t=false):
  Calls prog 74 #[.iface 72 (.pointer (some e)),.iface 158 (.pointer (some t))] w fun ev w'=>ev= .returned (.bool true)/\w'.cell? t=some (.pointer (some e))/\Below t.block w w'/\w.heap.size<=w'.heap.size:=by
 have htl:t.block<w.heap.size:=by
  rcases uB t.block w.heap.size with h | h
  ·exact h
  simp [World.cell?,Ze h] at ht0
 refine (NY e t old w hg ht0 hf0).mono ?_
 rintro ev w' ⟨rfl,rfl⟩
 refine ⟨rfl,?_,?_,?_⟩
 ·refine World.cell?_setCell_same (u:=old) _ _ _ ?_
  rw [uw _ _ t zq,uw _ _ t zq,uw _ _ t zq,uw _ _ t htl];exact ht0
 ·exact (((((vG _ _).alloc zj _).alloc zq _).alloc zq _).alloc zq _).setCell zg _
 simp;omega
end
section
open Go.RowKit Go.Extern.Stop Go.Stop Go.Extern
theorem Ja (a:Addr) (w:World):
  Calls prog 75 #[.iface 450 (.pointer (some a)),.iface 450 (.pointer (some a))] w fun e w'=>e= .returned (.bool true)/\w'=w:=by
 obtain ⟨i,hi,hcmp⟩:=uY.1 Tryz.xComp
 obtain ⟨j,hj,hjs⟩:=uY.1 Tryz.xSize
 have h8:= @run_callFunc_extern prog 145 _ Extern.ReflectliteType.typeOf func145 zo zo zo zo
 have h32:= @run_callFunc_extern prog 407 _ NT func407 zo zo zo zo
 have tT:=Tryz.xTypeOfS
 have cT:=Tryz.xComparable
 have mR:=Tryz.xMethodComparable
 have heq:=run_eql_iface_ptr_same (P:=prog) w a underlying36 underlying450 hi hcmp hj
 go_enter func75,ntmps75
 go_wp2
 refine wp_loop_rounds 1 ?_
 rw [rounds_succ]
 exact kb3
theorem Hy (a b:Addr) (ca cb:Array Value) (ta tb:TypeId) (w:World) (hne:a≠b) (ha:w.heap[a.block]? =some (.cells ca ta (0,0))) (hb:w.heap[b.block]? =some (.cells cb tb (0,0))):
  Calls prog 75 #[.iface 450 (.pointer (some a)),.iface 450 (.pointer (some b))] w fun e w'=>e= .returned (.bool false)/\w'=w:=by
 obtain ⟨i,hi,hcmp⟩:=uY.1 Tryz.xComp
 obtain ⟨j,hj,hjs⟩:=uY.1 Tryz.xSize
 have h8:= @run_callFunc_extern prog 145 _ Extern.ReflectliteType.typeOf func145 zo zo zo zo
 have h32:= @run_callFunc_extern prog 407 _ NT func407 zo zo zo zo
 have tT:=Tryz.xTypeOfS
 have cT:=Tryz.xComparable
 have mR:=Tryz.xMethodComparable
 have nE:=Tryz.xNoIsS
 have uE:=Tryz.xNoUnwrapS
 have vE:=Tryz.xNoUnwrapsS
 have heq:=run_eql_iface_ptr_other (P:=prog) w underlying36 underlying450 hi hcmp hj (by rw [hjs];decide) hne ha hb
 go_enter func75,ntmps75
 go_wp2
 refine wp_loop_rounds 1 ?_
 rw [rounds_succ]
 exact kb3
theorem oA (pb po:Nat) (b:Addr) (w:World) (h1:w.cell? ⟨pb,po+1,none⟩=some (.iface 450 (.pointer (some b)))):
  Calls prog 75 #[.iface 72 (.pointer (some ⟨pb,po,none⟩)),.iface 450 (.pointer (some b))] w fun e w'=>e= .returned (.bool true)/\w'=w:=by
 obtain ⟨i,hi,hcmp⟩:=uY.1 Tryz.xComp
 obtain ⟨j,hj,hjs⟩:=uY.1 Tryz.xSize
 have h8:= @run_callFunc_extern prog 145 _ Extern.ReflectliteType.typeOf func145 zo zo zo zo
 have h32:= @run_callFunc_extern prog 407 _ NT func407 zo zo zo zo
 have tT:=Tryz.xTypeOfS
 have cT:=Tryz.xComparable
 have mR:=Tryz.xMethodComparable
 have nW:=Tryz.xNoIsP
 have uW:=Tryz.xHasUnwrapP
 have mU:=Tryz.xMethodUnwrap
 have heq:=run_eql_iface_ptr_same (P:=prog) w b underlying36 underlying450 hi hcmp hj
 have hty:=run_eql_iface_types (P:=prog) 72 450 (.pointer (some ⟨pb,po,none⟩)) (.pointer (some b)) underlying36 zr w
 go_enter func75,ntmps75
 go_wp2
 refine wp_loop_rounds 2 ?_
 rw [rounds_succ]
 go_wp2
 rw [rounds_succ]
 exact kb3
theorem mg (pb po:Nat) (b a:Addr) (ca cb:Array Value) (ta tb:TypeId) (w:World) (h1:w.cell? ⟨pb,po+1,none⟩=some (.iface 450 (.pointer (some a)))) (hne:a≠b) (ha:w.heap[a.block]? =some (.cells ca ta (0,0))) (hb:w.heap[b.block]? =some (.cells cb tb (0,0))):
  Calls prog 75 #[.iface 72 (.pointer (some ⟨pb,po,none⟩)),.iface 450 (.pointer (some b))] w fun e w'=>e= .returned (.bool false)/\w'=w:=by
 obtain ⟨i,hi,hcmp⟩:=uY.1 Tryz.xComp
 obtain ⟨j,hj,hjs⟩:=uY.1 Tryz.xSize
 have h8:= @run_callFunc_extern prog 145 _ Extern.ReflectliteType.typeOf func145 zo zo zo zo
 have h32:= @run_callFunc_extern prog 407 _ NT func407 zo zo zo zo
 have tT:=Tryz.xTypeOfS
 have cT:=Tryz.xComparable
 have mR:=Tryz.xMethodComparable
 have nE:=Tryz.xNoIsS
 have uE:=Tryz.xNoUnwrapS
 have vE:=Tryz.xNoUnwrapsS
 have nW:=Tryz.xNoIsP
 have uW:=Tryz.xHasUnwrapP
 have mU:=Tryz.xMethodUnwrap
 have heq:=run_eql_iface_ptr_other (P:=prog) w underlying36 underlying450 hi hcmp hj (by rw [hjs];decide) hne ha hb
 have hty:=run_eql_iface_types (P:=prog) 72 450 (.pointer (some ⟨pb,po,none⟩)) (.pointer (some b)) underlying36 zr w
 go_enter func75,ntmps75
 go_wp2
 refine wp_loop_rounds 2 ?_
 rw [rounds_succ]
 go_wp2
 rw [rounds_succ]
 exact kb3
end
section
open Go.RowKit Go.Extern.Stop Go.Stop Go.Extern
structure Errs (B:Nat) (ad:Nat->Addr) (w:World):Prop where
 c0:w.cell? ⟨3,0,none⟩=some (.iface 450 (.pointer (some (ad 0))))
 c1:w.cell? ⟨0,0,none⟩=some (.iface 450 (.pointer (some (ad 1))))
 c2:w.cell? ⟨4,0,none⟩=some (.iface 450 (.pointer (some (ad 2))))
 c3:w.cell? ⟨5,0,none⟩=some (.iface 450 (.pointer (some (ad 3))))
 c4:w.cell? ⟨6,0,none⟩=some (.iface 450 (.pointer (some (ad 4))))
 c5:w.cell? ⟨1,0,none⟩=some (.iface 450 (.pointer (some (ad 5))))
 c6:w.cell? ⟨7,0,none⟩=some (.iface 450 (.pointer (some (ad 6))))
 c7:w.cell? ⟨2,0,none⟩=some (.iface 450 (.pointer (some (ad 7))))
 c8:w.cell? ⟨8,0,none⟩=some (.iface 450 (.pointer (some (ad 8))))
 c9:w.cell? ⟨9,0,none⟩=some (.iface 450 (.pointer (some (ad 9))))
 c10:w.cell? ⟨10,0,none⟩=some (.iface 450 (.pointer (some (ad 10))))
 c11:w.cell? ⟨11,0,none⟩=some (.iface 450 (.pointer (some (ad 11))))
 et:w.cell? ⟨12,0,none⟩=some (.iface 306 (.agg #[.pointer (some ⟨19,36,none⟩)]))
 lt:∀i,i<12->(ad i).block<B
 row:∀i,i<12->∃c t,w.heap[(ad i).block]? =some (.cells c t (0,0))
 ne:∀i j,i<12->j<12->i≠j->ad i≠ad j
 big:13<=B
 size:B<=w.heap.size
theorem Errs.mono (h:Errs B ad w) (hb:Below B w w'):Errs B ad w':=by
 have hB:=h.big
 have g:∀k v,k<13->w.cell? ⟨k,0,none⟩=some v->w'.cell? ⟨k,0,none⟩=some v:=fun k v hk hv=>by
  rw [hb.cell (p:=⟨k,0,none⟩) (vV hk hB)];exact hv
 refine ⟨g _ _ zr h.c0,g _ _ zr h.c1,g _ _ zr h.c2,g _ _ zr h.c3,g _ _ zr h.c4,g _ _ zr h.c5,g _ _ zr h.c6,g _ _ zr h.c7,g _ _ zr h.c8,g _ _ zr h.c9,g _ _ zr h.c10,g _ _ zr h.c11,g _ _ zr h.et,h.lt,fun i hi=> ?_,h.ne,h.big,vI h.size hb.size⟩
 obtain ⟨c,t,e⟩:=h.row i hi
 exact ⟨c,t,by rw [hb.block _ (h.lt i hi)];exact e⟩
theorem Errs.later (h:Errs B ad w) (hb:Below w.heap.size w w'):Errs B ad w':=h.mono (hb.mono h.size)
theorem Ho (w:World):Calls prog 37 #[.nilIface] w fun e w'=>e= .returned (.tuple #[.int .i64 0,.int .i64 (-1)])/\w'=w:=by
 go_enter func37,ntmps37
 go_wp2
 go_ret2
 exact kl3
def fJ (k:Nat):Int:=if k<12 then (k:Int)+1 else -1
theorem Jr (ad:Nat->Addr) (j:Nat) (hj:j<12):(#[Value.iface 450 (.pointer (some (ad 0))),.iface 450 (.pointer (some (ad 1))),.iface 450 (.pointer (some (ad 2))),.iface 450 (.pointer (some (ad 3))),.iface 450 (.pointer (some (ad 4))),.iface 450 (.pointer (some (ad 5))),.iface 450 (.pointer (some (ad 6))),.iface 450 (.pointer (some (ad 7))),.iface 450 (.pointer (some (ad 8))),.iface 450 (.pointer (some (ad 9))),.iface 450 (.pointer (some (ad 10))),.iface 450 (.pointer (some (ad 11)))])[j]? =some (.iface 450 (.pointer (some (ad j)))):=by
 match j,hj with
 | 0,_=>rfl
 | 1,_=>rfl
 | 2,_=>rfl
 | 3,_=>rfl
 | 4,_=>rfl
 | 5,_=>rfl
 | 6,_=>rfl
 | 7,_=>rfl
 | 8,_=>rfl
 | 9,_=>rfl
 | 10,_=>rfl
 | 11,_=>rfl
 | n+12,h=>omega
theorem BP (w:World) (h:Errs B ad w) (u:TypeId) (x:Value) (k:Nat) (hk:k<=12)
  (hAs:∀(t:Addr) (w1:World),Errs B ad w1->Calls prog 74 #[.iface u x,.iface 158 (.pointer (some t))] w1 fun e w'=>e= .returned (.bool false)/\Below w1.heap.size w1 w')
  (hIs:∀w1,Errs B ad w1->Below w.heap.size w w1->∀j,j<12->j<=k->Calls prog 75 #[.iface u x,.iface 450 (.pointer (some (ad j)))] w1 fun e w'=>e= .returned (.bool (decide (j=k)))/\w'=w1):
  Calls prog 37 #[.iface u x] w fun e w'=>e= .returned (.tuple #[.int .i64 (fJ k),.int .i64 (-1)])/\Below w.heap.size w w':=by
 have hsz:=h.size
 have h1:Errs B ad (w.alloc (.cells #[.pointer none] 72)):=h.later (zh _ _)
 go_enter func37,ntmps37
 go_wp2_with fail
 refine (hAs _ _ h1).mono ?_
 rintro e w1 ⟨rfl,hb1⟩
 have H1:=h1.later hb1
 have B1:Below w.heap.size w w1:=(zh _ _).trans (hb1.mono zt)
 have z1:=hb1.size
 simp at z1
 clear hb1 h1 h hAs
 have H2:=fun o=>H1.later ((vG _ _).alloc zg o)
 obtain ⟨c0,c1,c2,c3,c4,c5,c6,c7,c8,c9,c10,c11,et,lt,row,ne,big,size⟩:=H1
 clear et row ne lt
 have HI:Hid (∀w1,Errs B ad w1->Below w.heap.size w w1->∀j,j<12->j<=k->Calls prog 75 #[.iface u x,.iface 450 (.pointer (some (ad j)))] w1 fun e w'=>e= .returned (.bool (decide (j=k)))/\w'=w1):=hIs
 clear hIs
 go_wp2_with fail
 have hcell:∀j,j<12->(w1.alloc (.cells #[.iface 450 (.pointer (some (ad 0))),.iface 450 (.pointer (some (ad 1))),.iface 450 (.pointer (some (ad 2))),.iface 450 (.pointer (some (ad 3))),.iface 450 (.pointer (some (ad 4))),.iface 450 (.pointer (some (ad 5))),.iface 450 (.pointer (some (ad 6))),.iface 450 (.pointer (some (ad 7))),.iface 450 (.pointer (some (ad 8))),.iface 450 (.pointer (some (ad 9))),.iface 450 (.pointer (some (ad 10))),.iface 450 (.pointer (some (ad 11)))] 36)).cell? ⟨w1.heap.size,j,none⟩=some (.iface 450 (.pointer (some (ad j)))):=
  fun j hj=>by rw [ZE _ _ _ _ rfl];exact Jr ad j hj
 have H3:=H2 (.cells #[.iface 450 (.pointer (some (ad 0))),.iface 450 (.pointer (some (ad 1))),.iface 450 (.pointer (some (ad 2))),.iface 450 (.pointer (some (ad 3))),.iface 450 (.pointer (some (ad 4))),.iface 450 (.pointer (some (ad 5))),.iface 450 (.pointer (some (ad 6))),.iface 450 (.pointer (some (ad 7))),.iface 450 (.pointer (some (ad 8))),.iface 450 (.pointer (some (ad 9))),.iface 450 (.pointer (some (ad 10))),.iface 450 (.pointer (some (ad 11)))] 36)
 have B3:=B1.alloc zj (.cells #[.iface 450 (.pointer (some (ad 0))),.iface 450 (.pointer (some (ad 1))),.iface 450 (.pointer (some (ad 2))),.iface 450 (.pointer (some (ad 3))),.iface 450 (.pointer (some (ad 4))),.iface 450 (.pointer (some (ad 5))),.iface 450 (.pointer (some (ad 6))),.iface 450 (.pointer (some (ad 7))),.iface 450 (.pointer (some (ad 8))),.iface 450 (.pointer (some (ad 9))),.iface 450 (.pointer (some (ad 10))),.iface 450 (.pointer (some (ad 11)))] 36)
 generalize w1.alloc (.cells #[.iface 450 (.pointer (some (ad 0))),.iface 450 (.pointer (some (ad 1))),.iface 450 (.pointer (some (ad 2))),.iface 450 (.pointer (some (ad 3))),.iface 450 (.pointer (some (ad 4))),.iface 450 (.pointer (some (ad 5))),.iface 450 (.pointer (some (ad 6))),.iface 450 (.pointer (some (ad 7))),.iface 450 (.pointer (some (ad 8))),.iface 450 (.pointer (some (ad 9))),.iface 450 (.pointer (some (ad 10))),.iface 450 (.pointer (some (ad 11)))] 36)=W2 at hcell H3 B3 |-
 clear c0 c1 c2 c3 c4 c5 c6 c7 c8 c9 c10 c11 H2 B1 big size
 generalize w1.heap.size=b1 at hcell z1 |-
 clear z1
 have HI':=HI.o W2 H3 B3
 have HJ:Hid (∀j,j<12->j<=k->Calls prog 75 #[.iface u x,.iface 450 (.pointer (some (ad j)))] W2 fun e w'=>e= .returned (.bool (decide (j=k)))/\w'=W2):=HI'
 clear HI HI' H3
 go_loop [3,30] (fun at' i=>∃j:Nat,j<=k/\at'= .int .i64 (-1)/\i= .int .i64 j) (fun _ i=>12 - (intOf i).toNat)
 case atStart=>exact ⟨0,vM _,rfl,rfl⟩
 case round=>
  obtain ⟨j,hj,rfl,rfl⟩:=hrel
  by_cases h12:j<12
  ·have hc:=hcell j h12
   have hd:decide ((j:Int)<12)=true:=zq
   go_wp2_with fail
   refine (HJ.o j h12 hj).mono ?_
   rintro e w' ⟨rfl,hw⟩
   subst hw
   by_cases hjk:j=k
   ·exact kg1
   rw [decide_eq_false hjk]
   go_wp2
   go_round
   case rel=>exact ⟨j+1,zj,rfl,zw⟩
   case measure=>simp [intOf];omega
  exact kg6
theorem CI (w:World) (h:Errs B ad w) (pb po:Nat) (n:Int) (k:Nat) (hk:k<12)
  (hn:w.cell? ⟨pb,po,none⟩=some (.int .i64 n)) (he:w.cell? ⟨pb,po+1,none⟩=some (.iface 450 (.pointer (some (ad k))))):
  Calls prog 37 #[.iface 72 (.pointer (some ⟨pb,po,none⟩))] w fun e w'=>e= .returned (.tuple #[.int .i64 (fJ k),.int .i64 n])/\Below w.heap.size w w':=by
 have hsz:=h.size
 have h1:Errs B ad (w.alloc (.cells #[.pointer none] 72)):=h.later (zh _ _)
 go_enter func37,ntmps37
 go_wp2_with fail
 refine (FB ⟨pb,po,none⟩ _ (.pointer none) _ h1.et zt zt).mono ?_
 rintro e w1 ⟨rfl,ht,hb1,z1⟩
 have B1:Below w.heap.size w w1:=(zh _ _).trans hb1
 have H1:=h.later B1
 have hn1:w1.cell? ⟨pb,po,none⟩=some (.int .i64 n):=cell_later B1 hn
 have he1:w1.cell? ⟨pb,po+1,none⟩=some (.iface 450 (.pointer (some (ad k)))):=cell_later B1 he
 simp at z1
 clear hb1 h1 h hn he
 have H2:=fun o=>H1.later ((vG _ _).alloc zg o)
 have he2:=fun o=>cell_later ((vG w1.heap.size w1).alloc zg o) he1
 clear he1
 obtain ⟨c0,c1,c2,c3,c4,c5,c6,c7,c8,c9,c10,c11,et,lt,row,ne,big,size⟩:=H1
 clear et row ne lt
 have HI:Hid (∀w1,Errs B ad w1->w1.cell? ⟨pb,po+1,none⟩=some (.iface 450 (.pointer (some (ad k))))->∀j,j<12->j<=k->Calls prog 75 #[.iface 72 (.pointer (some ⟨pb,po,none⟩)),.iface 450 (.pointer (some (ad j)))] w1 fun e w'=>e= .returned (.bool (decide (j=k)))/\w'=w1):=by
  intro w1 hw1 hc j hj _
  by_cases hjk:j=k
  ·subst hjk
   rw [decide_eq_true rfl]
   exact oA pb po (ad j) w1 hc
  rw [decide_eq_false hjk]
  obtain ⟨ca,ta,ea⟩:=hw1.row k hk
  obtain ⟨cb,tb,eb⟩:=hw1.row j hj
  exact mg pb po (ad j) (ad k) ca cb ta tb w1 hc (hw1.ne k j hk hj (fun e=>hjk e.symm)) ea eb
 go_wp2_with fail
 have hcell:∀j,j<12->(w1.alloc (.cells #[.iface 450 (.pointer (some (ad 0))),.iface 450 (.pointer (some (ad 1))),.iface 450 (.pointer (some (ad 2))),.iface 450 (.pointer (some (ad 3))),.iface 450 (.pointer (some (ad 4))),.iface 450 (.pointer (some (ad 5))),.iface 450 (.pointer (some (ad 6))),.iface 450 (.pointer (some (ad 7))),.iface 450 (.pointer (some (ad 8))),.iface 450 (.pointer (some (ad 9))),.iface 450 (.pointer (some (ad 10))),.iface 450 (.pointer (some (ad 11)))] 36)).cell? ⟨w1.heap.size,j,none⟩=some (.iface 450 (.pointer (some (ad j)))):=
  fun j hj=>by rw [ZE _ _ _ _ rfl];exact Jr ad j hj
 have H3:=H2 (.cells #[.iface 450 (.pointer (some (ad 0))),.iface 450 (.pointer (some (ad 1))),.iface 450 (.pointer (some (ad 2))),.iface 450 (.pointer (some (ad 3))),.iface 450 (.pointer (some (ad 4))),.iface 450 (.pointer (some (ad 5))),.iface 450 (.pointer (some (ad 6))),.iface 450 (.pointer (some (ad 7))),.iface 450 (.pointer (some (ad 8))),.iface 450 (.pointer (some (ad 9))),.iface 450 (.pointer (some (ad 10))),.iface 450 (.pointer (some (ad 11)))] 36)
 have he3:=he2 (.cells #[.iface 450 (.pointer (some (ad 0))),.iface 450 (.pointer (some (ad 1))),.iface 450 (.pointer (some (ad 2))),.iface 450 (.pointer (some (ad 3))),.iface 450 (.pointer (some (ad 4))),.iface 450 (.pointer (some (ad 5))),.iface 450 (.pointer (some (ad 6))),.iface 450 (.pointer (some (ad 7))),.iface 450 (.pointer (some (ad 8))),.iface 450 (.pointer (some (ad 9))),.iface 450 (.pointer (some (ad 10))),.iface 450 (.pointer (some (ad 11)))] 36)
 have B3:=B1.alloc zj (.cells #[.iface 450 (.pointer (some (ad 0))),.iface 450 (.pointer (some (ad 1))),.iface 450 (.pointer (some (ad 2))),.iface 450 (.pointer (some (ad 3))),.iface 450 (.pointer (some (ad 4))),.iface 450 (.pointer (some (ad 5))),.iface 450 (.pointer (some (ad 6))),.iface 450 (.pointer (some (ad 7))),.iface 450 (.pointer (some (ad 8))),.iface 450 (.pointer (some (ad 9))),.iface 450 (.pointer (some (ad 10))),.iface 450 (.pointer (some (ad 11)))] 36)
 generalize w1.alloc (.cells #[.iface 450 (.pointer (some (ad 0))),.iface 450 (.pointer (some (ad 1))),.iface 450 (.pointer (some (ad 2))),.iface 450 (.pointer (some (ad 3))),.iface 450 (.pointer (some (ad 4))),.iface 450 (.pointer (some (ad 5))),.iface 450 (.pointer (some (ad 6))),.iface 450 (.pointer (some (ad 7))),.iface 450 (.pointer (some (ad 8))),.iface 450 (.pointer (some (ad 9))),.iface 450 (.pointer (some (ad 10))),.iface 450 (.pointer (some (ad 11)))] 36)=W2 at hcell H3 B3 he3 |-
 clear c0 c1 c2 c3 c4 c5 c6 c7 c8 c9 c10 c11 H2 he2 B1 big size hn1 ht
 generalize w1.heap.size=b1 at hcell z1 |-
 clear z1
 have HI':=HI.o W2 H3 he3
 have HJ:Hid (∀j,j<12->j<=k->Calls prog 75 #[.iface 72 (.pointer (some ⟨pb,po,none⟩)),.iface 450 (.pointer (some (ad j)))] W2 fun e w'=>e= .returned (.bool (decide (j=k)))/\w'=W2):=HI'
 clear HI HI' H3 he3
 go_loop [3,30] (fun at' i=>∃j:Nat,j<=k/\at'= .int .i64 n/\i= .int .i64 j) (fun _ i=>12 - (intOf i).toNat)
 case atStart=>exact ⟨0,vM _,rfl,rfl⟩
 case round=>
  obtain ⟨j,hj,rfl,rfl⟩:=hrel
  by_cases h12:j<12
  ·have hc:=hcell j h12
   have hd:decide ((j:Int)<12)=true:=zq
   go_wp2_with fail
   refine (HJ.o j h12 hj).mono ?_
   rintro e w' ⟨rfl,hw⟩
   subst hw
   by_cases hjk:j=k
   ·exact kg1
   rw [decide_eq_false hjk]
   go_wp2
   go_round
   case rel=>exact ⟨j+1,zj,rfl,zw⟩
   case measure=>simp [intOf];omega
  exact kg6
theorem Fi (w:World) (h:Errs B ad w) (k:Nat) (hk:k<12):
  Calls prog 37 #[.iface 450 (.pointer (some (ad k)))] w fun e w'=>e= .returned (.tuple #[.int .i64 (fJ k),.int .i64 (-1)])/\Below w.heap.size w w':=by
 refine BP w h _ _ k (ZG hk) (fun t w1 h1=>Mw (ad k) t w1 h1.et) fun w1 hw1 _ j hj _=> ?_
 by_cases hjk:j=k
 ·subst hjk
  rw [decide_eq_true rfl]
  exact Ja (ad j) w1
 rw [decide_eq_false hjk]
 obtain ⟨ca,ta,ea⟩:=hw1.row k hk
 obtain ⟨cb,tb,eb⟩:=hw1.row j hj
 exact Hy (ad k) (ad j) ca cb ta tb w1 (hw1.ne k j hk hj (fun e=>hjk e.symm)) ea eb
