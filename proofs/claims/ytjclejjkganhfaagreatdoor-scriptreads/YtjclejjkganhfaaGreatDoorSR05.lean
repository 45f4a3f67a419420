import Derived.Test.YtjclejjkganhfaaGreatDoorMacA
import Derived.RangeFuncNested
import Derived.RangeFuncBox
import Derived.RangeFuncLeaves
import Derived.RangeFuncCalls
import Derived.Test.YtjclejjkganhfaaGreatDoorRows
import Derived.LaidLaws
import Derived.LaidHandle
import Derived.LaidMore
set_option linter.unusedSimpArgs false
set_option linter.unusedVariables false
namespace Go.Proofs.YtjclejjkganhfaaGreatDoor
section
open RowKit
def Tj{σ:Type}(M:Nat->Prop)(J:σ->World->Prop):Prop:=∀s W W' row,J s W->W.grownBy W' row->(∀r,row=some r->M r)->J s W'
def zdq{α:Type}(n:Nat)(P:Program)(gf:Nat)(lb:Array Value)(M:Nat->Prop)(enc:α->Value)(Kp:World->World->Prop)(All Sp:List α->Prop)(N:Nat)(w:qW):Prop:=
 ∀(l:Nat) (J Jx:List α->World->Prop) (W:qW),qL w W->Tj M J->Tj M Jx->
  (∀pre x W1,J pre W1->pre.length<N->YieldAt Fence.wide (n - 1) P l #[enc x] W1 fun e W'=>(e= .returned (.bool true)/\J (pre++ [x]) W'/\Kp W1 W')\/(e= .returned (.bool false)/\Jx (pre++ [x]) W'))->
  J [] W->CallsIn Fence.wide n P gf (#[.func (.yield l) #[] #[]]++lb) W fun e W'=>(∃v,e= .returned v)/\((∃xs,All xs/\J xs W')\/∃pre,Sp pre/\Jx pre W')
structure Y1 (l D:Nat) (r:Loop) (W:qW):Prop where
 loop:W.heap[l]? =some (.loop r)
 put:W.heap[D]? =some (.deferred (some []))
theorem Y1.lt{l D}{r}{W}(h:Y1 l D r W):l<W.heap.size:=(uK.1 h.loop).1
theorem Y1.adm{l D}{r}{W W'}{row}{M:Nat->Prop}(h:Y1 l D r W)(hg:W.grownBy W' row)(hr:∀q,row=some q->M q)(hl:¬M l)(hD:¬M D):Y1 l D r W':=
 ⟨(hg.block l h.lt (fun e=>hl (hr l e.symm))).trans h.loop,(hg.block D (uK.1 h.put).1 (fun e=>hD (hr D e.symm))).trans h.put⟩
theorem Y1.kept{B l D}{r}{W W'}(h:Y1 l D r W)(hk:KeepsFrom B W W')(hl:B<=l)(hD:B<=D):Y1 l D r W':=⟨hk.same l _ hl h.loop rfl,hk.same D _ hD h.put rfl⟩
theorem Y1.acc{l D}{r}{W}(h:Y1 l D r W)(hne:l≠D)(r'):Y1 l D r' (W.putObj l (.loop r')):=
 ⟨World.putObj_heap_same h.lt,(Yb (fun e=>hne e.symm)).trans h.put⟩
def abj{σ:Type}(B:Nat)(M:Nat->Prop)(I:σ->World->Prop):Prop:=∀s W W' row,I s W->W.grownBy W' row->(∀r,row=some r->M r\/(B<=r/\∃o:Obj,W.heap[r]? =some o/\o.isCells=false))->I s W'
theorem abj.put{σ}{B}{M}{I}(h:abj B M I){s:σ}{W}(hs:I s W){l}{r}(hB:B<=l)(hl:W.heap[l]? =some (.loop r))(o):I s (W.putObj l o):=
 h s W _ (some l) hs (grownBy_putObj' W l o) (fun q e=>by cases e;exact .inr ⟨hB,_,hl,rfl⟩)
section
variable {P:Program} {α:Type} {g:Operand} {ps:Array Tmp} {assign body:Code} {Q:Exit→Act→World→Prop} {a:Act} {w:qW} {n gf:Nat} {lb:Array Value} {M:Nat→Prop} {enc:α→Value} {Kp:World→World→Prop} {All Sp:List α→Prop} {N:Nat}
theorem Xe(hn:1<=n)(hg:a.eval g= .func (.func gf) #[] lb)(eg:∀args w,(callFunc gf args).run P w= .ok (.enter gf args) w)
  (hM:∀r,M r->r<w.heap.size) (hseq:zdq (n - 1) P gf lb M enc Kp All Sp N w) (hKt:∀ {A B C:qW},Kp A B->Kp B C->Kp A C)
  (hKb:∀(W:qW) (l:Nat) (r:Loop) (o:Obj),w.heap.size<=l->W.heap[l]? =some (.loop r)->Kp W (W.putObj l o)) (bq:ps.size=1)
  (I:List α->World->Prop) (Ix:Code->List α->World->Prop) (hI:abj w.heap.size M I) (hIx:∀c,abj w.heap.size M (Ix c)) (h0:I [] w)
  (Ax:α->Act->World->Prop) (hAx:∀x a',abj w.heap.size M (fun (_:Unit) W=>Ax x a' W))
  (jY:∀(l:Nat) (pre:List α) (x:α) (W:qW) (K:Act->World->Prop),I pre W->(∀a' W',KeepsFrom w.heap.size W W'->Kp W W'->I pre W'->Ax x a' W'->K a' W')->
   assign.wpIn (Fence.wide.inRound l) (n - 1 - 1) P (Exit.then K (fun _ _ _=>False)) {tmps:=(ps.zip #[enc x]).foldl (fun t (p,v)=>t.setIfInBounds p v) a.tmps,defers:=[]} W)
  (hbody:∀(l:Nat) (pre:List α) (x:α) (a':Act) (W:qW),w.heap.size<=l->I pre W->Ax x a' W->pre.length<N->body.wpIn (Fence.wide.inRound l) (n - 1 - 1) P (ownPostG w.heap.size Kp I Ix (pre++ [x]) W) a' W)
  (hdone:∀(D:Nat) (xs:List α) (W:qW),w.heap.size<=D->All xs->I xs W->W.heap[D]? =some (.deferred (some []))->Q .normal {a with defers:={target:=.collected D,args:= #[]} ::a.defers} W)
  (hstop:∀(D:Nat) (c:Code) (pre:List α) (W:qW),w.heap.size<=D->Sp pre->Ix c pre W->W.heap[D]? =some (.deferred (some []))->c.wpIn Fence.wide n P Q {a with defers:={target:=.collected D,args:= #[]} ::a.defers} W):
  (Code.rangeFunc g ps assign body).wpIn Fence.wide n P Q a w:=by
 refine wpIn_rangeFunc fun fn hfn=> ?_
 obtain ⟨D,hD⟩:=za w.heap.size
 obtain ⟨mk,kM⟩:∃mk:LoopState->Option Code->Loop,mk=fun st pe=>{state:=st,pending:=pe,fn:=fn,tmps:=a.tmps,params:=ps,assign:=assign,body:=body,defers:=D} :=⟨_,rfl⟩
 obtain ⟨V,hV⟩:=za ((w.alloc (.deferred (some []))).alloc (.loop (mk .ready none)))
 have bV:Y1 (D+1) D (mk .ready none) V:=by
  constructor
  ·grind [heap_alloc_new,Zt]
  grind [uR,heap_alloc_new]
 have ai:qL w V:=ux;have iV:=hI [] w V none h0 ⟨ai.os,ai.tape,ai.output,ai.size,fun i hi _=>ai.block i hi⟩ (fun r e=>yN)
 have nM1:¬M (D+1):=fun q=>by have:=hM _ q;omega
 have nM0:¬M D:=fun q=>by have:=hM _ q;omega
 refine ⟨D+1,[{target:=.collected D,args:= #[]}],V,{target:=.fn (.func gf) lb,args:= #[.func (.yield (D+1)) #[] #[]]},V,gf,#[.func (.yield (D+1)) #[] #[]]++lb,V,?_,?_,?_,?_,fun _=>hn,?_⟩
 ·rw [hV,kM,hD];exact run_enterLoop_outer fn a.tmps ps assign body
 ·simp only [resolve,hg];simp [go_sem]
 ·intro f' hf';trivial
 ·simp [invoke,go_sem,eg]
 refine (hseq (D+1) (fun pre W=>I pre W/\Y1 (D+1) D (mk .ready none) W) (fun pre W=>∃c,Ix c pre W/\Y1 (D+1) D (mk .done (some c)) W) V ai
  (fun s A B row hs eO hr=>⟨hI s A B row hs.1 eO (fun r e=>.inl (hr r e)),hs.2.adm eO hr nM1 nM0⟩)
  (fun s A B row hs eO hr=>by obtain ⟨c,h1,h2⟩:=hs;exact ⟨c,hIx c s A B row h1 eO (fun r e=>.inl (hr r e)),h2.adm eO hr nM1 nM0⟩) ?_ ⟨iV,bV⟩).mono ?_
 ·rintro pre x W ⟨hi,hb⟩ hlen;have hy:=run_yield (P:=P) (args:= #[enc x]) hb.loop zL;rw [kM] at hy;refine ⟨fn,_,assign,body,hy,roundIn_of_wpIn hfn (jY (D+1) pre x W _ hi fun a' W1 gC bQ gD gu=> ?_)⟩;have b1:=hb.kept gC zj zj
  obtain ⟨bz,hbz⟩:∃bz,bz= {mk .ready none with state:=.busy} :=⟨_,rfl⟩
  have e1:=run_beginRound (P:=P) b1.loop (by rw [kM]);rw [<-hbz] at e1;have b2:=b1.acc zj bz;have k2:Kp W1 (W1.putObj (D+1) (.loop bz)):=hKb W1 (D+1) _ _ zj b1.loop;refine ⟨_,e1,wpIn_mono (hbody (D+1) pre x a' _ zj (hI.put gD zj b1.loop _) ((hAx x a').put (s:=()) gu zj b1.loop _) hlen) ?_⟩
  have eY:∀(j:Option Code) (W3:qW),KeepsFrom w.heap.size (W1.putObj (D+1) (.loop bz)) W3->∃r',r'=mk (if j.isNone then .ready else .done) j/\(Instr.endRound (D+1) j).run P W3= .ok (.bool j.isNone) (W3.putObj (D+1) (.loop r'))/\Y1 (D+1) D bz W3/\Y1 (D+1) D r' (W3.putObj (D+1) (.loop r')):=fun j W3 k3=>by
   have b3:=b2.kept k3 zj zj;have e:=run_endRound (P:=P) j b3.loop;refine ⟨_,rfl,?_,b3,b3.acc zj _⟩
   simp_all
  intro e a3 W3 hp
  cases e with
  | normal=>
   obtain ⟨k3,p3,i3⟩:=hp;obtain ⟨r',hr',e3,b3,b4⟩:=eY none W3 k3;rw [show mk (if (none:Option Code).isNone then .ready else .done) none=mk .ready none from rfl] at hr';exact ⟨_,_,e3,.inl ⟨rfl,⟨hI.put i3 zj b3.loop _,hr'▸b4⟩,hKt bQ (hKt k2 (hKt p3 (hKb W3 (D+1) _ _ zj b3.loop)))⟩⟩
  | ret=>
   obtain ⟨k3,i3⟩:=hp;obtain ⟨r',hr',e3,b3,b4⟩:=eY (some .ret) W3 k3;exact ⟨_,_,e3,.inr ⟨rfl,.ret,(hIx _).put i3 zj b3.loop _,hr'▸b4⟩⟩
  | exit id=>
   obtain ⟨k3,i3⟩:=hp;obtain ⟨r',hr',e3,b3,b4⟩:=eY (some (.exit id)) W3 k3;exact ⟨_,_,e3,.inr ⟨rfl,.exit id,(hIx _).put i3 zj b3.loop _,hr'▸b4⟩⟩
  | goto t=>
   obtain ⟨k3,i3⟩:=hp;obtain ⟨r',hr',e3,b3,b4⟩:=eY (some (.goto t)) W3 k3;exact ⟨_,_,e3,.inr ⟨rfl,.goto t,(hIx _).put i3 zj b3.loop _,hr'▸b4⟩⟩
  | panic ch=>exact hp.elim
  | outgrown=>exact hp.elim
 rintro e W2 ⟨⟨v,rfl⟩,(⟨xs,hall,hi,hb⟩ | ⟨pre,hsp,c,hi,hb⟩)⟩
 ·have e2:=run_endLoop (P:=P) hb.loop (by rw [kM];simp);have b2:=hb.acc zj {mk .ready none with state:=.exhausted};refine ⟨none,_,?_,hdone D xs _ zj hall (hI.put hi zj hb.loop _) b2.put⟩
  simp_all
 have e2:=run_endLoop (P:=P) hb.loop (by rw [kM];simp);have b2:=hb.acc zj {mk .done (some c) with state:=.exhausted};refine ⟨some c,_,?_,hstop D c pre _ zj hsp ((hIx c).put hi zj hb.loop _) b2.put⟩
 simp_all
end
end
section
theorem Gt{P}{W}{ti tp te ts}{ms}{nm}{f}
  (hi:P.underlying ti=some (.interface ms)) (hrow:∀u,P.typeName? 3 u=some nm->u=tp) (hp:P.underlying tp=some (.pointer te)) (he:P.underlying te=some (.struct #[f])) (hft:f.type=ts) (hfo:f.offset=0) (hs:P.underlying ts=some .string) (hc:P.cellsOf te=1) (hcs:P.cellsOf ts=1):
  ∀(l:List (String×Nat×qU)) (ps:List MemPlace),
   (∀x∈l,P.globalNamed x.1=some x.2.1/\(P.globals[x.2.1]?).map (·.type)=some ti)->
   DataW.LaidVars P W (l.map fun x=>(x.1,.iface nm (.ptr (.agg [.lit (.string x.2.2)])))) ps->ps.Nodup->
   (∀b off,MemPlace.cell b off∈ps->(∃c t,W.heap[b]? =some (.cells c t (0,0)))/\∀u v,W.cell? (qA b off)=some (.iface u v)->Value.okWide P W .any 0 u v)->
   ∃az:List Addr,az.length=l.length/\(∀(i:Nat) (x:String×Nat×qU) (a:Addr),l[i]? =some x->az[i]? =some a->W.cell? (qB x.2.1)=some (.iface tp (.pointer (some a))))/\
    (∀a∈az,(∃c t,W.heap[a.block]? =some (.cells c t (0,0)))/\MemPlace.cell a.block a.off∈ps)/\az.Nodup
 | [],ps,_,_,_,_=>⟨[],rfl,zr,zr,YU⟩
 | x::l,ps,hx,hv,cq,hr=>by
  obtain ⟨g,t,cs,fuel,p,q,hg,ht,dW,hd,hq,e⟩:=hv;subst e;obtain ⟨hg',ie⟩:=hx x (Zn);obtain rfl:=Option.some.inj (hg'.symm.trans hg);obtain rfl:=Option.some.inj (ie.symm.trans ht);obtain ⟨l0⟩:=cs
  have ok0:∀u v,l0= [.iface u v]->Value.okWide P W .any 0 u v:=fun u v e=>by
   subst e;exact (hr x.2.1 0 vQ).2 u v (by simpa using YR hg dW 0)
  obtain ⟨a0,s0,rfl,fj,fq,aD,rfl⟩:=errorString_of_trod hi hrow hp he hft hfo hs hc hcs hd ok0;have hnd2:=ZI.1 cq;obtain ⟨az,hl,h1,h2,h3⟩:=Gt hi hrow hp he hft hfo hs hc hcs l q (fun y hy=>hx y (uY _ hy)) hq hnd2.2.1 (fun b off hm=>hr b off (ZB _ hm));have jK:MemPlace.cell a0.block a0.off∈MemPlace.row (qB x.2.1) (#[Value.iface tp (.pointer (some a0))]:Array Value).size++MemPlace.row a0 1:=ZB _ vQ;refine ⟨a0::az,by simp [hl],?_,?_,?_⟩
  ·intro i y a hy ha
   cases i with
   | zero=>
    simp only [uZ,Option.some.injEq] at hy ha;subst hy ha;simpa using YR hg dW 0
   | succ i=>
    simp only [Zb] at hy ha;exact h1 i y a hy ha
  ·intro a ha
   rcases uX.1 ha with rfl | ha
   ·exact ⟨(hr _ _ (Zm _ jK)).1,Zm _ jK⟩
   exact ⟨(h2 a ha).1,ZB _ (h2 a ha).2⟩
  grind
theorem Tryz.acB: "*" ++ "errors.errorString" = "*errors.errorString" :=zo
theorem Tryz.adj(u)(h:Tryz.prog.typeName? 3 u=some "*errors.errorString"):u=437:=
 typeName_ptr_named (nm:= "errors.errorString") (by rw [Tryz.acB];kernel_rfl) zk zo u (by rw [Tryz.acB];exact h)
theorem Tryz.abS:Tryz.prog.cellsOf 455=1:=zk
theorem Tryz.X:Tryz.prog.cellsOf 9=1:=zk
end