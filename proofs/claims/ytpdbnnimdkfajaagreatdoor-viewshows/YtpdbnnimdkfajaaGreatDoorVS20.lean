import Derived.Test.YtpdbnnimdkfajaaGreatDoorMacA
import Derived.RangeFuncNested
set_option linter.unusedSimpArgs false
set_option linter.unusedVariables false
namespace Go.Proofs.YtpdbnnimdkfajaaGreatDoor
variable {r:Loop} {B D l:Nat} {W W':World}
section
open Go Go.RowKit
def StabM {σ:Type} (M:Nat->Prop) (J:σ->World->Prop):Prop:=∀s W W' row,J s W->W.grownBy W' row->(∀r,row=some r->M r)->J s W'
def SeqM {α:Type} (n:Nat) (P:Program) (gf:Nat) (lb:Array Value) (M:Nat->Prop) (enc:α->Value) (Kp:World->World->Prop) (All Sp:List α->Prop) (N:Nat) (w:World):Prop:=
 ∀(l:Nat) (J Jx:List α->World->Prop) (W:World),Below w.heap.size w W->StabM M J->StabM M Jx->
  (∀pre x W1,J pre W1->pre.length<N->YieldAt Fence.wide (n - 1) P l #[enc x] W1 fun e W'=>(e= .returned (.bool true)/\J (pre++ [x]) W'/\Kp W1 W')\/(e= .returned (.bool false)/\Jx (pre++ [x]) W'))->
  J [] W->CallsIn Fence.wide n P gf (#[.func (.yield l) #[] #[]]++lb) W fun e W'=>(∃v,e= .returned v)/\((∃xs,All xs/\J xs W')\/∃pre,Sp pre/\Jx pre W')
structure Book (l D:Nat) (r:Loop) (W:World):Prop where
 loop:W.heap[l]? =some (.loop r)
 put:W.heap[D]? =some (.deferred (some []))
theorem Book.lt (h:Book l D r W):l<W.heap.size:=(jk.1 h.loop).1
theorem Book.stab {row:Option Nat} {M:Nat->Prop} (h:Book l D r W) (hg:W.grownBy W' row) (hr:∀q,row=some q->M q) (hl:¬M l) (hD:¬M D):Book l D r W':=
 ⟨(hg.block l h.lt (fun e=>hl (hr l e.symm))).trans h.loop,(hg.block D (jk.1 h.put).1 (fun e=>hD (hr D e.symm))).trans h.put⟩
theorem Book.kept (h:Book l D r W) (hk:KeepsFrom B W W') (hl:B<=l) (hD:B<=D):Book l D r W':=⟨hk.same l _ hl h.loop rfl,hk.same D _ hD h.put rfl⟩
theorem Book.turn (h:Book l D r W) (hne:l≠D) (r':Loop):Book l D r' (W.putObj l (.loop r')):=
 ⟨World.putObj_heap_same h.lt,(vL (fun e=>hne e.symm)).trans h.put⟩
def OwnM {σ:Type} (B:Nat) (M:Nat->Prop) (I:σ->World->Prop):Prop:=∀s W W' row,I s W->W.grownBy W' row->(∀r,row=some r->M r\/(B<=r/\∃o:Obj,W.heap[r]? =some o/\o.isCells=false))->I s W'
theorem OwnM.put {σ:Type} {M:Nat->Prop} {I:σ->World->Prop} (h:OwnM B M I) {s:σ} (hs:I s W) (hB:B<=l) (hl:W.heap[l]? =some (.loop r)) (o:Obj):I s (W.putObj l o):=
 h s W _ (some l) hs (grownBy_putObj' W l o) (fun q e=>by cases e;exact .inr ⟨hB,_,hl,rfl⟩)
section
variable {P:Program} {α:Type} {g:Operand} {ps:Array Tmp} {assign body:Code} {Q:Exit→Act→World→Prop} {a:Act} {w:World} {n gf:Nat} {lb:Array Value} {M:Nat→Prop} {enc:α→Value} {Kp:World→World→Prop} {All Sp:List α→Prop} {N:Nat}
theorem range_M (hn:1<=n) (hg:a.eval g= .func (.func gf) #[] lb) (eg:∀args w,(callFunc gf args).run P w= .ok (.enter gf args) w)
  (hM:∀r,M r->r<w.heap.size) (hseq:SeqM (n - 1) P gf lb M enc Kp All Sp N w) (hKt:∀ {A B C:World},Kp A B->Kp B C->Kp A C)
  (hKb:∀(W:World) (l:Nat) (r:Loop) (o:Obj),w.heap.size<=l->W.heap[l]? =some (.loop r)->Kp W (W.putObj l o)) (hps:ps.size=1)
  (I:List α->World->Prop) (Ix:Code->List α->World->Prop) (hI:OwnM w.heap.size M I) (hIx:∀c,OwnM w.heap.size M (Ix c)) (h0:I [] w)
  (Ax:α->Act->World->Prop) (hAx:∀x a',OwnM w.heap.size M (fun (_:Unit) W=>Ax x a' W))
  (hassign:∀(l:Nat) (pre:List α) (x:α) (W:World) (K:Act->World->Prop),I pre W->(∀a' W',KeepsFrom w.heap.size W W'->Kp W W'->I pre W'->Ax x a' W'->K a' W')->
   assign.wpIn (Fence.wide.inRound l) (n - 1 - 1) P (Exit.then K (fun _ _ _=>False)) {tmps:=(ps.zip #[enc x]).foldl (fun t (p,v)=>t.setIfInBounds p v) a.tmps,defers:=[]} W)
  (hbody:∀(l:Nat) (pre:List α) (x:α) (a':Act) (W:World),w.heap.size<=l->I pre W->Ax x a' W->pre.length<N->body.wpIn (Fence.wide.inRound l) (n - 1 - 1) P (ownPostG w.heap.size Kp I Ix (pre++ [x]) W) a' W)
  (hdone:∀(D:Nat) (xs:List α) (W:World),w.heap.size<=D->All xs->I xs W->W.heap[D]? =some (.deferred (some []))->Q .normal {a with defers:={target:=.collected D,args:= #[]} ::a.defers} W)
  (hstop:∀(D:Nat) (c:Code) (pre:List α) (W:World),w.heap.size<=D->Sp pre->Ix c pre W->W.heap[D]? =some (.deferred (some []))->c.wpIn Fence.wide n P Q {a with defers:={target:=.collected D,args:= #[]} ::a.defers} W):
  (Code.rangeFunc g ps assign body).wpIn Fence.wide n P Q a w:=by
 refine wpIn_rangeFunc fun fn hfn=> ?_
 obtain ⟨D,hD⟩:=za w.heap.size
 obtain ⟨mk,hmk⟩:∃mk:LoopState->Option Code->Loop,mk=fun st pe=>{state:=st,pending:=pe,fn:=fn,tmps:=a.tmps,params:=ps,assign:=assign,body:=body,defers:=D} :=⟨_,rfl⟩
 obtain ⟨V,hV⟩:=za ((w.alloc (.deferred (some []))).alloc (.loop (mk .ready none)))
 have hsV:V.heap.size=D+2:=by rw [hV,hD];simp
 have bV:Book (D+1) D (mk .ready none) V:=by
  constructor
  ·have:=heap_alloc_new (w.alloc (.deferred (some []))) (.loop (mk .ready none))
   rw [jI] at this
   rw [hV,hD];exact this
  rw [hV,hD,jp _ _ _ zm];exact heap_alloc_new w _
 have hbV:Below w.heap.size w V:=by rw [hV];exact (zg w _).alloc zm _
 have iV:I [] V:=hI [] w V none h0 ⟨hbV.os,hbV.tape,hbV.output,hbV.size,fun i hi _=>hbV.block i hi⟩ (fun r e=>yJ)
 have nM1:¬M (D+1):=fun q=>by have:=hM _ q;omega
 have nM0:¬M D:=fun q=>by have:=hM _ q;omega
 refine ⟨D+1,[{target:=.collected D,args:= #[]}],V,{target:=.fn (.func gf) lb,args:= #[.func (.yield (D+1)) #[] #[]]},V,gf,#[.func (.yield (D+1)) #[] #[]]++lb,V,?_,?_,?_,?_,fun _=>hn,?_⟩
 ·rw [hV,hmk,hD];exact run_enterLoop_outer fn a.tmps ps assign body
 ·simp only [resolve,hg];simp [go_sem]
 ·intro f' hf';trivial
 ·simp [invoke,go_sem,eg]
 refine (hseq (D+1) (fun pre W=>I pre W/\Book (D+1) D (mk .ready none) W) (fun pre W=>∃c,Ix c pre W/\Book (D+1) D (mk .done (some c)) W) V hbV
  (fun s A B row hs hgr hr=>⟨hI s A B row hs.1 hgr (fun r e=>.inl (hr r e)),hs.2.stab hgr hr nM1 nM0⟩)
  (fun s A B row hs hgr hr=>by obtain ⟨c,h1,h2⟩:=hs;exact ⟨c,hIx c s A B row h1 hgr (fun r e=>.inl (hr r e)),h2.stab hgr hr nM1 nM0⟩) ?_ ⟨iV,bV⟩).mono ?_
 ·rintro pre x W ⟨hi,hb⟩ hlen
  have hy:=run_yield (P:=P) (args:= #[enc x]) hb.loop (by rw [hmk];exact hps.symm)
  rw [hmk] at hy
  refine ⟨fn,_,assign,body,hy,roundIn_of_wpIn hfn (hassign (D+1) pre x W _ hi fun a' W1 hk1 hp1 hi1 hx1=> ?_)⟩
  clear hy
  have b1:=hb.kept hk1 zi zi
  obtain ⟨bz,hbz⟩:∃bz,bz= {mk .ready none with state:=.busy} :=⟨_,rfl⟩
  have e1:=run_beginRound (P:=P) b1.loop (by rw [hmk])
  rw [<-hbz] at e1
  have b2:Book (D+1) D bz (W1.putObj (D+1) (.loop bz)):=b1.turn zi bz
  have k2:Kp W1 (W1.putObj (D+1) (.loop bz)):=hKb W1 (D+1) _ _ zi b1.loop
  refine ⟨_,e1,wpIn_mono (hbody (D+1) pre x a' _ zi (hI.put hi1 zi b1.loop _) ((hAx x a').put (s:=()) hx1 zi b1.loop _) hlen) ?_⟩
  have fin:∀(j:Option Code) (W3:World),KeepsFrom w.heap.size (W1.putObj (D+1) (.loop bz)) W3->∃r',r'=mk (if j.isNone then .ready else .done) j/\(Instr.endRound (D+1) j).run P W3= .ok (.bool j.isNone) (W3.putObj (D+1) (.loop r'))/\Book (D+1) D bz W3/\Book (D+1) D r' (W3.putObj (D+1) (.loop r')):=fun j W3 k3=>by
   have b3:=b2.kept k3 zi zi
   have e:=run_endRound (P:=P) j b3.loop
   refine ⟨_,rfl,?_,b3,b3.turn zi _⟩
   rw [hbz,hmk] at e
   rw [hmk]
   exact e
  intro e a3 W3 hp
  cases e with
  | normal=>
   obtain ⟨k3,p3,i3⟩:=hp
   obtain ⟨r',hr',e3,b3,b4⟩:=fin none W3 k3
   rw [show mk (if (none:Option Code).isNone then .ready else .done) none=mk .ready none from rfl] at hr'
   exact ⟨_,_,e3,.inl ⟨rfl,⟨hI.put i3 zi b3.loop _,hr'▸b4⟩,hKt hp1 (hKt k2 (hKt p3 (hKb W3 (D+1) _ _ zi b3.loop)))⟩⟩
  | ret=>
   obtain ⟨k3,i3⟩:=hp
   obtain ⟨r',hr',e3,b3,b4⟩:=fin (some .ret) W3 k3
   exact ⟨_,_,e3,.inr ⟨rfl,.ret,(hIx _).put i3 zi b3.loop _,hr'▸b4⟩⟩
  | exit id=>
   obtain ⟨k3,i3⟩:=hp
   obtain ⟨r',hr',e3,b3,b4⟩:=fin (some (.exit id)) W3 k3
   exact ⟨_,_,e3,.inr ⟨rfl,.exit id,(hIx _).put i3 zi b3.loop _,hr'▸b4⟩⟩
  | goto t=>
   obtain ⟨k3,i3⟩:=hp
   obtain ⟨r',hr',e3,b3,b4⟩:=fin (some (.goto t)) W3 k3
   exact ⟨_,_,e3,.inr ⟨rfl,.goto t,(hIx _).put i3 zi b3.loop _,hr'▸b4⟩⟩
  | panic ch=>exact hp.elim
  | outgrown=>exact hp.elim
 rintro e W2 ⟨⟨v,rfl⟩,(⟨xs,hall,hi,hb⟩ | ⟨pre,hsp,c,hi,hb⟩)⟩
 ·have e2:=run_endLoop (P:=P) hb.loop (by rw [hmk];simp)
  have b2:=hb.turn zi {mk .ready none with state:=.exhausted}
  refine ⟨none,_,?_,hdone D xs _ zi hall (hI.put hi zi hb.loop _) b2.put⟩
  rw [hmk] at e2 |-
  exact e2
 have e2:=run_endLoop (P:=P) hb.loop (by rw [hmk];simp)
 have b2:=hb.turn zi {mk .done (some c) with state:=.exhausted}
 refine ⟨some c,_,?_,hstop D c pre _ zi hsp ((hIx c).put hi zi hb.loop _) b2.put⟩
 rw [hmk] at e2 |-
 exact e2
