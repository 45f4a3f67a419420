import Derived.Test.YtebpcnkdhgnghaaGreatDoorPA21
import Derived.Shelf.SlicesE.Clone
import Derived.Lib.OwnBridge
set_option linter.unusedSimpArgs false
set_option linter.unusedVariables false
set_option maxRecDepth 100000
set_option maxHeartbeats 64000000
namespace Go.Proofs.YtebpcnkdhgnghaaGreatDoor
open Go.Proofs.Tryz
variable {d d' d0:Array (OpX×Nat)} {B blk g:Nat} {w w' w0:World}
section
open Go.RowKit Go.Maps
open scoped Classical
theorem dj {Sx:Nat->Prop} (h:Keeps Sx w.drew w'):Keeps Sx w w':=⟨h.os,h.tape,h.output,h.size,h.block⟩
theorem kM (h:Below w.drew.heap.size w.drew w'):Below w.heap.size w w':=⟨h.os,h.tape,h.output,h.size,h.block⟩
theorem fu {base:Nat} {W:World} {p:Nat} {v:Value} {M:List Ltr} (hb:Below w.heap.size w W) (h:ActOk base W p v M w'):ActOk base w p v M w':=by
 obtain ⟨v',q1,q2,q3⟩:=h
 exact ⟨v',q1,((aV hb).mono (fun k hk e=>absurd hk zj)).then q2 (fun _ _ e=>e),q3.imp id (fun q g hg=>jM hb.size (q g hg))⟩
theorem Fd {x:OpX} (h:bY x=0) (hk:kdO x=105):∃ch:UInt8,x.2.2.2.2.2.2.2=⟨#[ch]⟩:=by
 have h0:=ax h
 unfold bY opE at h
 rw [if_pos ⟨h0.1,h0.2.1,h0.2.2.1,h0.2.2.2.1,h0.2.2.2.2.1,h0.2.2.2.2.2.1⟩] at h
 unfold kB at h
 have hk':x.2.2.2.1=105:=hk
 rw [hk',if_neg zo,if_pos rfl] at h
 unfold nH at h
 split at h
 ·cases h
 split at h
 ·cases h
 split at h
 ·cases h
 rename_i hv
 have hl:x.2.2.2.2.2.2.2.data.toList.length=1:=by
  rcases Nat.decEq x.2.2.2.2.2.2.2.data.toList.length 1 with q | q
  ·exact absurd (.inl q) hv
  exact q
 match hd:x.2.2.2.2.2.2.2 with
 | ⟨⟨l⟩⟩=>
  rw [hd] at hl
  match l,hl with
  | [ch],_=>exact ⟨ch,rfl⟩
theorem Dr {ad:Nat->Addr} (w:World) (c:Nat->Nat) (br:Nat) (T by_:Int) (kv:Nat->Value) (bt bx bc:Nat) (R:Rws) (A:List OpX) (x:OpX) (h:RepPart w c br T by_ kv bt bx bc R A) (hs:StepOk A x) (hE:EnvE B ad w) (hB:∀k,c k≠0->B<=k) (hcw:∀k,w.heap.size<=k->c k=0) (hlen:A.length<=250):
  Calls prog 73 #[.pointer (some ⟨br,0,none⟩),ar x] w fun e w'=>(∃u,e= .returned u)/\AppOk B w c br by_ kv bt bx bc R (x::A) (if T<x.1 then x.1 else T) w':=by
 have hsx:=ax hs.ok
 have hby:=gj hs.ok
 have hrf:=fZ hs.ok
 have hir:=lX hs.ok
 obtain ⟨t,b,n,kd,nd,o,s,v⟩:=x
 obtain ⟨P,hP⟩:=za w.heap.size
 obtain ⟨U,hU⟩:=za (w.alloc (.cells #[.int .i64 t,.int .i64 b,.int .i64 n,.int .u8 (kd:Int),.int .i64 nd,.int .i64 o,.string s,.string v] 61))
 have hbU:Below w.heap.size w U:=zN
 have O1:OpBlk U P (t,b,n,kd,nd,o,s,v):=by rw [hU,hP];exact OpBlk.new w (t,b,n,kd,nd,o,s,v)
 have hUp:=h.later hbU
 have hbr:br<P:=by rw [hP];exact h.cell.lt
 have hck:=DU br T by_ t b U.drew ⟨hUp.cell.c0,hUp.cell.c1,hUp.cell.fz 0⟩ hby.1 hby.2.1 hby.2.2.1 hby.2.2.2
 obtain ⟨T',hT'⟩:=za ((if T<t then t else T))
 have HT:Aside (T'=(if T<t then t else T)):=hT'
 have H0:Aside (RepPart U c br T by_ kv bt bx bc R A/\OpBlk U P (t,b,n,kd,nd,o,s,v)/\Below w.heap.size w U/\P=w.heap.size/\EnvE B ad w/\(∀k,c k≠0->B<=k)/\StepOk A (t,b,n,kd,nd,o,s,v)/\br<P/\c P=0):=⟨hUp,O1,hbU,hP,hE,hB,hs,hbr,hcw P zj⟩
 have HX:Aside (s.size<=1000000/\v.size<=1000000/\(-2^63<=nd/\nd<2^63)/\(kd=109\/kd=105\/kd=100\/kd=115)):=by
  have a1:s.data.toList.length<=12:=hsx.2.2.2.2.2.2.2.2.2.2.2.2.1
  have a2:v.data.toList.length<=12:=hsx.2.2.2.2.2.2.2.2.2.2.2.2.2
  rw [cw] at a1 a2
  have a3:0<=nd:=hrf.2.2.1
  have a4:nd<=idO (t,b,n,kd,nd,o,s,v):=hrf.1.elim (fun q=>q.2) (fun q=>Int.le_of_lt q)
  exact ⟨zj,zj,⟨zj,zj⟩,hsx.2.2.2.2.2.2.1⟩
 have e1:(if T<(t,b,n,kd,nd,o,s,v).1 then (t,b,n,kd,nd,o,s,v).1 else T)=T':=hT'.symm
 rw [e1]
 clear e1 hT' hUp O1 hbU hs hE hB h hsx hby hrf hir hbr hcw
 unfold ar
 dsimp only
 go_enter func73,ntmps73
 go_wp2_with fail
 rw [<-hU,<-hP]
 clear hU hP
 refine aM (S:=(fun w'=>OpBlk w' P (t,b,n,kd,nd,o,s,v))) zk H0.o.2.1 (fun hHeld=> ?_)
 refine tk 0 hHeld ?_ (hy:=Or.inl ⟨zt,zD⟩)
 refine tk 1 hHeld ?_ (hy:=Or.inl ⟨zt,zD⟩)
 refine tk 2 hHeld ?_ (hy:=Or.inl ⟨zt,zD⟩)
 refine tk 3 hHeld ?_ (hy:=Or.inl ⟨zt,zD⟩)
 refine tk 4 hHeld ?_ (hy:=Or.inl ⟨zt,zD⟩)
 refine aZ (i:=5) zk rfl (fun K hK=> ?_)
 go_simp
 refine hck.mono ?_
 clear hck
 rintro e w1 ⟨⟨u,rfl⟩,W,hbW,hh⟩
 have H1:Aside (RepPart w1 c br T' by_ kv bt bx bc R A/\OpBlk w1 P (t,b,n,kd,nd,o,s,v)/\Acts w c w1 c/\P<w1.heap.size/\w.heap.size<=w1.heap.size):=by
  obtain ⟨a1,a2⟩:=(H0.o.1.later (jN _ _).drew).heard hbW hh
  have hPU:P<U.heap.size:=H0.o.2.1.lt
  have a3:OpBlk w1 P (t,b,n,kd,nd,o,s,v):=(a2.block P hPU (fun e=>by have:=H0.o.2.2.2.2.2.2.2.1;omega)).trans H0.o.2.1
  refine ⟨by rw [HT.o];exact a1,a3,⟨((aV H0.o.2.2.1).mono (fun k hk e=>absurd hk zj)).then (dj a2) (fun k hk e=>by have e':k=br:=e;rw [e',H0.o.1.hue];decide),fun _ _=>rfl⟩,a3.lt,jM H0.o.2.2.1.size a2.size⟩
 refine hK _ _ H1.o.2.1 ?_
 clear hK K hh hbW
 refine qn ?_
 refine wpAnyH_done zk ?_ _
 have hP1:=H1.o.2.2.2.1
 have EV:Aside (EnvE B ad w1):=H0.o.2.2.2.2.1.mono (H1.o.2.2.1.keeps.below H0.o.2.2.2.2.1.size (fun k e=>H0.o.2.2.2.2.2.1 k e))
 obtain ⟨y0,y1,y2,y3,y4,y5,y6,y7,f8⟩:=H1.o.2.1.cells
 dsimp only at y0 y1 y2 y3 y4 y5 y6 y7
 have hkinds:=HX.o.2.2.2
 rcases hkinds with rfl | rfl | rfl | rfl
 ·have hstep:=H0.o.2.2.2.2.2.2.1
  have hcall:=Dg (t,b,n,109,nd,o,s,v) w1.drew hstep.ok
  unfold ar at hcall
  dsimp only at hcall
  obtain ⟨dq,hdq⟩:=za ((nd==idO (t,b,n,109,nd,o,s,v)))
  have HDQ:Aside (dq=(nd==idO (t,b,n,109,nd,o,s,v))):=hdq
  obtain ⟨idx,hidx⟩:=za (idO (t,b,n,109,nd,o,s,v))
  rw [<-hidx] at hcall hdq
  have hdq':(nd==idx)=dq:=hdq.symm
  clear hdq hidx
  go_wp2_with fail
  refine aM (S:=(fun w'=>OpBlk w' P (t,b,n,109,nd,o,s,v)/\RepCell w' br T' by_ kv bt bx bc/\w'.heap[bx]? =w1.heap[bx]?)) zk ⟨H1.o.2.1,H1.o.1.cell,rfl⟩ (fun hHeld=> ?_)
  refine tk 0 hHeld ?_
  refine tk 1 hHeld ?_ (hy:=Or.inl ⟨zt,zR⟩)
  refine tk 2 hHeld ?_ (hy:=Or.inl ⟨zt,zA⟩)
  refine aZ (i:=3) zk rfl (fun K hK=> ?_)
  go_simp
  refine hcall.mono ?_
  clear hcall
  rintro e w2 ⟨rfl,hb2⟩
  have hbX:Below w1.heap.size w1 w2:=kM hb2
  have hbl:bx<w1.heap.size:=by
   obtain ⟨nx,tx,_,q2,_⟩:=H1.o.1.text
   exact q2.lt
  have hS2:OpBlk w2 P (t,b,n,109,nd,o,s,v)/\RepCell w2 br T' by_ kv bt bx bc/\w2.heap[bx]? =w1.heap[bx]? :=⟨H1.o.2.1.later hbX,H1.o.1.cell.same (hbX.block _ H1.o.1.cell.lt),hbX.block _ hbl⟩
  refine hK _ _ hS2 ?_
  clear hK K
  refine qn ?_
  refine aZ (i:=4) zk rfl (fun K hK=> ?_)
  go_simp
  refine hK _ _ hS2 ?_
  clear hK K
  refine qn ?_
  refine wpAnyH_done zk ?_ _
  have H2:Aside (RepPart w2 c br T' by_ kv bt bx bc R A/\OpBlk w2 P (t,b,n,109,nd,o,s,v)/\Acts w c w2 c/\EnvE B ad w2):=⟨H1.o.1.later hbX,hS2.1,H1.o.2.2.1.trans (Acts.of_below c hbX),EV.o.later hbX⟩
  have hP2:=H2.o.2.1.lt
  clear y0 y1 y2 y3 y4 y5 y6 y7 f8 hHeld hS2 hbl hb2
  cases dq with
  | false=>
   have hnid:nd≠idO (t,b,n,109,nd,o,s,v):=fun e=>by
    have:=HDQ.o
    rw [<-e] at this
    simp at this
   have GX:Aside (RepCell w2 br T' by_ kv bt bx bc/\OpBlk w2 P (t,b,n,109,nd,o,s,v)/\c br=1/\RowsAt w2 (c) kv R/\TextC w2 (c) bx ((t,b,n,109,nd,o,s,v)::A)/\CellC w2 (c) bc A/\Acts w c w2 (c)/\(∀k,c k≠0->B<=k)/\c P=0):=⟨H2.o.1.cell,H2.o.2.1,H2.o.1.hue,H2.o.1.rows,H2.o.1.text.skip ⟨by show (109:Nat)≠105;decide,by show (109:Nat)≠100;decide⟩ (fun q=>hnid q.2),H2.o.1.marks,H2.o.2.2.1,H0.o.2.2.2.2.2.1,H0.o.2.2.2.2.2.2.2.2⟩
   have EX:Aside (EnvE B ad w2):=H2.o.2.2.2
   obtain ⟨bm,vt,ms,tr1,tr2,tr3,tr4,tr5⟩:=H2.o.1.tree
   have hcall:=nc Ft w2.drew 0 bt bm vt ms t b n nd o s v (EX.o.later (jN _ w2).drew).op4 (tr1.later (jN _ w2).drew) (jX _) yU HX.o.1 HX.o.2.1 hstep.ok (wF hstep tr2)
   go_wp2_with fail
   refine aM (S:=(fun w'=>OpBlk w' P (t,b,n,109,nd,o,s,v)/\RepCell w' br T' by_ kv bt bx bc)) zk ⟨GX.o.2.1,GX.o.1⟩ (fun hHeld=> ?_)
   refine tk 0 hHeld ?_
   refine tk 1 hHeld ?_
   refine tk 2 hHeld ?_
   refine tk 3 hHeld ?_ (hy:=Or.inl ⟨zt,qw⟩)
   refine tk 4 hHeld ?_ (hy:=Or.inl ⟨zt,zA⟩)
   refine aZ (i:=5) zk rfl (fun K hK=> ?_)
   go_simp
   refine hcall.mono ?_
   clear hcall
   rintro e w4 ⟨rfl,vt',ms',q1,q2,q3,q4⟩
   have HS:Aside (AppOk B w c br by_ kv bt bx bc R ((t,b,n,109,nd,o,s,v)::A) T' w4):=gz (c1:=c) GX.o.1 GX.o.2.2.1 GX.o.2.2.2.1 GX.o.2.2.2.2.1 GX.o.2.2.2.2.2.1 rfl tr1 tr2 ⟨tr3,tr4,tr5⟩ q1 q2 (dj q3) q4 GX.o.2.2.2.2.2.2.1 GX.o.2.2.2.2.2.2.2.1 H0.o.2.2.2.2.1.size
   have hne:∀k,c k=0\/c k=1->¬(k=bt\/k=bm\/some k=vt.ownBlock):=fun k e e'=>by
    have:c k=2:=by
     rcases e' with q | q | q
     ·rw [q];exact tr3
     ·rw [q];exact tr4
     exact tr5 k q.symm
    omega
   exact kd9
  | true=>
   have hnid:nd=idO (t,b,n,109,nd,o,s,v):=by
    have:=HDQ.o
    simpa using this.symm
   obtain ⟨nx,tx,t1,t2,t3,t4,t5⟩:=H2.o.1.text
   have hwf:Wf nd:=oI HX.o.2.2.1.1 HX.o.2.2.1.2
   have hbA:Below w2.heap.size w2 (w2.alloc (.cells #[.slice none 0 0] 280)).drew:=(zh w2 _).drew
   obtain ⟨w3,hrun,hM3,hT3⟩:=(t2.same (hbA.block bx t2.lt)).store zu hwf w2.heap.size
   have K3:=aP hT3.grown
   have hk23:Keeps (fun k=>k=bx) w2 w3:=((aV hbA).mono (fun k hk e=>absurd hk zj)).then K3 (fun k hk e=>ym)
   have hline:w3.heap[w2.heap.size]? =some (.cells #[.slice none 0 0] 280 (0,0)):=by
    rw [K3.block _ (by show w2.heap.size<(w2.alloc _).heap.size;rw [vL];exact Nat.lt_succ_self _) (fun e=>by have:=t2.lt;simp at e;omega)]
    exact heap_alloc_new w2 _
   have hnew:=rJ (w2:=w3) (p:=w2.heap.size) (nx:=nx) (tx:=tx) H2.o.1 hstep rfl hnid t1 hM3 t3 t4 t5 t2.lt hline zg hk23
   obtain ⟨c2,hc2⟩:=za (dR c w2 w3 (cQ (aG (t,b,n,109,nd,o,s,v))))
   rw [<-hc2] at hnew
   have hP3:OpBlk w3 P (t,b,n,109,nd,o,s,v):=(hk23.block P hP2 (fun e=>by have:=H0.o.2.2.2.2.2.2.2.2;rw [e,t3] at this;omega)).trans H2.o.2.1
   have GX:Aside (RepCell w3 br T' by_ kv bt bx bc/\OpBlk w3 P (t,b,n,109,nd,o,s,v)/\c2 br=1/\RowsAt w3 (c2) kv R/\TextC w3 (c2) bx ((t,b,n,109,nd,o,s,v)::A)/\CellC w3 (c2) bc A/\Acts w c w3 (c2)/\(∀k,c2 k≠0->B<=k)/\c2 P=0):=by
    refine ⟨hnew.1,hP3,hnew.2.1,hnew.2.2.1,hnew.2.2.2.2.1,hnew.2.2.2.2.2,H2.o.2.2.1.trans ⟨hk23.mono (fun k hk e=>by rw [e,t3];decide),fun k hk=>by rw [hc2];exact aq hk⟩,fun k e=> ?_,by rw [hc2,aq hP2];exact H0.o.2.2.2.2.2.2.2.2⟩
    by_cases hkl:k<w2.heap.size
    ·rw [hc2,aq hkl] at e;exact H0.o.2.2.2.2.2.1 k e
    have:=H2.o.2.2.2.size;omega
   have EX:Aside (EnvE B ad w3):=H2.o.2.2.2.mono (hk23.below H2.o.2.2.2.size (fun k e=>H0.o.2.2.2.2.2.1 k (by rw [e,t3];decide)))
   obtain ⟨bm,vt,ms,tr1,tr2,tr3,tr4,tr5⟩:=hnew.2.2.2.1
   unfold kZ at hrun
   simp only [uo] at hrun
   have hSA:OpBlk (w2.alloc (.cells #[.slice none 0 0] 280)).drew P (t,b,n,109,nd,o,s,v)/\RepCell (w2.alloc (.cells #[.slice none 0 0] 280)).drew br T' by_ kv bt bx bc:=⟨H2.o.2.1.later hbA,H2.o.1.cell.same (hbA.block _ H2.o.1.cell.lt)⟩
   clear hnew hM3 hT3 K3 hline hP3 hc2 hk23 t1 t2 t3 t4 t5 hbA hnid
   go_wp2_with fail
   refine bJ (S:=(fun w'=>OpBlk w' P (t,b,n,109,nd,o,s,v)/\RepCell w' br T' by_ kv bt bx bc)) (z:=7) zk ⟨H2.o.2.1,H2.o.1.cell⟩ (fun hHeld=> ?_)
   refine aW (i:=0) (v:= ?val0) zo rfl zk zk zk (fun _ _ _ h=>h) (Or.inl ⟨zt,?hyl0⟩) hHeld ?restl0
   case hyl0=>(intro w' _;go_simp;try with_reducible rfl)
   refine qn ?_
   refine aW (i:=1) (v:= ?val1) zo rfl zk zk zk (fun _ _ _ h=>h) (Or.inl ⟨zt,?hyl1⟩) hHeld ?restl1
   case hyl1=>(intro w' _;go_simp;try with_reducible rfl)
   refine qn ?_
   refine aW (i:=2) (v:= ?val2) zo rfl zk zk zk (fun _ _ _ h=>h) (Or.inl ⟨zt,?hyl2⟩) hHeld ?restl2
   case hyl2=>(intro w' _;go_simp;try with_reducible rfl)
   refine qn ?_
   refine ay (i:=3) (v:= ?val3) zo zk rfl zk zk zk zk (fun _ _ _ h=>h) (Or.inl ⟨zt,?hyl3⟩) hHeld ?restl3
   case hyl3=>(intro w' hSw;have r7:=hSw.2.c7;clear hSw;go_simp;try with_reducible rfl)
   refine qn ?_
   refine aW (i:=4) (v:= ?val4) zo rfl zk zk zk (fun _ _ _ h=>h) (Or.inl ⟨zt,?hyl4⟩) hHeld ?restl4
   case hyl4=>(intro w' _;go_simp;try with_reducible rfl)
   refine qn ?_
   refine ay (i:=5) (v:= ?val5) zo zk rfl zk zk zk zk (fun _ _ _ h=>h) (Or.inl ⟨zt,?hyl5⟩) hHeld ?restl5
   case hyl5=>(intro w' hSw;have j4:=(OpBlk.cells hSw.1).2.2.2.2.1;dsimp only at j4;clear hSw;go_simp;try with_reducible rfl)
   refine qn ?_
   refine aI (i:=6) zk rfl (fun K hK=> ?_)
   go_simp
   refine (KG _).mono ?_
   rintro e w' ⟨rfl,rfl⟩
   refine hK _ _ (.inl hSA) ?_
   clear hK K
   refine qn ?_
   refine aI (i:=7) zk rfl (fun K hK=> ?_)
   go_simp
   refine hK _ _ (.inr ⟨rfl,zo⟩) ?_
   clear hK K hrun
   refine bI zk ?_ _
   have hcall:=nc Ft w3.drew 0 bt bm vt ms t b n nd o s v (EX.o.later (jN _ w3).drew).op4 (tr1.later (jN _ w3).drew) (jX _) yU HX.o.1 HX.o.2.1 hstep.ok (wF hstep tr2)
   go_wp2_with fail
   refine aM (S:=(fun w'=>OpBlk w' P (t,b,n,109,nd,o,s,v)/\RepCell w' br T' by_ kv bt bx bc)) zk ⟨GX.o.2.1,GX.o.1⟩ (fun hHeld=> ?_)
   refine tk 0 hHeld ?_
   refine tk 1 hHeld ?_
   refine tk 2 hHeld ?_
   refine tk 3 hHeld ?_ (hy:=Or.inl ⟨zt,qw⟩)
   refine tk 4 hHeld ?_ (hy:=Or.inl ⟨zt,zA⟩)
   refine aZ (i:=5) zk rfl (fun K hK=> ?_)
   go_simp
   refine hcall.mono ?_
   clear hcall
   rintro e w4 ⟨rfl,vt',ms',q1,q2,q3,q4⟩
   have HS:Aside (AppOk B w c br by_ kv bt bx bc R ((t,b,n,109,nd,o,s,v)::A) T' w4):=gz (c1:=c2) GX.o.1 GX.o.2.2.1 GX.o.2.2.2.1 GX.o.2.2.2.2.1 GX.o.2.2.2.2.2.1 rfl tr1 tr2 ⟨tr3,tr4,tr5⟩ q1 q2 (dj q3) q4 GX.o.2.2.2.2.2.2.1 GX.o.2.2.2.2.2.2.2.1 H0.o.2.2.2.2.1.size
   have hne:∀k,c2 k=0\/c2 k=1->¬(k=bt\/k=bm\/some k=vt.ownBlock):=fun k e e'=>by
    have:c2 k=2:=by
     rcases e' with q | q | q
     ·rw [q];exact tr3
     ·rw [q];exact tr4
     exact tr5 k q.symm
    omega
   exact kd9
 ·obtain ⟨nx,tx,t1,t2,t3,t4,t5⟩:=H1.o.1.text
  have hA:∀x∈A,bY x=0:=fun x hx=>(H0.o.2.2.2.2.2.2.1.all x hx).1
  have hstep:=H0.o.2.2.2.2.2.2.1
  have hkn:KnownN A nd:=hstep.node (hstep.line (.inl rfl))
  obtain ⟨p,hp⟩:∃p,tx nd=some p:=uG.1 ((t4 nd).2 hkn)
  obtain ⟨vl,L,l1,l2,l3,l4⟩:=t5 nd p hp
  have hwf:Wf nd:=oI HX.o.2.2.1.1 HX.o.2.2.1.2
  have hLl:L.length<=250:=jM l2.len hlen
  have hln:=(⟨EV.o.op4.c1,EV.o.op4.c2,EV.o.c5,EV.o.c6⟩:Ln4 ad w1)
  have HL:Aside ((∀nd,(tx nd).isSome=true↔KnownN A nd)/\(∀nd p,tx nd=some p->LineC w1 c p nd A)/\LineIs A nd L/\(c p=cQ nd/\∀g,vl.ownBlock=some g->c g=cQ nd)/\(∀x∈A,bY x=0)/\StepOk A (t,b,n,105,nd,o,s,v)/\nx<=A.length/\c bx=3/\LineAt (p+1) w1 p vl L/\0<=nd):=⟨t4,t5,l2,⟨l3,l4⟩,hA,hstep,t1,t3,l1,by have:=fw hA hkn;omega⟩
  have hpl:=l1.lt
  have hbl:=t2.lt
  clear t1 t3 t4 t5 l2 l3 l4 hkn hA hstep
  obtain ⟨ch,hch⟩:=Fd HL.o.2.2.2.2.2.1.ok rfl
  have hch:v=⟨#[ch]⟩:=hch
  subst hch
  have hidx:∀w,(Instr.index 9 (.string ⟨#[ch]⟩) (.int .i64 0)).run prog w= .ok (.int .u8 (ch.toNat:Int)) w:=fun _=>zk
  go_wp2_with fail
  refine aM (S:=(fun w'=>OpBlk w' P (t,b,n,105,nd,o,s,⟨#[ch]⟩)/\RepCell w' br T' by_ kv bt bx bc/\w'.heap[bx]? =w1.heap[bx]?)) zk ⟨H1.o.2.1,H1.o.1.cell,rfl⟩ (fun hHeld=> ?_)
  refine tk 0 hHeld ?_
  refine tk 1 hHeld ?_
  refine tk 2 hHeld ?_
  refine tk 3 hHeld ?_ (hy:=Or.inl ⟨zt,qk⟩)
  refine tk 4 hHeld ?_
  refine tk 5 hHeld ?_ (hy:=Or.inl ⟨zt,zR⟩)
  refine tk 6 hHeld ?_ (hy:=Or.inl ⟨zt,yi⟩)
  refine tk 7 hHeld ?_ (hy:=Or.inl ⟨zt,zA⟩)
  refine tk 9 hHeld ?_
  refine tk 10 hHeld ?_ (hy:=Or.inl ⟨zt,yC⟩)
  refine tk 11 hHeld ?_
  refine tk 12 hHeld ?_ (hy:=Or.inl ⟨zt,by intro w' hSw;have j7:=(OpBlk.cells hSw.1).2.2.2.2.2.2.2.1;dsimp only at j7;clear hSw;go_simp;try with_reducible rfl⟩)
  refine tk 13 hHeld ?_
  refine aZ (i:=8) zk rfl (fun K hK=> ?_)
  go_simp
  have hcall:=Dg (t,b,n,105,nd,o,s,⟨#[ch]⟩) w1.drew HL.o.2.2.2.2.2.1.ok
  unfold ar at hcall
  dsimp only at hcall
  refine hcall.mono ?_
  clear hcall
  rintro e w2 ⟨rfl,hb2⟩
  have hbX:Below w1.heap.size w1 w2:=kM hb2
  refine hK _ _ ⟨H1.o.2.1.later hbX,H1.o.1.cell.same (hbX.block _ H1.o.1.cell.lt),hbX.block _ hbl⟩ ?_
  clear hK K
  refine qn ?_
  refine aZ (i:=14) zk rfl (fun K hK=> ?_)
  go_simp
  have hst:=HL.o.2.2.2.2.2.1
  have hidr:=lX hst.ok
  have hrf:=fZ hst.ok
  have hnew:idO (t,b,n,105,nd,o,s,⟨#[ch]⟩)∉L.map (·.1):=fun q=>by
   obtain ⟨x,hx,_,_,q⟩:=HL.o.2.2.1.mem.1 q
   exact hst.idnew x hx q
  have ho0:0<=o:=hrf.2.2.2.1
  have hol:o<idO (t,b,n,105,nd,o,s,⟨#[ch]⟩):=hrf.2.1
  have hoth:o=0\/o∈L.map (·.1):=by
   by_cases e:o=0
   ·exact .inl e
   exact .inr (HL.o.2.2.1.mem.2 (hst.letter (.inl ⟨rfl,by show 0<o;omega⟩)))
  have hcall:=CJ w2 (p+1) p vl L (idO (t,b,n,105,nd,o,s,⟨#[ch]⟩)) o ch.toNat (hln.later hbX) (l1.later hbX) (by have:=hbX.size;omega) zj zj (UInt8.toNat_lt ch)
  have hz0:rz (idO (t,b,n,105,nd,o,s,⟨#[ch]⟩)) o L=0:=by
   unfold rz
   rw [if_pos ⟨hidr.1,hidr.2,ho0,hol⟩,if_neg hnew,if_pos hoth]
  have hz1:Om (idO (t,b,n,105,nd,o,s,⟨#[ch]⟩)) o ch.toNat L=put o (idO (t,b,n,105,nd,o,s,⟨#[ch]⟩),ch.toNat,false) L:=if_pos hz0
  rw [hz1] at hcall
  refine hcall.mono ?_
  clear hcall
  rintro e w3 ⟨rfl,hact⟩
  have hM:LineIs ((t,b,n,105,nd,o,s,⟨#[ch]⟩)::A) nd (put o (idO (t,b,n,105,nd,o,s,⟨#[ch]⟩),ch.toNat,false) L):=by
   have:=HL.o.2.2.1.ins (x:=(t,b,n,105,nd,o,s,⟨#[ch]⟩)) rfl rfl hnew (by have:=hidr.1;omega) hoth (hst.ungone nd)
   exact this
  have HS:Aside (AppOk B w c br by_ kv bt bx bc R ((t,b,n,105,nd,o,s,⟨#[ch]⟩)::A) T' w3):=gv H1.o.1 HL.o.2.2.2.2.1 (.inl rfl) HL.o.2.2.2.2.2.2.1 t2 HL.o.2.2.2.2.2.2.2.1 HL.o.1 HL.o.2.1 hp HL.o.2.2.2.2.2.2.2.2.1 HL.o.2.2.2.1 (fu hbX hact) hM H1.o.2.2.1 H0.o.2.2.2.2.2.1 H0.o.2.2.2.2.1.size
  exact kb4
 ·obtain ⟨nx,tx,t1,t2,t3,t4,t5⟩:=H1.o.1.text
  have hA:∀x∈A,bY x=0:=fun x hx=>(H0.o.2.2.2.2.2.2.1.all x hx).1
  have hstep:=H0.o.2.2.2.2.2.2.1
  have hkn:KnownN A nd:=hstep.node (hstep.line (.inr (.inl rfl)))
  obtain ⟨p,hp⟩:∃p,tx nd=some p:=uG.1 ((t4 nd).2 hkn)
  obtain ⟨vl,L,l1,l2,l3,l4⟩:=t5 nd p hp
  have hwf:Wf nd:=oI HX.o.2.2.1.1 HX.o.2.2.1.2
  have hLl:L.length<=250:=jM l2.len hlen
  have hln:=(⟨EV.o.op4.c1,EV.o.op4.c2,EV.o.c5,EV.o.c6⟩:Ln4 ad w1)
  have HL:Aside ((∀nd,(tx nd).isSome=true↔KnownN A nd)/\(∀nd p,tx nd=some p->LineC w1 c p nd A)/\LineIs A nd L/\(c p=cQ nd/\∀g,vl.ownBlock=some g->c g=cQ nd)/\(∀x∈A,bY x=0)/\StepOk A (t,b,n,100,nd,o,s,v)/\nx<=A.length/\c bx=3/\LineAt (p+1) w1 p vl L/\0<=nd):=⟨t4,t5,l2,⟨l3,l4⟩,hA,hstep,t1,t3,l1,by have:=fw hA hkn;omega⟩
  have hpl:=l1.lt
  have hbl:=t2.lt
  clear t1 t3 t4 t5 l2 l3 l4 hkn hA hstep
  have hlnd:Ln4 ad w1.drew:=⟨hln.1,hln.2,hln.3,hln.4⟩
  go_wp2_with fail
  refine aM (S:=(fun w'=>OpBlk w' P (t,b,n,100,nd,o,s,v)/\RepCell w' br T' by_ kv bt bx bc/\w'.heap[bx]? =w1.heap[bx]?)) zk ⟨H1.o.2.1,H1.o.1.cell,rfl⟩ (fun hHeld=> ?_)
  refine tk 0 hHeld ?_
  refine tk 1 hHeld ?_
  refine tk 2 hHeld ?_
  refine tk 3 hHeld ?_ (hy:=Or.inl ⟨zt,qk⟩)
  refine tk 4 hHeld ?_
  refine tk 5 hHeld ?_ (hy:=Or.inl ⟨zt,zR⟩)
  refine tk 6 hHeld ?_ (hy:=Or.inl ⟨zt,yi⟩)
  refine tk 7 hHeld ?_
  refine tk 8 hHeld ?_ (hy:=Or.inl ⟨zt,yC⟩)
  refine aZ (i:=9) zk rfl (fun K hK=> ?_)
  go_simp
  have hcall:=Bz w1.drew (p+1) p vl L o hlnd (l1.later (jN _ w1).drew) zj
  refine hcall.mono ?_
  clear hcall
  rintro e w3 ⟨rfl,hact⟩
  have hbX:Below w1.heap.size w1 w1.drew:=(jN _ w1).drew
  have hM:LineIs ((t,b,n,100,nd,o,s,v)::A) nd (Nc o L):=by
   have hlet:o∈L.map (·.1):=HL.o.2.2.1.mem.2 (HL.o.2.2.2.2.2.1.letter (.inr rfl))
   obtain ⟨i,hi⟩:=fT hlet
   unfold Nc
   rw [hi]
   exact HL.o.2.2.1.del (x:=(t,b,n,100,nd,o,s,v)) rfl rfl hi
  have HS:Aside (AppOk B w c br by_ kv bt bx bc R ((t,b,n,100,nd,o,s,v)::A) T' w3):=gv H1.o.1 HL.o.2.2.2.2.1 (.inr rfl) HL.o.2.2.2.2.2.2.1 t2 HL.o.2.2.2.2.2.2.2.1 HL.o.1 HL.o.2.1 hp HL.o.2.2.2.2.2.2.2.2.1 HL.o.2.2.2.1 (fu hbX hact) hM H1.o.2.2.1 H0.o.2.2.2.2.2.1 H0.o.2.2.2.2.1.size
  exact kb4
 go_wp2_with fail
 refine aM (S:=(fun w'=>OpBlk w' P (t,b,n,115,nd,o,s,v)/\RepCell w' br T' by_ kv bt bx bc/\w'.heap[bx]? =w1.heap[bx]?)) zk ⟨H1.o.2.1,H1.o.1.cell,rfl⟩ (fun hHeld=> ?_)
 refine tk 0 hHeld ?_
 refine tk 1 hHeld ?_
 refine tk 2 hHeld ?_
 refine tk 3 hHeld ?_ (hy:=Or.inl ⟨zt,by intro w' hSw;have r8:=hSw.2.1.c8;clear hSw;go_simp;try with_reducible rfl⟩)
 refine tk 4 hHeld ?_ (hy:=Or.inl ⟨zt,zA⟩)
 refine aZ (i:=5) zk rfl (fun K hK=> ?_)
 go_simp
 obtain ⟨cm,A',m1,m2,m3,m4⟩:=H1.o.1.marks
 have hcall:=Im w1.drew bc cm A.length (fA A') t b n 115 nd o s v (EV.o.later (jN _ w1).drew).op4 (m1.later (jN _ w1).drew) zj HX.o.1 HX.o.2.1
 refine hcall.mono ?_
 clear hcall
 rintro e w2 ⟨rfl,hset⟩
 have HS:Aside (AppOk B w c br by_ kv bt bx bc R ((t,b,n,115,nd,o,s,v)::A) T' w2):=rr H1.o.1 rfl m2 ⟨m3,m4⟩ ⟨hset.1,dj hset.2⟩ H1.o.2.2.1 H0.o.2.2.2.2.2.1 H0.o.2.2.2.2.1.size
 have hcm:∀k,c k=0\/c k=1\/c k=3->k≠cm:=fun k e e'=>by rw [e',m4] at e;omega
 have hbx3:c bx=3/\bx<w1.heap.size:=by
  obtain ⟨nx,tx,_,q2,q3,_⟩:=H1.o.1.text
  exact ⟨q3,q2.lt⟩
 refine hK _ _ ⟨?_,?_,?_⟩ ?_
 ·exact (hset.2.block P hP1 (hcm P (.inl H0.o.2.2.2.2.2.2.2.2))).trans H1.o.2.1
 ·exact H1.o.1.cell.same (hset.2.block br H1.o.1.cell.lt (hcm br (.inr (.inl H1.o.1.hue))))
 ·exact hset.2.block bx hbx3.2 (hcm bx (.inr (.inr hbx3.1)))
 clear hK K
 refine qn ?_
 refine wpAnyH_done zk ?_ _
 go_wp2
 go_end0
 exact ⟨⟨_,rfl⟩,HS.o⟩
end
section
open Go.Shelf Go.RowKit Go.Lib Go.Sort
def Mq:Ren:=⟨fun | 20=>256 | n=>n,fun | 0=>0 | 3=>3 | 4=>4 | 22=>25 | 24=>61 | 25=>228 | n=>n,fun n=>n⟩
theorem IT:SlLaysF0.n20 prog Mq where
 mixed:=zk
 f20:=⟨ "slices.insertionSortCmpFunc[concordat/api.Op]",zk,func256.trans (congrArg some zk)⟩
 t0:=underlying0
 a0:=isAgg0
 z0:=sizeOf0
 v0:=zeroValue0
 t3:=underlying3
 a3:=isAgg3
 z3:=sizeOf3
 v3:=zeroValue3
 t4:=underlying4
 a4:=isAgg4
 z4:=sizeOf4
 v4:=zeroValue4
 t22:=underlying25
 a22:=isAgg25
 z22:=sizeOf25
 v22:=zeroValue25
 t25:=underlying228
 a25:=isAgg228
 z25:=sizeOf228
 v25:=zeroValue228
theorem Mp {off:Nat} (R:RowK lR 8 w0 blk off d0) (cap a b:Nat) (d:Array (OpX×Nat)) (w:World) (hs:d0.size=d.size) (S:SWK lR 8 w0 blk off d w) (hab:a<=b) (hb:b<=d.size) (hsz:d.size<4611686018427387904) (ht:∀p q,a<=p->p<q->q<b->d[p]!.2<d[q]!.2):
  Bo prog ltX 8 lR 133 w0 blk off cap a b d w:=by
 have I:=BI GU d a b hab hb ht
 rw [<-FI] at I
 unfold Bo
 refine (AnyQ.insertionSortCmpFunc IT 8 isAgg61 sizeOf61 lR R.hk R.h1 Jh 133 #[] blk off cap a b d w Jj (Aq blk off d.size w) (S.holds R.hblk R.hH hs.symm) (S.lt R.hblk) hab hb hsz).mono ?_
 rintro e w' ⟨rfl,n,os,rfl⟩
 exact ⟨rfl,_,I,S.on R.hblk n _ os I.1.1⟩
theorem GV {off:Nat} (R:RowK lR 8 w0 blk off d0):LJ prog ltX 8 lR Jh 133 w0 blk off d0:=
 ⟨Aw,func337,func307,func257,R,Eh,GU,Jj,Aq blk off d0.size w0⟩
theorem gP (w:World) (blk off cap:Nat) (d:Array (OpX×Nat)) (R:RowK lR 8 w blk off d) (ht:∀p,p<d.size->d[p]!.2=p) (hsz:d.size<1152921504606846976):
  Calls prog 132 #[.slice (some ⟨blk,off,none⟩) d.size cap,.func (.func 133) #[] #[]] w fun e w'=>e= .returned (.tuple #[])/\∃d',(PermIn 0 d.size d d'/\SortedIn (slt ltX) 0 d.size d')/\SWK lR 8 w blk off d' w':=by
 have eS:∀args w,(callFunc 197 args).run prog w= .ok (.enter 197 args) w:=enters_of func197 zk rfl
 have eI:∀args w,(callFunc 256 args).run prog w= .ok (.enter 256 args) w:=enters_of func256 zk rfl
 have C:=tc (GV R) cap d w func197 eI (Mp R cap) rfl (SWK.start R.hH) ht hsz
 have CA:Aside _:=C
 clear C eI ht
 go_enter func132,ntmps132
 go_wp2_with fail
 refine Calls.mono CA.o ?_
 rintro e w' ⟨rfl,d',hd,S⟩
 have S2:Aside (SWK lR 8 w blk off d' w'):=S
 have H2:Aside (PermIn 0 d.size d d'/\SortedIn (slt ltX) 0 d.size d'):=hd
 clear S hd CA
 go_wp2
 go_end0
 exact ⟨rfl,d',H2.o,S2.o⟩
end
section
open Go.Shelf Go.RowKit Go.Lib Go.Sort
def Hr:Ren:=⟨fun | 41=>120 | n=>n,fun | 4=>4 | 22=>25 | 23=>61 | n=>n,fun n=>n⟩
theorem nW:SlLaysE0.n41 prog Hr where
 mixed:=zk
 f41:=⟨ "slices.Clone[[]concordat/api.Op,concordat/api.Op]",zk,func120.trans (congrArg some zk)⟩
 t4:=underlying4
 a4:=isAgg4
 z4:=sizeOf4
 v4:=zeroValue4
 t22:=underlying25
 a22:=isAgg25
 z22:=sizeOf25
 v22:=zeroValue25
theorem nT (w:World) (b off c:Nat) (xs:List OpX) (hn:xs.length<=1000) (hc:∀j u,(cellsOf xs)[j]? =some u->w.cell? ⟨b,off+j,none⟩=some u):
  Calls prog 120 #[.slice (some ⟨b,off,none⟩) xs.length c] w fun e w'=>∃v',e= .returned v'/\w'.ownsRow w.heap.size 61 8 v' xs.length (cellsOf xs)/\v'≠ .slice none 0 0/\Below w.heap.size w w':=by
 obtain ⟨i0,hi,hz0,hz1,hz2⟩:=info_parts fV
 exact AnyE.slices_Clone nW i0 _ 8 80 hi hz0 hz1 hz2 rfl zj sizeOf61 b off xs.length c (cellsOf xs) w (bR xs) zu zj hc (sm xs)
theorem pt (w:World):Calls prog 120 #[.slice none 0 0] w fun e w'=>e= .returned (.slice none 0 0)/\w'=w:=
 AnyE.slices_Clone_nil nW 0 0 w
def dH (xs:List OpX):Array (OpX×Nat):=xs.zipIdx.toArray
theorem ac (xs:List OpX):(dH xs).size=xs.length:=by simp [dH]
theorem pd (xs:List OpX) (i:Nat) (hi:i<xs.length):(dH xs)[i]! =(xs[i]!,i):=by
 rw [getElem!_pos _ i (by rw [ac];exact hi),getElem!_pos xs i hi]
 simp [dH]
theorem Jv {base n cap:Nat} {xs:List OpX} (hn:n=xs.length) (h:w.ownsRow base 61 8 (.slice (some ⟨g,0,none⟩) n cap) n (cellsOf xs)):RowK lR 8 w g 0 (dH xs) where
 hk:=Iz
 h1:=Gf
 hblk:=(h.lt g rfl).2
 hH:=fun j hj=>by
  rw [size_flatK,ac] at hj
  have h1:j / 8<xs.length:=zj
  have h2:j / 8*8+j % 8=j:=zj
  refine ⟨?_,yD⟩
  rw [vh,h.cellAt j zj,get_flatK _ _ _ _ (by rw [ac];exact hj),pd xs _ h1]
  have:=bW xs (j / 8) (j % 8) h1 zj
  rw [h2] at this
  exact this
end
section
open Go.Shelf Go.RowKit Go.Lib Go.Sort
theorem below_grow {os:Array Obj} (h:Below B w0 w) (hB:B<=w.heap.size):Below B w0 (grow w os):=
 ⟨h.os,h.tape,h.output,by rw [Go.Sort.size_grow];exact jM h.size (Nat.le_add_right _ _),fun k hk=>by
  rw [<-h.block k hk]
  simp only [grow]
  rw [Array.getElem?_append_left zj]⟩
theorem fE (h:Below B w0 w) (hg:B<=g) (hB:B<=w.heap.size) (S:SWK lR 8 w g 0 d w'):Below B w0 w':=by
 obtain ⟨n,os,rfl⟩:=S
 unfold sortWorldK putRowK
 exact below_grow (below_putRow h hg) (by show B<=(putRow id _ g 0 _).heap.size;simpa [putRow,mapBlock,Sort.ahead] using hB)
theorem rs (R:RowK lR 8 w g 0 d) (hs:d'.size=d.size) (S:SWK lR 8 w g 0 d' w') (j:Nat) (u:Value) (hj:(cellsOf (d'.toList.map Prod.fst))[j]? =some u):w'.cell? ⟨g,0+j,none⟩=some u:=by
 have H:=S.holds R.hblk R.hH hs
 have hl:j<(cellsOf (d'.toList.map Prod.fst)).length:=(jI.1 hj).1
 rw [bR,vy,vN] at hl
 have h1:j / 8<d'.size:=zj
 have h2:j / 8*8+j % 8=j:=zj
 have c:=bW (d'.toList.map Prod.fst) (j / 8) (j % 8) xp zj
 rw [h2,hj] at c
 have H1:=(H j qm).1
 rw [get_flatK _ _ _ _ zj] at H1
 have e:lR d'[j / 8]! =cN (d'.toList.map Prod.fst)[j / 8]! :=by
  rw [getElem!_pos d' (j / 8) h1,getElem!_pos (d'.toList.map Prod.fst) (j / 8) xp]
  simp [lR]
 rw [H1,c,<-e]
 rfl
def ae (xs ys:List OpX):Prop:=∃d':Array (OpX×Nat),(PermIn 0 xs.length (dH xs) d'/\SortedIn (slt ltX) 0 xs.length d')/\ys=d'.toList.map Prod.fst
theorem MQ (fv:Value) (w:World):Calls prog 256 #[.slice none 0 0,.int .i64 0,.int .i64 0,fv] w fun e w'=>e= .returned (.tuple #[])/\w'=w:=by
 go_enter func256,ntmps256
 go_wp2
 refine wp_loop_rounds 1 ?_
 rw [rounds_succ]
 go_wp2
 go_end0
 exact ki0
theorem BC (g:Nat) (w:World):Calls prog 197 #[.slice none 0 0,.int .i64 0,.func (.func g) #[] #[]] w fun e w'=>e= .returned (.tuple #[])/\w'=w:=by
 go_enter func197,ntmps197
 go_wp2
 refine wp_loop_rounds 1 ?_
 rw [rounds_succ]
 go_wp2_with fail
 refine (MQ _ _).mono ?_
 rintro e w' ⟨rfl,rfl⟩
 go_wp2
 refine wp_loop_rounds 1 ?_
 rw [rounds_succ]
 go_wp2
 go_end0
 exact ki0
theorem gT (g:Nat) (w:World):Calls prog 132 #[.slice none 0 0,.func (.func g) #[] #[]] w fun e w'=>e= .returned (.tuple #[])/\w'=w:=by
 go_enter func132,ntmps132
 go_wp2_with fail
 refine (BC _ _).mono ?_
 rintro e w' ⟨rfl,rfl⟩
 go_wp2
 go_end0
 exact ki0
theorem nG (w:World) (v:Value) (xs:List OpX) (h:OpsAt w v xs) (hn:xs.length<=1000):
  Calls prog 72 #[v] w fun e w'=>∃v' ys,e= .returned v'/\OpsAt w' v' ys/\ae xs ys/\Below w.heap.size w w'/\∀g,v'.ownBlock=some g->w.heap.size<=g:=by
 rcases h with ⟨rfl,rfl⟩ | ⟨blk,off,cap,rfl,hc⟩
 ·go_enter func72,ntmps72
  go_wp2_with fail
  refine (pt _).mono ?_
  rintro e w' ⟨rfl,rfl⟩
  go_wp2_with fail
  refine (gT _ _).mono ?_
  rintro e w1 ⟨rfl,rfl⟩
  go_wp2
  go_ret
  exact ⟨_,[],rfl,.inl ⟨rfl,rfl⟩,⟨#[],⟨permIn_refl _ _ _,fun i j _ _ hj=>absurd hj zq⟩,rfl⟩,jN _ _,fun g hg=>qI⟩
 have HC:Aside (∀j u,(cellsOf xs)[j]? =some u->w.cell? ⟨blk,off+j,none⟩=some u):=hc
 clear hc
 go_enter func72,ntmps72
 go_wp2_with fail
 refine (nT w blk off cap xs hn HC.o).mono ?_
 clear HC
 rintro e w1 ⟨v1,rfl,hown,hnil,hb⟩
 obtain ⟨g,c1,rfl,hg⟩:∃g c1,v1= .slice (some ⟨g,0,none⟩) xs.length c1/\w.heap.size<=g:=by
  rcases hown.2 with ⟨h1,_⟩ | ⟨g,c1,cur,h1,h2,_⟩
  ·exact absurd h1 hnil
  exact ⟨g,c1,h1,h2⟩
 have R0:Aside (RowK lR 8 w1 g 0 (dH xs)):=Jv rfl hown
 have HB:Aside (Below w.heap.size w w1):=hb
 clear hown hnil hb
 go_wp2_with fail
 have C:=gP w1 g 0 c1 (dH xs) R0.o (fun p hp=>xa) (by rw [ac];omega)
 rw [ac] at C
 refine C.mono ?_
 clear C
 rintro e w2 ⟨rfl,d',hd,S⟩
 have hl:d'.size=xs.length:=by rw [hd.1.1,ac]
 have hl2:(d'.toList.map Prod.fst).length=xs.length:=xB
 have F:Aside (OpsAt w2 (.slice (some ⟨g,0,none⟩) xs.length c1) (d'.toList.map Prod.fst)/\ae xs (d'.toList.map Prod.fst)/\Below w.heap.size w w2):=
  ⟨.inr ⟨g,0,c1,by rw [hl2],fun j u hj=>rs R0.o xS S j u hj⟩,⟨d',hd,rfl⟩,fE HB.o hg HB.o.size S⟩
 clear hd S R0 HB hl hl2
 go_wp2
 go_ret
 exact ⟨_,_,rfl,F.o.1,F.o.2.1,F.o.2.2,fun g' hg'=>by cases hg';exact hg⟩
end
section
open Go.Shelf Go.RowKit Go.Lib Go.Sort
theorem sv (h:PermIn 0 d.size d d'):d.toList.Perm d'.toList:=by
 have h2:=h.2.2
 have e:d'.size=d.size:=h.1
 have e1:d'.toList.take d.size=d'.toList:=by rw [<-e,<-vN,ul]
 have e2:d.toList.take d.size=d.toList:=by rw [<-vN,ul]
 first
  | simpa using h2
  | (simp at h2;rw [e1] at h2;exact h2)
  | (simp at h2;rw [e1] at h2;exact h2.symm)
end
section
open Go.Shelf Go.RowKit Go.Lib Go.Sort
