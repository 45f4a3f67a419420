import Derived.Test.YtebpcnkdhgnghaaGreatDoorPM17
import Derived.Test.YtebpcnkdhgnghaaGreatDoorPM19
set_option linter.unusedSimpArgs false
set_option linter.unusedVariables false
set_option maxRecDepth 100000
set_option maxHeartbeats 64000000
namespace Go.Proofs.YtebpcnkdhgnghaaGreatDoor
open Go.Proofs.Tryz
variable {waits:Bool} {B:List UInt8} {d:Nat} {v:Value} {w w':World}
section
open Go.RowKit Go.Maps
open scoped Classical
theorem eQ {Sx:Nat->Prop} (h:Keeps Sx w.drew w'):Keeps Sx w w':=⟨h.os,h.tape,h.output,h.size,h.block⟩
theorem kH (h:Below w.drew.heap.size w.drew w'):Below w.heap.size w w':=⟨h.os,h.tape,h.output,h.size,h.block⟩
theorem ff {base:Nat} {W:World} {p:Nat} {M:List Ltr} (hb:Below w.heap.size w W) (h:ActOk base W p v M w'):ActOk base w p v M w':=by
 obtain ⟨v',q1,q2,q3⟩:=h
 exact ⟨v',q1,((aX hb).mono (fun k hk e=>absurd hk zj)).then q2 (fun _ _ e=>e),q3.imp id (fun q g hg=>vI hb.size (q g hg))⟩
theorem DL {x:OpX} (h:ai x=0) (hk:kdO x=105):∃ch:UInt8,x.2.2.2.2.2.2.2=⟨#[ch]⟩:=by
 have h0:=ar h
 unfold ai opE at h
 rw [if_pos ⟨h0.1,h0.2.1,h0.2.2.1,h0.2.2.2.1,h0.2.2.2.2.1,h0.2.2.2.2.2.1⟩] at h
 unfold fO at h
 have hk':x.2.2.2.1=105:=hk
 rw [hk',if_neg zr,if_pos rfl] at h
 unfold fE at h
 split at h
 ·cases h
 split at h
 ·cases h
 split at h
 ·cases h
 rename_i hv
 have hl:x.2.2.2.2.2.2.2.data.toList.length=1:=by
  rcases Nat.decEq x.2.2.2.2.2.2.2.data.toList.length 1 with q | q
  ·exact absurd (.inl q) hv
  exact q
 match hd:x.2.2.2.2.2.2.2 with
 | ⟨⟨l⟩⟩=>
  rw [hd] at hl
  match l,hl with
  | [ch],_=>exact ⟨ch,rfl⟩
theorem EY {B:Nat} {ad:Nat->Addr} (w:World) (c:Nat->Nat) (br:Nat) (T by_:Int) (kv:Nat->Value) (bt bx bc:Nat) (R:Rws) (A:List OpX) (x:OpX) (h:RepPart w c br T by_ kv bt bx bc R A) (hs:StepOk A x) (hE:EnvE B ad w) (hB:∀k,c k≠0->B<=k) (hcw:∀k,w.heap.size<=k->c k=0) (hlen:A.length<=250):
  Calls prog 73 #[.pointer (some ⟨br,0,none⟩),bT x] w fun e w'=>(∃u,e= .returned u)/\AppOk B w c br by_ kv bt bx bc R (x::A) (if T<x.1 then x.1 else T) w':=by
 have hsx:=ar hs.ok
 have hby:=iv hs.ok
 have hrf:=dK hs.ok
 have hir:=lZ hs.ok
 obtain ⟨t,b,n,kd,nd,o,s,v⟩:=x
 obtain ⟨P,hP⟩:=zc w.heap.size
 obtain ⟨U,hU⟩:=zc (w.alloc (.cells #[.int .i64 t,.int .i64 b,.int .i64 n,.int .u8 (kd:Int),.int .i64 nd,.int .i64 o,.string s,.string v] 61))
 have hbU:Below w.heap.size w U:=yA
 have O1:OpBlk U P (t,b,n,kd,nd,o,s,v):=by rw [hU,hP];exact OpBlk.new w (t,b,n,kd,nd,o,s,v)
 have hUp:=h.later hbU
 have hbr:br<P:=by rw [hP];exact h.cell.lt
 have hck:=EO br T by_ t b U.drew ⟨hUp.cell.c0,hUp.cell.c1,hUp.cell.fz 0⟩ hby.1 hby.2.1 hby.2.2.1 hby.2.2.2
 obtain ⟨T',hT'⟩:=zc ((if T<t then t else T))
 have HT:Aside (T'=(if T<t then t else T)):=hT'
 have H0:Aside (RepPart U c br T by_ kv bt bx bc R A/\OpBlk U P (t,b,n,kd,nd,o,s,v)/\Below w.heap.size w U/\P=w.heap.size/\EnvE B ad w/\(∀k,c k≠0->B<=k)/\StepOk A (t,b,n,kd,nd,o,s,v)/\br<P/\c P=0):=⟨hUp,O1,hbU,hP,hE,hB,hs,hbr,hcw P zj⟩
 have HX:Aside (s.size<=1000000/\v.size<=1000000/\(-2^63<=nd/\nd<2^63)/\(kd=109\/kd=105\/kd=100\/kd=115)):=by
  have a1:s.data.toList.length<=12:=hsx.2.2.2.2.2.2.2.2.2.2.2.2.1
  have a2:v.data.toList.length<=12:=hsx.2.2.2.2.2.2.2.2.2.2.2.2.2
  rw [bR] at a1 a2
  have a3:0<=nd:=hrf.2.2.1
  have a4:nd<=idO (t,b,n,kd,nd,o,s,v):=hrf.1.elim (fun q=>q.2) (fun q=>Int.le_of_lt q)
  exact ⟨zj,zj,⟨zj,zj⟩,hsx.2.2.2.2.2.2.1⟩
 have e1:(if T<(t,b,n,kd,nd,o,s,v).1 then (t,b,n,kd,nd,o,s,v).1 else T)=T':=hT'.symm
 rw [e1]
 clear e1 hT' hUp O1 hbU hs hE hB h hsx hby hrf hir hbr hcw
 unfold bT
 dsimp only
 go_enter func73,ntmps73
 go_wp2_with fail
 rw [<-hU,<-hP]
 clear hU hP
 refine aL (S:=(fun w'=>OpBlk w' P (t,b,n,kd,nd,o,s,v))) zo H0.o.2.1 (fun hHeld=> ?_)
 refine tk 0 hHeld ?_ (hy:=Or.inl ⟨zv,zF⟩)
 refine tk 1 hHeld ?_ (hy:=Or.inl ⟨zv,zF⟩)
 refine tk 2 hHeld ?_ (hy:=Or.inl ⟨zv,zF⟩)
 refine tk 3 hHeld ?_ (hy:=Or.inl ⟨zv,zF⟩)
 refine tk 4 hHeld ?_ (hy:=Or.inl ⟨zv,zF⟩)
 refine aW (i:=5) zo rfl (fun K hK=> ?_)
 go_simp
 refine hck.mono ?_
 clear hck
 rintro e w1 ⟨⟨u,rfl⟩,W,hbW,hh⟩
 have H1:Aside (RepPart w1 c br T' by_ kv bt bx bc R A/\OpBlk w1 P (t,b,n,kd,nd,o,s,v)/\Acts w c w1 c/\P<w1.heap.size/\w.heap.size<=w1.heap.size):=by
  obtain ⟨a1,a2⟩:=(H0.o.1.later (vG _ _).drew).heard hbW hh
  have hPU:P<U.heap.size:=H0.o.2.1.lt
  have a3:OpBlk w1 P (t,b,n,kd,nd,o,s,v):=(a2.block P hPU (fun e=>by have:=H0.o.2.2.2.2.2.2.2.1;omega)).trans H0.o.2.1
  refine ⟨by rw [HT.o];exact a1,a3,⟨((aX H0.o.2.2.1).mono (fun k hk e=>absurd hk zj)).then (eQ a2) (fun k hk e=>by have e':k=br:=e;rw [e',H0.o.1.hue];decide),fun _ _=>rfl⟩,a3.lt,vI H0.o.2.2.1.size a2.size⟩
 refine hK _ _ H1.o.2.1 ?_
 clear hK K hh hbW
 refine qn ?_
 refine wpAnyH_done zo ?_ _
 have hP1:=H1.o.2.2.2.1
 have EV:Aside (EnvE B ad w1):=H0.o.2.2.2.2.1.mono (H1.o.2.2.1.keeps.below H0.o.2.2.2.2.1.size (fun k e=>H0.o.2.2.2.2.2.1 k e))
 obtain ⟨y0,y1,y2,y3,y4,y5,y6,y7,f8⟩:=H1.o.2.1.cells
 dsimp only at y0 y1 y2 y3 y4 y5 y6 y7
 have hkinds:=HX.o.2.2.2
 rcases hkinds with rfl | rfl | rfl | rfl
 ·have hstep:=H0.o.2.2.2.2.2.2.1
  have hcall:=EH (t,b,n,109,nd,o,s,v) w1.drew hstep.ok
  unfold bT at hcall
  dsimp only at hcall
  obtain ⟨dq,hdq⟩:=zc ((nd==idO (t,b,n,109,nd,o,s,v)))
  have HDQ:Aside (dq=(nd==idO (t,b,n,109,nd,o,s,v))):=hdq
  obtain ⟨idx,hidx⟩:=zc (idO (t,b,n,109,nd,o,s,v))
  rw [<-hidx] at hcall hdq
  have hdq':(nd==idx)=dq:=hdq.symm
  clear hdq hidx
  go_wp2_with fail
  refine aL (S:=(fun w'=>OpBlk w' P (t,b,n,109,nd,o,s,v)/\RepCell w' br T' by_ kv bt bx bc/\w'.heap[bx]? =w1.heap[bx]?)) zo ⟨H1.o.2.1,H1.o.1.cell,rfl⟩ (fun hHeld=> ?_)
  refine tk 0 hHeld ?_
  refine tk 1 hHeld ?_ (hy:=Or.inl ⟨zv,zZ⟩)
  refine tk 2 hHeld ?_ (hy:=Or.inl ⟨zv,zD⟩)
  refine aW (i:=3) zo rfl (fun K hK=> ?_)
  go_simp
  refine hcall.mono ?_
  clear hcall
  rintro e w2 ⟨rfl,hb2⟩
  have hbX:Below w1.heap.size w1 w2:=kH hb2
  have hbl:bx<w1.heap.size:=by
   obtain ⟨nx,tx,_,q2,_⟩:=H1.o.1.text
   exact q2.lt
  have hS2:OpBlk w2 P (t,b,n,109,nd,o,s,v)/\RepCell w2 br T' by_ kv bt bx bc/\w2.heap[bx]? =w1.heap[bx]? :=⟨H1.o.2.1.later hbX,H1.o.1.cell.same (hbX.block _ H1.o.1.cell.lt),hbX.block _ hbl⟩
  refine hK _ _ hS2 ?_
  clear hK K
  refine qn ?_
  refine aW (i:=4) zo rfl (fun K hK=> ?_)
  go_simp
  refine hK _ _ hS2 ?_
  clear hK K
  refine qn ?_
  refine wpAnyH_done zo ?_ _
  have H2:Aside (RepPart w2 c br T' by_ kv bt bx bc R A/\OpBlk w2 P (t,b,n,109,nd,o,s,v)/\Acts w c w2 c/\EnvE B ad w2):=⟨H1.o.1.later hbX,hS2.1,H1.o.2.2.1.trans (Acts.of_below c hbX),EV.o.later hbX⟩
  have hP2:=H2.o.2.1.lt
  clear y0 y1 y2 y3 y4 y5 y6 y7 f8 hHeld hS2 hbl hb2
  cases dq with
  | false=>
   have hnid:nd≠idO (t,b,n,109,nd,o,s,v):=fun e=>by
    have:=HDQ.o
    rw [<-e] at this
    simp at this
   have GX:Aside (RepCell w2 br T' by_ kv bt bx bc/\OpBlk w2 P (t,b,n,109,nd,o,s,v)/\c br=1/\RowsAt w2 (c) kv R/\TextC w2 (c) bx ((t,b,n,109,nd,o,s,v)::A)/\CellC w2 (c) bc A/\Acts w c w2 (c)/\(∀k,c k≠0->B<=k)/\c P=0):=⟨H2.o.1.cell,H2.o.2.1,H2.o.1.hue,H2.o.1.rows,H2.o.1.text.skip ⟨by show (109:Nat)≠105;decide,by show (109:Nat)≠100;decide⟩ (fun q=>hnid q.2),H2.o.1.marks,H2.o.2.2.1,H0.o.2.2.2.2.2.1,H0.o.2.2.2.2.2.2.2.2⟩
   have EX:Aside (EnvE B ad w2):=H2.o.2.2.2
   obtain ⟨bm,vt,ms,tr1,tr2,tr3,tr4,tr5⟩:=H2.o.1.tree
   have hcall:=nU Ev w2.drew 0 bt bm vt ms t b n nd o s v (EX.o.later (vG _ w2).drew).op4 (tr1.later (vG _ w2).drew) (vM _) qx HX.o.1 HX.o.2.1 hstep.ok (AR hstep tr2)
   go_wp2_with fail
   refine aL (S:=(fun w'=>OpBlk w' P (t,b,n,109,nd,o,s,v)/\RepCell w' br T' by_ kv bt bx bc)) zo ⟨GX.o.2.1,GX.o.1⟩ (fun hHeld=> ?_)
   refine tk 0 hHeld ?_
   refine tk 1 hHeld ?_
   refine tk 2 hHeld ?_
   refine tk 3 hHeld ?_ (hy:=Or.inl ⟨zv,qV⟩)
   refine tk 4 hHeld ?_ (hy:=Or.inl ⟨zv,zD⟩)
   refine aW (i:=5) zo rfl (fun K hK=> ?_)
   go_simp
   refine hcall.mono ?_
   clear hcall
   rintro e w4 ⟨rfl,vt',ms',q1,q2,q3,q4⟩
   have HS:Aside (AppOk B w c br by_ kv bt bx bc R ((t,b,n,109,nd,o,s,v)::A) T' w4):=iI (c1:=c) GX.o.1 GX.o.2.2.1 GX.o.2.2.2.1 GX.o.2.2.2.2.1 GX.o.2.2.2.2.2.1 rfl tr1 tr2 ⟨tr3,tr4,tr5⟩ q1 q2 (eQ q3) q4 GX.o.2.2.2.2.2.2.1 GX.o.2.2.2.2.2.2.2.1 H0.o.2.2.2.2.1.size
   have hne:∀k,c k=0\/c k=1->¬(k=bt\/k=bm\/some k=vt.ownBlock):=fun k e e'=>by
    have:c k=2:=by
     rcases e' with q | q | q
     ·rw [q];exact tr3
     ·rw [q];exact tr4
     exact tr5 k q.symm
    omega
   exact ke4
  | true=>
   have hnid:nd=idO (t,b,n,109,nd,o,s,v):=by
    have:=HDQ.o
    simpa using this.symm
   obtain ⟨nx,tx,t1,t2,t3,t4,t5⟩:=H2.o.1.text
   have hwf:Wf nd:=wR HX.o.2.2.1.1 HX.o.2.2.1.2
   have hbA:Below w2.heap.size w2 (w2.alloc (.cells #[.slice none 0 0] 280)).drew:=(zh w2 _).drew
   obtain ⟨w3,hrun,hM3,hT3⟩:=(t2.same (hbA.block bx t2.lt)).store zA hwf w2.heap.size
   have K3:=aV hT3.grown
   have hk23:Keeps (fun k=>k=bx) w2 w3:=((aX hbA).mono (fun k hk e=>absurd hk zj)).then K3 (fun k hk e=>yu)
   have hline:w3.heap[w2.heap.size]? =some (.cells #[.slice none 0 0] 280 (0,0)):=by
    rw [K3.block _ (by show w2.heap.size<(w2.alloc _).heap.size;rw [uD];exact Nat.lt_succ_self _) (fun e=>by have:=t2.lt;simp at e;omega)]
    exact heap_alloc_new w2 _
   have hnew:=rm (w2:=w3) (p:=w2.heap.size) (nx:=nx) (tx:=tx) H2.o.1 hstep rfl hnid t1 hM3 t3 t4 t5 t2.lt hline zg hk23
   obtain ⟨c2,hc2⟩:=zc (dL c w2 w3 (cO (aM (t,b,n,109,nd,o,s,v))))
   rw [<-hc2] at hnew
   have hP3:OpBlk w3 P (t,b,n,109,nd,o,s,v):=(hk23.block P hP2 (fun e=>by have:=H0.o.2.2.2.2.2.2.2.2;rw [e,t3] at this;omega)).trans H2.o.2.1
   have GX:Aside (RepCell w3 br T' by_ kv bt bx bc/\OpBlk w3 P (t,b,n,109,nd,o,s,v)/\c2 br=1/\RowsAt w3 (c2) kv R/\TextC w3 (c2) bx ((t,b,n,109,nd,o,s,v)::A)/\CellC w3 (c2) bc A/\Acts w c w3 (c2)/\(∀k,c2 k≠0->B<=k)/\c2 P=0):=by
    refine ⟨hnew.1,hP3,hnew.2.1,hnew.2.2.1,hnew.2.2.2.2.1,hnew.2.2.2.2.2,H2.o.2.2.1.trans ⟨hk23.mono (fun k hk e=>by rw [e,t3];decide),fun k hk=>by rw [hc2];exact aq hk⟩,fun k e=> ?_,by rw [hc2,aq hP2];exact H0.o.2.2.2.2.2.2.2.2⟩
    by_cases hkl:k<w2.heap.size
    ·rw [hc2,aq hkl] at e;exact H0.o.2.2.2.2.2.1 k e
    have:=H2.o.2.2.2.size;omega
   have EX:Aside (EnvE B ad w3):=H2.o.2.2.2.mono (hk23.below H2.o.2.2.2.size (fun k e=>H0.o.2.2.2.2.2.1 k (by rw [e,t3];decide)))
   obtain ⟨bm,vt,ms,tr1,tr2,tr3,tr4,tr5⟩:=hnew.2.2.2.1
   unfold mZ at hrun
   simp only [Zu] at hrun
   have hSA:OpBlk (w2.alloc (.cells #[.slice none 0 0] 280)).drew P (t,b,n,109,nd,o,s,v)/\RepCell (w2.alloc (.cells #[.slice none 0 0] 280)).drew br T' by_ kv bt bx bc:=⟨H2.o.2.1.later hbA,H2.o.1.cell.same (hbA.block _ H2.o.1.cell.lt)⟩
   clear hnew hM3 hT3 K3 hline hP3 hc2 hk23 t1 t2 t3 t4 t5 hbA hnid
   go_wp2_with fail
   refine bv (S:=(fun w'=>OpBlk w' P (t,b,n,109,nd,o,s,v)/\RepCell w' br T' by_ kv bt bx bc)) (z:=7) zo ⟨H2.o.2.1,H2.o.1.cell⟩ (fun hHeld=> ?_)
   refine aY (i:=0) (v:= ?val0) zr rfl zo zo zo (fun _ _ _ h=>h) (Or.inl ⟨zv,?hyl0⟩) hHeld ?restl0
   case hyl0=>(intro w' _;go_simp;try with_reducible rfl)
   refine qn ?_
   refine aY (i:=1) (v:= ?val1) zr rfl zo zo zo (fun _ _ _ h=>h) (Or.inl ⟨zv,?hyl1⟩) hHeld ?restl1
   case hyl1=>(intro w' _;go_simp;try with_reducible rfl)
   refine qn ?_
   refine aY (i:=2) (v:= ?val2) zr rfl zo zo zo (fun _ _ _ h=>h) (Or.inl ⟨zv,?hyl2⟩) hHeld ?restl2
   case hyl2=>(intro w' _;go_simp;try with_reducible rfl)
   refine qn ?_
   refine aA (i:=3) (v:= ?val3) zr zo rfl zo zo zo zo (fun _ _ _ h=>h) (Or.inl ⟨zv,?hyl3⟩) hHeld ?restl3
   case hyl3=>(intro w' hSw;have r7:=hSw.2.c7;clear hSw;go_simp;try with_reducible rfl)
   refine qn ?_
   refine aY (i:=4) (v:= ?val4) zr rfl zo zo zo (fun _ _ _ h=>h) (Or.inl ⟨zv,?hyl4⟩) hHeld ?restl4
   case hyl4=>(intro w' _;go_simp;try with_reducible rfl)
   refine qn ?_
   refine aA (i:=5) (v:= ?val5) zr zo rfl zo zo zo zo (fun _ _ _ h=>h) (Or.inl ⟨zv,?hyl5⟩) hHeld ?restl5
   case hyl5=>(intro w' hSw;have j4:=(OpBlk.cells hSw.1).2.2.2.2.1;dsimp only at j4;clear hSw;go_simp;try with_reducible rfl)
   refine qn ?_
   refine aF (i:=6) zo rfl (fun K hK=> ?_)
   go_simp
   refine (Jd _).mono ?_
   rintro e w' ⟨rfl,rfl⟩
   refine hK _ _ (.inl hSA) ?_
   clear hK K
   refine qn ?_
   refine aF (i:=7) zo rfl (fun K hK=> ?_)
   go_simp
   refine hK _ _ (.inr ⟨rfl,zr⟩) ?_
   clear hK K hrun
   refine bB zo ?_ _
   have hcall:=nU Ev w3.drew 0 bt bm vt ms t b n nd o s v (EX.o.later (vG _ w3).drew).op4 (tr1.later (vG _ w3).drew) (vM _) qx HX.o.1 HX.o.2.1 hstep.ok (AR hstep tr2)
   go_wp2_with fail
   refine aL (S:=(fun w'=>OpBlk w' P (t,b,n,109,nd,o,s,v)/\RepCell w' br T' by_ kv bt bx bc)) zo ⟨GX.o.2.1,GX.o.1⟩ (fun hHeld=> ?_)
   refine tk 0 hHeld ?_
   refine tk 1 hHeld ?_
   refine tk 2 hHeld ?_
   refine tk 3 hHeld ?_ (hy:=Or.inl ⟨zv,qV⟩)
   refine tk 4 hHeld ?_ (hy:=Or.inl ⟨zv,zD⟩)
   refine aW (i:=5) zo rfl (fun K hK=> ?_)
   go_simp
   refine hcall.mono ?_
   clear hcall
   rintro e w4 ⟨rfl,vt',ms',q1,q2,q3,q4⟩
   have HS:Aside (AppOk B w c br by_ kv bt bx bc R ((t,b,n,109,nd,o,s,v)::A) T' w4):=iI (c1:=c2) GX.o.1 GX.o.2.2.1 GX.o.2.2.2.1 GX.o.2.2.2.2.1 GX.o.2.2.2.2.2.1 rfl tr1 tr2 ⟨tr3,tr4,tr5⟩ q1 q2 (eQ q3) q4 GX.o.2.2.2.2.2.2.1 GX.o.2.2.2.2.2.2.2.1 H0.o.2.2.2.2.1.size
   have hne:∀k,c2 k=0\/c2 k=1->¬(k=bt\/k=bm\/some k=vt.ownBlock):=fun k e e'=>by
    have:c2 k=2:=by
     rcases e' with q | q | q
     ·rw [q];exact tr3
     ·rw [q];exact tr4
     exact tr5 k q.symm
    omega
   exact ke4
 ·obtain ⟨nx,tx,t1,t2,t3,t4,t5⟩:=H1.o.1.text
  have hA:∀x∈A,ai x=0:=fun x hx=>(H0.o.2.2.2.2.2.2.1.all x hx).1
  have hstep:=H0.o.2.2.2.2.2.2.1
  have hkn:KnownN A nd:=hstep.node (hstep.line (.inl rfl))
  obtain ⟨p,hp⟩:∃p,tx nd=some p:=ZN.1 ((t4 nd).2 hkn)
  obtain ⟨vl,L,l1,l2,l3,l4⟩:=t5 nd p hp
  have hwf:Wf nd:=wR HX.o.2.2.1.1 HX.o.2.2.1.2
  have hLl:L.length<=250:=vI l2.len hlen
  have hln:=(⟨EV.o.op4.c1,EV.o.op4.c2,EV.o.c5,EV.o.c6⟩:Ln4 ad w1)
  have HL:Aside ((∀nd,(tx nd).isSome=true↔KnownN A nd)/\(∀nd p,tx nd=some p->LineC w1 c p nd A)/\LineIs A nd L/\(c p=cO nd/\∀g,vl.ownBlock=some g->c g=cO nd)/\(∀x∈A,ai x=0)/\StepOk A (t,b,n,105,nd,o,s,v)/\nx<=A.length/\c bx=3/\LineAt (p+1) w1 p vl L/\0<=nd):=⟨t4,t5,l2,⟨l3,l4⟩,hA,hstep,t1,t3,l1,by have:=fx hA hkn;omega⟩
  have hpl:=l1.lt
  have hbl:=t2.lt
  clear t1 t3 t4 t5 l2 l3 l4 hkn hA hstep
  obtain ⟨ch,hch⟩:=DL HL.o.2.2.2.2.2.1.ok rfl
  have hch:v=⟨#[ch]⟩:=hch
  subst hch
  have hidx:∀w,(Instr.index 9 (.string ⟨#[ch]⟩) (.int .i64 0)).run prog w= .ok (.int .u8 (ch.toNat:Int)) w:=fun _=>zo
  go_wp2_with fail
  refine aL (S:=(fun w'=>OpBlk w' P (t,b,n,105,nd,o,s,⟨#[ch]⟩)/\RepCell w' br T' by_ kv bt bx bc/\w'.heap[bx]? =w1.heap[bx]?)) zo ⟨H1.o.2.1,H1.o.1.cell,rfl⟩ (fun hHeld=> ?_)
  refine tk 0 hHeld ?_
  refine tk 1 hHeld ?_
  refine tk 2 hHeld ?_
  refine tk 3 hHeld ?_ (hy:=Or.inl ⟨zv,qP⟩)
  refine tk 4 hHeld ?_
  refine tk 5 hHeld ?_ (hy:=Or.inl ⟨zv,zZ⟩)
  refine tk 6 hHeld ?_ (hy:=Or.inl ⟨zv,yD⟩)
  refine tk 7 hHeld ?_ (hy:=Or.inl ⟨zv,zD⟩)
  refine tk 9 hHeld ?_
  refine tk 10 hHeld ?_ (hy:=Or.inl ⟨zv,yU⟩)
  refine tk 11 hHeld ?_
  refine tk 12 hHeld ?_ (hy:=Or.inl ⟨zv,by intro w' hSw;have j7:=(OpBlk.cells hSw.1).2.2.2.2.2.2.2.1;dsimp only at j7;clear hSw;go_simp;try with_reducible rfl⟩)
  refine tk 13 hHeld ?_
  refine aW (i:=8) zo rfl (fun K hK=> ?_)
  go_simp
  have hcall:=EH (t,b,n,105,nd,o,s,⟨#[ch]⟩) w1.drew HL.o.2.2.2.2.2.1.ok
  unfold bT at hcall
  dsimp only at hcall
  refine hcall.mono ?_
  clear hcall
  rintro e w2 ⟨rfl,hb2⟩
  have hbX:Below w1.heap.size w1 w2:=kH hb2
  refine hK _ _ ⟨H1.o.2.1.later hbX,H1.o.1.cell.same (hbX.block _ H1.o.1.cell.lt),hbX.block _ hbl⟩ ?_
  clear hK K
  refine qn ?_
  refine aW (i:=14) zo rfl (fun K hK=> ?_)
  go_simp
  have hst:=HL.o.2.2.2.2.2.1
  have hidr:=lZ hst.ok
  have hrf:=dK hst.ok
  have hnew:idO (t,b,n,105,nd,o,s,⟨#[ch]⟩)∉L.map (·.1):=fun q=>by
   obtain ⟨x,hx,_,_,q⟩:=HL.o.2.2.1.mem.1 q
   exact hst.idnew x hx q
  have ho0:0<=o:=hrf.2.2.2.1
  have hol:o<idO (t,b,n,105,nd,o,s,⟨#[ch]⟩):=hrf.2.1
  have hoth:o=0\/o∈L.map (·.1):=by
   by_cases e:o=0
   ·exact .inl e
   exact .inr (HL.o.2.2.1.mem.2 (hst.letter (.inl ⟨rfl,by show 0<o;omega⟩)))
  have hcall:=Ag w2 (p+1) p vl L (idO (t,b,n,105,nd,o,s,⟨#[ch]⟩)) o ch.toNat (hln.later hbX) (l1.later hbX) (by have:=hbX.size;omega) zj zj (UInt8.toNat_lt ch)
  have hz0:rZ (idO (t,b,n,105,nd,o,s,⟨#[ch]⟩)) o L=0:=by
   unfold rZ
   rw [if_pos ⟨hidr.1,hidr.2,ho0,hol⟩,if_neg hnew,if_pos hoth]
  have hz1:OR (idO (t,b,n,105,nd,o,s,⟨#[ch]⟩)) o ch.toNat L=put o (idO (t,b,n,105,nd,o,s,⟨#[ch]⟩),ch.toNat,false) L:=if_pos hz0
  rw [hz1] at hcall
  refine hcall.mono ?_
  clear hcall
  rintro e w3 ⟨rfl,hact⟩
  have hM:LineIs ((t,b,n,105,nd,o,s,⟨#[ch]⟩)::A) nd (put o (idO (t,b,n,105,nd,o,s,⟨#[ch]⟩),ch.toNat,false) L):=by
   have:=HL.o.2.2.1.ins (x:=(t,b,n,105,nd,o,s,⟨#[ch]⟩)) rfl rfl hnew (by have:=hidr.1;omega) hoth (hst.ungone nd)
   exact this
  have HS:Aside (AppOk B w c br by_ kv bt bx bc R ((t,b,n,105,nd,o,s,⟨#[ch]⟩)::A) T' w3):=iG H1.o.1 HL.o.2.2.2.2.1 (.inl rfl) HL.o.2.2.2.2.2.2.1 t2 HL.o.2.2.2.2.2.2.2.1 HL.o.1 HL.o.2.1 hp HL.o.2.2.2.2.2.2.2.2.1 HL.o.2.2.2.1 (ff hbX hact) hM H1.o.2.2.1 H0.o.2.2.2.2.2.1 H0.o.2.2.2.2.1.size
  exact kb9
 ·obtain ⟨nx,tx,t1,t2,t3,t4,t5⟩:=H1.o.1.text
  have hA:∀x∈A,ai x=0:=fun x hx=>(H0.o.2.2.2.2.2.2.1.all x hx).1
  have hstep:=H0.o.2.2.2.2.2.2.1
  have hkn:KnownN A nd:=hstep.node (hstep.line (.inr (.inl rfl)))
  obtain ⟨p,hp⟩:∃p,tx nd=some p:=ZN.1 ((t4 nd).2 hkn)
  obtain ⟨vl,L,l1,l2,l3,l4⟩:=t5 nd p hp
  have hwf:Wf nd:=wR HX.o.2.2.1.1 HX.o.2.2.1.2
  have hLl:L.length<=250:=vI l2.len hlen
  have hln:=(⟨EV.o.op4.c1,EV.o.op4.c2,EV.o.c5,EV.o.c6⟩:Ln4 ad w1)
  have HL:Aside ((∀nd,(tx nd).isSome=true↔KnownN A nd)/\(∀nd p,tx nd=some p->LineC w1 c p nd A)/\LineIs A nd L/\(c p=cO nd/\∀g,vl.ownBlock=some g->c g=cO nd)/\(∀x∈A,ai x=0)/\StepOk A (t,b,n,100,nd,o,s,v)/\nx<=A.length/\c bx=3/\LineAt (p+1) w1 p vl L/\0<=nd):=⟨t4,t5,l2,⟨l3,l4⟩,hA,hstep,t1,t3,l1,by have:=fx hA hkn;omega⟩
  have hpl:=l1.lt
  have hbl:=t2.lt
  clear t1 t3 t4 t5 l2 l3 l4 hkn hA hstep
  have hlnd:Ln4 ad w1.drew:=⟨hln.1,hln.2,hln.3,hln.4⟩
  go_wp2_with fail
  refine aL (S:=(fun w'=>OpBlk w' P (t,b,n,100,nd,o,s,v)/\RepCell w' br T' by_ kv bt bx bc/\w'.heap[bx]? =w1.heap[bx]?)) zo ⟨H1.o.2.1,H1.o.1.cell,rfl⟩ (fun hHeld=> ?_)
  refine tk 0 hHeld ?_
  refine tk 1 hHeld ?_
  refine tk 2 hHeld ?_
  refine tk 3 hHeld ?_ (hy:=Or.inl ⟨zv,qP⟩)
  refine tk 4 hHeld ?_
  refine tk 5 hHeld ?_ (hy:=Or.inl ⟨zv,zZ⟩)
  refine tk 6 hHeld ?_ (hy:=Or.inl ⟨zv,yD⟩)
  refine tk 7 hHeld ?_
  refine tk 8 hHeld ?_ (hy:=Or.inl ⟨zv,yU⟩)
  refine aW (i:=9) zo rfl (fun K hK=> ?_)
  go_simp
  have hcall:=Bd w1.drew (p+1) p vl L o hlnd (l1.later (vG _ w1).drew) zj
  refine hcall.mono ?_
  clear hcall
  rintro e w3 ⟨rfl,hact⟩
  have hbX:Below w1.heap.size w1 w1.drew:=(vG _ w1).drew
  have hM:LineIs ((t,b,n,100,nd,o,s,v)::A) nd (Lv o L):=by
   have hlet:o∈L.map (·.1):=HL.o.2.2.1.mem.2 (HL.o.2.2.2.2.2.1.letter (.inr rfl))
   obtain ⟨i,hi⟩:=eT hlet
   unfold Lv
   rw [hi]
   exact HL.o.2.2.1.del (x:=(t,b,n,100,nd,o,s,v)) rfl rfl hi
  have HS:Aside (AppOk B w c br by_ kv bt bx bc R ((t,b,n,100,nd,o,s,v)::A) T' w3):=iG H1.o.1 HL.o.2.2.2.2.1 (.inr rfl) HL.o.2.2.2.2.2.2.1 t2 HL.o.2.2.2.2.2.2.2.1 HL.o.1 HL.o.2.1 hp HL.o.2.2.2.2.2.2.2.2.1 HL.o.2.2.2.1 (ff hbX hact) hM H1.o.2.2.1 H0.o.2.2.2.2.2.1 H0.o.2.2.2.2.1.size
  exact kb9
 go_wp2_with fail
 refine aL (S:=(fun w'=>OpBlk w' P (t,b,n,115,nd,o,s,v)/\RepCell w' br T' by_ kv bt bx bc/\w'.heap[bx]? =w1.heap[bx]?)) zo ⟨H1.o.2.1,H1.o.1.cell,rfl⟩ (fun hHeld=> ?_)
 refine tk 0 hHeld ?_
 refine tk 1 hHeld ?_
 refine tk 2 hHeld ?_
 refine tk 3 hHeld ?_ (hy:=Or.inl ⟨zv,by intro w' hSw;have r8:=hSw.2.1.c8;clear hSw;go_simp;try with_reducible rfl⟩)
 refine tk 4 hHeld ?_ (hy:=Or.inl ⟨zv,zD⟩)
 refine aW (i:=5) zo rfl (fun K hK=> ?_)
 go_simp
 obtain ⟨cm,A',m1,m2,m3,m4⟩:=H1.o.1.marks
 have hcall:=JX w1.drew bc cm A.length (du A') t b n 115 nd o s v (EV.o.later (vG _ w1).drew).op4 (m1.later (vG _ w1).drew) zj HX.o.1 HX.o.2.1
 refine hcall.mono ?_
 clear hcall
 rintro e w2 ⟨rfl,hset⟩
 have HS:Aside (AppOk B w c br by_ kv bt bx bc R ((t,b,n,115,nd,o,s,v)::A) T' w2):=pF H1.o.1 rfl m2 ⟨m3,m4⟩ ⟨hset.1,eQ hset.2⟩ H1.o.2.2.1 H0.o.2.2.2.2.2.1 H0.o.2.2.2.2.1.size
 have hcm:∀k,c k=0\/c k=1\/c k=3->k≠cm:=fun k e e'=>by rw [e',m4] at e;omega
 have hbx3:c bx=3/\bx<w1.heap.size:=by
  obtain ⟨nx,tx,_,q2,q3,_⟩:=H1.o.1.text
  exact ⟨q3,q2.lt⟩
 refine hK _ _ ⟨?_,?_,?_⟩ ?_
 ·exact (hset.2.block P hP1 (hcm P (.inl H0.o.2.2.2.2.2.2.2.2))).trans H1.o.2.1
 ·exact H1.o.1.cell.same (hset.2.block br H1.o.1.cell.lt (hcm br (.inr (.inl H1.o.1.hue))))
 ·exact hset.2.block bx hbx3.2 (hcm bx (.inr (.inr hbx3.1)))
 clear hK K
 refine qn ?_
 refine wpAnyH_done zo ?_ _
 go_wp2
 go_end0
 exact ⟨⟨_,rfl⟩,HS.o⟩
end
section
open Go Go.RowKit Go.Lib Go.Sort
abbrev DSt:=List UInt8×Bool×Bool×Int
structure DiskAt (w:World) (d:Nat) (v:Value) (st:DSt):Prop where
 cell:w.heap[d]? =some (.cells #[v,.bool st.2.1,.bool st.2.2.1,.int .i64 st.2.2.2] 260 (0,0))
 row:RowB w v st.1
 ne:v.ownBlock≠some d
 left:0<=st.2.2.2/\st.2.2.2<=9223372036854775807
def pL (d:Nat) (v:Value) (k:Nat):Prop:=k=d\/v.ownBlock=some k
theorem DiskAt.lt {st:DSt} (h:DiskAt w d v st):d<w.heap.size:=(vD.1 h.cell).1
theorem DiskAt.own_lt {st:DSt} (h:DiskAt w d v st) {k:Nat} (hk:pL d v k):k<w.heap.size:=by
 rcases hk with rfl | hk
 ·exact h.lt
 exact h.row.lt hk
theorem DiskAt.same {w w':World} {d:Nat} {v:Value} {st:DSt} (h:DiskAt w d v st) (e:∀k,pL d v k->w'.heap[k]? =w.heap[k]?):DiskAt w' d v st:=
 ⟨(e d (.inl rfl)).trans h.cell,h.row.same (fun g hg=>e g (.inr hg)),h.ne,h.left⟩
theorem DiskAt.later {st:DSt} (h:DiskAt w d v st) (hb:Below w.heap.size w w'):DiskAt w' d v st:=h.same (fun k hk=>hb.block k (h.own_lt hk))
theorem DiskAt.c {st:DSt} (h:DiskAt w d v st):w.cell? ⟨d,0,none⟩=some v/\w.cell? ⟨d,1,none⟩=some (.bool st.2.1)/\w.cell? ⟨d,2,none⟩=some (.bool st.2.2.1)/\w.cell? ⟨d,3,none⟩=some (.int .i64 st.2.2.2)/\∀o,w.frozen? ⟨d,o,none⟩=false:=by
 have hc:=h.cell
 refine ⟨?_,?_,?_,?_,fun o=> ?_⟩
 ·simp [World.cell?,hc]
 ·simp [World.cell?,hc]
 ·simp [World.cell?,hc]
 ·simp [World.cell?,hc]
 simp [World.frozen?,hc]
theorem DiskAt.set1 {off:Bool} {left:Int} (h:DiskAt w d v (B,off,waits,left)) (z:Bool):DiskAt (w.setCell ⟨d,1,none⟩ (.bool z)) d v (B,z,waits,left)/\Keeps (fun k=>k=d) w (w.setCell ⟨d,1,none⟩ (.bool z)):=by
 have hk:=aZ d [.bool z] 1 w
 refine ⟨⟨heap_setCell_same w d 1 _ _ _ h.cell,h.row.same (fun g hg=>hk.block g (h.row.lt hg) (fun e=>h.ne xw)),h.ne,h.left⟩,hk⟩
theorem DiskAt.set2 {off:Bool} {left:Int} (h:DiskAt w d v (B,off,waits,left)) (z:Bool):DiskAt (w.setCell ⟨d,2,none⟩ (.bool z)) d v (B,off,z,left)/\Keeps (fun k=>k=d) w (w.setCell ⟨d,2,none⟩ (.bool z)):=by
 have hk:=aZ d [.bool z] 2 w
 refine ⟨⟨heap_setCell_same w d 2 _ _ _ h.cell,h.row.same (fun g hg=>hk.block g (h.row.lt hg) (fun e=>h.ne xw)),h.ne,h.left⟩,hk⟩
theorem DiskAt.set3 {off:Bool} {left:Int} (h:DiskAt w d v (B,off,waits,left)) (z:Int) (hz:0<=z/\z<=9223372036854775807):DiskAt (w.setCell ⟨d,3,none⟩ (.int .i64 z)) d v (B,off,waits,z)/\Keeps (fun k=>k=d) w (w.setCell ⟨d,3,none⟩ (.int .i64 z)):=by
 have hk:=aZ d [.int .i64 z] 3 w
 refine ⟨⟨heap_setCell_same w d 3 _ _ _ h.cell,h.row.same (fun g hg=>hk.block g (h.row.lt hg) (fun e=>h.ne xw)),h.ne,hz⟩,hk⟩
theorem DiskAt.set0 {v':Value} {B':List UInt8} {off:Bool} {left:Int} (h:w.heap[d]? =some (.cells #[v,.bool off,.bool waits,.int .i64 left] 260 (0,0))) (hr:RowB w v' B') (hn:v'.ownBlock≠some d) (hl:0<=left/\left<=9223372036854775807):DiskAt (w.setCell ⟨d,0,none⟩ v') d v' (B',off,waits,left)/\Keeps (fun k=>k=d) w (w.setCell ⟨d,0,none⟩ v'):=by
 have hk:=aZ d [v'] 0 w
 refine ⟨⟨heap_setCell_same w d 0 _ _ _ h,hr.same (fun g hg=>hk.block g (hr.lt hg) (fun e=>hn xw)),hn,hl⟩,hk⟩
theorem tZ (s:ByteArray) (w:World) (hs:s.size<=65536):
  Calls prog 82 #[.string s] w fun e w'=>∃d v,e= .returned (.tuple #[.pointer (some ⟨d,0,none⟩),.nilIface])/\Aside (DiskAt w' d v (s.data.toList,false,false,0)/\Below w.heap.size w w'/\∀k,pL d v k->w.heap.size<=k):=by
 obtain ⟨v,w1,hcv,hrow,hb,hv⟩:=Gf w s zj
 have d1:decide ((65536:Int)<(s.size:Int))=false:=zq
 have d1n:decide (65536<s.size)=false:=zq
 have H:Aside (RowB w1 v s.data.toList/\Below w.heap.size w w1/\∀g,v.ownBlock=some g->w.heap.size<=g):=⟨hrow,hb,hv⟩
 obtain ⟨g,cap,hvs⟩:=hrow.shape
 subst hvs
 clear hrow hb hv
 go_enter func82,ntmps82
 go_wp2
 go_ret2
 have hb2:Below w1.heap.size w1 (w1.alloc (.cells #[.slice (some ⟨g,0,none⟩) s.data.toList.length cap,.bool false,.bool false,.int .i64 0] 260)):=zh w1 _
 refine ⟨w1.heap.size,_,rfl,⟨heap_alloc_new w1 _,H.o.1.same (fun g hg=>hb2.block g (H.o.1.lt hg)),fun e=> ?_,⟨by show (0:Int)<=0;omega,by show (0:Int)<=9223372036854775807;omega⟩⟩,zi H.o.2.1 hb2,fun k hk=> ?_⟩
 ·have:=H.o.1.lt e;omega
 rcases hk with rfl | hk
 ·exact H.o.2.1.size
 exact H.o.2.2 k hk
structure Of (ad:Nat->Addr) (w:World):Prop where
 c1:w.cell? ⟨0,0,none⟩=some (.iface 450 (.pointer (some (ad 1))))
 c2:w.cell? ⟨4,0,none⟩=some (.iface 450 (.pointer (some (ad 2))))
 c7:w.cell? ⟨2,0,none⟩=some (.iface 450 (.pointer (some (ad 7))))
 c10:w.cell? ⟨10,0,none⟩=some (.iface 450 (.pointer (some (ad 10))))
def OB (off:Bool) (n:Int):Nat:=if n<0 then 2 else if off then 11 else 0
def Nz (st:DSt) (n:Int):DSt:=if OB st.2.1 n=0 then (st.1,st.2.1,true,n) else st
def wr1 (st:DSt) (c:UInt8):Bool×DSt:=if st.2.2.1=true/\st.2.2.2=0 then (false,(st.1,true,false,st.2.2.2)) else if st.2.1=true then (false,st) else (true,(st.1++ [c],st.2.1,st.2.2.1,if st.2.2.1=true then st.2.2.2 - 1 else st.2.2.2))
def WroteD (d:Nat) (v:Value) (w:World) (st':DSt) (w':World):Prop:=∃v',DiskAt w' d v' st'/\Keeps (pL d v) w w'/\∀g,v'.ownBlock=some g->v.ownBlock=some g\/w.heap.size<=g
theorem FD {w2:World} {v2:Value} {off:Bool} {left:Int} {c:UInt8} {o:Obj} (h:DiskAt w d v (B,off,waits,left)) (hr:RowB w2 v2 (B++ [c])) (hg:(w.alloc o).grownBy w2 v.ownBlock) (hv:∀g,v2.ownBlock=some g->v.ownBlock=some g\/(w.alloc o).heap.size<=g):DiskAt (w2.setCell ⟨d,0,none⟩ v2) d v2 (B++ [c],off,waits,left)/\Keeps (pL d v) w (w2.setCell ⟨d,0,none⟩ v2)/\∀g,v2.ownBlock=some g->v.ownBlock=some g\/w.heap.size<=g:=by
 have hd:w2.heap[d]? =some (.cells #[v,.bool off,.bool waits,.int .i64 left] 260 (0,0)):=by
  have h1:(w.alloc o).heap[d]? =w.heap[d]? :=vP w o d h.lt
  rw [(aV hg).block d (by simp;have:=h.lt;omega) (fun e=>h.ne e.symm),h1]
  exact h.cell
 have hn:v2.ownBlock≠some d:=fun e=>by
  rcases hv d e with q | q
  ·exact h.ne q
  have:=h.lt;simp at q;omega
 have h1:=DiskAt.set0 hd hr hn h.left
 refine ⟨h1.1,?_,fun g e=>(hv g e).imp id (fun q=>by simp at q;omega)⟩
 have k1:Keeps (pL d v) w w2:=((Keeps.refl _ w).alloc o).trans ((aV hg).mono (fun k _ e=>.inr e.symm))
 exact k1.then h1.2 (fun i _ e=>.inl e)
theorem CL {off:Bool} {left:Int} (w:World) (c:UInt8) (h:DiskAt w d v (B,off,waits,left)) (hB:B.length<1000000):
  Calls prog 217 #[.pointer (some ⟨d,0,none⟩),.int .u8 (c.toNat:Int)] w fun e w'=>e= .returned (.bool (wr1 (B,off,waits,left) c).1)/\Aside (WroteD d v w (wr1 (B,off,waits,left) c).2 w'):=by
 obtain ⟨c0,c1,c2,c3,cf⟩:=h.c
 dsimp only at c1 c2 c3
 have hleft:=h.left
 dsimp only at hleft
 have H:Aside (DiskAt w d v (B,off,waits,left)):=h
 obtain ⟨g,cap,hvs⟩:=h.row.shape
 dsimp only at hvs
 obtain ⟨o,ho⟩:∃o:Obj,Aside (o= .cells #[.int .u8 (c.toNat:Int)] 5):=⟨_,rfl⟩
 have hrA:RowB (w.alloc o) v B:=h.row.same (fun k hk=>vP w o k (h.row.lt hk))
 have hcl:(w.alloc o).cell? ⟨w.heap.size,0,none⟩=some (.int .u8 (c.toNat:Int)):=by
  have:=heap_alloc_new w o
  unfold World.cell?
  dsimp only
  rw [this,ho.o]
  rfl
 obtain ⟨v2,w2,hrun,hr2,hg2,hv2⟩:=Cz hrA ⟨w.heap.size,0,none⟩ 184 c hcl hB
 have HL:Aside (DiskAt (w2.setCell ⟨d,0,none⟩ v2) d v2 (B++ [c],off,waits,left)/\Keeps (pL d v) w (w2.setCell ⟨d,0,none⟩ v2)/\∀g,v2.ownBlock=some g->v.ownBlock=some g\/w.heap.size<=g):=FD h hr2 hg2 hv2
 have hd2:w2.heap[d]? =some (.cells #[v,.bool off,.bool waits,.int .i64 left] 260 (0,0)):=by
  have h1:(w.alloc o).heap[d]? =w.heap[d]? :=vP w o d h.lt
  rw [(aV hg2).block d (by simp;have:=h.lt;omega) (fun e=>h.ne e.symm),h1]
  exact h.cell
 obtain ⟨g2,cap2,hvs2⟩:=hr2.shape
 rw [show (B++ [c]).length=B.length+1 by simp] at hvs2
 have y0:w2.cell? ⟨d,0,none⟩=some v:=jA
 have y2:w2.cell? ⟨d,2,none⟩=some (.bool waits):=jA
 have y3:w2.cell? ⟨d,3,none⟩=some (.int .i64 left):=jA
 have yf:∀o,w2.frozen? ⟨d,o,none⟩=false:=fun o=>by simp [World.frozen?,hd2]
 rw [ho.o] at hrun
 clear h hrA hcl hr2 hg2 hv2 hd2
 subst hvs
 subst hvs2
 cases waits with
 | true=>
  by_cases h0:left=0
  ·subst h0
   have HW:Aside (wr1 (B,off,true,0) c=(false,(B,true,false,0))):=by unfold wr1;rfl
   rw [HW.o]
   clear hrun HL y0 y2 y3 yf
   go_enter func217,ntmps217
   go_wp2
   go_ret
   have h1:=H.o.set1 true
   have h2:=h1.1.set2 false
   exact ⟨rfl,_,h2.1,(h1.2.trans h2.2).mono (fun k _ e=>.inl e),fun g hg=>.inl hg⟩
  have d0:(left==0)=false:=xG
  cases off with
  | true=>
   have HW:Aside (wr1 (B,true,true,left) c=(false,(B,true,true,left))):=by
    show wr1 (B,true,true,left) c=_
    unfold wr1
    simp [h0]
   exact ki1
  | false=>
   have HW:Aside (wr1 (B,false,true,left) c=(true,(B++ [c],false,true,left - 1))):=by
    show wr1 (B,false,true,left) c=_
    unfold wr1
    simp [h0]
   rw [HW.o]
   have hw1:IntKind.i64.wrap (left - 1)=left - 1:=zu
   go_enter func217,ntmps217
   go_wp2_with (at_builtin;refine Lib.wpList_append_run _ rfl _ _ _ _ rfl _ _ rfl rfl _ _ hrun ?_)
   go_ret
   have h1:=HL.o.1.set3 (left - 1) zj
   exact ⟨rfl,_,h1.1,HL.o.2.1.then h1.2 (fun k _ e=>.inl e),HL.o.2.2⟩
 | false=>
  cases off with
  | true=>
   have HW:Aside (wr1 (B,true,false,left) c=(false,(B,true,false,left))):=by
    show wr1 (B,true,false,left) c=_
    unfold wr1
    simp
   exact ki1
  | false=>
   have HW:Aside (wr1 (B,false,false,left) c=(true,(B++ [c],false,false,left))):=by
    show wr1 (B,false,false,left) c=_
    unfold wr1
    simp
   rw [HW.o]
   go_enter func217,ntmps217
   go_wp2_with (at_builtin;refine Lib.wpList_append_run _ rfl _ _ _ _ rfl _ _ rfl rfl _ _ hrun ?_)
   go_ret
   exact ⟨rfl,_,HL.o.1,HL.o.2.1,HL.o.2.2⟩
