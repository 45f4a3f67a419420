import Derived.Test.YtjclejjkganhfaaGreatDoorSR14
import Derived.Test.YtjclejjkganhfaaGreatDoorSR15
import Derived.Test.YtjclejjkganhfaaGreatDoorSR16
set_option linter.unusedSimpArgs false
set_option linter.unusedVariables false
set_option maxRecDepth 100000
set_option maxHeartbeats 64000000
namespace Go.Proofs.YtjclejjkganhfaaGreatDoor
open Go.Proofs.Tryz
section
open RowKit Maps
open scoped Classical
theorem Il(x)(w)(h:mv x=0):qC 82 #[mJ x] w (qR (qI (idO x)) w):=by
 have h0:=wu h;obtain ⟨t,b,n,k,nd,o,s,v⟩:=x;unfold mJ idO;dsimp only;have h1:1<=t:=h0.1;have h2:t<=1073741824:=h0.2.1;have h3:0<=b:=h0.2.2.1;have h4:b<4:=h0.2.2.2;exact ke8
structure F7 (w:qW) (c:Nat->Nat) (br:Nat) (T o9:Int) (kv:Nat->Value) (bt bx bc:Nat) (R:Rws) (A:qX):Prop where
 cell:n7 w br T o9 kv bt bx bc
 y9:c br=1
 GC:E4 w c kv R
 Y7:aaj w c bt A
 P8:O8 w c bx A
 N8:R8 w c bc A
theorem F7.kept{w w'}{c c'}{br}{T o9}{kv}{bt bx bc}{R}{A}(h:F7 w c br T o9 kv bt bx bc R A)(hk:∀i,i≠0->EK c i w c' w'):F7 w' c' br T o9 kv bt bx bc R A:=by
 have k1:=hk 1 zj;exact ⟨h.cell.same (k1.block _ h.cell.lt h.y9),(k1.y9 _ h.cell.lt).trans h.y9,h.GC.kept (fun i _=>hk _ zj),h.Y7.kept (hk 2 zj),h.P8.kept (hk 3 zj) (fun nd _=>hk _ yk),h.N8.kept (hk 4 zj)⟩
theorem F7.later{w w'}{c}{br}{T o9}{kv}{bt bx bc}{R}{A}(h:F7 w c br T o9 kv bt bx bc R A)(hb:qL w w'):F7 w' c br T o9 kv bt bx bc R A:=
 h.kept (fun i _=>⟨fun k hk _=>hb.block k hk,fun k _=>rfl⟩)
theorem F7.aaX{w W w'}{c}{br}{T o9 t}{kv}{bt bx bc}{R}{A}(h:F7 w c br T o9 kv bt bx bc R A)(hb:qL w W)(hh:Qy br T t W w'):F7 w' c br (if T<t then t else T) o9 kv bt bx bc R A/\m7 (fun k=>k=br) w w':=by
 have hW:=h.later hb;have hKW:m7 (fun k=>k=br) w W:=(lW hb).mono (fun k hk e=>zj)
 rcases hh with ⟨hlt,W',hb',hheap,hk⟩ | ⟨hlt,hb'⟩
 ·have gR:=hW.later hb'
  have hk3:=(hKW.then (lW hb') (fun k hk e=>by have:=hKW.size;omega)).then hk (fun _ _ e=>e)
  rw [if_pos hlt]
  have eL:∀i,i≠1->EK c i W' c w':=fun i hi=>⟨fun k hkl e=>hk.block k hkl (fun e'=>by rw [e',gR.y9] at e;omega),fun _ _=>rfl⟩
  refine ⟨⟨?_,gR.y9,gR.GC.kept (fun i _=>eL _ zj),gR.Y7.kept (eL 2 zj),gR.P8.kept (eL 3 zj) (fun nd _=>eL _ yk),gR.N8.kept (eL 4 zj)⟩,hk3⟩;have:=heap_setCell_same W' br 0 _ _ (qI t) gR.cell;unfold n7
  simp_all
 rw [if_neg hlt];exact ⟨hW.later hb',hKW.then (lW hb') (fun k hk e=>by have:=hKW.size;omega)⟩
def og(c:Nat->Nat)(w w':qW)(i:Nat):Nat->Nat:=fun k=>if k<w.heap.size then c k else if k<w'.heap.size then i else 0
theorem mH{c}{w w'}{i k}(h:k<w.heap.size):og c w w' i k=c k:=if_pos h
theorem sI{c}{w w'}{i k}(h:w.heap.size<=k)(h':k<w'.heap.size):og c w w' i k=i:=by simp_all [og,if_neg,if_pos]
theorem sv{c}{w w'}{Sx}{i j m}(hk:m7 Sx w w')(hS:∀k,k<w.heap.size->Sx k->c k=i)(aA:j≠i):EK c j w (og c w w' m) w':=
 ⟨fun k hkl e=>hk.block k hkl (fun s=>aA zL),fun k hkl=>mH hkl⟩
def U3(B:Nat)(w:qW)(c:Nat->Nat)(br:Nat)(o9:Int)(kv:Nat->Value)(bt bx bc:Nat)(R:Rws)(A:qX)(T':Int)(w':qW):Prop:=∃c',F7 w' c' br T' o9 kv bt bx bc R A/\L7 w c w' c'/\(∀k,c' k≠0->B<=k)/\∀k,w'.heap.size<=k->c' k=0
theorem U3.of{B}{w w1 w'}{c c1 c'}{br}{o9}{kv}{bt bx bc}{R}{A}{T'}{i}{Sx}(hc:c'=og c1 w1 w' i)(hp:F7 w' c' br T' o9 kv bt bx bc R A)(h1:L7 w c w1 c1)(hk:m7 Sx w1 w')(hS:∀k,k<w1.heap.size->Sx k->c1 k≠0)(hB:∀k,c1 k≠0->B<=k)(bF:B<=w.heap.size):U3 B w c br o9 kv bt bx bc R A T' w':=by
 subst hc;refine ⟨_,hp,h1.trans ⟨hk.mono hS,fun k hkl=>mH hkl⟩,fun k e=> ?_,fun k hkl=> ?_⟩
 ·by_cases hkl:k<w1.heap.size
  ·rw [mH hkl] at e;exact hB k e
  have:=h1.L0.size;omega
 have:=hk.size;unfold og
 grind
theorem Fr{B}{w w1 w'}{c}{br}{o9}{kv}{bt bx bc}{R}{A A'}{T'}{o}{cm}(h:F7 w1 c br T' o9 kv bt bx bc R A)(jb:kdO o=115)(hA':A'.Perm A)(hcm:c bc=4/\c cm=4)(hset:Su w1 bc cm A.length (rm A') o w')(h1:L7 w c w1 c)(hB:∀k,c k≠0->B<=k)(bF:B<=w.heap.size):U3 B w c br o9 kv bt bx bc R (o::A) T' w':=by
 have hS4:∀k,k<w1.heap.size->(k=cm)->c k=4:=fun k _ e=>by rw [e];exact hcm.2
 have kp:∀j,j≠4->EK c j w1 (og c w1 w' 4) w':=fun j hj=>sv hset.2 hS4 hj
 have bW:kdO o≠109:=by rw [jb];decide
 have hbcl:=hset.1.lt;refine U3.of (i:=4) rfl ⟨?_,?_,?_,?_,?_,?_⟩ h1 hset.2 (fun k hk e=>by rw [hS4 k hk e];decide) hB bF
 ·exact h.cell.same ((kp 1 zj).block _ h.cell.lt h.y9)
 ·rw [mH h.cell.lt];exact h.y9
 ·exact h.GC.kept (fun i _=>kp _ zj)
 ·exact (h.Y7.kept (kp 2 zj)).skip bW
 ·exact (h.P8.kept (kp 3 zj) (fun nd _=>kp _ yk)).skip ⟨by rw [jb];decide,by rw [jb];decide⟩ (fun q=>bW q.1)
 grind [R8.set,mH,sI]
theorem wW{B}{w w1 w'}{c}{br}{o9}{kv}{bt bx bc}{R}{A}{T'}{o}{nx}{tx}{p}{v}{L M}(h:F7 w1 c br T' o9 kv bt bx bc R A)(hA:∀x∈A,mv x=0)(jb:kdO o=105\/kdO o=100)
  (t1:nx<=A.length) (t2:I5 w1 bx nx tx) (t3:c bx=3) (t4:∀nd,(tx nd).isSome=true↔m9 A nd) (t5:∀nd p,tx nd=some p->aar w1 c p nd A) (hp:tx (mY o)=some p)
  (hL:x9 (p+1) w1 p v L) (y9:c p=nc (mY o)/\∀g,v.ownBlock=some g->c g=nc (mY o)) (hact:Y5 (p+1) w1 p v M w') (hM:u7 (o::A) (mY o) M) (h1:L7 w c w1 c) (hB:∀k,c k≠0->B<=k) (bF:B<=w.heap.size):U3 B w c br o9 kv bt bx bc R (o::A) T' w':=by
 obtain ⟨v',q1,q2,q3⟩:=hact
 have hS:∀k,k<w1.heap.size->(k=p\/some k=v.ownBlock)->c k=nc (mY o):=fun k _ e=>e.elim (fun e=>by rw [e];exact y9.1) (fun e=>y9.2 k e.symm)
 have kp:∀j,j≠nc (mY o)->EK c j w1 (og c w1 w' (nc (mY o))) w':=fun j hj=>sv q2 hS hj
 have n20:∀i,i<20->i≠nc (mY o):=fun i hi=>yk
 have bl:kdO o≠109:=fun e=>zj
 have bW:kdO o≠115:=fun e=>zj
 have cq:=(t4 _).1 ua;have hnd4:=ri hA cq;refine U3.of (i:=nc (mY o)) rfl ⟨?_,?_,?_,?_,?_,?_⟩ h1 q2 (fun k hk e=>zM) hB bF
 ·exact h.cell.same ((kp 1 (n20 1 zj)).block _ h.cell.lt h.y9)
 ·rw [mH h.cell.lt];exact h.y9
 ·exact h.GC.kept (fun i hi=>kp _ (n20 _ zj))
 ·exact (h.Y7.kept (kp 2 (n20 2 zj))).skip bl
 ·have k3:=kp 3 (n20 3 zj);refine ⟨nx,tx,zm,t2.same (k3.block _ t2.lt t3),(k3.y9 _ t2.lt).trans t3,fun nd=>(t4 nd).trans ?_,fun nd p' dX=> ?_⟩
  ·grind [AT]
  by_cases e:nd=mY o
  ·subst e;rw [hp] at dX
   cases dX
   refine ⟨v',M,q1,hM,by rw [mH hL.lt];exact y9.1,fun g hg=> ?_⟩;have bY:=q1.kin hg
   grind [mH,sI]
  have hnk:=(t4 nd).1 (by rw [dX];rfl);have hn4:=ri hA hnk;obtain ⟨v2,L2,k1,k2,k4⟩:=(t5 nd p' dX).kept (kp (nc nd) (fun q=>e (WI zj zj q)));exact ⟨v2,L2,k1,k2.skip (fun q=>e q.1.symm),k4⟩
 exact (h.N8.kept (kp 4 (n20 4 zj))).skip bW
theorem wZ{B}{w w1 w'}{c c1}{br}{o9}{kv}{bt bx bc}{R}{A}{T'}{o}{bm}{v v'}{ms ms'}(hcell:n7 w1 br T' o9 kv bt bx bc)(hhue:c1 br=1)(aP:E4 w1 c1 kv R)(de:O8 w1 c1 bx (o::A))(hmarks:R8 w1 c1 bc A)(jb:kdO o=109)
  (hT:I9 0 w1 bt bm v ms) (jF:ms.Perm (pz A)) (y9:c1 bt=2/\c1 bm=2/\∀g,v.ownBlock=some g->c1 g=2) (q1:I9 0 w' bt bm v' ms') (q2:ms'.Perm (((o.1,o.2.1),(mY o,mX o,o.2.2.2.2.2.2.1))::ms)) (q3:m7 (fun k=>k=bt\/k=bm\/some k=v.ownBlock) w1 w') (q4:v'.ownBlock=v.ownBlock\/∀g,v'.ownBlock=some g->w1.heap.size<=g) (h1:L7 w c w1 c1) (hB:∀k,c1 k≠0->B<=k) (bF:B<=w.heap.size):U3 B w c br o9 kv bt bx bc R (o::A) T' w':=by
 have hS:∀k,k<w1.heap.size->(k=bt\/k=bm\/some k=v.ownBlock)->c1 k=2:=fun k _ e=>by
  grind
 have kp:∀j,j≠2->EK c1 j w1 (og c1 w1 w' 2) w':=fun j hj=>sv q3 hS hj
 obtain ⟨l1,l2,l3⟩:=hT.lt;refine U3.of (i:=2) rfl ⟨?_,?_,?_,?_,?_,?_⟩ h1 q3 (fun k hk e=>zL) hB bF
 ·exact hcell.same ((kp 1 zj).block _ hcell.lt hhue)
 ·rw [mH hcell.lt];exact hhue
 ·exact aP.kept (fun i _=>kp _ zj)
 ·refine ⟨bm,v',ms',q1,by rw [QA jb];exact q2.trans (jF.cons _),by rw [mH l1];exact y9.1,by rw [mH l2];exact y9.2.1,fun g hg=> ?_⟩;have bY:=q1.lt.2.2 g hg
  grind [mH,sI]
 ·exact de.kept (kp 3 zj) (fun nd _=>kp _ yk)
 exact (hmarks.kept (kp 4 zj)).skip (by rw [jb];decide)
theorem GR{w1 w2}{c}{br}{o9}{kv}{bt bx bc}{R}{A}{T'}{o}{nx p}{tx:XX}(h:F7 w1 c br T' o9 kv bt bx bc R A)(hs:G7 A o)(jb:kdO o=109)(hid:mY o=idO o)
  (t1:nx<=A.length) (t2:I5 w2 bx (nx+1) (fun x=>if x=mY o then some p else tx x)) (t3:c bx=3) (t4:∀nd,(tx nd).isSome=true↔m9 A nd) (t5:∀nd p,tx nd=some p->aar w1 c p nd A) (gF:bx<w1.heap.size)
  (cD:w2.heap[p]? =some (.cells #[qE] 332 (0,0))) (gx:w1.heap.size<=p) (hk:m7 (fun k=>k=bx) w1 w2):
  n7 w2 br T' o9 kv bt bx bc/\og c w1 w2 (nc (mY o)) br=1/\E4 w2 (og c w1 w2 (nc (mY o))) kv R/\aaj w2 (og c w1 w2 (nc (mY o))) bt A/\O8 w2 (og c w1 w2 (nc (mY o))) bx (o::A)/\R8 w2 (og c w1 w2 (nc (mY o))) bc A:=by
 have hS:∀k,k<w1.heap.size->k=bx->c k=3:=fun k _ e=>by rw [e];exact t3
 have kp:∀j,j≠3->EK c j w1 (og c w1 w2 (nc (mY o))) w2:=fun j hj=>sv hk hS hj
 have hA:∀x∈A,mv x=0:=fun x hx=>(hs.all x hx).1
 obtain ⟨hnk,hno⟩:=hs.fresh hid;have hpl:=(uK.1 cD).1;refine ⟨h.cell.same ((kp 1 zj).block _ h.cell.lt h.y9),by rw [mH h.cell.lt];exact h.y9,h.GC.kept (fun i _=>kp _ zj),h.Y7.kept (kp 2 zj),?_,h.N8.kept (kp 4 zj)⟩;refine ⟨nx+1,_,zm,t2,by rw [mH gF];exact t3,fun nd=> ?_,fun nd p' dX=> ?_⟩
 ·rw [AT]
  grind
 by_cases e:nd=mY o
 ·subst e;rw [if_pos rfl] at dX
  cases dX
  refine ⟨qE,[],⟨cD,Zi _ _ _ _,zj,zr,fun l hl=>uh,fun l hl=>uh⟩,?_,by rw [sI gx hpl],fun g hg=>xA⟩
  grind [u7.F5]
 rw [if_neg e] at dX;have hnk':=(t4 nd).1 (by rw [dX];rfl);have hn4:=ri hA hnk';obtain ⟨v2,L2,k1,k2,k4⟩:=(t5 nd p' dX).kept (kp (nc nd) yk);exact ⟨v2,L2,k1,k2.skip (fun q=>e q.1.symm),k4⟩
theorem pB{Sx}{w w'}(h:m7 Sx w.drew w'):m7 Sx w w':=⟨h.os,h.tape,h.output,h.size,h.block⟩
theorem Aj{w w'}(h:Below w.drew.heap.size w.drew w'):qL w w':=⟨h.os,h.tape,h.output,h.size,h.block⟩
theorem rb{l9}{w W w'}{p}{v}{M}(hb:qL w W)(h:Y5 l9 W p v M w'):Y5 l9 w p v M w':=by
 obtain ⟨v',q1,q2,q3⟩:=h;exact ⟨v',q1,((lW hb).mono (fun k hk e=>absurd hk zj)).then q2 (fun _ _ e=>e),q3.imp id (fun q g hg=>uO hb.size (q g hg))⟩
theorem RF{x}(h:mv x=0)(hk:kdO x=105):∃ch:UInt8,x.2.2.2.2.2.2.2=⟨#[ch]⟩:=by
 have h0:=mT h;unfold mv opE at h;rw [if_pos ⟨h0.1,h0.2.1,h0.2.2.1,h0.2.2.2.1,h0.2.2.2.2.1,h0.2.2.2.2.2.1⟩] at h;unfold wd at h;have hk':x.2.2.2.1=105:=hk;rw [hk',if_neg zo,if_pos rfl] at h;unfold DG at h;split at h
 ·cases h
 split at h
 ·cases h
 split at h
 ·cases h
 rename_i hv
 have hl:x.2.2.2.2.2.2.2.data.toList.length=1:=by
  rcases Nat.decEq x.2.2.2.2.2.2.2.data.toList.length 1 with q | q
  ·omega
  exact q
 match hd:x.2.2.2.2.2.2.2 with
 | ⟨⟨l⟩⟩=>
  rw [hd] at hl
  match l,hl with
  | [ch],_=>exact ⟨ch,rfl⟩
theorem Nn{B}{ad}(w)(c)(br)(T o9)(kv)(bt bx bc)(R)(A)(x)(h:F7 w c br T o9 kv bt bx bc R A)(hs:G7 A x)(hE:E8 B ad w)(hB:∀k,c k≠0->B<=k)(hcw:∀k,w.heap.size<=k->c k=0)(hlen:A.length<=250):
  qC 159 #[qP br,mJ x] w fun e w'=>(∃u,e= .returned u)/\U3 B w c br o9 kv bt bx bc R (x::A) (if T<x.1 then x.1 else T) w':=by
 have hsx:=mT hs.ok;have bJ:=wu hs.ok;have gO:=rM hs.ok;have hir:=BI hs.ok;obtain ⟨t,b,n,kd,nd,o,s,v⟩:=x;obtain ⟨P,hP⟩:=za w.heap.size;obtain ⟨U,hU⟩:=za (w.alloc (qOc t b n kd nd o s v));have ah:qL w U:=zX
 have O1:m6 U P (t,b,n,kd,nd,o,s,v):=by rw [hU,hP];exact m6.F5 w (t,b,n,kd,nd,o,s,v)
 have hUp:=h.later ah
 have hbr:br<P:=by rw [hP];exact h.cell.lt
 have bA:=ND br T o9 t b U.drew ⟨hUp.cell.c0,hUp.cell.c1,hUp.cell.fz 0⟩ bJ.1 bJ.2.1 bJ.2.2.1 bJ.2.2.2;obtain ⟨T',hT'⟩:=za ((if T<t then t else T));have HT:Aside (T'=(if T<t then t else T)):=hT'
 have H0:Aside (F7 U c br T o9 kv bt bx bc R A/\m6 U P (t,b,n,kd,nd,o,s,v)/\qL w U/\P=w.heap.size/\E8 B ad w/\(∀k,c k≠0->B<=k)/\G7 A (t,b,n,kd,nd,o,s,v)/\br<P/\c P=0):=⟨hUp,O1,ah,hP,hE,hB,hs,hbr,hcw P zj⟩
 have HX:Aside (s.size<=1000000/\v.size<=1000000/\(-2^63<=nd/\nd<2^63)/\(kd=109\/kd=105\/kd=100\/kd=115)):=by
  have a1:s.data.toList.length<=12:=hsx.2.2.2.2.2.2.2.2.2.2.2.2.1;have a2:v.data.toList.length<=12:=hsx.2.2.2.2.2.2.2.2.2.2.2.2.2;rw [ot] at a1 a2;have a3:0<=nd:=gO.2.2.1;have a4:nd<=idO (t,b,n,kd,nd,o,s,v):=gO.1.elim (fun q=>q.2) (fun q=>Int.le_of_lt q);exact ⟨zj,zj,⟨zj,zj⟩,hsx.2.2.2.2.2.2.1⟩
 have e1:(if T<(t,b,n,kd,nd,o,s,v).1 then (t,b,n,kd,nd,o,s,v).1 else T)=T':=hT'.symm;rw [e1];clear e1 hT' hUp O1 ah hs hE hB h hsx bJ gO hir hbr hcw;unfold mJ;go_enter func159,ntmps159;go_wp2_with fail;rw [<-hU,<-hP];clear hU hP;refine lV (S:=(fun w'=>m6 w' P (t,b,n,kd,nd,o,s,v))) zk H0.o.2.1 (fun aa=> ?_);refine tk 0 aa ?_ (y:=ty zJ);refine tk 1 aa ?_ (y:=ty zJ);refine tk 2 aa ?_ (y:=ty zJ);refine tk 3 aa ?_ (y:=ty zJ);refine tk 4 aa ?_ (y:=ty zJ);refine an (i:=5) zk rfl (fun K hK=> ?_);go_simp;refine bA.mono ?_;clear bA;rintro e w1 ⟨⟨u,rfl⟩,W,hbW,hh⟩
 have H1:Aside (F7 w1 c br T' o9 kv bt bx bc R A/\m6 w1 P (t,b,n,kd,nd,o,s,v)/\L7 w c w1 c/\P<w1.heap.size/\w.heap.size<=w1.heap.size):=by
  obtain ⟨a1,a2⟩:=(H0.o.1.later (uM _ _).drew).aaX hbW hh;have hPU:=H0.o.2.1.lt;have a3:m6 w1 P (t,b,n,kd,nd,o,s,v):=(a2.block P hPU (fun e=>by have:=H0.o.2.2.2.2.2.2.2.1;omega)).trans H0.o.2.1;refine ⟨by rw [HT.o];exact a1,a3,⟨((lW H0.o.2.2.1).mono (fun k hk e=>absurd hk zj)).then (pB a2) (fun k hk e=>by have e':=e;rw [e',H0.o.1.y9];decide),fun _ _=>rfl⟩,a3.lt,uO H0.o.2.2.1.size a2.size⟩
 refine hK _ _ H1.o.2.1 ?_;clear hK K hh hbW;refine qn ?_;refine wpAnyH_done zk ?_ _;have hP1:=H1.o.2.2.2.1;have EV:Aside (E8 B ad w1):=H0.o.2.2.2.2.1.mono (H1.o.2.2.1.L0.m8 H0.o.2.2.2.2.1.size (fun k e=>H0.o.2.2.2.2.2.1 k e));obtain ⟨y0,y1,y2,y3,y4,y5,y6,y7,f8⟩:=m6.ct H1.o.2.1;have hkinds:=HX.o.2.2.2
 rcases hkinds with rfl | rfl | rfl | rfl
 ·have ay:=H0.o.2.2.2.2.2.2.1;have ac:=Il (t,b,n,109,nd,o,s,v) w1.drew ay.ok;unfold mJ at ac;obtain ⟨dq,hdq⟩:=za ((nd==idO (t,b,n,109,nd,o,s,v)));have HDQ:Aside (dq=(nd==idO (t,b,n,109,nd,o,s,v))):=hdq;obtain ⟨idx,aQ⟩:=za (idO (t,b,n,109,nd,o,s,v));rw [<-aQ] at ac hdq;have hdq':=hdq.symm;clear hdq aQ;go_wp2_with fail;refine lV (S:=(fun w'=>m6 w' P (t,b,n,109,nd,o,s,v)/\n7 w' br T' o9 kv bt bx bc/\w'.heap[bx]? =w1.heap[bx]?)) zk ⟨H1.o.2.1,H1.o.1.cell,rfl⟩ (fun aa=> ?_);refine tk 0 aa ?_;refine tk 1 aa ?_ (y:=ty yc);refine tk 2 aa ?_ (y:=ty zG);refine an (i:=3) zk rfl (fun K hK=> ?_);go_simp;refine ac.mono ?_;clear ac;rintro e w2 ⟨rfl,hb2⟩;have hbX:=Aj hb2
  have cN:bx<w1.heap.size:=by
   obtain ⟨nx,tx,_,q2,_⟩:=H1.o.1.P8;exact q2.lt
  have hS2:m6 w2 P (t,b,n,109,nd,o,s,v)/\n7 w2 br T' o9 kv bt bx bc/\w2.heap[bx]? =w1.heap[bx]? :=⟨H1.o.2.1.later hbX,H1.o.1.cell.same (hbX.block _ H1.o.1.cell.lt),hbX.block _ cN⟩
  refine hK _ _ hS2 ?_;clear hK K;refine qn ?_;refine an (i:=4) zk rfl (fun K hK=> ?_);go_simp;refine hK _ _ hS2 ?_;clear hK K;refine qn ?_;refine wpAnyH_done zk ?_ _
  have H2:Aside (F7 w2 c br T' o9 kv bt bx bc R A/\m6 w2 P (t,b,n,109,nd,o,s,v)/\L7 w c w2 c/\E8 B ad w2):=⟨H1.o.1.later hbX,hS2.1,H1.o.2.2.1.trans (L7.y c hbX),EV.o.later hbX⟩
  have hP2:=H2.o.2.1.lt;clear y0 y1 y2 y3 y4 y5 y6 y7 f8 aa hS2 cN hb2
  cases dq with
  | false=>
   have jE:nd≠idO (t,b,n,109,nd,o,s,v):=fun e=>by
    have:=HDQ.o;rw [<-e] at this;simp at this
   have GX:Aside (n7 w2 br T' o9 kv bt bx bc/\m6 w2 P (t,b,n,109,nd,o,s,v)/\c br=1/\E4 w2 (c) kv R/\O8 w2 (c) bx ((t,b,n,109,nd,o,s,v)::A)/\R8 w2 (c) bc A/\L7 w c w2 (c)/\(∀k,c k≠0->B<=k)/\c P=0):=⟨H2.o.1.cell,H2.o.2.1,H2.o.1.y9,H2.o.1.GC,H2.o.1.P8.skip ⟨by show (109:Nat)≠105;decide,by show (109:Nat)≠100;decide⟩ (fun q=>jE q.2),H2.o.1.N8,H2.o.2.2.1,H0.o.2.2.2.2.2.1,H0.o.2.2.2.2.2.2.2.2⟩
   have EX:Aside (E8 B ad w2):=H2.o.2.2.2;obtain ⟨bm,vt,ms,tr1,lK,tr3,tr4,tr5⟩:=H2.o.1.Y7;have ac:=Dp Rs w2.drew 0 bt bm vt ms t b n nd o s v (EX.o.later (uM _ w2).drew).P7 (tr1.later (uM _ w2).drew) (uW _) qu HX.o.1 HX.o.2.1 ay.ok (Jy ay lK);go_wp2_with fail;refine lV (S:=(fun w'=>m6 w' P (t,b,n,109,nd,o,s,v)/\n7 w' br T' o9 kv bt bx bc)) zk ⟨GX.o.2.1,GX.o.1⟩ (fun aa=> ?_);refine tk 0 aa ?_;refine tk 1 aa ?_;refine tk 2 aa ?_;refine tk 3 aa ?_ (y:=ty xp);refine tk 4 aa ?_ (y:=ty zG);refine an (i:=5) zk rfl (fun K hK=> ?_);go_simp;refine ac.mono ?_;clear ac;rintro e w4 ⟨rfl,vt',ms',q1,q2,q3,q4⟩;have HS:Aside (U3 B w c br o9 kv bt bx bc R ((t,b,n,109,nd,o,s,v)::A) T' w4):=wZ (c1:=c) GX.o.1 GX.o.2.2.1 GX.o.2.2.2.1 GX.o.2.2.2.2.1 GX.o.2.2.2.2.2.1 rfl tr1 lK ⟨tr3,tr4,tr5⟩ q1 q2 (pB q3) q4 GX.o.2.2.2.2.2.2.1 GX.o.2.2.2.2.2.2.2.1 H0.o.2.2.2.2.1.size
   have hne:∀k,c k=0\/c k=1->¬(k=bt\/k=bm\/some k=vt.ownBlock):=fun k e e'=>by
    have:c k=2:=by
     rcases e' with q | q | q
     ·rw [q];exact tr3
     ·rw [q];exact tr4
     exact tr5 k q.symm
    omega
   exact kd8
  | true=>
   have jE:nd=idO (t,b,n,109,nd,o,s,v):=by
    have:=HDQ.o;simpa using this.symm
   obtain ⟨nx,tx,t1,t2,t3,t4,t5⟩:=H2.o.1.P8;have bG:=EL HX.o.2.2.1.1 HX.o.2.2.1.2;have jk:qL w2 (w2.alloc (.cells #[qE] 332)).drew:=(zh w2 _).drew;obtain ⟨w3,ae,eT,lp⟩:=(t2.same (jk.block bx t2.lt)).store zB bG w2.heap.size;have K3:=lS lp.grown
   have iA:=((lW jk).mono (fun k hk e=>absurd hk zj)).then K3 (fun k hk e=>yF)
   have cD:w3.heap[w2.heap.size]? =some (.cells #[qE] 332 (0,0)):=by
    rw [K3.block _ (by show w2.heap.size<(w2.alloc _).heap.size;rw [Zt];omega) (fun e=>by have:=t2.lt;simp at e;omega)];exact heap_alloc_new w2 _
   have hnew:=GR (w2:=w3) (p:=w2.heap.size) (nx:=nx) (tx:=tx) H2.o.1 ay rfl jE t1 eT t3 t4 t5 t2.lt cD zg iA;obtain ⟨c2,hc2⟩:=za (og c w2 w3 (nc (mY (t,b,n,109,nd,o,s,v))));rw [<-hc2] at hnew;have hP3:m6 w3 P (t,b,n,109,nd,o,s,v):=(iA.block P hP2 (fun e=>by have:=H0.o.2.2.2.2.2.2.2.2;rw [e,t3] at this;omega)).trans H2.o.2.1
   have GX:Aside (n7 w3 br T' o9 kv bt bx bc/\m6 w3 P (t,b,n,109,nd,o,s,v)/\c2 br=1/\E4 w3 (c2) kv R/\O8 w3 (c2) bx ((t,b,n,109,nd,o,s,v)::A)/\R8 w3 (c2) bc A/\L7 w c w3 (c2)/\(∀k,c2 k≠0->B<=k)/\c2 P=0):=by
    refine ⟨hnew.1,hP3,hnew.2.1,hnew.2.2.1,hnew.2.2.2.2.1,hnew.2.2.2.2.2,H2.o.2.2.1.trans ⟨iA.mono (fun k hk e=>by rw [e,t3];decide),fun k hk=>by rw [hc2];exact mH hk⟩,fun k e=> ?_,by rw [hc2,mH hP2];exact H0.o.2.2.2.2.2.2.2.2⟩;by_cases hkl:k<w2.heap.size
    ·rw [hc2,mH hkl] at e;exact H0.o.2.2.2.2.2.1 k e
    have:=H2.o.2.2.2.size;omega
   have EX:Aside (E8 B ad w3):=H2.o.2.2.2.mono (iA.m8 H2.o.2.2.2.size (fun k e=>H0.o.2.2.2.2.2.1 k (by rw [e,t3];decide)));obtain ⟨bm,vt,ms,tr1,lK,tr3,tr4,tr5⟩:=hnew.2.2.2.1;unfold AG at ae;simp only [YA] at ae
   have hSA:m6 (w2.alloc (.cells #[qE] 332)).drew P (t,b,n,109,nd,o,s,v)/\n7 (w2.alloc (.cells #[qE] 332)).drew br T' o9 kv bt bx bc:=⟨H2.o.2.1.later jk,H2.o.1.cell.same (jk.block _ H2.o.1.cell.lt)⟩
   clear hnew eT lp K3 cD hP3 hc2 iA t1 t2 t3 t4 t5 jk jE;go_wp2_with fail;refine nS (S:=(fun w'=>m6 w' P (t,b,n,109,nd,o,s,v)/\n7 w' br T' o9 kv bt bx bc)) (z:=7) zk ⟨H2.o.2.1,H2.o.1.cell⟩ (fun aa=> ?_);refine lY (i:=0) (v:= ?val0) zo rfl zk zk zk (fun _ _ _ h=>h) (Or.inl ⟨zt,?hyl0⟩) aa ?restl0
   case hyl0=>(intro w' _;go_simp;try with_reducible rfl)
   refine qn ?_;refine lY (i:=1) (v:= ?val1) zo rfl zk zk zk (fun _ _ _ h=>h) (Or.inl ⟨zt,?hyl1⟩) aa ?restl1
   case hyl1=>(intro w' _;go_simp;try with_reducible rfl)
   refine qn ?_;refine lY (i:=2) (v:= ?val2) zo rfl zk zk zk (fun _ _ _ h=>h) (Or.inl ⟨zt,?hyl2⟩) aa ?restl2
   case hyl2=>(intro w' _;go_simp;try with_reducible rfl)
   refine qn ?_;refine mV (i:=3) (v:= ?val3) zo zk rfl zk zk zk zk (fun _ _ _ h=>h) (Or.inl ⟨zt,?hyl3⟩) aa ?restl3
   case hyl3=>(intro w' ab;have r7:=ab.2.c7;clear ab;go_simp;try with_reducible rfl)
   refine qn ?_;refine lY (i:=4) (v:= ?val4) zo rfl zk zk zk (fun _ _ _ h=>h) (Or.inl ⟨zt,?hyl4⟩) aa ?restl4
   case hyl4=>(intro w' _;go_simp;try with_reducible rfl)
   refine qn ?_;refine mV (i:=5) (v:= ?val5) zo zk rfl zk zk zk zk (fun _ _ _ h=>h) (Or.inl ⟨zt,?hyl5⟩) aa ?restl5
   case hyl5=>(intro w' ab;have j4:=(m6.cells ab.1).2.2.2.2.1;dsimp only at j4;clear ab;go_simp;try with_reducible rfl)
   refine qn ?_;refine lN (i:=6) zk rfl (fun K hK=> ?_);go_simp;refine (Wv _).mono ?_;rintro e w' ⟨rfl,rfl⟩;refine hK _ _ (.inl hSA) ?_;clear hK K;refine qn ?_;refine lN (i:=7) zk rfl (fun K hK=> ?_);go_simp;refine hK _ _ (.inr ⟨rfl,zo⟩) ?_;clear hK K ae;refine nZ zk ?_ _;have ac:=Dp Rs w3.drew 0 bt bm vt ms t b n nd o s v (EX.o.later (uM _ w3).drew).P7 (tr1.later (uM _ w3).drew) (uW _) qu HX.o.1 HX.o.2.1 ay.ok (Jy ay lK);go_wp2_with fail;refine lV (S:=(fun w'=>m6 w' P (t,b,n,109,nd,o,s,v)/\n7 w' br T' o9 kv bt bx bc)) zk ⟨GX.o.2.1,GX.o.1⟩ (fun aa=> ?_);refine tk 0 aa ?_;refine tk 1 aa ?_;refine tk 2 aa ?_;refine tk 3 aa ?_ (y:=ty xp);refine tk 4 aa ?_ (y:=ty zG);refine an (i:=5) zk rfl (fun K hK=> ?_);go_simp;refine ac.mono ?_;clear ac;rintro e w4 ⟨rfl,vt',ms',q1,q2,q3,q4⟩;have HS:Aside (U3 B w c br o9 kv bt bx bc R ((t,b,n,109,nd,o,s,v)::A) T' w4):=wZ (c1:=c2) GX.o.1 GX.o.2.2.1 GX.o.2.2.2.1 GX.o.2.2.2.2.1 GX.o.2.2.2.2.2.1 rfl tr1 lK ⟨tr3,tr4,tr5⟩ q1 q2 (pB q3) q4 GX.o.2.2.2.2.2.2.1 GX.o.2.2.2.2.2.2.2.1 H0.o.2.2.2.2.1.size
   have hne:∀k,c2 k=0\/c2 k=1->¬(k=bt\/k=bm\/some k=vt.ownBlock):=fun k e e'=>by
    have:c2 k=2:=by
     rcases e' with q | q | q
     ·rw [q];exact tr3
     ·rw [q];exact tr4
     exact tr5 k q.symm
    omega
   exact kd8
 ·obtain ⟨nx,tx,t1,t2,t3,t4,t5⟩:=H1.o.1.P8
  have hA:∀x∈A,mv x=0:=fun x hx=>(H0.o.2.2.2.2.2.2.1.all x hx).1
  have ay:=H0.o.2.2.2.2.2.2.1;have cE:m9 A nd:=ay.l8 (ay.E5 (.inl rfl));obtain ⟨p,hp⟩:∃p,tx nd=some p:=Yu.1 ((t4 nd).2 cE);obtain ⟨vl,L,l1,l2,l3,l4⟩:=t5 nd p hp;have bG:=EL HX.o.2.2.1.1 HX.o.2.2.1.2;have hLl:=uO l2.D4 hlen
  have gz:=(⟨EV.o.P7.c1,EV.o.P7.c2,EV.o.c5,EV.o.c6⟩:Ln4 ad w1)
  have HL:Aside ((∀nd,(tx nd).isSome=true↔m9 A nd)/\(∀nd p,tx nd=some p->aar w1 c p nd A)/\u7 A nd L/\(c p=nc nd/\∀g,vl.ownBlock=some g->c g=nc nd)/\(∀x∈A,mv x=0)/\G7 A (t,b,n,105,nd,o,s,v)/\nx<=A.length/\c bx=3/\x9 (p+1) w1 p vl L/\0<=nd):=⟨t4,t5,l2,⟨l3,l4⟩,hA,ay,t1,t3,l1,by have:=ri hA cE;omega⟩
  have hpl:=l1.lt;have cN:=t2.lt;clear t1 t3 t4 t5 l2 l3 l4 cE hA ay;obtain ⟨ch,lg⟩:=RF HL.o.2.2.2.2.2.1.ok rfl;have lg:v=⟨#[ch]⟩:=lg;subst lg
  have aQ:∀w,(Instr.index 9 (.string ⟨#[ch]⟩) (qI 0)).run prog w= .ok (.int .u8 (ch.toNat:Int)) w:=fun _=>zk
  go_wp2_with fail;refine lV (S:=(fun w'=>m6 w' P (t,b,n,105,nd,o,s,⟨#[ch]⟩)/\n7 w' br T' o9 kv bt bx bc/\w'.heap[bx]? =w1.heap[bx]?)) zk ⟨H1.o.2.1,H1.o.1.cell,rfl⟩ (fun aa=> ?_);refine tk 0 aa ?_;refine tk 1 aa ?_;refine tk 2 aa ?_;refine tk 3 aa ?_ (y:=ty xk);refine tk 4 aa ?_;refine tk 5 aa ?_ (y:=ty yc);refine tk 6 aa ?_ (y:=ty yw);refine tk 7 aa ?_ (y:=ty zG);refine tk 9 aa ?_;refine tk 10 aa ?_ (y:=ty yW);refine tk 11 aa ?_;refine tk 12 aa ?_ (y:=ty (by intro w' ab;have j7:=(m6.cells ab.1).2.2.2.2.2.2.2.1;dsimp only at j7;clear ab;go_simp;try with_reducible rfl));refine tk 13 aa ?_;refine an (i:=8) zk rfl (fun K hK=> ?_);go_simp;have ac:=Il (t,b,n,105,nd,o,s,⟨#[ch]⟩) w1.drew HL.o.2.2.2.2.2.1.ok;unfold mJ at ac;refine ac.mono ?_;clear ac;rintro e w2 ⟨rfl,hb2⟩;have hbX:=Aj hb2;refine hK _ _ ⟨H1.o.2.1.later hbX,H1.o.1.cell.same (hbX.block _ H1.o.1.cell.lt),hbX.block _ cN⟩ ?_;clear hK K;refine qn ?_;refine an (i:=14) zk rfl (fun K hK=> ?_);go_simp;have hst:=HL.o.2.2.2.2.2.1;have hidr:=BI hst.ok;have gO:=rM hst.ok
  have hnew:idO (t,b,n,105,nd,o,s,⟨#[ch]⟩)∉L.map (·.1):=fun q=>by
   obtain ⟨x,hx,_,_,q⟩:=HL.o.2.2.1.U5.1 q;exact hst.abJ x hx q
  have ho0:0<=o:=gO.2.2.2.1;have hol:o<idO (t,b,n,105,nd,o,s,⟨#[ch]⟩):=gO.2.1
  have hoth:o=0\/o∈L.map (·.1):=by
   by_cases e:o=0
   ·exact .inl e
   exact .inr (HL.o.2.2.1.U5.2 (hst.ab9 (.inl ⟨rfl,by show 0<o;omega⟩)))
  have ac:=MB w2 (p+1) p vl L (idO (t,b,n,105,nd,o,s,⟨#[ch]⟩)) o ch.toNat (gz.later hbX) (l1.later hbX) (by have:=hbX.size;omega) zj zj (UInt8.toNat_lt ch)
  have aD:GN (idO (t,b,n,105,nd,o,s,⟨#[ch]⟩)) o L=0:=by
   unfold GN;rw [if_pos ⟨hidr.1,hidr.2,ho0,hol⟩,if_neg hnew,if_pos hoth]
  have aw:zc2 (idO (t,b,n,105,nd,o,s,⟨#[ch]⟩)) o ch.toNat L=put o (idO (t,b,n,105,nd,o,s,⟨#[ch]⟩),ch.toNat,false) L:=if_pos aD;rw [aw] at ac;refine ac.mono ?_;clear ac;rintro e w3 ⟨rfl,hact⟩
  have hM:u7 ((t,b,n,105,nd,o,s,⟨#[ch]⟩)::A) nd (put o (idO (t,b,n,105,nd,o,s,⟨#[ch]⟩),ch.toNat,false) L):=by
   have:=HL.o.2.2.1.ins (x:=(t,b,n,105,nd,o,s,⟨#[ch]⟩)) rfl rfl hnew (by have:=hidr.1;omega) hoth (hst.ac2 nd);exact this
  have HS:Aside (U3 B w c br o9 kv bt bx bc R ((t,b,n,105,nd,o,s,⟨#[ch]⟩)::A) T' w3):=wW H1.o.1 HL.o.2.2.2.2.1 (.inl rfl) HL.o.2.2.2.2.2.2.1 t2 HL.o.2.2.2.2.2.2.2.1 HL.o.1 HL.o.2.1 hp HL.o.2.2.2.2.2.2.2.2.1 HL.o.2.2.2.1 (rb hbX hact) hM H1.o.2.2.1 H0.o.2.2.2.2.2.1 H0.o.2.2.2.2.1.size;exact kb7
 ·obtain ⟨nx,tx,t1,t2,t3,t4,t5⟩:=H1.o.1.P8
  have hA:∀x∈A,mv x=0:=fun x hx=>(H0.o.2.2.2.2.2.2.1.all x hx).1
  have ay:=H0.o.2.2.2.2.2.2.1;have cE:m9 A nd:=ay.l8 (ay.E5 (.inr (.inl rfl)));obtain ⟨p,hp⟩:∃p,tx nd=some p:=Yu.1 ((t4 nd).2 cE);obtain ⟨vl,L,l1,l2,l3,l4⟩:=t5 nd p hp;have bG:=EL HX.o.2.2.1.1 HX.o.2.2.1.2;have hLl:=uO l2.D4 hlen
  have gz:=(⟨EV.o.P7.c1,EV.o.P7.c2,EV.o.c5,EV.o.c6⟩:Ln4 ad w1)
  have HL:Aside ((∀nd,(tx nd).isSome=true↔m9 A nd)/\(∀nd p,tx nd=some p->aar w1 c p nd A)/\u7 A nd L/\(c p=nc nd/\∀g,vl.ownBlock=some g->c g=nc nd)/\(∀x∈A,mv x=0)/\G7 A (t,b,n,100,nd,o,s,v)/\nx<=A.length/\c bx=3/\x9 (p+1) w1 p vl L/\0<=nd):=⟨t4,t5,l2,⟨l3,l4⟩,hA,ay,t1,t3,l1,by have:=ri hA cE;omega⟩
  have hpl:=l1.lt;have cN:=t2.lt;clear t1 t3 t4 t5 l2 l3 l4 cE hA ay
  have hlnd:Ln4 ad w1.drew:=⟨gz.1,gz.2,gz.3,gz.4⟩
  go_wp2_with fail;refine lV (S:=(fun w'=>m6 w' P (t,b,n,100,nd,o,s,v)/\n7 w' br T' o9 kv bt bx bc/\w'.heap[bx]? =w1.heap[bx]?)) zk ⟨H1.o.2.1,H1.o.1.cell,rfl⟩ (fun aa=> ?_);refine tk 0 aa ?_;refine tk 1 aa ?_;refine tk 2 aa ?_;refine tk 3 aa ?_ (y:=ty xk);refine tk 4 aa ?_;refine tk 5 aa ?_ (y:=ty yc);refine tk 6 aa ?_ (y:=ty yw);refine tk 7 aa ?_;refine tk 8 aa ?_ (y:=ty yW);refine an (i:=9) zk rfl (fun K hK=> ?_);go_simp;have ac:=LJ w1.drew (p+1) p vl L o hlnd (l1.later (uM _ w1).drew) zj;refine ac.mono ?_;clear ac;rintro e w3 ⟨rfl,hact⟩;have hbX:qL w1 w1.drew:=(uM _ w1).drew
  have hM:u7 ((t,b,n,100,nd,o,s,v)::A) nd (zct o L):=by
   have fu:o∈L.map (·.1):=HL.o.2.2.1.U5.2 (HL.o.2.2.2.2.2.1.ab9 (.inr rfl));obtain ⟨i,hi⟩:=rg fu;unfold zct;rw [hi];exact HL.o.2.2.1.del (x:=(t,b,n,100,nd,o,s,v)) rfl rfl hi
  have HS:Aside (U3 B w c br o9 kv bt bx bc R ((t,b,n,100,nd,o,s,v)::A) T' w3):=wW H1.o.1 HL.o.2.2.2.2.1 (.inr rfl) HL.o.2.2.2.2.2.2.1 t2 HL.o.2.2.2.2.2.2.2.1 HL.o.1 HL.o.2.1 hp HL.o.2.2.2.2.2.2.2.2.1 HL.o.2.2.2.1 (rb hbX hact) hM H1.o.2.2.1 H0.o.2.2.2.2.2.1 H0.o.2.2.2.2.1.size;exact kb7
 go_wp2_with fail;refine lV (S:=(fun w'=>m6 w' P (t,b,n,115,nd,o,s,v)/\n7 w' br T' o9 kv bt bx bc/\w'.heap[bx]? =w1.heap[bx]?)) zk ⟨H1.o.2.1,H1.o.1.cell,rfl⟩ (fun aa=> ?_);refine tk 0 aa ?_;refine tk 1 aa ?_;refine tk 2 aa ?_;refine tk 3 aa ?_ (y:=ty (by intro w' ab;have r8:=ab.2.1.c8;clear ab;go_simp;try with_reducible rfl));refine tk 4 aa ?_ (y:=ty zG);refine an (i:=5) zk rfl (fun K hK=> ?_);go_simp;obtain ⟨cm,A',m1,m2,m3,m4⟩:=H1.o.1.N8;have ac:=UX w1.drew bc cm A.length (rm A') t b n 115 nd o s v (EV.o.later (uM _ w1).drew).P7 (m1.later (uM _ w1).drew) zj HX.o.1 HX.o.2.1;refine ac.mono ?_;clear ac;rintro e w2 ⟨rfl,hset⟩;have HS:Aside (U3 B w c br o9 kv bt bx bc R ((t,b,n,115,nd,o,s,v)::A) T' w2):=Fr H1.o.1 rfl m2 ⟨m3,m4⟩ ⟨hset.1,pB hset.2⟩ H1.o.2.2.1 H0.o.2.2.2.2.2.1 H0.o.2.2.2.2.1.size
 have hcm:∀k,c k=0\/c k=1\/c k=3->k≠cm:=fun k e e'=>by rw [e',m4] at e;omega
 have hbx3:c bx=3/\bx<w1.heap.size:=by
  obtain ⟨nx,tx,_,q2,q3,_⟩:=H1.o.1.P8;exact ⟨q3,q2.lt⟩
 refine hK _ _ ⟨?_,?_,?_⟩ ?_
 ·exact (hset.2.block P hP1 (hcm P (.inl H0.o.2.2.2.2.2.2.2.2))).trans H1.o.2.1
 ·exact H1.o.1.cell.same (hset.2.block br H1.o.1.cell.lt (hcm br (.inr (.inl H1.o.1.y9))))
 ·exact hset.2.block bx hbx3.2 (hcm bx (.inr (.inr hbx3.1)))
 clear hK K;refine qn ?_;refine wpAnyH_done zk ?_ _;go_wp2;go_end0;exact ⟨⟨_,rfl⟩,HS.o⟩
end
section
open RowKit Shelf Maps
theorem pd{P}(w)(l9)(t ty e)(i)(z)(size bytes)(ht:P.underlying t=some (.slice e))(hi:P.info? e=some i)(hz:i.zero=some z)
  (eE:i.size=size) (bJ:i.bytes=bytes) (fK:z.cells.size=size) (hsz:0<size)
  (v) (n) (xs) (hown:w.ownsRow l9 e size v n xs)
  (a) (m c) (jK:0<m) (news) (hl:news.length=m*size) (bB:∀j u,news[j]? =some u->w.cell? (a.add j)=some u) (h1:∀u∈news,u.oneCell'=true)
  (h63:n+m<=maxLen) (dj:(n+m)*bytes<=140737488355328) (aj:l9<=w.heap.size):
  ∃v' w',(Builtin.append_ #[t,t] ty #[v,.slice (some a) m c]).run P w= .ok v' w'/\w'.ownsRow l9 e size v' (n+m) (xs++news)/\w.grownBy w' v.ownBlock/\
   ((∃g cap,v=qG g n cap/\v'=qG g (n+m) cap)\/(v'.ownBlock=some w.heap.size/\w.grownBy w' none)):=by
 obtain ⟨v',w',ae,h',hg',-⟩:=run_append_own (P:=P) w l9 t ty e i z size bytes ht hi hz eE bJ fK hsz v n xs hown a m c news hl bB h1 h63 dj aj;refine ⟨v',w',ae,h',hg',?_⟩;subst eE;subst bJ
 have hsmall:n+m<=9223372036854775807:=by simp only [maxLen] at h63;omega
 rcases hown.2 with ⟨rfl,rfl⟩ | ⟨g,cap,cur,rfl,hbg,hg,hnc,hcm,hcs,htake⟩
 ·have hr:=run_append_nil (P:=P) w t ty e i z ht hi hz a m c news hl bB zj zj zM;exact ki0
 by_cases ar:n+m<=cap
 ·have jQ:n*i.size+news.length<=cur.size:=by rw [hl,hcs,<-YC];exact ZG _ ar
  grind [run_append_room,Result.ok.injEq]
 have holds:=hown.cells (g:=g) rfl;have hr:=run_append_grow (P:=P) w t ty e i z ht hi hz (qB g) n cap xs hown.1 holds a m c news hl bB zj zj (growslice_fits zj dj);exact ki0
theorem Hp{w:qW}{l9 g cap n m}{xs ys}(h:w.ownsRow l9 88 8 (qG g m cap) m (cellsOf (xs++ys)))(hn:n=xs.length)(hm:m=n+ys.length):w.ownsRow l9 88 8 (qG g n cap) n (cellsOf xs):=by
 refine ⟨by rw [mo,hn],.inr ?_⟩
 rcases h.2 with ⟨h1,_⟩ | ⟨g',cap',cur,e,h1,h2,h3,h4,h5,h6⟩
 ·cases h1
 cases e
 refine ⟨g,cap,cur,rfl,h1,h2,zj,h4,h5,?_⟩;have:=congrArg (List.take (n*8)) h6
 grind [Nat.min_eq_left,oR,mo,Zk]
theorem Dc(w)(Bs g off cap)(ao)(L)(hlen:L.length<=1000)(aG:L= []\/ao=some (qA g off))(bM:Bs<w.heap.size)(hg:g<w.heap.size)(hc:w.cell? (qB Bs)=some (.slice ao L.length cap))(hI:T9 w g off L):
  qC 215 #[.func (.func 270) #[] #[qP Bs],.func (.func 217) #[] #[]] w fun e w'=>∃fa fc qs,e= .returned (.slice fa L.length fc)/\qs.Perm L/\qs.Pairwise (fun a b=>mB a<=mB b)/\F1 w' fa qs/\(∀a,fa=some a->w.heap.size<=a.block)/\qL w w':=by
 have dQ:=DW w Bs g off cap ao L hlen aG bM hg hc hI;go_enter func215,ntmps215;go_wp2_with fail;refine dQ.mono ?_;rintro e w1 ⟨v,rfl,hown,hb⟩
 rcases hown.2 with ⟨rfl,h0⟩ | ⟨g',cap',cur,rfl,hbg,-⟩
 ·have bq:=Zg.1 h0
  have HB:Aside (qL w w1/\L= []):=⟨hb,bq⟩
  go_wp2_with (go_at_call 269;refine (IG none 0 _ _).mono ?_;rintro e w' ⟨rfl,rfl⟩);go_ret;exact ⟨none,0,[],by rw [HB.o.2];rfl,by rw [HB.o.2],List.Pairwise.nil,.inl rfl,fun a e=>absurd e zr,HB.o.1⟩
 have hs:=zaW w1 w.heap.size g' cap' L hown zj;have bY:=(hown.lt g' rfl).2
 have HH:Aside (qL w w1/\w.heap.size<=g'/\g'<w1.heap.size):=⟨hb,hbg,bY⟩
 go_wp2_with fail;refine hs.mono ?_;rintro e w2 ⟨rfl,qs,hp,hpw,hcells,hk⟩
 have H2:Aside (qs.Perm L/\qs.Pairwise (fun a b=>mB a<=mB b)/\F1 w2 (qS g') qs/\qL w w2):=⟨hp,hpw,.inr ⟨g',0,rfl,fun j u hj=>by rw [Zc];exact hcells j u hj⟩,HH.o.1.trans (hk.m8 HH.o.1.size (fun k e=>by have:=HH.o.2.1;omega))⟩
 go_wp2;go_ret;exact ⟨_,_,qs,rfl,H2.o.1,H2.o.2.1,H2.o.2.2.1,fun a e=>by cases e;exact HH.o.2.1,H2.o.2.2.2⟩
theorem M2.G4{S F G}(h:M2 S F)(e:G.Perm F):M2 S G:=
 ⟨fun x hx=>h.ok x (e.mem_iff.1 hx),fun x hx=>h.off x (e.mem_iff.1 hx),(e.pairwise_iff (fun {a b} h q=>h ⟨q.1.symm,q.2.symm⟩)).2 h.one⟩
end
section
open RowKit Lib Go.Sort
def Q9(w:qW)(ao:qO)(qs:List Plc):Prop:=qs= []\/∃g off,ao=some (qA g off)/\∀j u,(mP lL qs)[j]? =some u->w.cell? (qA g (off+j))=some u
theorem Q9.later{w w'}{ao}{qs}(h:Q9 w ao qs)(hb:qL w w'):Q9 w' ao qs:=by
 rcases h with h | ⟨g,o,h1,h2⟩
 ·exact .inl h
 exact kk1
theorem L9.abX{w}{v}{qs}(h:L9 w v qs):∃ao cap,v= .slice ao qs.length cap/\Q9 w ao qs:=by
 rcases h with ⟨h,e⟩ | ⟨g,cap,h,_,hc⟩
 ·exact ⟨none,0,by rw [h,e];rfl,.inl e⟩
 exact ko3
theorem Q9.e{w}{ao}{qs}(h:Q9 w ao qs){k}{p}(hk:qs[k]? =some p):∃g off,ao=some (qA g off)/\w.cell? (qA g (off+k*3))=some (qI p.1)/\w.cell? (qA g (off+k*3+1))=some (qI p.2.1)/\w.cell? (qA g (off+k*3+2))=some (.string p.2.2):=by
 rcases h with h | ⟨g,off,h1,h2⟩
 ·simp_all
 refine ⟨g,off,h1,?_,?_,?_⟩
 ·exact h2 (k*3) _ (by have:=mi mG hk (c:=0) zj;rw [ZC] at this;rw [this];rfl)
 ·rw [Yt];exact h2 (k*3+1) _ vL
 rw [Yt];exact h2 (k*3+2) _ vL
def RR(g:Nat)(lb:Array Value)(xs:List Plc)(p:Plc->Bool)(l9:Nat)(w:qW):Prop:=
 ∀(W:qW) (x:Plc),x∈xs->Below l9 w W->Calls prog g (#[pG x]++lb) W (qR (.bool (p x)) W)
def zdB(p:Plc->Bool)(zs:List Plc)(r:Int):Prop:=
 (r= -1/\∀x∈zs,p x=false)\/∃k x,r=((k:Nat):Int)/\zs[k]? =some x/\p x=true/\∀j y,j<k->zs[j]? =some y->p y=false
theorem Bp(p)(g:Nat)(lb)(eg:∀args w,(callFunc g args).run prog w= .ok (.enter g args) w)(ao)(cap l9)(zs)(w)(aj:l9<=w.heap.size)(hp:RR g lb zs p l9 w)(fF:zs.length<=1000000)(hin:Q9 w ao zs):
  qC 248 #[.slice ao zs.length cap,.func (.func g) #[] lb] w fun e w'=>∃r:Int,e= .returned (qI r)/\Aside (zdB p zs r/\qL w w'):=by
 have HP:Aside (RR g lb zs p l9 w/\l9<=w.heap.size):=⟨hp,aj⟩
 have HI:Aside (Q9 w ao zs):=hin;go_enter func248,ntmps248;go_wp2;go_loopg [5,8] zs.length (fun kx _ s8 wr=>∃(k:Nat),s8=qN k/\k<=zs.length/\zs.length - k<=kx/\Aside (qL w wr/\∀j l,j<k->zs[j]? =some l->p l=false))
 case atStart=>exact ⟨0,rfl,uW _,uL _,⟨uM _ w,fun j l hj=>zj⟩⟩
 case round=>
  obtain ⟨k,rfl,hk,aY,A⟩:=hrel;by_cases hlt:k<zs.length
  ·have aq:qlt k zs.length=true:=by simp;omega
   have ek:((k:Int)).toNat=k:=zj;have pk:(0:Int)<=(k:Int):=zj;have bk:(k:Int)<(zs.length:Int):=zj
   obtain ⟨⟨nd,i,s⟩,hl⟩:∃l,Aside (zs[k]? =some l):=⟨zs[k],uJ hlt⟩
   obtain ⟨blk,off,aG,r0,r1,r2⟩:=(HI.o.later A.o.1).e hl.o;subst aG;dsimp only at r0 r1 r2;have ac:=HP.o.1 wr (nd,i,s) (uP hl.o) (A.o.1.mono HP.o.2);unfold pG at ac;dsimp only at ac
   cases hq:p (nd,i,s) with
   | true=>
    exact kf7
   | false=>
    rw [hq] at ac;have HQ:=Lib.hid hq;go_wp2_with (go_at_fn g;refine ac.mono ?_;rintro e w' ⟨rfl,hb'⟩);go_roundg (zs.length - (k+1))
    case measure=>omega
    case rel=>
     refine ⟨k+1,zN,zj,uL _,⟨zi A.o.1 hb',fun j l hj e=> ?_⟩⟩
     rcases Yc j k with h | h
     ·exact A.o.2 j l h e
     exact kg0
  exact kb5
theorem NM(p)(g:Nat)(lb)(eg:∀args w,(callFunc g args).run prog w= .ok (.enter g args) w)(ao)(cap l9)(zs)(w)(aj:l9<=w.heap.size)(hp:RR g lb zs p l9 w)(fF:zs.length<=1000000)(hin:Q9 w ao zs):
  qC 201 #[.slice ao zs.length cap,.func (.func g) #[] lb] w (qR (.bool (zs.any p)) w):=by
 have ac:=Bp p g lb eg ao cap l9 zs w aj hp fF hin;go_enter func201,ntmps201;go_wp2_with fail;refine ac.mono ?_;rintro e w' ⟨r,rfl,H⟩
 rcases H.o.1 with ⟨hr,ha⟩ | ⟨k,x,hr,hx,hpx,_⟩
 ·exact kg6
 exact ki7
end
section
open RowKit Lib Go.Sort Maps
open scoped Classical
def Mg(p:Plc):List Plc->List Plc
 | []=>[p]
 | q::r=>if q.1<p.1 then q::Mg p r else if q.1=p.1 then p::r else p::q::r
theorem Eb{p} :∀ {L:List Plc},L.Pairwise (fun a b=>a.1<b.1)->∀x,x∈Mg p L↔x=p\/(x∈L/\x.1≠p.1)
 | [],_,x=>by simp [Mg]
 | q::r,h,x=>by
  have hr:=Zz.1 h;unfold Mg;split
  ·rename_i k;rw [uX,Eb hr.2 x,uX];constructor
   ·rintro (e | e | ⟨e,e'⟩)
    ·exact .inr ⟨.inl e,by rw [e];omega⟩
    ·exact .inl e
    exact .inr ⟨.inr e,e'⟩
   rintro (e | ⟨e | e,e'⟩)
   ·exact .inr (.inl e)
   ·exact .inl e
   exact .inr (.inr ⟨e,e'⟩)
  grind
theorem Gd{p} :∀ {L:List Plc},L.Pairwise (fun a b=>a.1<b.1)->(Mg p L).Pairwise (fun a b=>a.1<b.1)
 | [],_=>by simp [Mg]
 | q::r,h=>by
  have hr:=Zz.1 h;unfold Mg;split
  ·rename_i k;refine Zz.2 ⟨fun x hx=> ?_,Gd hr.2⟩
   grind [Eb]
  rename_i k;split
  ·rename_i k';exact Zz.2 ⟨fun x hx=>zM,hr.2⟩
  rename_i k';refine Zz.2 ⟨fun x hx=> ?_,h⟩
  grind
theorem Jg(p):∀L:List Plc,(Mg p L).length<=L.length+1
 | []=>by simp [Mg]
 | q::r=>by
  have:=Jg p r
  grind [Mg]
theorem tP:∀(ms:List Mov) (f:Sta) (L:List Plc),C3 f L->(∀k p,f k=some p->p.1=k)->∃L',C3 (Ad f ms) L'/\L'.length<=L.length+ms.length
 | [],f,L,h,_=>⟨L,h,zr⟩
 | m::ms,f,L,h,hk=>by
  by_cases hi:Gc f m.2
  ·obtain ⟨L',h1,h2⟩:=tP ms (K6 f m) L (by rw [oC hi];exact h) (by rw [oC hi];exact hk);exact ⟨L',h1,zM⟩
  have hs:C3 (K6 f m) (Mg m.2 L):=by
   rw [oZ hi];refine ⟨Gd h.L3,fun x=> ?_⟩;rw [Eb h.L3 x];unfold upd;by_cases e:x.1=m.2.1
   ·rw [if_pos e];constructor
    ·rintro (q | ⟨_,q⟩)
     ·rw [q]
     exact absurd e q
    intro q;exact .inl (Option.some.inj q).symm
   rw [if_neg e,<-h.U5 x];constructor
   ·rintro (q | ⟨q,_⟩)
    ·exact absurd (by rw [q]) e
    exact q
   exact fun q=>.inr ⟨q,e⟩
  obtain ⟨L',h1,h2⟩:=tP ms (K6 f m) (Mg m.2 L) hs (fun k p q=>by
   rw [oZ hi] at q
   unfold upd at q
   split at q
   ·rename_i e
    rw [<-Option.some.inj q];exact e.symm
   ·exact hk k p q)
  refine ⟨L',h1,?_⟩
  grind [Jg,Za]
theorem Ap(ms):∃L,C3 (lM ms) L/\L.length<=ms.length:=by
 obtain ⟨L,h1,h2⟩:=tP ms tB [] ⟨List.Pairwise.nil,fun p=>by simp [tB]⟩ (fun k p h=>vd);exact ⟨L,h1,by simpa using h2⟩

end