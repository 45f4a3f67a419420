import Derived.Test.YtjclejjkganhfaaGreatDoorSA09
import Derived.Test.YtjclejjkganhfaaGreatDoorSA14
import Derived.Test.YtjclejjkganhfaaGreatDoorSA15
import Derived.Test.YtjclejjkganhfaaGreatDoorSA16
set_option linter.unusedSimpArgs false
set_option linter.unusedVariables false
set_option maxRecDepth 100000
set_option maxHeartbeats 64000000
namespace Go.Proofs.YtjclejjkganhfaaGreatDoor
open Go.Proofs.Tryz
section
open RowKit Maps
open scoped Classical
theorem zaT(w)(l9 bt bm n p8)(v)(ms)(L)(hT:t8 w bt bm v)(hL:N6 ms ms.length L)(hR:w.ownsRow l9 348 8 v ms.length (mN tH L))(hM:sE prog 3 w bm n (mX ms))(cY:∀m∈ms,P1 m.2)(aI:p8<=ms.length)(hlen:ms.length<=1000)(hn:n<=1000000):
  qC 275 #[qP bt,qN p8] w fun e w'=>(∃u,e= .returned u)/\sE prog 3 w' bm (n+(ms.length - p8)) (mX (ms.take p8))/\m7 (fun k=>k=bm) w w':=by
 have jx:(L.drop p8).length=ms.length - p8:=by rw [ZL,hL.y9]
 have jE:∀r,r<ms.length - p8->∃x,nv (L.drop p8) r=x/\L[ms.length - 1 - r]? =some x:=fun r hr=>by
  have:=Fw (L:=L.drop p8) (r:=r) zj
  grind
 have hF:∀r,r<(L.drop p8).length->XO (mX (ms.take (ms.length - r))) (nv (L.drop p8) r).1.2.1 (nv (L.drop p8) r).2=mX (ms.take (ms.length - (r+1))):=fun r hr=>by
  obtain ⟨x,h1,h2⟩:=jE r zj;rw [h1];have hmx:=hL.mov h2;have hfr:=hL.S8 _ x zj h2;rw [Bb hmx] at hfr;have hmt:=Gr hmx
  grind [mX,rm,Yw,QN]
 have bE:∀r,Wf (nv (L.drop p8) r).1.2.1:=fun r=>by
  by_cases hr:r<ms.length - p8
  ·obtain ⟨x,h1,h2⟩:=jE r hr;rw [h1];exact (tF (cY _ (uR (hL.mov h2)))).1
  by_cases h0:(L.drop p8).length=0
  ·have:=Zi.1 h0;rw [this];exact (show Wf 0 from Eg zo zo)
  have hz:(L.drop p8)[(L.drop p8).length - 1 - r]? =some (nv (L.drop p8) r):=by
   exact km7
  rw [ZT] at hz;exact (tF (cY _ (uR (hL.mov hz)))).1
 have h0:mX (ms.take (ms.length - 0))=mX ms:=by rw [Nat.sub_zero,Yq]
 have hM0:sE prog 3 w bm n ((fun r=>mX (ms.take (ms.length - r))) 0):=by show sE _ _ _ _ _ (mX (ms.take (ms.length - 0)));rw [h0];exact hM
 have fJ:∀g off (ao bo:qO) (cap:Nat),v= .slice ao ms.length cap->(if cap=p8 then ao else Option.map (fun x=>x.add (p8*8)) ao)=bo->(L.drop p8= []\/bo=some (qA g off))->g<w.heap.size->g≠bm->V6 w g off (L.drop p8)->
   qC 275 #[qP bt,qN p8] w fun e w'=>(∃u,e= .returned u)/\sE prog 3 w' bm (n+(ms.length - p8)) (mX (ms.take p8))/\m7 (fun k=>k=bm) w w':=fun g off ao bo cap hv hbo aH hg kC hrow=>by
  refine (QF w bt bm g off cap p8 ms.length n ao bo (L.drop p8) (fun r=>mX (ms.take (ms.length - r))) aI jx.symm hlen hn hT.c0 (by rw [<-hv];exact hT.c1) hbo aH hg kC hrow hM0 hF bE).mono ?_
  grind
 have d6:ms.length=p8->L.drop p8= []:=fun h=>Zi.1 (by rw [jx];omega)
 have kM:L.drop p8= []->∀g off,V6 w g off (L.drop p8):=fun h g off j u hj=>by rw [h] at hj;simp [mN] at hj
 rcases hR.2 with ⟨hv,h0⟩ | ⟨g,cap,cur,hv,_,hg,hnc,_⟩
 ·exact fJ bt 0 none none 0 (by rw [hv,h0]) zq (.inl (d6 zj)) hT.lt (hT.abr hM) (kM (d6 zj) _ _)
 subst hv;have ce:=(uN.1 hg).1;have kC:=rU hR hM;by_cases hc:cap=p8
 ·exact fJ g 0 (qS g) _ cap rfl rfl (.inl (d6 zj)) ce kC (kM (d6 zj) _ _)
 refine fJ g (p8*8) (qS g) (some (qA g (p8*8))) cap rfl (by rw [if_neg hc,YD,Addr.add_lit,Ze]) (.inr rfl) ce kC (fun j u hj=> ?_);have:=LY hR (p8*8+j) u (by rw [<-rY rK L p8 (by rw [hL.y9];exact aI),ZT] at hj;exact hj)
 simp_all
theorem Rh:Wg:=zaT
theorem Il(x)(w)(h:mz x=0):qC 82 #[mH x] w (qR (qI (idO x)) w):=by
 have h0:=wF h;obtain ⟨t,b,n,k,nd,o,s,v⟩:=x;unfold mH idO;dsimp only;have h1:1<=t:=h0.1;have h2:t<=1073741824:=h0.2.1;have h3:0<=b:=h0.2.2.1;have h4:b<4:=h0.2.2.2;exact kf1
structure GP (w:qW) (c:Nat->Nat) (br:Nat) (T o8:Int) (kv:Nat->Value) (bt bx bc:Nat) (R:Rws) (A:qX):Prop where
 cell:n7 w br T o8 kv bt bx bc
 B9:c br=1
 D6:E6 w c kv R
 Z8:aal w c bt A
 P9:P0 w c bx A
 P5:R9 w c bc A
theorem GP.kept{w w'}{c c'}{br}{T o8}{kv}{bt bx bc}{R}{A}(h:GP w c br T o8 kv bt bx bc R A)(hk:∀i,i≠0->EH c i w c' w'):GP w' c' br T o8 kv bt bx bc R A:=by
 have k1:=hk 1 zj;exact ⟨h.cell.same (k1.block _ h.cell.lt h.B9),(k1.B9 _ h.cell.lt).trans h.B9,h.D6.kept (fun i _=>hk _ zj),h.Z8.kept (hk 2 zj),h.P9.kept (hk 3 zj) (fun nd _=>hk _ yl),h.P5.kept (hk 4 zj)⟩
theorem GP.later{w w'}{c}{br}{T o8}{kv}{bt bx bc}{R}{A}(h:GP w c br T o8 kv bt bx bc R A)(hb:qL w w'):GP w' c br T o8 kv bt bx bc R A:=
 h.kept (fun i _=>⟨fun k hk _=>hb.block k hk,fun k _=>rfl⟩)
theorem GP.aaQ{w W w'}{c}{br}{T o8 t}{kv}{bt bx bc}{R}{A}(h:GP w c br T o8 kv bt bx bc R A)(hb:qL w W)(hh:Ng br T t W w'):GP w' c br (if T<t then t else T) o8 kv bt bx bc R A/\m7 (fun k=>k=br) w w':=by
 have hW:=h.later hb;have hKW:m7 (fun k=>k=br) w W:=(lW hb).mono (fun k hk e=>zj)
 rcases hh with ⟨hlt,W',hb',hheap,hk⟩ | ⟨hlt,hb'⟩
 ·have fX:=hW.later hb'
  have hk3:=(hKW.then (lW hb') (fun k hk e=>by have:=hKW.size;omega)).then hk (fun _ _ e=>e)
  rw [if_pos hlt]
  have eN:∀i,i≠1->EH c i W' c w':=fun i hi=>⟨fun k hkl e=>hk.block k hkl (fun e'=>by rw [e',fX.B9] at e;omega),fun _ _=>rfl⟩
  refine ⟨⟨?_,fX.B9,fX.D6.kept (fun i _=>eN _ zj),fX.Z8.kept (eN 2 zj),fX.P9.kept (eN 3 zj) (fun nd _=>eN _ yl),fX.P5.kept (eN 4 zj)⟩,hk3⟩;have:=heap_setCell_same W' br 0 _ _ (qI t) fX.cell;unfold n7
  simp_all
 rw [if_neg hlt];exact ⟨hW.later hb',hKW.then (lW hb') (fun k hk e=>by have:=hKW.size;omega)⟩
def oh(c:Nat->Nat)(w w':qW)(i:Nat):Nat->Nat:=fun k=>if k<w.heap.size then c k else if k<w'.heap.size then i else 0
theorem mF{c}{w w'}{i k}(h:k<w.heap.size):oh c w w' i k=c k:=if_pos h
theorem sy{c}{w w'}{i k}(h:w.heap.size<=k)(h':k<w'.heap.size):oh c w w' i k=i:=by simp_all [oh,if_neg,if_pos]
theorem sm{c}{w w'}{Sx}{i j m}(hk:m7 Sx w w')(hS:∀k,k<w.heap.size->Sx k->c k=i)(ay:j≠i):EH c j w (oh c w w' m) w':=
 ⟨fun k hkl e=>hk.block k hkl (fun s=>ay zM),fun k hkl=>mF hkl⟩
def U6(B:Nat)(w:qW)(c:Nat->Nat)(br:Nat)(o8:Int)(kv:Nat->Value)(bt bx bc:Nat)(R:Rws)(A:qX)(T':Int)(w':qW):Prop:=∃c',GP w' c' br T' o8 kv bt bx bc R A/\M5 w c w' c'/\(∀k,c' k≠0->B<=k)/\∀k,w'.heap.size<=k->c' k=0
theorem U6.of{B}{w w1 w'}{c c1 c'}{br}{o8}{kv}{bt bx bc}{R}{A}{T'}{i}{Sx}(hc:c'=oh c1 w1 w' i)(hp:GP w' c' br T' o8 kv bt bx bc R A)(h1:M5 w c w1 c1)(hk:m7 Sx w1 w')(hS:∀k,k<w1.heap.size->Sx k->c1 k≠0)(hB:∀k,c1 k≠0->B<=k)(bI:B<=w.heap.size):U6 B w c br o8 kv bt bx bc R A T' w':=by
 subst hc;refine ⟨_,hp,h1.trans ⟨hk.mono hS,fun k hkl=>mF hkl⟩,fun k e=> ?_,fun k hkl=> ?_⟩
 ·by_cases hkl:k<w1.heap.size
  ·rw [mF hkl] at e;exact hB k e
  have:=h1.L5.size;omega
 have:=hk.size;unfold oh
 grind
theorem Gi{B}{w w1 w'}{c}{br}{o8}{kv}{bt bx bc}{R}{A A'}{T'}{o}{cm}(h:GP w1 c br T' o8 kv bt bx bc R A)(iU:kdO o=115)(hA':A'.Perm A)(hcm:c bc=4/\c cm=4)(hset:WV w1 bc cm A.length (rj A') o w')(h1:M5 w c w1 c)(hB:∀k,c k≠0->B<=k)(bI:B<=w.heap.size):U6 B w c br o8 kv bt bx bc R (o::A) T' w':=by
 have hS4:∀k,k<w1.heap.size->(k=cm)->c k=4:=fun k _ e=>by rw [e];exact hcm.2
 have kp:∀j,j≠4->EH c j w1 (oh c w1 w' 4) w':=fun j hj=>sm hset.2 hS4 hj
 have cD:kdO o≠109:=by rw [iU];decide
 have hbcl:=hset.1.lt;refine U6.of (i:=4) rfl ⟨?_,?_,?_,?_,?_,?_⟩ h1 hset.2 (fun k hk e=>by rw [hS4 k hk e];decide) hB bI
 ·exact h.cell.same ((kp 1 zj).block _ h.cell.lt h.B9)
 ·rw [mF h.cell.lt];exact h.B9
 ·exact h.D6.kept (fun i _=>kp _ zj)
 ·exact (h.Z8.kept (kp 2 zj)).skip cD
 ·exact (h.P9.kept (kp 3 zj) (fun nd _=>kp _ yl)).skip ⟨by rw [iU];decide,by rw [iU];decide⟩ (fun q=>cD q.1)
 grind [R9.set,mF,sy]
theorem wI{B}{w w1 w'}{c}{br}{o8}{kv}{bt bx bc}{R}{A}{T'}{o}{nx}{tx}{p}{v}{L M}(h:GP w1 c br T' o8 kv bt bx bc R A)(hA:∀x∈A,mz x=0)(iU:kdO o=105\/kdO o=100)
  (t1:nx<=A.length) (t2:I6 w1 bx nx tx) (t3:c bx=3) (t4:∀nd,(tx nd).isSome=true↔m9 A nd) (t5:∀nd p,tx nd=some p->aas w1 c p nd A) (hp:tx (mU o)=some p)
  (hL:B6 (p+1) w1 p v L) (B9:c p=ni (mU o)/\∀g,v.ownBlock=some g->c g=ni (mU o)) (hact:Y9 (p+1) w1 p v M w') (hM:u9 (o::A) (mU o) M) (h1:M5 w c w1 c) (hB:∀k,c k≠0->B<=k) (bI:B<=w.heap.size):U6 B w c br o8 kv bt bx bc R (o::A) T' w':=by
 obtain ⟨v',q1,q2,q3⟩:=hact
 have hS:∀k,k<w1.heap.size->(k=p\/some k=v.ownBlock)->c k=ni (mU o):=fun k _ e=>e.elim (fun e=>by rw [e];exact B9.1) (fun e=>B9.2 k e.symm)
 have kp:∀j,j≠ni (mU o)->EH c j w1 (oh c w1 w' (ni (mU o))) w':=fun j hj=>sm q2 hS hj
 have n20:∀i,i<20->i≠ni (mU o):=fun i hi=>yl
 have bw:kdO o≠109:=fun e=>zj
 have cD:kdO o≠115:=fun e=>zj
 have bU:=(t4 _).1 uf;have hnd4:=rs hA bU;refine U6.of (i:=ni (mU o)) rfl ⟨?_,?_,?_,?_,?_,?_⟩ h1 q2 (fun k hk e=>zN) hB bI
 ·exact h.cell.same ((kp 1 (n20 1 zj)).block _ h.cell.lt h.B9)
 ·rw [mF h.cell.lt];exact h.B9
 ·exact h.D6.kept (fun i hi=>kp _ (n20 _ zj))
 ·exact (h.Z8.kept (kp 2 (n20 2 zj))).skip bw
 ·have k3:=kp 3 (n20 3 zj);refine ⟨nx,tx,zl,t2.same (k3.block _ t2.lt t3),(k3.B9 _ t2.lt).trans t3,fun nd=>(t4 nd).trans ?_,fun nd p' dl=> ?_⟩
  ·grind [Ao]
  by_cases e:nd=mU o
  ·subst e;rw [hp] at dl
   cases dl
   refine ⟨v',M,q1,hM,by rw [mF hL.lt];exact B9.1,fun g hg=> ?_⟩;have ce:=q1.kin hg
   grind [mF,sy]
  have hnk:=(t4 nd).1 (by rw [dl];rfl);have lN:=rs hA hnk;obtain ⟨v2,L2,k1,k2,k4⟩:=(t5 nd p' dl).kept (kp (ni nd) (fun q=>e (za6 zj zj q)));exact ⟨v2,L2,k1,k2.skip (fun q=>e q.1.symm),k4⟩
 exact (h.P5.kept (kp 4 (n20 4 zj))).skip cD
theorem wQ{B}{w w1 w'}{c c1}{br}{o8}{kv}{bt bx bc}{R}{A}{T'}{o}{bm}{v v'}{ms ms'}(hcell:n7 w1 br T' o8 kv bt bx bc)(hhue:c1 br=1)(aP:E6 w1 c1 kv R)(cT:P0 w1 c1 bx (o::A))(hmarks:R9 w1 c1 bc A)(iU:kdO o=109)
  (hT:I9 0 w1 bt bm v ms) (js:ms.Perm (pu A)) (B9:c1 bt=2/\c1 bm=2/\∀g,v.ownBlock=some g->c1 g=2) (q1:I9 0 w' bt bm v' ms') (q2:ms'.Perm (((o.1,o.2.1),(mU o,mT o,o.2.2.2.2.2.2.1))::ms)) (q3:m7 (fun k=>k=bt\/k=bm\/some k=v.ownBlock) w1 w') (q4:v'.ownBlock=v.ownBlock\/∀g,v'.ownBlock=some g->w1.heap.size<=g) (h1:M5 w c w1 c1) (hB:∀k,c1 k≠0->B<=k) (bI:B<=w.heap.size):U6 B w c br o8 kv bt bx bc R (o::A) T' w':=by
 have hS:∀k,k<w1.heap.size->(k=bt\/k=bm\/some k=v.ownBlock)->c1 k=2:=fun k _ e=>by
  grind
 have kp:∀j,j≠2->EH c1 j w1 (oh c1 w1 w' 2) w':=fun j hj=>sm q3 hS hj
 obtain ⟨l1,l2,l3⟩:=hT.lt;refine U6.of (i:=2) rfl ⟨?_,?_,?_,?_,?_,?_⟩ h1 q3 (fun k hk e=>zM) hB bI
 ·exact hcell.same ((kp 1 zj).block _ hcell.lt hhue)
 ·rw [mF hcell.lt];exact hhue
 ·exact aP.kept (fun i _=>kp _ zj)
 ·refine ⟨bm,v',ms',q1,by rw [Of iU];exact q2.trans (js.cons _),by rw [mF l1];exact B9.1,by rw [mF l2];exact B9.2.1,fun g hg=> ?_⟩;have ce:=q1.lt.2.2 g hg
  grind [mF,sy]
 ·exact cT.kept (kp 3 zj) (fun nd _=>kp _ yl)
 exact (hmarks.kept (kp 4 zj)).skip (by rw [iU];decide)
theorem Gg{w1 w2}{c}{br}{o8}{kv}{bt bx bc}{R}{A}{T'}{o}{nx p}{tx:XK}(h:GP w1 c br T' o8 kv bt bx bc R A)(hs:H9 A o)(iU:kdO o=109)(hid:mU o=idO o)
  (t1:nx<=A.length) (t2:I6 w2 bx (nx+1) (fun x=>if x=mU o then some p else tx x)) (t3:c bx=3) (t4:∀nd,(tx nd).isSome=true↔m9 A nd) (t5:∀nd p,tx nd=some p->aas w1 c p nd A) (gK:bx<w1.heap.size)
  (cB:w2.heap[p]? =some (.cells #[qE] 332 (0,0))) (gI:w1.heap.size<=p) (hk:m7 (fun k=>k=bx) w1 w2):
  n7 w2 br T' o8 kv bt bx bc/\oh c w1 w2 (ni (mU o)) br=1/\E6 w2 (oh c w1 w2 (ni (mU o))) kv R/\aal w2 (oh c w1 w2 (ni (mU o))) bt A/\P0 w2 (oh c w1 w2 (ni (mU o))) bx (o::A)/\R9 w2 (oh c w1 w2 (ni (mU o))) bc A:=by
 have hS:∀k,k<w1.heap.size->k=bx->c k=3:=fun k _ e=>by rw [e];exact t3
 have kp:∀j,j≠3->EH c j w1 (oh c w1 w2 (ni (mU o))) w2:=fun j hj=>sm hk hS hj
 have hA:∀x∈A,mz x=0:=fun x hx=>(hs.all x hx).1
 obtain ⟨hnk,hno⟩:=hs.fresh hid;have hpl:=(uN.1 cB).1;refine ⟨h.cell.same ((kp 1 zj).block _ h.cell.lt h.B9),by rw [mF h.cell.lt];exact h.B9,h.D6.kept (fun i _=>kp _ zj),h.Z8.kept (kp 2 zj),?_,h.P5.kept (kp 4 zj)⟩;refine ⟨nx+1,_,zl,t2,by rw [mF gK];exact t3,fun nd=> ?_,fun nd p' dl=> ?_⟩
 ·rw [Ao]
  grind
 by_cases e:nd=mU o
 ·subst e;rw [if_pos rfl] at dl
  cases dl
  refine ⟨qE,[],⟨cB,Zk _ _ _ _,zj,zq,fun l hl=>by simp at hl,fun l hl=>by simp at hl⟩,?_,by rw [sy gI hpl],fun g hg=>xC⟩
  grind [u9.GA]
 rw [if_neg e] at dl;have hnk':=(t4 nd).1 (by rw [dl];rfl);have lN:=rs hA hnk';obtain ⟨v2,L2,k1,k2,k4⟩:=(t5 nd p' dl).kept (kp (ni nd) yl);exact ⟨v2,L2,k1,k2.skip (fun q=>e q.1.symm),k4⟩
theorem pF{Sx}{w w'}(h:m7 Sx w.drew w'):m7 Sx w w':=⟨h.os,h.tape,h.output,h.size,h.block⟩
theorem BQ{w w'}(h:Below w.drew.heap.size w.drew w'):qL w w':=⟨h.os,h.tape,h.output,h.size,h.block⟩
theorem rr{l9}{w W w'}{p}{v}{M}(hb:qL w W)(h:Y9 l9 W p v M w'):Y9 l9 w p v M w':=by
 obtain ⟨v',q1,q2,q3⟩:=h;exact ⟨v',q1,((lW hb).mono (fun k hk e=>absurd hk zj)).then q2 (fun _ _ e=>e),q3.imp id (fun q g hg=>uQ hb.size (q g hg))⟩
theorem Rn{x}(h:mz x=0)(hk:kdO x=105):∃ch:UInt8,x.2.2.2.2.2.2.2=⟨#[ch]⟩:=by
 have h0:=mP h;unfold mz opE at h;rw [if_pos ⟨h0.1,h0.2.1,h0.2.2.1,h0.2.2.2.1,h0.2.2.2.2.1,h0.2.2.2.2.2.1⟩] at h;unfold AG at h;have hk':x.2.2.2.1=105:=hk;rw [hk',if_neg zo,if_pos rfl] at h;unfold Du at h;split at h
 ·cases h
 split at h
 ·cases h
 split at h
 ·cases h
 rename_i hv
 have hl:x.2.2.2.2.2.2.2.data.toList.length=1:=by
  rcases Nat.decEq x.2.2.2.2.2.2.2.data.toList.length 1 with q | q
  ·omega
  exact q
 match hd:x.2.2.2.2.2.2.2 with
 | ⟨⟨l⟩⟩=>
  rw [hd] at hl
  match l,hl with
  | [ch],_=>exact ⟨ch,rfl⟩
theorem SY{B}{ad}(w)(c)(br)(T o8)(kv)(bt bx bc)(R)(A)(x)(h:GP w c br T o8 kv bt bx bc R A)(hs:H9 A x)(hE:F1 B ad w)(hB:∀k,c k≠0->B<=k)(hcw:∀k,w.heap.size<=k->c k=0)(hlen:A.length<=250):
  qC 159 #[qP br,mH x] w fun e w'=>(∃u,e= .returned u)/\U6 B w c br o8 kv bt bx bc R (x::A) (if T<x.1 then x.1 else T) w':=by
 have hsx:=mP hs.ok;have bK:=wF hs.ok;have iS:=rI hs.ok;have hir:=Bi hs.ok;obtain ⟨t,b,n,kd,nd,o,s,v⟩:=x;obtain ⟨P,hP⟩:=za w.heap.size;obtain ⟨U,hU⟩:=za (w.alloc (qOc t b n kd nd o s v));have ah:qL w U:=zX
 have O1:m6 U P (t,b,n,kd,nd,o,s,v):=by rw [hU,hP];exact m6.GA w (t,b,n,kd,nd,o,s,v)
 have hUp:=h.later ah
 have hbr:br<P:=by rw [hP];exact h.cell.lt
 have bH:=Qh br T o8 t b U.drew ⟨hUp.cell.c0,hUp.cell.c1,hUp.cell.fz 0⟩ bK.1 bK.2.1 bK.2.2.1 bK.2.2.2;obtain ⟨T',hT'⟩:=za ((if T<t then t else T));have HT:Aside (T'=(if T<t then t else T)):=hT'
 have H0:Aside (GP U c br T o8 kv bt bx bc R A/\m6 U P (t,b,n,kd,nd,o,s,v)/\qL w U/\P=w.heap.size/\F1 B ad w/\(∀k,c k≠0->B<=k)/\H9 A (t,b,n,kd,nd,o,s,v)/\br<P/\c P=0):=⟨hUp,O1,ah,hP,hE,hB,hs,hbr,hcw P zj⟩
 have HX:Aside (s.size<=1000000/\v.size<=1000000/\(-2^63<=nd/\nd<2^63)/\(kd=109\/kd=105\/kd=100\/kd=115)):=by
  have a1:s.data.toList.length<=12:=hsx.2.2.2.2.2.2.2.2.2.2.2.2.1;have a2:v.data.toList.length<=12:=hsx.2.2.2.2.2.2.2.2.2.2.2.2.2;rw [oq] at a1 a2;have a3:0<=nd:=iS.2.2.1;have a4:nd<=idO (t,b,n,kd,nd,o,s,v):=iS.1.elim (fun q=>q.2) (fun q=>Int.le_of_lt q);exact ⟨zj,zj,⟨zj,zj⟩,hsx.2.2.2.2.2.2.1⟩
 have e1:(if T<(t,b,n,kd,nd,o,s,v).1 then (t,b,n,kd,nd,o,s,v).1 else T)=T':=hT'.symm;rw [e1];unfold mH;go_enter func159,ntmps159;go_wp2_with fail;rw [<-hU,<-hP];clear hU hP;refine lV (S:=(fun w'=>m6 w' P (t,b,n,kd,nd,o,s,v))) zk H0.o.2.1 (fun aa=> ?_);refine tk 0 aa ?_ (y:=ty zK);refine tk 1 aa ?_ (y:=ty zK);refine tk 2 aa ?_ (y:=ty zK);refine tk 3 aa ?_ (y:=ty zK);refine tk 4 aa ?_ (y:=ty zK);refine an (i:=5) zk rfl (fun K hK=> ?_);go_simp;refine bH.mono ?_;rintro e w1 ⟨⟨u,rfl⟩,W,hbW,hh⟩
 have H1:Aside (GP w1 c br T' o8 kv bt bx bc R A/\m6 w1 P (t,b,n,kd,nd,o,s,v)/\M5 w c w1 c/\P<w1.heap.size/\w.heap.size<=w1.heap.size):=by
  obtain ⟨a1,a2⟩:=(H0.o.1.later (uO _ _).drew).aaQ hbW hh;have hPU:=H0.o.2.1.lt;have a3:m6 w1 P (t,b,n,kd,nd,o,s,v):=(a2.block P hPU (fun e=>by have:=H0.o.2.2.2.2.2.2.2.1;omega)).trans H0.o.2.1;refine ⟨by rw [HT.o];exact a1,a3,⟨((lW H0.o.2.2.1).mono (fun k hk e=>absurd hk zj)).then (pF a2) (fun k hk e=>by have e':=e;rw [e',H0.o.1.B9];decide),fun _ _=>rfl⟩,a3.lt,uQ H0.o.2.2.1.size a2.size⟩
 refine hK _ _ H1.o.2.1 ?_;refine qn ?_;refine wpAnyH_done zk ?_ _;have hP1:=H1.o.2.2.2.1;have EV:Aside (F1 B ad w1):=H0.o.2.2.2.2.1.mono (H1.o.2.2.1.L5.m8 H0.o.2.2.2.2.1.size (fun k e=>H0.o.2.2.2.2.2.1 k e));obtain ⟨y0,y1,y2,y3,y4,y5,y6,y7,f8⟩:=m6.ct H1.o.2.1;have hkinds:=HX.o.2.2.2
 rcases hkinds with rfl | rfl | rfl | rfl
 ·have aA:=H0.o.2.2.2.2.2.2.1;have ac:=Il (t,b,n,109,nd,o,s,v) w1.drew aA.ok;unfold mH at ac;obtain ⟨dq,hdq⟩:=za ((nd==idO (t,b,n,109,nd,o,s,v)));have HDQ:Aside (dq=(nd==idO (t,b,n,109,nd,o,s,v))):=hdq;obtain ⟨idx,aT⟩:=za (idO (t,b,n,109,nd,o,s,v));rw [<-aT] at ac hdq;have hdq':=hdq.symm;clear hdq aT;go_wp2_with fail;refine lV (S:=(fun w'=>m6 w' P (t,b,n,109,nd,o,s,v)/\n7 w' br T' o8 kv bt bx bc/\w'.heap[bx]? =w1.heap[bx]?)) zk ⟨H1.o.2.1,H1.o.1.cell,rfl⟩ (fun aa=> ?_);refine tk 0 aa ?_;refine tk 1 aa ?_ (y:=ty ye);refine tk 2 aa ?_ (y:=ty zG);refine an (i:=3) zk rfl (fun K hK=> ?_);go_simp;refine ac.mono ?_;clear ac;rintro e w2 ⟨rfl,hb2⟩;have hbX:=BQ hb2
  have cG:bx<w1.heap.size:=by
   obtain ⟨nx,tx,_,q2,_⟩:=H1.o.1.P9;exact q2.lt
  have hS2:m6 w2 P (t,b,n,109,nd,o,s,v)/\n7 w2 br T' o8 kv bt bx bc/\w2.heap[bx]? =w1.heap[bx]? :=⟨H1.o.2.1.later hbX,H1.o.1.cell.same (hbX.block _ H1.o.1.cell.lt),hbX.block _ cG⟩
  refine hK _ _ hS2 ?_;clear hK K;refine qn ?_;refine an (i:=4) zk rfl (fun K hK=> ?_);go_simp;refine hK _ _ hS2 ?_;clear hK K;refine qn ?_;refine wpAnyH_done zk ?_ _
  have H2:Aside (GP w2 c br T' o8 kv bt bx bc R A/\m6 w2 P (t,b,n,109,nd,o,s,v)/\M5 w c w2 c/\F1 B ad w2):=⟨H1.o.1.later hbX,hS2.1,H1.o.2.2.1.trans (M5.y c hbX),EV.o.later hbX⟩
  have hP2:=H2.o.2.1.lt;clear y0 y1 y2 y3 y4 y5 y6 y7 f8 aa hS2 cG hb2
  cases dq with
  | false=>
   have jr:nd≠idO (t,b,n,109,nd,o,s,v):=fun e=>by
    have:=HDQ.o;rw [<-e] at this;simp at this
   have GX:Aside (n7 w2 br T' o8 kv bt bx bc/\m6 w2 P (t,b,n,109,nd,o,s,v)/\c br=1/\E6 w2 (c) kv R/\P0 w2 (c) bx ((t,b,n,109,nd,o,s,v)::A)/\R9 w2 (c) bc A/\M5 w c w2 (c)/\(∀k,c k≠0->B<=k)/\c P=0):=⟨H2.o.1.cell,H2.o.2.1,H2.o.1.B9,H2.o.1.D6,H2.o.1.P9.skip ⟨by show (109:Nat)≠105;decide,by show (109:Nat)≠100;decide⟩ (fun q=>jr q.2),H2.o.1.P5,H2.o.2.2.1,H0.o.2.2.2.2.2.1,H0.o.2.2.2.2.2.2.2.2⟩
   have EX:Aside (F1 B ad w2):=H2.o.2.2.2;obtain ⟨bm,vt,ms,tr1,ll,tr3,tr4,tr5⟩:=H2.o.1.Z8;have ac:=EN Rh w2.drew 0 bt bm vt ms t b n nd o s v (EX.o.later (uO _ w2).drew).Q1 (tr1.later (uO _ w2).drew) (uW _) qw HX.o.1 HX.o.2.1 aA.ok (KR aA ll);go_wp2_with fail;refine lV (S:=(fun w'=>m6 w' P (t,b,n,109,nd,o,s,v)/\n7 w' br T' o8 kv bt bx bc)) zk ⟨GX.o.2.1,GX.o.1⟩ (fun aa=> ?_);refine tk 0 aa ?_;refine tk 1 aa ?_;refine tk 2 aa ?_;refine tk 3 aa ?_ (y:=ty xu);refine tk 4 aa ?_ (y:=ty zG);refine an (i:=5) zk rfl (fun K hK=> ?_);go_simp;refine ac.mono ?_;clear ac;rintro e w4 ⟨rfl,vt',ms',q1,q2,q3,q4⟩;have HS:Aside (U6 B w c br o8 kv bt bx bc R ((t,b,n,109,nd,o,s,v)::A) T' w4):=wQ (c1:=c) GX.o.1 GX.o.2.2.1 GX.o.2.2.2.1 GX.o.2.2.2.2.1 GX.o.2.2.2.2.2.1 rfl tr1 ll ⟨tr3,tr4,tr5⟩ q1 q2 (pF q3) q4 GX.o.2.2.2.2.2.2.1 GX.o.2.2.2.2.2.2.2.1 H0.o.2.2.2.2.1.size
   have hne:∀k,c k=0\/c k=1->¬(k=bt\/k=bm\/some k=vt.ownBlock):=fun k e e'=>by
    have:c k=2:=by
     rcases e' with q | q | q
     ·rw [q];exact tr3
     ·rw [q];exact tr4
     exact tr5 k q.symm
    omega
   exact ke0
  | true=>
   have jr:nd=idO (t,b,n,109,nd,o,s,v):=by
    have:=HDQ.o;simpa using this.symm
   obtain ⟨nx,tx,t1,t2,t3,t4,t5⟩:=H2.o.1.P9;have bE:=Eg HX.o.2.2.1.1 HX.o.2.2.1.2;have jb:qL w2 (w2.alloc (.cells #[qE] 332)).drew:=(zh w2 _).drew;obtain ⟨w3,ae,gB,hT3⟩:=(t2.same (jb.block bx t2.lt)).store zB bE w2.heap.size;have K3:=lS hT3.grown
   have iw:=((lW jb).mono (fun k hk e=>absurd hk zj)).then K3 (fun k hk e=>yG)
   have cB:w3.heap[w2.heap.size]? =some (.cells #[qE] 332 (0,0)):=by
    rw [K3.block _ (by show w2.heap.size<(w2.alloc _).heap.size;rw [Zv];omega) (fun e=>by have:=t2.lt;simp at e;omega)];exact heap_alloc_new w2 _
   have hnew:=Gg (w2:=w3) (p:=w2.heap.size) (nx:=nx) (tx:=tx) H2.o.1 aA rfl jr t1 gB t3 t4 t5 t2.lt cB zg iw;obtain ⟨c2,hc2⟩:=za (oh c w2 w3 (ni (mU (t,b,n,109,nd,o,s,v))));rw [<-hc2] at hnew;have hP3:m6 w3 P (t,b,n,109,nd,o,s,v):=(iw.block P hP2 (fun e=>by have:=H0.o.2.2.2.2.2.2.2.2;rw [e,t3] at this;omega)).trans H2.o.2.1
   have GX:Aside (n7 w3 br T' o8 kv bt bx bc/\m6 w3 P (t,b,n,109,nd,o,s,v)/\c2 br=1/\E6 w3 (c2) kv R/\P0 w3 (c2) bx ((t,b,n,109,nd,o,s,v)::A)/\R9 w3 (c2) bc A/\M5 w c w3 (c2)/\(∀k,c2 k≠0->B<=k)/\c2 P=0):=by
    refine ⟨hnew.1,hP3,hnew.2.1,hnew.2.2.1,hnew.2.2.2.2.1,hnew.2.2.2.2.2,H2.o.2.2.1.trans ⟨iw.mono (fun k hk e=>by rw [e,t3];decide),fun k hk=>by rw [hc2];exact mF hk⟩,fun k e=> ?_,by rw [hc2,mF hP2];exact H0.o.2.2.2.2.2.2.2.2⟩;by_cases hkl:k<w2.heap.size
    ·rw [hc2,mF hkl] at e;exact H0.o.2.2.2.2.2.1 k e
    have:=H2.o.2.2.2.size;omega
   have EX:Aside (F1 B ad w3):=H2.o.2.2.2.mono (iw.m8 H2.o.2.2.2.size (fun k e=>H0.o.2.2.2.2.2.1 k (by rw [e,t3];decide)));obtain ⟨bm,vt,ms,tr1,ll,tr3,tr4,tr5⟩:=hnew.2.2.2.1;unfold AN at ae;simp only [YD] at ae
   have hSA:m6 (w2.alloc (.cells #[qE] 332)).drew P (t,b,n,109,nd,o,s,v)/\n7 (w2.alloc (.cells #[qE] 332)).drew br T' o8 kv bt bx bc:=⟨H2.o.2.1.later jb,H2.o.1.cell.same (jb.block _ H2.o.1.cell.lt)⟩
   clear hnew gB hT3 K3 cB hP3 hc2 iw t1 t2 t3 t4 t5 jb jr;go_wp2_with fail;refine nT (S:=(fun w'=>m6 w' P (t,b,n,109,nd,o,s,v)/\n7 w' br T' o8 kv bt bx bc)) (z:=7) zk ⟨H2.o.2.1,H2.o.1.cell⟩ (fun aa=> ?_);refine lX (i:=0) (v:= ?val0) zo rfl zk zk zk (fun _ _ _ h=>h) (Or.inl ⟨zt,?hyl0⟩) aa ?restl0
   case hyl0=>(intro w' _;go_simp;try with_reducible rfl)
   refine qn ?_;refine lX (i:=1) (v:= ?val1) zo rfl zk zk zk (fun _ _ _ h=>h) (Or.inl ⟨zt,?hyl1⟩) aa ?restl1
   case hyl1=>(intro w' _;go_simp;try with_reducible rfl)
   refine qn ?_;refine lX (i:=2) (v:= ?val2) zo rfl zk zk zk (fun _ _ _ h=>h) (Or.inl ⟨zt,?hyl2⟩) aa ?restl2
   case hyl2=>(intro w' _;go_simp;try with_reducible rfl)
   refine qn ?_;refine mS (i:=3) (v:= ?val3) zo zk rfl zk zk zk zk (fun _ _ _ h=>h) (Or.inl ⟨zt,?hyl3⟩) aa ?restl3
   case hyl3=>(intro w' ab;have r7:=ab.2.c7;clear ab;go_simp;try with_reducible rfl)
   refine qn ?_;refine lX (i:=4) (v:= ?val4) zo rfl zk zk zk (fun _ _ _ h=>h) (Or.inl ⟨zt,?hyl4⟩) aa ?restl4
   case hyl4=>(intro w' _;go_simp;try with_reducible rfl)
   refine qn ?_;refine mS (i:=5) (v:= ?val5) zo zk rfl zk zk zk zk (fun _ _ _ h=>h) (Or.inl ⟨zt,?hyl5⟩) aa ?restl5
   case hyl5=>(intro w' ab;have j4:=(m6.cells ab.1).2.2.2.2.1;dsimp only at j4;clear ab;go_simp;try with_reducible rfl)
   refine qn ?_;refine mY (i:=6) zk rfl (fun K hK=> ?_);go_simp;refine (zaW _).mono ?_;rintro e w' ⟨rfl,rfl⟩;refine hK _ _ (.inl hSA) ?_;clear hK K;refine qn ?_;refine mY (i:=7) zk rfl (fun K hK=> ?_);go_simp;refine hK _ _ (.inr ⟨rfl,zo⟩) ?_;clear hK K ae;refine ma zk ?_ _;have ac:=EN Rh w3.drew 0 bt bm vt ms t b n nd o s v (EX.o.later (uO _ w3).drew).Q1 (tr1.later (uO _ w3).drew) (uW _) qw HX.o.1 HX.o.2.1 aA.ok (KR aA ll);go_wp2_with fail;refine lV (S:=(fun w'=>m6 w' P (t,b,n,109,nd,o,s,v)/\n7 w' br T' o8 kv bt bx bc)) zk ⟨GX.o.2.1,GX.o.1⟩ (fun aa=> ?_);refine tk 0 aa ?_;refine tk 1 aa ?_;refine tk 2 aa ?_;refine tk 3 aa ?_ (y:=ty xu);refine tk 4 aa ?_ (y:=ty zG);refine an (i:=5) zk rfl (fun K hK=> ?_);go_simp;refine ac.mono ?_;clear ac;rintro e w4 ⟨rfl,vt',ms',q1,q2,q3,q4⟩;have HS:Aside (U6 B w c br o8 kv bt bx bc R ((t,b,n,109,nd,o,s,v)::A) T' w4):=wQ (c1:=c2) GX.o.1 GX.o.2.2.1 GX.o.2.2.2.1 GX.o.2.2.2.2.1 GX.o.2.2.2.2.2.1 rfl tr1 ll ⟨tr3,tr4,tr5⟩ q1 q2 (pF q3) q4 GX.o.2.2.2.2.2.2.1 GX.o.2.2.2.2.2.2.2.1 H0.o.2.2.2.2.1.size
   have hne:∀k,c2 k=0\/c2 k=1->¬(k=bt\/k=bm\/some k=vt.ownBlock):=fun k e e'=>by
    have:c2 k=2:=by
     rcases e' with q | q | q
     ·rw [q];exact tr3
     ·rw [q];exact tr4
     exact tr5 k q.symm
    omega
   exact ke0
 ·obtain ⟨nx,tx,t1,t2,t3,t4,t5⟩:=H1.o.1.P9
  have hA:∀x∈A,mz x=0:=fun x hx=>(H0.o.2.2.2.2.2.2.1.all x hx).1
  have aA:=H0.o.2.2.2.2.2.2.1;have cC:m9 A nd:=aA.l8 (aA.C9 (.inl rfl));obtain ⟨p,hp⟩:∃p,tx nd=some p:=Yl.1 ((t4 nd).2 cC);obtain ⟨vl,L,l1,l2,l3,l4⟩:=t5 nd p hp;have bE:=Eg HX.o.2.2.1.1 HX.o.2.2.1.2;have hLl:=uQ l2.y9 hlen
  have fu:=(⟨EV.o.Q1.c1,EV.o.Q1.c2,EV.o.c5,EV.o.c6⟩:Ln4 ad w1)
  have HL:Aside ((∀nd,(tx nd).isSome=true↔m9 A nd)/\(∀nd p,tx nd=some p->aas w1 c p nd A)/\u9 A nd L/\(c p=ni nd/\∀g,vl.ownBlock=some g->c g=ni nd)/\(∀x∈A,mz x=0)/\H9 A (t,b,n,105,nd,o,s,v)/\nx<=A.length/\c bx=3/\B6 (p+1) w1 p vl L/\0<=nd):=⟨t4,t5,l2,⟨l3,l4⟩,hA,aA,t1,t3,l1,by have:=rs hA cC;omega⟩
  have hpl:=l1.lt;have cG:=t2.lt;clear t1 t3 t4 t5 l2 l3 l4 cC hA aA;obtain ⟨ch,kG⟩:=Rn HL.o.2.2.2.2.2.1.ok rfl;have kG:v=⟨#[ch]⟩:=kG;subst kG
  have aT:∀w,(Instr.index 9 (.string ⟨#[ch]⟩) (qI 0)).run prog w= .ok (.int .u8 (ch.toNat:Int)) w:=fun _=>zk
  go_wp2_with fail;refine lV (S:=(fun w'=>m6 w' P (t,b,n,105,nd,o,s,⟨#[ch]⟩)/\n7 w' br T' o8 kv bt bx bc/\w'.heap[bx]? =w1.heap[bx]?)) zk ⟨H1.o.2.1,H1.o.1.cell,rfl⟩ (fun aa=> ?_);refine tk 0 aa ?_;refine tk 1 aa ?_;refine tk 2 aa ?_;refine tk 3 aa ?_ (y:=ty xl);refine tk 4 aa ?_;refine tk 5 aa ?_ (y:=ty ye);refine tk 6 aa ?_ (y:=ty yA);refine tk 7 aa ?_ (y:=ty zG);refine tk 9 aa ?_;refine tk 10 aa ?_ (y:=ty yX);refine tk 11 aa ?_;refine tk 12 aa ?_ (y:=ty (by intro w' ab;have j7:=(m6.cells ab.1).2.2.2.2.2.2.2.1;dsimp only at j7;clear ab;go_simp;try with_reducible rfl));refine tk 13 aa ?_;refine an (i:=8) zk rfl (fun K hK=> ?_);go_simp;have ac:=Il (t,b,n,105,nd,o,s,⟨#[ch]⟩) w1.drew HL.o.2.2.2.2.2.1.ok;unfold mH at ac;refine ac.mono ?_;clear ac;rintro e w2 ⟨rfl,hb2⟩;have hbX:=BQ hb2;refine hK _ _ ⟨H1.o.2.1.later hbX,H1.o.1.cell.same (hbX.block _ H1.o.1.cell.lt),hbX.block _ cG⟩ ?_;clear hK K;refine qn ?_;refine an (i:=14) zk rfl (fun K hK=> ?_);go_simp;have hst:=HL.o.2.2.2.2.2.1;have hidr:=Bi hst.ok;have iS:=rI hst.ok
  have hnew:idO (t,b,n,105,nd,o,s,⟨#[ch]⟩)∉L.map (·.1):=fun q=>by
   obtain ⟨x,hx,_,_,q⟩:=HL.o.2.2.1.U7.1 q;exact hst.abz x hx q
  have ho0:0<=o:=iS.2.2.2.1;have hol:o<idO (t,b,n,105,nd,o,s,⟨#[ch]⟩):=iS.2.1
  have hoth:o=0\/o∈L.map (·.1):=by
   by_cases e:o=0
   ·exact .inl e
   exact .inr (HL.o.2.2.1.U7.2 (hst.abR (.inl ⟨rfl,by show 0<o;omega⟩)))
  have ac:=MW w2 (p+1) p vl L (idO (t,b,n,105,nd,o,s,⟨#[ch]⟩)) o ch.toNat (fu.later hbX) (l1.later hbX) (by have:=hbX.size;omega) zj zj (UInt8.toNat_lt ch)
  have aD:Fq (idO (t,b,n,105,nd,o,s,⟨#[ch]⟩)) o L=0:=by
   unfold Fq;rw [if_pos ⟨hidr.1,hidr.2,ho0,hol⟩,if_neg hnew,if_pos hoth]
  have aw:zd2 (idO (t,b,n,105,nd,o,s,⟨#[ch]⟩)) o ch.toNat L=put o (idO (t,b,n,105,nd,o,s,⟨#[ch]⟩),ch.toNat,false) L:=if_pos aD;rw [aw] at ac;refine ac.mono ?_;clear ac;rintro e w3 ⟨rfl,hact⟩
  have hM:u9 ((t,b,n,105,nd,o,s,⟨#[ch]⟩)::A) nd (put o (idO (t,b,n,105,nd,o,s,⟨#[ch]⟩),ch.toNat,false) L):=by
   have:=HL.o.2.2.1.ins (x:=(t,b,n,105,nd,o,s,⟨#[ch]⟩)) rfl rfl hnew (by have:=hidr.1;omega) hoth (hst.acF nd);exact this
  have HS:Aside (U6 B w c br o8 kv bt bx bc R ((t,b,n,105,nd,o,s,⟨#[ch]⟩)::A) T' w3):=wI H1.o.1 HL.o.2.2.2.2.1 (.inl rfl) HL.o.2.2.2.2.2.2.1 t2 HL.o.2.2.2.2.2.2.2.1 HL.o.1 HL.o.2.1 hp HL.o.2.2.2.2.2.2.2.2.1 HL.o.2.2.2.1 (rr hbX hact) hM H1.o.2.2.1 H0.o.2.2.2.2.2.1 H0.o.2.2.2.2.1.size;exact kb7
 ·obtain ⟨nx,tx,t1,t2,t3,t4,t5⟩:=H1.o.1.P9
  have hA:∀x∈A,mz x=0:=fun x hx=>(H0.o.2.2.2.2.2.2.1.all x hx).1
  have aA:=H0.o.2.2.2.2.2.2.1;have cC:m9 A nd:=aA.l8 (aA.C9 (.inr (.inl rfl)));obtain ⟨p,hp⟩:∃p,tx nd=some p:=Yl.1 ((t4 nd).2 cC);obtain ⟨vl,L,l1,l2,l3,l4⟩:=t5 nd p hp;have bE:=Eg HX.o.2.2.1.1 HX.o.2.2.1.2;have hLl:=uQ l2.y9 hlen
  have fu:=(⟨EV.o.Q1.c1,EV.o.Q1.c2,EV.o.c5,EV.o.c6⟩:Ln4 ad w1)
  have HL:Aside ((∀nd,(tx nd).isSome=true↔m9 A nd)/\(∀nd p,tx nd=some p->aas w1 c p nd A)/\u9 A nd L/\(c p=ni nd/\∀g,vl.ownBlock=some g->c g=ni nd)/\(∀x∈A,mz x=0)/\H9 A (t,b,n,100,nd,o,s,v)/\nx<=A.length/\c bx=3/\B6 (p+1) w1 p vl L/\0<=nd):=⟨t4,t5,l2,⟨l3,l4⟩,hA,aA,t1,t3,l1,by have:=rs hA cC;omega⟩
  have hpl:=l1.lt;have cG:=t2.lt;clear t1 t3 t4 t5 l2 l3 l4 cC hA aA
  have hlnd:Ln4 ad w1.drew:=⟨fu.1,fu.2,fu.3,fu.4⟩
  go_wp2_with fail;refine lV (S:=(fun w'=>m6 w' P (t,b,n,100,nd,o,s,v)/\n7 w' br T' o8 kv bt bx bc/\w'.heap[bx]? =w1.heap[bx]?)) zk ⟨H1.o.2.1,H1.o.1.cell,rfl⟩ (fun aa=> ?_);refine tk 0 aa ?_;refine tk 1 aa ?_;refine tk 2 aa ?_;refine tk 3 aa ?_ (y:=ty xl);refine tk 4 aa ?_;refine tk 5 aa ?_ (y:=ty ye);refine tk 6 aa ?_ (y:=ty yA);refine tk 7 aa ?_;refine tk 8 aa ?_ (y:=ty yX);refine an (i:=9) zk rfl (fun K hK=> ?_);go_simp;have ac:=Le w1.drew (p+1) p vl L o hlnd (l1.later (uO _ w1).drew) zj;refine ac.mono ?_;clear ac;rintro e w3 ⟨rfl,hact⟩;have hbX:qL w1 w1.drew:=(uO _ w1).drew
  have hM:u9 ((t,b,n,100,nd,o,s,v)::A) nd (zdv o L):=by
   have iq:o∈L.map (·.1):=HL.o.2.2.1.U7.2 (HL.o.2.2.2.2.2.1.abR (.inr rfl));obtain ⟨i,hi⟩:=sR iq;unfold zdv;rw [hi];exact HL.o.2.2.1.del (x:=(t,b,n,100,nd,o,s,v)) rfl rfl hi
  have HS:Aside (U6 B w c br o8 kv bt bx bc R ((t,b,n,100,nd,o,s,v)::A) T' w3):=wI H1.o.1 HL.o.2.2.2.2.1 (.inr rfl) HL.o.2.2.2.2.2.2.1 t2 HL.o.2.2.2.2.2.2.2.1 HL.o.1 HL.o.2.1 hp HL.o.2.2.2.2.2.2.2.2.1 HL.o.2.2.2.1 (rr hbX hact) hM H1.o.2.2.1 H0.o.2.2.2.2.2.1 H0.o.2.2.2.2.1.size;exact kb7
 go_wp2_with fail;refine lV (S:=(fun w'=>m6 w' P (t,b,n,115,nd,o,s,v)/\n7 w' br T' o8 kv bt bx bc/\w'.heap[bx]? =w1.heap[bx]?)) zk ⟨H1.o.2.1,H1.o.1.cell,rfl⟩ (fun aa=> ?_);refine tk 0 aa ?_;refine tk 1 aa ?_;refine tk 2 aa ?_;refine tk 3 aa ?_ (y:=ty (by intro w' ab;have r8:=ab.2.1.c8;clear ab;go_simp;try with_reducible rfl));refine tk 4 aa ?_ (y:=ty zG);refine an (i:=5) zk rfl (fun K hK=> ?_);go_simp;obtain ⟨cm,A',m1,m2,m3,m4⟩:=H1.o.1.P5;have ac:=Ug w1.drew bc cm A.length (rj A') t b n 115 nd o s v (EV.o.later (uO _ w1).drew).Q1 (m1.later (uO _ w1).drew) zj HX.o.1 HX.o.2.1;refine ac.mono ?_;clear ac;rintro e w2 ⟨rfl,hset⟩;have HS:Aside (U6 B w c br o8 kv bt bx bc R ((t,b,n,115,nd,o,s,v)::A) T' w2):=Gi H1.o.1 rfl m2 ⟨m3,m4⟩ ⟨hset.1,pF hset.2⟩ H1.o.2.2.1 H0.o.2.2.2.2.2.1 H0.o.2.2.2.2.1.size
 have hcm:∀k,c k=0\/c k=1\/c k=3->k≠cm:=fun k e e'=>by rw [e',m4] at e;omega
 have hbx3:c bx=3/\bx<w1.heap.size:=by
  obtain ⟨nx,tx,_,q2,q3,_⟩:=H1.o.1.P9;exact ⟨q3,q2.lt⟩
 refine hK _ _ ⟨?_,?_,?_⟩ ?_
 ·exact (hset.2.block P hP1 (hcm P (.inl H0.o.2.2.2.2.2.2.2.2))).trans H1.o.2.1
 ·exact H1.o.1.cell.same (hset.2.block br H1.o.1.cell.lt (hcm br (.inr (.inl H1.o.1.B9))))
 ·exact hset.2.block bx hbx3.2 (hcm bx (.inr (.inr hbx3.1)))
 clear hK K;refine qn ?_;refine wpAnyH_done zk ?_ _;go_wp2;go_end0;exact ⟨⟨_,rfl⟩,HS.o⟩
end
section
open RowKit
structure D9 (Kp:Nat->Prop) (V W:qW):Prop where
 size:V.heap.size<=W.heap.size
 block:∀k,Kp k->k<V.heap.size->W.heap[k]? =V.heap[k]?
theorem D9.refl(Kp)(V):D9 Kp V V:=⟨uM _,fun _ _ _=>rfl⟩
theorem D9.trans{Kp}{a b c}(h:D9 Kp a b)(k:D9 Kp b c):D9 Kp a c:=⟨uQ h.size k.size,fun i hi hs=>(k.block i hi (uY hs h.size)).trans (h.block i hi hs)⟩
theorem D9.m8{Kp}{V W}(h:qL V W):D9 Kp V W:=⟨h.size,fun k _ hk=>h.block k hk⟩
theorem D9.drew{Kp}{V W}(h:D9 Kp V W):D9 Kp V W.drew:=⟨h.size,h.block⟩
theorem D9.cell{Kp}{V W}(h:D9 Kp V W){b o}{v}(hb:Kp b)(hc:V.cell? (qA b o)=some v):W.cell? (qA b o)=some v:=by
 rw [uV (a:=(qA b o)) (h.block b hb (uP V (qA b o) hc))];exact hc
def zbB(S0:Nat)(Kp:Nat->Prop)(ad:qF)(P:OpX->Nat->World->Prop)(W:qW)(e:Ending)(w':qW):Prop:=∃(y:OpX) (cd:Nat),e=qT #[mH y,eV ad cd]/\(cd=0->mz y=0)/\Aside (D9 Kp W w'/\∀w'',m7 (fun k=>S0<=k/\k<W.heap.size) w' w''->P y cd w'')
def zbY(ad:qF)(P:OpX->Nat->World->Prop)(e:Ending)(w':qW):Prop:=∃(y:OpX) (cd:Nat),((cd=0/\e=qT #[.string ⟨(Lib.itoa (idO y)).toArray⟩,.nilIface])\/(cd≠0/\e= .returned (.tuple #[.string ⟨#[]⟩,eV ad cd])))/\Aside (P y cd w')
theorem Lk(y):nD y=(qVl y):=rfl
theorem zcd{Kp}{V X}{P:OpX->Nat->World->Prop}{y}{cd Z}{cs}(hcd:cd=0->mz y=0)(hC:D9 Kp V X)(jJ:V.heap.size<=Z)(hZ:o9 X Z 88 cs)(hl:cs.length=8)(hP:∀w'',m7 (fun k=>k=Z) X w''->P y cd w''):
  D9 Kp V (X.setCells Z 0 (nD y))/\Aside ((cd=0->mz y=0)/\o9 (X.setCells Z 0 (nD y)) Z 88 (nD y)/\P y cd (X.setCells Z 0 (nD y))):=by
 have hk:=lZ Z (nD y) 0 X;have h1:=mD Z (nD y) 0 X cs.toArray 88 hZ;have h2:=oE (nD y) [] cs [] cs.toArray zq (by rw [hl];rfl)
 generalize X.setCells Z 0 (nD y)=W at hk h1 |-
 generalize nD y=l at h1 h2 |-
 have h3:Ly cs.toArray 0 l=l.toArray:=by rw [<-Qb];simpa using h2
 rw [h3] at h1;exact ⟨⟨uQ hC.size hk.size,fun k q1 q2=>(hk.block k (uY q2 hC.size) (fun e=>zj)).trans (hC.block k q1 q2)⟩,hcd,h1,hP W hk⟩
theorem SM(w)(S0)(Kp)(ad)(P)(a b p bm g)(v0 v1 v2)(x)(r)(y:OpX)
  (hS:C3 w v0 v1 v2 x) (hx:x.1= [r]) (ka:o9 w a 44 [ptB p]) (kb:o9 w b 89 [clV g []]) (kp:o9 w p 46 [ptB bm])
  (bC:Kp a/\Kp b/\Kp p) (fG:∀k,S0<=k->Kp k) (hrep:∀k,v0.ownBlock=some k->Kp k) (hle:S0<=w.heap.size)
  (eg:∀args w,(callFunc g args).run prog w= .ok (.enter g args) w)
  (hw:∀W,qL w W->Calls prog g #[.agg #[v0,v1,v2]] W (sP y W))
  (hd:∀W,qL w W->qC 81 #[qP bm,qI r,mH y] W (zbB S0 Kp ad P W))
  (hP:∀y cd W W',P y cd W->qL W W'->P y cd W')
  (hI:∀y W,P y 0 W->mz y=0->qC 54 #[qI (idO y)] W (qR (.string ⟨(Lib.itoa (idO y)).toArray⟩) W)):
  qC 80 #[.agg #[v0,v1,v2],ptB a,ptB b] w (zbY ad P):=by
 obtain ⟨q0,c0,rfl,l0,h0⟩:=hS.abH (by rw [hx];simp);have k0:=h0 0 r (by rw [hx];rfl)
 rw [hx] at hw |-
 have kq:=hrep q0 rfl;obtain ⟨a1,n1,q1,rfl⟩:∃a0 n0 q0,v1= .slice a0 n0 q0:=qM;obtain ⟨a2,n2,q2,rfl⟩:∃a0 n0 q0,v2= .slice a0 n0 q0:=qz
 simp only [ZO] at hw |-
 have hb0:qL w (w.alloc (.cells #[qG q0 1 c0,.slice a1 n1 q1,.slice a2 n2 q2] 84)):=zh w _;have ks:=mq w [qG q0 1 c0,.slice a1 n1 q1,.slice a2 n2 q2] 84;have ka':=(ka.later hb0 ka.lt).cell 0;have lr:=(kb.later hb0 kb.lt).cell 0;have bZ:=(kp.later hb0 kp.lt).cell 0;have dR:=mu hb0 k0;have s0:=ks.cell 0;have s1:=ks.cell 1;have s2:=ks.cell 2;simp only [Zb,Zf] at ka' lr bZ s0 s1 s2;have kz:=fG _ hle;have HW:Aside (∀W,qL w W->Calls prog g #[.agg #[qG q0 1 c0,.slice a1 n1 q1,.slice a2 n2 q2]] W (sP y W)):=hw;have HD:Aside (∀W,qL w W->qC 81 #[qP bm,qI r,mH y] W (zbB S0 Kp ad P W)):=hd
 have HPI:Aside (_/\_):=⟨hP,hI⟩
 have cL:Aside (qL w (w.alloc (.cells #[qG q0 1 c0,.slice a1 n1 q1,.slice a2 n2 q2] 84)).drew):=hb0.drew;unfold ptB clV at*;go_enter func80,ntmps80;go_upto_region 1 with fail;obtain ⟨V,hV⟩:=ze (w.alloc (.cells #[qG q0 1 c0,.slice a1 n1 q1,.slice a2 n2 q2] 84))
 rw [<-hV.o] at cL ka' lr bZ dR s0 s1 s2 |-
 have CS:=(D9.refl Kp V).drew
 generalize w.heap.size=Sd at kz s0 s1 s2 |-
 go_cut [6,7] (fun s6 s7 wx=>∃(Z cd:Nat) (yy:OpX),s6=qP Z/\s7=eV ad cd/\Aside ((cd=0->mz yy=0)/\o9 wx Z 88 (nD yy)/\P yy cd wx))
 case first=>
  refine lV (S:=D9 Kp V) zk CS (fun aa=> ?_);refine tk 0 CS ?_ (y:=ty (by intro w' ab;have q:=ab.cell (b:=a) (o:=0) bC.1 ka';clear ab;go_simp;try with_reducible rfl));refine tk 1 CS ?_;refine tk 2 CS ?_;refine tk 3 CS ?_ (y:=ty (by intro w' ab;have q:=ab.cell (b:=p) (o:=0) bC.2.2 bZ;clear ab;go_simp;try with_reducible rfl));refine tk 4 CS ?_;refine tk 5 CS ?_ (y:=ty zR);refine tk 6 CS ?_;refine tk 7 CS ?_ (y:=ty (by intro w' ab;have q:=ab.cell (b:=q0) (o:=0) kq dR;clear ab;go_simp;try with_reducible rfl));refine tk 8 CS ?_ (y:=ty (by intro w' ab;have q:=ab.cell (b:=b) (o:=0) bC.2.1 lr;clear ab;go_simp;try with_reducible rfl));refine tk 9 CS ?_ (y:=ty (by intro w' ab;have q0:=ab.cell (b:=Sd) (o:=0) kz s0;have q1:=ab.cell (b:=Sd) (o:=1) kz s1;have q2:=ab.cell (b:=Sd) (o:=2) kz s2;clear ab;go_simp;try with_reducible rfl));refine AB (i:=10) (j:=15) zk rfl rfl (fun K hK=> ?wi) (fun K hK=> ?al)
  case wi=>
   go_simp;refine (HW.o V.drew cL.o).mono ?_;rintro e w6 ⟨rfl,H6⟩;have C6:=CS.trans (D9.m8 H6.o);have HB6:Aside (qL w w6):=zi cL.o H6.o;refine hK _ _ C6 ?_;refine qn ?_;refine AB (i:=11) (j:=15) zk rfl rfl (fun K hK=> ?dd) (fun K hK=> ?ad)
   case dd=>
    go_simp;refine (HD.o w6 HB6.o).mono ?_;rintro e w7 ⟨yy,cd,rfl,hcd,H7⟩;have C7:=C6.trans H7.o.1;refine hK _ _ C7 ?_;refine qn ?_;obtain ⟨X,hX⟩:=ze (w7.alloc qZc)
    have hbX:qL w7 X:=by rw [hX.o];exact zh w7 _
    have ZX:o9 X w7.heap.size 88 qZl:=by rw [hX.o];exact mq w7 _ _
    have HZ:Aside (∀w'',m7 (fun k=>k=w7.heap.size) X w''->P yy cd w''):=fun w'' hk=>H7.o.2 w'' ((lW hbX).then hk (fun k gv e=>zj) |>.mono (fun k gv e=>absurd e zj))
    have CX:=C7.trans (D9.m8 hbX);have jJ:=C7.size;obtain ⟨t',b',m',kd',nd',o',s',v'⟩:=yy;obtain ⟨er,aB⟩:=ze (eV ad cd);rw [<-aB.o];unfold mH;refine qn ?_;refine tk 12 C7 ?_;refine tk 13 C7 ?_;refine tk 14 C7 ?_;refine an (i:=15) zk rfl (fun K hK=> ?_);go_simp;rw [<-hX.o];refine hK _ _ CX ?_;refine qn ?_
    generalize w7.heap.size=Z at ZX HZ jJ |-
    have zz:=ZX.cell;have z0:=zz 0;have z1:=zz 1;have z2:=zz 2;have z3:=zz 3;have z4:=zz 4;have z5:=zz 5;have z6:=zz 6;have z7:=zz 7
    have zf:∀o,X.frozen? (qA Z o)=false:=fun o=>uI
    simp only [Zb,Zf] at z0 z1 z2 z3 z4 z5 z6 z7;have HF:=zcd hcd CX jJ ZX rfl HZ.o;refine an (i:=16) zk rfl (fun K hK=> ?_);go_simp;refine hK _ _ HF.1 ?_;refine qn ?_;refine tk 17 HF.1 ?_;refine wpAnyH_done zk ?_ _;refine qn ?_;go_wp2;go_meet;exact ⟨Z,cd,_,rfl,aB.o,HF.2⟩
   case ad=>
    obtain ⟨Y,hY⟩:=ze (w6.alloc qZc)
    have kK:qL w6 Y:=by rw [hY.o];exact zh w6 _
    have ZY:o9 Y w6.heap.size 88 qZl:=by rw [hY.o];exact mq w6 _ _
    have CY:=C6.trans (D9.m8 kK);have jJ:=C6.size;have hSZ:=uQ hle HB6.o.size;have HBY:Aside (qL w Y):=zi HB6.o kK;go_simp;rw [<-hY.o];refine hK _ _ CY ?_;refine qn ?_
    generalize w6.heap.size=Z at ZY jJ hSZ |-
    refine an (i:=11) zk rfl (fun K hK=> ?_);go_simp;refine (HD.o Y HBY.o).mono ?_;exact ka6
  case al=>
    obtain ⟨Y,hY⟩:=ze ((V.alloc qZc).drew)
    have kK:Below V.drew.heap.size V.drew Y:=by rw [hY.o];exact (uO _ V.drew).alloc zg _
    have ZY:o9 Y V.heap.size 88 qZl:=by rw [hY.o];exact mq V _ _
    have CY0:=CS.trans (D9.m8 kK);have jJ:V.heap.size<=V.heap.size:=uM _;have hSZ:S0<=V.heap.size:=uQ hle cL.o.size;have HBY0:Aside (qL w Y):=zi cL.o kK;go_simp;rw [<-hY.o];refine hK _ _ CY0 ?_;refine qn ?_;obtain ⟨Z,hZ⟩:=za V.heap.size
    rw [<-hZ] at ZY hSZ |-
    replace jJ:V.heap.size<=Z:=Nat.le_of_eq hZ.symm;clear hZ;refine an (i:=10) zk rfl (fun K hK=> ?_);go_simp;refine (HW.o Y HBY0.o).mono ?_;rintro e Y2 ⟨rfl,H6⟩;have CY:=CY0.trans (D9.m8 H6.o);have ZY2:=ZY.later H6.o ZY.lt;have HBY:Aside (qL w Y2):=zi HBY0.o H6.o;refine hK _ _ CY ?_;have ZY:=ZY2;refine qn ?_;refine an (i:=11) zk rfl (fun K hK=> ?_);go_simp;refine (HD.o Y2 HBY.o).mono ?_;exact ka6
 obtain ⟨Z,cd,yy,rfl,rfl,HE⟩:=hcut;by_cases hc:cd=0
 ·subst hc;have hz:=HE.o.2.1.cell;have z0:=hz 0;have z1:=hz 1;have z2:=hz 2;have z3:=hz 3;have z4:=hz 4;have z5:=hz 5;have z6:=hz 6;have z7:=hz 7;rw [Lk] at z0 z1 z2 z3 z4 z5 z6 z7;simp only [Zb,Zf] at z0 z1 z2 z3 z4 z5 z6 z7;have hid:=Il yy wc (HE.o.1 (by trivial));rw [show eV ad 0= .nilIface from rfl];unfold mH at hid;clear HD HW CS cL hz;go_wp2_with fail;refine hid.mono ?_;rintro e w8 ⟨rfl,hb8⟩;have HP8:Aside (P yy 0 w8):=HPI.o.1 _ _ _ _ HE.o.2.2 hb8;have hit:=HPI.o.2 yy w8 HP8.o (HE.o.1 (by trivial));go_wp2_with fail;refine hit.mono ?_;rintro e w9 ⟨rfl,hb9⟩;have HP9:Aside (P yy 0 w9):=HPI.o.1 _ _ _ _ HP8.o hb9;go_wp2;go_ret2;exact ⟨yy,0,.inl ⟨rfl,rfl⟩,HP9.o⟩
 have HEV:Aside (eV ad cd= .iface 437 (.pointer (some (ad (cd - 1))))):=if_neg hc;have HP9:Aside (P yy cd wc):=HE.o.2.2;rw [HEV.o];go_wp2;go_ret2;exact ⟨yy,cd,.inr ⟨hc,by rw [HEV.o];rfl⟩,HP9.o⟩
def mi(Q:ByteArray->World->Prop)(e:Ending)(w':qW):Prop:=∃s,e= .returned (.string s)/\Aside (Q s w')
theorem zbh(w)(Q)(a b p bm br g)(v0 v1 v2)(x)(r)(hS:C3 w v0 v1 v2 x)(hx:x.1[0]? =some r)(ka:o9 w a 44 [ptB p])(kb:o9 w b 99 [clV g []])(kp:o9 w p 46 [ptB bm])
  (eg:∀args w,(callFunc g args).run prog w= .ok (.enter g args) w)
  (hR:∀W,qL w W->qC 99 #[qP bm,qI r] W fun e w'=>e=qT #[qP br,.nilIface]/\w'=W)
  (hg:∀W,qL w W->Calls prog g #[qP br,.agg #[v0,v1,v2]] W (mi Q)):
  qC 98 #[.agg #[v0,v1,v2],ptB a,ptB b] w fun e w'=>∃s,e=qT #[.string s,.nilIface]/\Aside (Q s w'):=by
 obtain ⟨g0,c0,rfl,l0,h0⟩:=hS.abH (by have:=(uK.1 hx).1;omega);have k0:=h0 0 r hx
 have b1:(0:Int)<(x.1.length:Int):=by have:=(uK.1 hx).1;omega
 have b2:0<x.1.length:=zj;generalize x.1.length=n0 at*;obtain ⟨a1,n1,q1,rfl⟩:∃a0 n0 q0,v1= .slice a0 n0 q0:=zL;obtain ⟨a2,n2,q2,rfl⟩:∃a0 n0 q0,v2= .slice a0 n0 q0:=zv;have hb0:qL w (w.alloc (.cells #[qG g0 n0 c0,.slice a1 n1 q1,.slice a2 n2 q2] 84)):=zh w _;have kz:=mq w [qG g0 n0 c0,.slice a1 n1 q1,.slice a2 n2 q2] 84;have ka':=(ka.later hb0 ka.lt).cell 0;have lr:=(kb.later hb0 kb.lt).cell 0;have bZ:=(kp.later hb0 kp.lt).cell 0;have dR:=mu hb0 k0;have s0:=kz.cell 0;have s1:=kz.cell 1;have s2:=kz.cell 2;simp only [Zb,Zf] at ka' lr bZ s0 s1 s2;have hr:=hR _ hb0.drew;have HG:=Aside.mk' hg;have HB:Aside (qL w (w.alloc (.cells #[qG g0 n0 c0,.slice a1 n1 q1,.slice a2 n2 q2] 84)).drew):=hb0.drew;unfold ptB clV at*;simp only [Yu,List.toArray] at lr;go_enter func98,ntmps98;go_upto_region 1 with fail;generalize w.alloc (.cells #[qG g0 n0 c0,.slice a1 n1 q1,.slice a2 n2 q2] 84)=V at*
 obtain ⟨Sd,hSd⟩:∃Sd,Aside (w.heap.size=Sd):=⟨_,rfl⟩
 rw [hSd.o] at s0 s1 s2 |-
 have CS:D9 (fun _=>True) V V.drew:=(D9.refl _ V).drew;refine lV (S:=D9 (fun _=>True) V) zk CS (fun aa=> ?_);refine tk 0 CS ?_ (y:=ty (by intro w' ab;have q:=ab.cell (b:=a) (o:=0) trivial ka';clear ab;go_simp;try with_reducible rfl));refine tk 1 CS ?_;refine tk 2 CS ?_;refine tk 3 CS ?_ (y:=ty (by intro w' ab;have q:=ab.cell (b:=p) (o:=0) trivial bZ;clear ab;go_simp;try with_reducible rfl));refine tk 4 CS ?_;refine tk 5 CS ?_ (y:=ty (by intro w' ab;have q:=ab.cell (b:=Sd) (o:=0) trivial s0;clear ab;go_simp;try with_reducible rfl));refine tk 6 CS ?_;refine tk 7 CS ?_ (y:=ty (by intro w' ab;have q:=ab.cell (b:=g0) (o:=0) trivial dR;clear ab;go_simp;try with_reducible rfl));refine an (i:=8) zk rfl (fun K hK=> ?_);go_simp;refine hr.mono ?_;rintro e w1 ⟨rfl,hw1⟩;rw [hw1];refine hK _ _ CS ?_;refine qn ?_;refine tk 9 CS ?_;refine tk 10 CS ?_;refine tk 11 CS ?_;refine tk 12 CS ?_;refine tk 13 CS ?_;refine wpAnyH_done zk ?_ _;refine qn ?_;have kb2:=CS.cell (b:=b) (o:=0) trivial lr;have t0:=CS.cell (b:=Sd) (o:=0) trivial s0;have t1:=CS.cell (b:=Sd) (o:=1) trivial s1;have t2:=CS.cell (b:=Sd) (o:=2) trivial s2;have hc:=HG.o V.drew HB.o;generalize V.drew=U at*;go_wp2_with fail;refine hc.mono ?_;rintro e w2 ⟨s,rfl,HQ⟩;go_wp2;go_ret2;exact ⟨s,rfl,HQ.o⟩
def orN(l:qU):qU:=if l= [] then [110,111,116,104,105,110,103] else l
theorem wu(w)(l):
  qC 100 #[.string ⟨l.toArray⟩] w fun e w'=>e= .returned (.string ⟨(orN l).toArray⟩)/\w'=w:=by
 by_cases h:l= []
 ·subst h;go_enter func100,ntmps100;exact ka7
 have e:Aside (orN l=l):=if_neg h;rw [e.o];have d3:l.isEmpty=false:=xo;go_enter func100,ntmps100;exact ka7
def Oc(s:qU):qU:=orN (Lib.replaceAll s [10] [59,32])
theorem Vl(s X9)(h:1<=X9.size):Lib.countB s X9<=s.size:=by
 have:=Lib.countB_mul_le X9 h s.size s zg;exact uQ (Nat.le_mul_of_pos_right _ h) this
theorem Mm(w)(br)(m)(Q:qU->Prop)(hm:w.cell? (qB 14)=some (qI m))
  (hs:qC 102 #[qP br] w fun e w'=>∃s,e= .returned (.string ⟨s.toArray⟩)/\(Q s/\s.length<=10000000)/\qL w w'):
  qC 58 #[qP br] w fun e w'=>∃s,e= .returned (.string ⟨(Oc s).toArray⟩)/\Aside (Q s/\qL w w'):=by
 go_enter func58,ntmps58;go_wp2_with fail;refine hs.mono ?_;rintro e w1 ⟨s,rfl,hQ,hb⟩;have hm1:=mu hb hm
 have hz:(⟨s.toArray⟩:qY).size=s.length:=by rw [Lib.size_eq]
 have hc:=Vl ⟨s.toArray⟩ ⟨#[10]⟩ zo;have hr:=Tryz.strings_ReplaceAll ⟨s.toArray⟩ ⟨#[10]⟩ ⟨#[59,32]⟩ m w1 (by have:=hQ.2;omega) hm1 zo (by have:=hQ.2;have e:(⟨#[59,32]⟩:qY).size=2:=rfl;rw [e];omega)
 have HQ:Aside (Q s/\qL w w1):=⟨hQ.1,hb⟩
 go_wp2_with fail;refine hr.mono ?_;rintro e w2 ⟨rfl,hb2⟩;have HB:Aside (qL w w2):=zi HQ.o.2 hb2;have ho:=wu w2 (Lib.replaceAll s [10] [59,32]);go_wp2_with fail;refine ho.mono ?_;rintro e w3 ⟨rfl,rfl⟩;go_wp2;go_ret;exact ⟨s,rfl,HQ.o.1,HB.o⟩
theorem VZ(w)(br)(path)(Q:Int->Bool->Prop)
  (hs:qC 105 #[qP br,.string path] w fun e w'=>∃b is,e=qT #[qI b,.bool is]/\Q b is/\qL w w')
  (hI:∀b W,Q b true->qL w W->qC 54 #[qI b] W (qR (.string ⟨(Lib.itoa b).toArray⟩) W)):
  qC 62 #[qP br,.string path] w fun e w'=>∃b is,e= .returned (.string ⟨(if is=true then Lib.itoa b else [110,111,116,104,105,110,103]).toArray⟩)/\Aside (Q b is/\qL w w'):=by
 have HI:=Aside.mk' hI;go_enter func62,ntmps62;go_wp2_with fail;refine hs.mono ?_;rintro e w1 ⟨b,is,rfl,hQ,hb⟩
 have HQ:Aside (Q b is/\qL w w1):=⟨hQ,hb⟩
 cases is
 ·go_wp2;go_ret;exact ⟨b,false,rfl,HQ.o⟩
 have hi:=HI.o b w1 HQ.o.1 HQ.o.2;go_wp2_with fail;refine hi.mono ?_;rintro e w2 ⟨rfl,hb2⟩;have HB:Aside (qL w w2):=zi HQ.o.2 hb2;go_wp2;go_ret;exact ⟨b,true,rfl,HQ.o.1,HB.o⟩
theorem OR(w)(br)(l8)(Q:qU->Bool->Prop)
  (hs:qC 106 #[qP br,qI l8] w fun e w'=>∃s is,e=qT #[.string ⟨s.toArray⟩,.bool is]/\Q s is/\qL w w'):
  qC 64 #[qP br,qI l8] w fun e w'=>∃s is,e= .returned (.string ⟨(if is=true then s else [110,111,116,104,105,110,103]).toArray⟩)/\Aside (Q s is/\qL w w'):=by
 go_enter func64,ntmps64;go_wp2_with fail;refine hs.mono ?_;rintro e w1 ⟨s,is,rfl,hQ,hb⟩
 have HQ:Aside (Q s is/\qL w w1):=⟨hQ,hb⟩
 cases is
 ·go_wp2;go_ret;exact ⟨s,false,rfl,HQ.o⟩
 go_wp2;go_ret;exact ⟨s,true,rfl,HQ.o⟩
theorem QA(w)(Q)(br)(v0 v1 v2)(x)(hS:C3 w v0 v1 v2 x)(hg:∀W,qL w W->qC 58 #[qP br] W (mi Q)):
  qC 57 #[qP br,.agg #[v0,v1,v2]] w (mi Q):=by
 obtain ⟨a0,n0,q0,rfl⟩:∃a0 n0 q0,v0= .slice a0 n0 q0:=zA;obtain ⟨a1,n1,q1,rfl⟩:∃a0 n0 q0,v1= .slice a0 n0 q0:=zL;obtain ⟨a2,n2,q2,rfl⟩:∃a0 n0 q0,v2= .slice a0 n0 q0:=zv;have hb0:qL w (w.alloc (.cells #[.slice a0 n0 q0,.slice a1 n1 q1,.slice a2 n2 q2] 84)):=zh w _;have hc:=hg _ hb0;go_enter func57,ntmps57;exact ke4
theorem Nn(w)(Q)(br)(v0 v1 v2)(x)(hS:C3 w v0 v1 v2 x)(y)(hy:x.2.1[0]? =some y)(hg:∀W,qL w W->qC 60 #[qP br,qI y] W (mi Q)):
  qC 59 #[qP br,.agg #[v0,v1,v2]] w (mi Q):=by
 obtain ⟨g1,c1,rfl,l1,h1⟩:=hS.aab (by have:=(uK.1 hy).1;omega);have k0:=h1 0 y hy
 have b1:(0:Int)<(x.2.1.length:Int):=by have:=(uK.1 hy).1;omega
 have b2:0<x.2.1.length:=zj;generalize x.2.1.length=n1 at*;obtain ⟨a0,n0,q0,rfl⟩:∃a0 n0 q0,v0= .slice a0 n0 q0:=zA;obtain ⟨a2,n2,q2,rfl⟩:∃a0 n0 q0,v2= .slice a0 n0 q0:=zv;have hb0:qL w (w.alloc (.cells #[.slice a0 n0 q0,qG g1 n1 c1,.slice a2 n2 q2] 84)):=zh w _;have dR:=mu hb0 k0;have hc:=hg _ hb0;go_enter func59,ntmps59;exact ke4
theorem OS(w)(Q)(br)(v0 v1 v2)(x)(hS:C3 w v0 v1 v2 x)(y)(hy:x.2.2[0]? =some y)(hg:∀W,qL w W->qC 62 #[qP br,.string y] W (mi Q)):
  qC 61 #[qP br,.agg #[v0,v1,v2]] w (mi Q):=by
 obtain ⟨g2,c2,rfl,l2,h2⟩:=hS.aaf (by have:=(uK.1 hy).1;omega);have k0:=h2 0 y hy
 have b1:(0:Int)<(x.2.2.length:Int):=by have:=(uK.1 hy).1;omega
 have b2:0<x.2.2.length:=zj;generalize x.2.2.length=n2 at*;obtain ⟨a0,n0,q0,rfl⟩:∃a0 n0 q0,v0= .slice a0 n0 q0:=zA;obtain ⟨a1,n1,q1,rfl⟩:∃a0 n0 q0,v1= .slice a0 n0 q0:=zL;have hb0:qL w (w.alloc (.cells #[.slice a0 n0 q0,.slice a1 n1 q1,qG g2 n2 c2] 84)):=zh w _;have dR:=mu hb0 k0;have hc:=hg _ hb0;go_enter func61,ntmps61;exact ke4
theorem Oz(w)(Q)(br)(v0 v1 v2)(x)(hS:C3 w v0 v1 v2 x)(y)(hy:x.2.1[0]? =some y)(hg:∀W,qL w W->qC 64 #[qP br,qI y] W (mi Q)):
  qC 63 #[qP br,.agg #[v0,v1,v2]] w (mi Q):=by
 obtain ⟨g1,c1,rfl,l1,h1⟩:=hS.aab (by have:=(uK.1 hy).1;omega);have k0:=h1 0 y hy
 have b1:(0:Int)<(x.2.1.length:Int):=by have:=(uK.1 hy).1;omega
 have b2:0<x.2.1.length:=zj;generalize x.2.1.length=n1 at*;obtain ⟨a0,n0,q0,rfl⟩:∃a0 n0 q0,v0= .slice a0 n0 q0:=zA;obtain ⟨a2,n2,q2,rfl⟩:∃a0 n0 q0,v2= .slice a0 n0 q0:=zv;have hb0:qL w (w.alloc (.cells #[.slice a0 n0 q0,qG g1 n1 c1,.slice a2 n2 q2] 84)):=zh w _;have dR:=mu hb0 k0;have hc:=hg _ hb0;go_enter func63,ntmps63;exact ke4
theorem Qz(w)(Q)(br)(v0 v1 v2)(x)(t0 t1 t2 t3)(hS:C3 w v0 v1 v2 x)(hv:∀W,qL w W->qC 66 #[qP br] W (qR (.agg #[qI t0,qI t1,qI t2,qI t3]) W))
  (ht:∀W,qL w W->qC 67 #[.agg #[qI t0,qI t1,qI t2,qI t3]] W (mi Q)):
  qC 65 #[qP br,.agg #[v0,v1,v2]] w (mi Q):=by
 obtain ⟨a0,n0,q0,rfl⟩:∃a0 n0 q0,v0= .slice a0 n0 q0:=zA;obtain ⟨a1,n1,q1,rfl⟩:∃a0 n0 q0,v1= .slice a0 n0 q0:=zL;obtain ⟨a2,n2,q2,rfl⟩:∃a0 n0 q0,v2= .slice a0 n0 q0:=zv;have hb0:qL w (w.alloc (.cells #[.slice a0 n0 q0,.slice a1 n1 q1,.slice a2 n2 q2] 84)):=zh w _;have hc:=hv _ hb0;have HT:Aside _:=ht;have HB:Aside _:=hb0;go_enter func65,ntmps65;go_wp2_with fail;refine hc.mono ?_;rintro e w1 ⟨rfl,hb1⟩;have hd:=HT.o w1 (zi HB.o hb1);go_wp2_with fail;refine hd.mono ?_;rintro e w2 ⟨s,rfl,HQ⟩;go_wp2;go_ret;exact ⟨s,rfl,HQ.o⟩
theorem IF(w)(z):qC 51 #[.bool z] w fun e w'=>e= .returned (.string (if z then ⟨#[121,101,115]⟩ else ⟨#[110,111]⟩))/\w'=w:=by
 cases z
 ·go_enter func51,ntmps51;exact ka7
 go_enter func51,ntmps51;exact ka7
theorem zaN(w)(Q:World->Prop)(s p bm)(v0 v1 v2)(x)(hS:C3 w v0 v1 v2 x)(ks:o9 w s 44 [ptB p])(kp:o9 w p 46 [ptB bm])(hc:∀W,qL w W->qC 52 #[qP bm] W fun e w'=>e= .returned (.bool true)/\Aside (Q w')):
  qC 50 #[.agg #[v0,v1,v2],ptB s] w fun e w'=>e= .returned (.tuple #[.string ⟨#[121,101,115]⟩,.nilIface])/\Aside (Q w'):=by
 obtain ⟨a0,n0,q0,rfl⟩:∃a0 n0 q0,v0= .slice a0 n0 q0:=zA;obtain ⟨a1,n1,q1,rfl⟩:∃a0 n0 q0,v1= .slice a0 n0 q0:=zL;obtain ⟨a2,n2,q2,rfl⟩:∃a0 n0 q0,v2= .slice a0 n0 q0:=zv;have hb0:qL w (w.alloc (.cells #[.slice a0 n0 q0,.slice a1 n1 q1,.slice a2 n2 q2] 84)):=zh w _;have dw:=(ks.later hb0 ks.lt).cell 0;have bZ:=(kp.later hb0 kp.lt).cell 0;simp only [Zb] at dw bZ;have hc1:=hc _ hb0;unfold ptB at*;go_enter func50,ntmps50;go_wp2_with fail;refine hc1.mono ?_;rintro e w1 ⟨rfl,HQ⟩;have hy:=IF w1 true;go_wp2_with fail;refine hy.mono ?_;rintro e w2 ⟨rfl,rfl⟩;go_wp2;go_ret2;exact ⟨rfl,HQ.o⟩
theorem zde(w)(s p bm)(v0 v1 v2)(x)(hS:C3 w v0 v1 v2 x)(ks:o9 w s 44 [ptB p])(kp:o9 w p 46 [ptB bm])(N)(hc:∀W,qL w W->qC 55 #[qP bm] W fun e w'=>∃ao cap,e= .returned (.slice ao N cap)/\Aside (qL W w'))(hI:∀W,qL w W->qC 54 #[qN N] W (qR (.string ⟨(Lib.itoa (N:Int)).toArray⟩) W)):
  qC 53 #[.agg #[v0,v1,v2],ptB s] w fun e w'=>e=qT #[.string ⟨(Lib.itoa (N:Int)).toArray⟩,.nilIface]/\Aside (qL w w'):=by
 obtain ⟨a0,n0,q0,rfl⟩:∃a0 n0 q0,v0= .slice a0 n0 q0:=zA;obtain ⟨a1,n1,q1,rfl⟩:∃a0 n0 q0,v1= .slice a0 n0 q0:=zL;obtain ⟨a2,n2,q2,rfl⟩:∃a0 n0 q0,v2= .slice a0 n0 q0:=zv;have hb0:qL w (w.alloc (.cells #[.slice a0 n0 q0,.slice a1 n1 q1,.slice a2 n2 q2] 84)):=zh w _;have dw:=(ks.later hb0 ks.lt).cell 0;have bZ:=(kp.later hb0 kp.lt).cell 0;simp only [Zb] at dw bZ;have hc1:=hc _ hb0;have HB:Aside _:=hb0;have HI:Aside _:=hI;unfold ptB at*;go_enter func53,ntmps53;go_wp2_with fail;refine hc1.mono ?_;rintro e w1 ⟨ao,cap,rfl,HB1⟩;have cP:Aside (qL w w1):=zi HB.o HB1.o;have hi:=HI.o w1 cP.o;go_wp2_with fail;refine hi.mono ?_;rintro e w2 ⟨rfl,hb2⟩;have fb:Aside (qL w w2):=zi cP.o hb2;go_wp2;go_ret2;exact ⟨rfl,fb.o⟩
end
section
theorem SAgain.acB:joinedFacts prog 4 f4 Rows.scriptAgainSpec Rows.scriptAgainRow=true:=by
 unfold joinedFacts;rw [jfP,jfU,jfR,jfN];kernel_rfl

end