import Derived.Test.YtjclejjkganhfaaGreatDoorSR29
set_option linter.unusedSimpArgs false
set_option linter.unusedVariables false
set_option maxRecDepth 100000
set_option maxHeartbeats 64000000
namespace Go.Proofs.YtjclejjkganhfaaGreatDoor
open Go.Proofs.Tryz
section
open RowKit Lib Go.Sort Maps
open scoped Classical
structure E6 (B:Nat) (ad:qF) (w:qW):Prop where
 t:S7 B ad w
 j:N5 B ad w
 cyc:Aside (Cyc ad)
theorem E6.mono{B}{ad}{w w'}(h:E6 B ad w)(hb:Below B w w'):E6 B ad w':=⟨h.t.mono hb,h.j.mono hb,h.cyc⟩
theorem E6.later{B}{ad}{w w'}(h:E6 B ad w)(hb:qL w w'):E6 B ad w':=h.mono (hb.mono h.t.G3.size)
theorem E6.up{B B'}{ad}{w}(h:E6 B ad w)(hB:B<=B')(hs:B'<=w.heap.size):E6 B' ad w:=⟨h.t.up hB hs,h.j.up hB hs,h.cyc⟩
theorem mO{ad}{cd}(h:cd≠0):eV ad cd= .iface 437 (.pointer (some (ad (cd - 1)))):=if_neg h
def zcy(x:OpX):Prop:=x.2.2.2.2.2.2.1.size<=60/\x.2.2.2.2.2.2.2.size<=60/\x.2.2.2.1<256/\(-9223372036854775808<=mY x/\mY x<=9223372036854775807)/\(-9223372036854775808<=mX x/\mX x<=9223372036854775807)
def zcA(ow:Nat->Nat)(w:qW)(ow':Nat->Nat)(w':qW):Prop:=∀k,k<w.heap.size->ow k=0->ow' k=0/\w'.heap[k]? =w.heap[k]?
def zcv(gd:Nat->Option Obj)(B n bm:Nat)(ow:Nat->Nat)(w:qW)(K:qH)(st:qD)(N:qJ)(w':qW):Prop:=∃ow' pv fv bp br d dv c,n9 gd B w' ow' n bm pv fv bp br d dv c K st N/\zcA ow w ow' w'
def DoX(K K':qH)(st st':qD)(a:Nat)(y0:OpX)(cd0:Nat)(y:OpX)(cd:Nat):Prop:=(cd0≠0/\cd=cd0/\y=lQ/\K'=K/\st'=st)\/(cd0=0/\(pN (st a) y0).1≠0/\cd=(pN (st a) y0).1/\y=lQ/\K'=K/\st'=lR st a (pN (st a) y0).2)\/(cd0=0/\(pN (st a) y0).1=0/\cd=0/\y=y0/\(∃R',K'=lR K a R'/\u9 R'/\∀z,z∈lX R'↔z=y0\/z∈lX (K a))/\st'=lR st a (pN (st a) y0).2)
def zcU(gd:Nat->Option Obj)(B n bm i:Nat)(ad:qF)(ow:Nat->Nat)(G:qX)(K:qH)(st:qD)(N:qJ)(a:Nat)(P:OpX->Nat->Prop)(w:qW)(e:Ending)(w':qW):Prop:=∃(y:OpX) (cd:Nat) (G':qX) (K':qH) (D':Nat->List OpX) (st':qD),e=qT #[mJ y,eV ad cd]/\Aside (zcv gd B n bm ow w K' st' N w'/\Below B w w'/\r9 n (i+1) G' K' D' st' N/\(∀r,r<n->∀x∈lX (K r),x∈lX (K' r))/\((cd≠0/\G'=G)\/(cd=0/\G'=G++ [y]/\byO y=(a:Int)))/\∃y0 cd0,P y0 cd0/\(cd0=0->(st a).2.1=false->(st a).2.2.1=false->cd=0/\y=y0)/\(∀r,r≠a->K' r=K r/\st' r=st r)/\DoX K K' st st' a y0 cd0 y cd)
theorem zbj{gd}{B}{ad}{ow}{n bm}{pv fv}{bp br d}{dv}{c}{K}{st}{N}{i}{G}{D}(w)(a)(x)(h:n9 gd B w ow n bm pv fv bp br d dv c K st N)(hI:r9 n i G K D st N)(hE:E6 B ad w)(ha:a<n)(hi:i<=155)(P)(jD:∀U,qL w U->qC 152 #[qP (bp a),mJ x] U (TM ad U (K a) a P)):
  qC 113 #[qP (bp a),mJ x] w (zcU gd B n bm i ad ow G K st N a P w):=by
 obtain ⟨t,b,m,kd,nd,o,s,v⟩:=x;have ha4:=uT ha h.W9;obtain ⟨S,hS⟩:=za w.heap.size;obtain ⟨U,hU⟩:=za ((w.alloc (qOc t b m kd nd o s v)).alloc qZc);have ah:qL w U:=zP;have O0:m6 U S (t,b,m,kd,nd,o,s,v):=qe
 have Z0:m6 U (S+1) lQ:=by
  rw [hU,hS];have:=m6.F5 (w.alloc (qOc t b m kd nd o s v)) lQ;exact kc7
 obtain ⟨j0,j1,j2,j3,j4,j5,j6,j7,-⟩:=O0.cells;dsimp only at j0 j1 j2 j3 j4 j5 j6 j7;have hUm:=h.later ah;have co:=jD U ah;unfold mJ at co
 have H0:Aside (U=(w.alloc (qOc t b m kd nd o s v)).alloc qZc/\m6 U (S+1) lQ/\qL w U/\S=w.heap.size):=⟨hU,Z0,ah,hS⟩
 have HM:Aside (n9 gd B w ow n bm pv fv bp br d dv c K st N/\r9 n i G K D st N/\E6 B ad w):=⟨h,hI,hE⟩
 clear hU ah hS O0 Z0 hUm h hI hE jD;unfold mJ;go_enter func113,ntmps113;go_upto_region 1 with fail;rw [<-H0.o.1,<-H0.o.2.2.2];go_wp2_with fail;refine co.mono ?_;clear co j0 j1 j2 j3 j4 j5 j6 j7;rintro e w2 ⟨⟨t',b',m',kd',nd',o',s',v'⟩,cd,rfl,H2,HP⟩;unfold mJ
 obtain ⟨y,hy⟩:∃y:OpX,Aside (y=(t',b',m',kd',nd',o',s',v')):=⟨_,rfl⟩
 obtain ⟨V,hV⟩:=ze (w2.alloc (qOc t' b' m' kd' nd' o' s' v'));obtain ⟨M,hM⟩:=ze w2.heap.size;have jV:=zi H0.o.2.2.1 H2.o.1
 have ai:qL w V:=by rw [hV.o];exact jV.alloc jV.size _
 have OY:m6 V M y:=by rw [hV.o,hM.o,hy.o];exact m6.F5 w2 (t',b',m',kd',nd',o',s',v')
 have Z2:=H0.o.2.1.later H2.o.1
 have ZV:m6 V (S+1) lQ:=by
  rw [hV.o];exact (uR _ _ _ Z2.lt).trans Z2
 have HV:Aside (qL w V/\m6 V M y/\m6 V (S+1) lQ/\S+1<M/\w.heap.size<=M):=⟨ai,OY,ZV,by have:=Z2.lt;rw [hM.o];exact this,by have:=jV.size;rw [hM.o];exact this⟩
 obtain ⟨z0,z1,z2,z3,z4,z5,z6,z7,zf⟩:=m6.ct ZV;clear jV ai OY ZV Z2;by_cases hcd:cd=0
 ·subst hcd
  obtain ⟨T,hT,be⟩:∃T,oE (lX (K a)) T/\U6 (K a) a T y:=by
   rw [hy.o]
   rcases H2.o.2.2 with ⟨q,_⟩ | ⟨_,q⟩
   ·exact absurd rfl q
   exact q
  have HN:Aside (oE (lX (K a)) T/\U6 (K a) a T y):=⟨hT,be⟩
  have gI:=HV.o.1.drew;have jl:=HM.o.1.later gI;have hsz:=BG (l:=[y]) (fun z hz=>by rw [Zf.1 hz];exact be.ok) y zr;have aZ:=Dz V.drew y (jl.B6 a ha).1 (HM.o.2.2.later gI).j (fun k hk=>jl.low k (by rw [(jl.B6 a ha).2 k hk];omega)) hsz.1 hsz.2 (HM.o.2.1.ado ha zj);have hst:=(HM.o.2.1.B6 a ha).app (jl.B6 a ha).1.left.1 (by have:=HM.o.2.1.abl ha;omega) be.ok
  obtain ⟨gU,s2,hcs⟩:∃gU s2,Aside (pN (st a) y=(gU,s2)):=⟨(pN (st a) y).1,(pN (st a) y).2,rfl⟩
  rw [hcs.o] at aZ hst;dsimp only at aZ hst;have HST:Aside ((gU=0/\(st a).2.1=false/\s2.2.1=false/\G8 s2 (D a++ [y]))\/(gU=11/\s2.2.1=true/\G8 s2 (D a))):=hst
  have HFR:Aside ((st a).2.1=false->(st a).2.2.1=false->gU=0):=fun f1 f2=>by
   have bN:=(HM.o.2.1.B6 a ha).D4;have hDl:=HM.o.2.1.abl ha;have eD:=sM be.ok;have dA:=nD (mQ y);have hc:=hcs.o
   obtain ⟨sq,hsq⟩:∃sq:DSt,sq=st a:=⟨_,rfl⟩
   rw [<-hsq] at f1 f2 bN hc;obtain ⟨B0,off0,wt0,lf0⟩:=sq;dsimp only at f1 f2 bN;subst f1;subst f2;rw [BC be.ok zj] at hc
   cases hc
   rfl
  have SD:t8 V.drew (bp a) (br a) (d a)/\m6 V.drew M y:=⟨(jl.GA a ha).1,HV.o.2.1⟩
  have ko:Aside (n9 gd B V.drew ow n bm pv fv bp br d dv c K st N/\m6 V.drew (S+1) lQ/\qL w V.drew/\ow M=0/\ow (S+1)=0):=⟨jl,HV.o.2.2.1,gI,HM.o.1.high M HV.o.2.2.2.2,HM.o.1.high (S+1) yU⟩
  clear hT be hsz hst jl gI;rw [hy.o] at aZ;unfold IR at aZ;dsimp only at aZ;rw [show eV ad 0= .nilIface from rfl];go_upto_region 4 with fail;rw [<-hV.o,<-hM.o];refine lV (S:=(fun w'=>t8 w' (bp a) (br a) (d a)/\m6 w' M y)) zk SD (fun aa=> ?_);refine tk 0 aa ?_ (y:=ty zl);refine tk 1 aa ?_ (y:=ty zl);refine tk 2 aa ?_ (y:=ty zl);refine tk 3 aa ?_ (y:=ty xo);refine tk 4 aa ?_ (y:=ty yu);refine an (i:=5) zk rfl (fun kQ hK=> ?_);go_simp;refine aZ.mono ?_;clear aZ;rintro e w5 ⟨rfl,H5⟩;obtain ⟨lD,fi,cV⟩:=ko.o.1.aaQ ha H5.o
  have S5:t8 w5 (bp a) (br a) (d a)/\m6 w5 M y:=⟨(fi.GA a ha).1,(cV.block M HV.o.2.1.lt (fun q=>by have q':=q;rw [ko.o.2.2.2.1] at q';omega)).trans HV.o.2.1⟩
  have Z5:m6 w5 (S+1) lQ:=(cV.block (S+1) HV.o.2.2.1.lt (fun q=>by have q':=q;rw [ko.o.2.2.2.2] at q';omega)).trans HV.o.2.2.1;have hb5:=(ko.o.2.2.1.mono HM.o.1.l9).trans (ko.o.1.m8 cV (fun k e=>zj))
  have ff:Aside (n9 gd B w5 (mU ow V.drew w5 (20+a)) n bm pv fv bp br d (lR dv a lD) c K (lR st a s2) N/\Below B w w5/\mU ow V.drew w5 (20+a) M=0/\mU ow V.drew w5 (20+a) (S+1)=0/\zcA ow w (mU ow V.drew w5 (20+a)) w5):=⟨fi,hb5,(ml HV.o.2.1.lt).trans ko.o.2.2.2.1,(ml HV.o.2.2.1.lt).trans ko.o.2.2.2.2,fun k hk e=>by
   have hkV:=uT hk ko.o.2.2.1.size
   exact ⟨(ml hkV).trans e,(cV.block k hkV (fun q=>zj)).trans (ko.o.2.2.1.block k hk)⟩⟩
  refine hK _ _ S5 ?_;clear hK kQ fi cV hb5 SD;refine qn ?_;refine an (i:=6) zk rfl (fun kQ hK=> ?_);go_simp;refine hK _ _ S5 ?_;clear hK kQ;refine wpAnyH_done zk ?_ _;refine qn ?_
  obtain ⟨ow5,how5⟩:∃f,Aside (f=mU ow V.drew w5 (20+a)):=⟨_,rfl⟩
  rw [<-how5.o] at ff;clear z0 z1 z2 z3 z4 z5 z6 z7 zf;obtain ⟨z0,z1,z2,z3,z4,z5,z6,z7,zf⟩:=m6.ct Z5
  have HZ5:Aside (m6 w5 (S+1) lQ/\t8 w5 (bp a) (br a) (d a)/\m6 w5 M y):=⟨Z5,S5.1,S5.2⟩
  clear Z5 S5 H5
  rcases HST.o with ⟨rfl,hon,hso,hdi⟩ | ⟨rfl,hso,hdi⟩
  ·have HD:Aside ((st a).2.1=false/\s2.2.1=false/\G8 s2 (D a++ [y])):=⟨hon,hso,hdi⟩
   clear hon hso hdi z0 z1 z2 z3 z4 z5 z6 z7 zf;rw [show eV ad 0= .nilIface from rfl];obtain ⟨X,hX⟩:=ze ((w5.alloc (qOc t' b' m' kd' nd' o' s' v')).drew)
   have hbX:qL w5 X:=by rw [hX.o];exact (zh w5 _).drew
   have hinX:F1 X (qS w5.heap.size) [y]:=by
    refine .inr ⟨w5.heap.size,0,rfl,fun j u hj=> ?_⟩;rw [hX.o];have:=pX w5 (t',b',m',kd',nd',o',s',v') 88 j u (by rw [hy.o] at hj;simpa [cellsOf,mP] using hj);rw [Addr.add_lit] at this;exact this
   have jH:=ff.o.1.later hbX;have iC:=Ks X (c a) (br a) a (K a) (qS w5.heap.size) 1 T y (jH.GP a ha).1 ((HM.o.2.2.mono ff.o.2.1).later hbX).t ha4 hinX HN.o.2 HN.o.1.1 (by have:=HM.o.2.1.D4 ha;omega)
   have HX:Aside (n9 gd B X ow5 n bm pv fv bp br d (lR dv a lD) c K (lR st a s2) N/\m6 X (S+1) lQ/\t8 X (bp a) (br a) (d a)/\m6 X M y/\Below B w X/\qL w5 X):=⟨jH,HZ5.o.1.later hbX,(jH.GA a ha).1,HZ5.o.2.2.later hbX,ff.o.2.1.trans (hbX.mono ff.o.1.l9),hbX⟩
   have SD7:t8 w5.drew (bp a) (br a) (d a)/\m6 w5.drew M y:=HZ5.o.2
   have SX:t8 X (bp a) (br a) (d a)/\m6 X M y:=⟨HX.o.2.2.1,HX.o.2.2.2.1⟩
   clear hbX hinX jH;go_upto_region 7 with fail;refine lV (S:=(fun w'=>t8 w' (bp a) (br a) (d a)/\m6 w' M y)) zk SD7 (fun aa=> ?_);refine tk 0 aa ?_ (y:=ty zl);refine tk 1 aa ?_ (y:=ty zl);refine tk 2 aa ?_ (y:=ty zl);refine tk 3 aa ?_ (y:=ty zH);refine tk 4 aa ?_ (y:=ty yu);refine an (i:=5) zk rfl (fun kQ hK=> ?_);go_simp;rw [<-hX.o];refine hK _ _ SX ?_;clear hK kQ aa;refine qn ?_;refine an (i:=6) zk rfl (fun kQ hK=> ?_);go_simp;refine iC.mono ?_;clear iC;rintro e w6 ⟨c',R',rfl,hA,hR',hmem,hlen⟩;obtain ⟨hm6,kX⟩:=HX.o.1.abb ha hA hR'
   have k0:∀k,k<X.heap.size->ow5 k=0->w6.heap[k]? =X.heap[k]? :=fun k hk e=>kX.block k hk (fun q=>zj)
   have S6:t8 w6 (bp a) (br a) (d a)/\m6 w6 M y:=⟨(hm6.GA a ha).1,(k0 M HX.o.2.2.2.1.lt ff.o.2.2.1).trans HX.o.2.2.2.1⟩
   have Z6:m6 w6 (S+1) lQ:=(k0 (S+1) HX.o.2.1.lt ff.o.2.2.2.1).trans HX.o.2.1
   have H6:Aside (n9 gd B w6 (mU ow5 X w6 (10+a)) n bm pv fv bp br d (lR dv a lD) (lR c a c') (lR K a R') (lR st a s2) N/\Below B w w6/\mU ow5 X w6 (10+a) (S+1)=0/\u9 R'/\(∀z,z∈lX R'↔z=y\/z∈lX (K a))/\zcA ow w (mU ow5 X w6 (10+a)) w6):=⟨hm6,HX.o.2.2.2.2.1.trans (HX.o.1.m8 kX (fun k e=>zj)),(ml HX.o.2.1.lt).trans ff.o.2.2.2.1,hR'.h,hmem,fun k hk e=>by
    obtain ⟨e5,b5⟩:=ff.o.2.2.2.2 k hk e
    have cV:=uT hk ff.o.2.1.size
    have hkX:=uT cV HX.o.2.2.2.2.2.size
    exact ⟨(ml hkX).trans e5,((k0 k hkX e5).trans (HX.o.2.2.2.2.2.block k cV)).trans b5⟩⟩
   have aa:=S6;refine hK _ _ S6 ?_;clear hK kQ hm6 kX k0 hA hR' hmem hlen SX SD7;refine qn ?_;refine tk 7 aa ?_ (y:=ty zl);refine tk 8 aa ?_ (y:=ty zl);refine tk 9 aa ?_ (y:=ty zl);refine tk 10 aa ?_ (y:=ty zl);refine an (i:=11) zk rfl (fun kQ hK=> ?_);go_simp;refine hK _ _ S6 ?_;clear hK kQ;refine wpAnyH_done zk ?_ _;refine qn ?_;have Y6:=S6.2;rw [hy.o] at Y6;obtain ⟨q0,q1,q2,q3,q4,q5,q6,q7,-⟩:=Y6.cells;dsimp only at q0 q1 q2 q3 q4 q5 q6 q7;obtain ⟨z0,z1,z2,z3,z4,z5,z6,z7,zf⟩:=m6.ct Z6;clear Y6 Z6 S6 aa;go_wp2;(try simp only [Exit.inBlock,Exit.then]);refine bodyPost_ret (v:=.tuple #[.agg (qOa t' b' m' kd' nd' o' s' v'),.nilIface]) ?_ rfl ?_
   ·exact kc1
   have dg:=lZ (S+1) (qOl t' b' m' kd' nd' o' s' v') 0 w6;refine ⟨(t',b',m',kd',nd',o',s',v'),0,G++ [y],lR K a R',lR D a (D a++ [y]),lR st a s2,rfl,⟨_,_,_,_,_,_,_,_,H6.o.1.Z dg (fun k e=>by have e':=e;rw [e'];exact H6.o.2.2.1),fun k hk e=>⟨(H6.o.2.2.2.2.2 k hk e).1,(dg.block k (uT hk H6.o.2.1.size) (fun q=>xh)).trans (H6.o.2.2.2.2.2 k hk e).2⟩⟩,H6.o.2.1.trans (dg.m8 (uO HM.o.1.l9 H6.o.2.1.size) (fun k e=>yR)),HM.o.2.1.acJ ha ha4 HN.o.1 HN.o.2 HD.o.1 HD.o.2.2 HD.o.2.1 H6.o.2.2.2.1 H6.o.2.2.2.2.1,fun r hr x hx=> ?_,.inr ⟨rfl,by rw [hy.o],by have:=HN.o.2.o9;rw [hy.o] at this;exact this⟩,_,_,HP.o,fun _ _ _=>⟨rfl,rfl⟩,fun r hr=>⟨lP _ _ hr,lP _ _ hr⟩,.inr (.inr ⟨rfl,by rw [<-hy.o,hcs.o],rfl,rfl,⟨R',rfl,H6.o.2.2.2.1,fun z=>by rw [<-hy.o];exact H6.o.2.2.2.2.1 z⟩,by rw [<-hy.o,hcs.o]⟩)⟩;by_cases q:r=a
   ·subst q;rw [lT];exact (H6.o.2.2.2.2.1 x).2 (.inr hx)
   rw [lP _ _ q];exact hx
  have HD:Aside (s2.2.1=true/\G8 s2 (D a)):=⟨hso,hdi⟩
  clear hso hdi;rw [mO (show (11:Nat)≠0 by omega)];go_wp2;(try simp only [Exit.inBlock,Exit.then]);refine bodyPost_ret (v:=.tuple #[.agg qZa,.iface 437 (.pointer (some (ad (11 - 1))))]) ?_ rfl ?_
  ·exact kc1
  have dg:=lZ (S+1) qZl 0 w5;exact ⟨lQ,11,G,K,D,lR st a s2,rfl,⟨_,_,_,_,_,_,_,_,ff.o.1.Z dg (fun k e=>by have e':=e;rw [e'];exact ff.o.2.2.2.1),fun k hk e=>⟨(ff.o.2.2.2.2 k hk e).1,(dg.block k (uT hk ff.o.2.1.size) (fun q=>xh)).trans (ff.o.2.2.2.2 k hk e).2⟩⟩,ff.o.2.1.trans (dg.m8 (uO HM.o.1.l9 ff.o.2.1.size) (fun k e=>yR)),(HM.o.2.1.ab7 HD.o.2 (fun e=>by rw [HD.o.1] at e;cases e)).up zj,fun r hr x hx=>hx,.inl ⟨zj,rfl⟩,_,_,HP.o,fun _ f1 f2=>absurd (HFR.o f1 f2) zj,fun r hr=>⟨rfl,lP _ _ hr⟩,.inr (.inl ⟨rfl,by rw [<-hy.o,hcs.o];omega,by rw [<-hy.o,hcs.o],rfl,rfl,by rw [<-hy.o,hcs.o]⟩)⟩
 obtain ⟨er,aB⟩:=ze (ad (cd - 1));have HB:Aside (cd≠0):=hcd;rw [mO hcd,<-aB.o];clear hcd;go_upto_region 3 with fail;rw [<-hV.o,<-hM.o];go_wp2;(try simp only [Exit.inBlock,Exit.then]);refine bodyPost_ret (v:=.tuple #[.agg qZa,.iface 437 (.pointer (some er))]) ?_ rfl ?_
 ·exact kc1
 have dg:=lZ (S+1) qZl 0 V;have jl:=HM.o.1.later HV.o.1;have ai:=HV.o.1.mono HM.o.1.l9;exact ⟨lQ,cd,G,K,D,st,by rw [mO HB.o,<-aB.o];rfl,⟨_,_,_,_,_,_,_,_,jl.Z dg (fun k e=>by have e':=e;rw [e'];exact HM.o.1.high _ yU),fun k hk e=>⟨e,(dg.block k (uT hk HV.o.1.size) (fun q=>xh)).trans (HV.o.1.block k hk)⟩⟩,ai.trans (dg.m8 jl.l9 (fun k e=>yR)),HM.o.2.1.up zj,fun r hr x hx=>hx,.inl ⟨HB.o,rfl⟩,_,_,HP.o,fun q=>absurd q HB.o,fun r hr=>⟨rfl,rfl⟩,.inl ⟨HB.o,rfl,rfl,rfl,rfl⟩⟩
def F8(w:qW)(b:Nat)(x:nO):Prop:=w.heap[b]? =some (.cells #[qN x.1,qN x.2.1,.bool x.2.2.1,qI (x.2.2.2.1 0),qI (x.2.2.2.1 1),qI (x.2.2.2.1 2),qI (x.2.2.2.1 3),AZ x] 149 (0,0))
theorem F8.lt{w}{b}{x}(h:F8 w b x):b<w.heap.size:=(uK.1 h).1
theorem F8.same{w w'}{b}{x}(h:F8 w b x)(e:w'.heap[b]? =w.heap[b]?):F8 w' b x:=e.trans h
theorem F8.later{w w'}{b}{x}(h:F8 w b x)(hb:qL w w'):F8 w' b x:=h.same (hb.block b h.lt)
theorem F8.F5(w:qW)(x):F8 (w.alloc (.cells #[qN x.1,qN x.2.1,.bool x.2.2.1,qI (x.2.2.2.1 0),qI (x.2.2.2.1 1),qI (x.2.2.2.1 2),qI (x.2.2.2.1 3),AZ x] 149)) w.heap.size x:=heap_alloc_new w _
theorem F8.cells{w}{b}{x}(h:F8 w b x):w.cell? (qB b)=some (qN x.1)/\w.cell? (qA b 1)=some (qN x.2.1)/\w.cell? (qA b 2)=some (.bool x.2.2.1)/\w.cell? (qA b 3)=some (qI (x.2.2.2.1 0))/\w.cell? (qA b 4)=some (qI (x.2.2.2.1 1))/\w.cell? (qA b 5)=some (qI (x.2.2.2.1 2))/\w.cell? (qA b 6)=some (qI (x.2.2.2.1 3))/\w.cell? (qA b 7)=some (AZ x)/\∀o,w.frozen? (qA b o)=false:=by
 unfold F8 at h;exact km7
def VD(x:nO):Value:=.agg #[qN x.1,qN x.2.1,.bool x.2.2.1,qI (x.2.2.2.1 0),qI (x.2.2.2.1 1),qI (x.2.2.2.1 2),qI (x.2.2.2.1 3),AZ x]
theorem Ro:(prog.info? 149).map (fun i=>(i.zero,i.size,i.bytes))=some (some (.agg #[qI 0,qI 0,.bool false,qI 0,qI 0,qI 0,qI 0,qE]),8,80):=zk
theorem ES{gd}{B}{ad}{ow}{n bm}{pv fv}{bp br d}{dv}{c}{K}{st}{N}(w)(x)(h:n9 gd B w ow n bm pv fv bp br d dv c K st N)(hE:E6 B ad w)(hx:P5 w ow n x):
  qC 86 #[qP bm,VD x] w fun e w'=>(30<=N.length/\e= .returned (eV ad 8)/\Aside (qL w w'))\/(N.length<30/\e= .returned .nilIface/\Aside (∃fv' ow',n9 gd B w' ow' n bm pv fv' bp br d dv c K st (N++ [x])/\Below B w w')):=by
 obtain ⟨i0,hi,aD,aw,aH⟩:=info_parts Ro;obtain ⟨x1,x2,x3,x4,x5,x6,x7⟩:=x
 obtain ⟨x,b9⟩:∃x:nO,Aside (x=(x1,x2,x3,x4,x5,x6,x7)):=⟨_,rfl⟩
 obtain ⟨Q,hQ⟩:=ze w.heap.size;obtain ⟨U,hU⟩:=ze (w.alloc (.cells #[qN x1,qN x2,.bool x3,qI (x4 0),qI (x4 1),qI (x4 2),qI (x4 3),.slice x5 x7.length x6] 149));have ah:qL w U:=yB
 have XU:F8 U Q x:=by rw [hU.o,hQ.o,b9.o];exact F8.F5 w (x1,x2,x3,x4,x5,x6,x7)
 have dN:=h.later ah;have m1:=dN.C9.c1;obtain ⟨fo,fc,hfv⟩:=mC h.L5
 have HM:Aside (n9 gd B w ow n bm pv fv bp br d dv c K st N/\E6 B ad w/\P5 w ow n x/\n9 gd B U ow n bm pv fv bp br d dv c K st N/\qL w U/\F8 U Q x):=⟨h,hE,by rw [b9.o];exact hx,dN,ah,XU⟩
 have ef:=(hE.later ah).t.G3.c7;subst hfv;unfold VD AZ;dsimp only;clear h hE hx ah dN XU;by_cases hlen:30<=N.length
 ·have d1:decide ((30:Int)<=(N.length:Int))=true:=by simp;omega
  have dr:decide (30<=N.length)=true:=zm;go_enter func86,ntmps86;go_upto_region 1 with fail;rw [<-hU.o,<-hQ.o];go_wp2;go_ret;exact .inl ⟨hlen,rfl,HM.o.2.2.2.2.1⟩
 have d1:decide ((30:Int)<=(N.length:Int))=false:=zm;have dr:decide (30<=N.length)=false:=zm;obtain ⟨X,hX⟩:=ze ((U.alloc (.cells #[qN x1,qN x2,.bool x3,qI (x4 0),qI (x4 1),qI (x4 2),qI (x4 3),.slice x5 x7.length x6] 149)).drew)
 have hbX:qL U X:=by rw [hX.o];exact (zh U _).drew
 have jH:=HM.o.2.2.2.1.later hbX
 have hXc:X.heap[U.heap.size]? =some (.cells #[qN x1,qN x2,.bool x3,qI (x4 0),qI (x4 1),qI (x4 2),qI (x4 3),.slice x5 x7.length x6] 149 (0,0)):=by rw [hX.o];exact heap_alloc_new U _
 obtain ⟨v2,w2,ae,hown,ag,av⟩:=pd (P:=prog) X B 54 54 149 i0 _ 8 80 underlying54 hi aD aw aH rfl zj (.slice fo N.length fc) N.length (mP nX N) jH.L5 (qB U.heap.size) 1 1 zj (nX x) (by rw [mj])
  (by rw [b9.o];exact YH (cs:= #[qN x1,qN x2,.bool x3,qI (x4 0),qI (x4 1),qI (x4 2),qI (x4 3),.slice x5 x7.length x6]) (t:=149) (fr:=(0,0)) hXc) (CM x) zB zj jH.l9
 have hown':w2.ownsRow B 149 8 v2 (N++ [x]).length (mP nX (N++ [x])):=by
  rw [uQ]
  have e:mP nX (N++ [x])=mP nX N++nX x:=by simp [mP]
  rw [e];exact hown
 have hkU:=((lW hbX).mono (fun k hk q=>absurd hk zj)).then (lS ag) (fun k _ q=>q)
 have hnU:=HM.o.2.2.1.later HM.o.2.2.2.2.1
 obtain ⟨jI,jN⟩:=HM.o.2.2.2.1.abK (v:=v2) (N':=N++ [x]) hkU hown' (fun g hg=>by
  rcases av with ⟨g',cp,e1,e2⟩ | ⟨e1,_⟩
  ·left
   rw [e2] at hg
   rw [e1]
   exact hg
  ·right
   rw [hg] at e1
   cases e1
   exact hbX.size) (fun y hy=>by
  rcases uV.1 hy with q | q
  ·exact HM.o.2.2.2.1.D9 y q
  ·rw [Zf.1 q];exact hnU)
 have HF:Aside (n9 gd B (w2.setCell (qA bm 1) v2) (mU ow U w2 3) n bm pv v2 bp br d dv c K st (N++ [x])/\Below B w (w2.setCell (qA bm 1) v2)):=⟨jI,(HM.o.2.2.2.2.1.mono HM.o.1.l9).trans (HM.o.2.2.2.1.m8 jN (fun k e=>zj))⟩
 have kbm:∀ {b:Nat},b<U.heap.size->ow b≠3->w2.heap[b]? =U.heap[b]? :=fun {b} hb ho=>hkU.block b hb (fun q=>ho (HM.o.1.of b (Eq.symm q)))
 have SU:G0 U.drew bm pv (.slice fo N.length fc)/\F8 U.drew Q x:=⟨HM.o.2.2.2.1.C9,HM.o.2.2.2.2.2⟩
 have SX:G0 X bm pv (.slice fo N.length fc)/\F8 X Q x:=⟨jH.C9,HM.o.2.2.2.2.2.later hbX⟩
 have S2:G0 w2 bm pv (.slice fo N.length fc)/\F8 w2 Q x:=⟨(kbm HM.o.2.2.2.1.C9.lt (by rw [HM.o.1.om];omega)).trans HM.o.2.2.2.1.C9,HM.o.2.2.2.2.2.same (kbm HM.o.2.2.2.2.2.lt (by rw [HM.o.1.high Q (by rw [hQ.o];exact uL _)];omega))⟩
 have n1:=S2.1.c1;have nf:=S2.1.fz 1
 obtain ⟨g2,cp2,dx⟩:∃g cap,v2=qG g (N.length+1) cap:=by
  rcases hown.2 with ⟨_,q⟩ | ⟨g,cap,cur,q,_⟩
  ·omega
  exact ⟨g,cap,q⟩
 subst dx
 have HFS:Aside (∃fv' ow',n9 gd B (w2.setCell (qA bm 1) (qG g2 (N.length+1) cp2)) ow' n bm pv fv' bp br d dv c K st (N++ [(x1,x2,x3,x4,x5,x6,x7)])/\Below B w (w2.setCell (qA bm 1) (qG g2 (N.length+1) cp2))):=⟨_,_,by rw [<-b9.o];exact HF.o.1,HF.o.2⟩
 clear hbX jH hXc hown hown' ag av hkU hnU jI jN HF kbm;go_enter func86,ntmps86;go_upto_region 1 with fail;rw [<-hU.o,<-hQ.o];go_upto_region 3 with fail;refine nS (S:=(fun w'=>G0 w' bm pv (.slice fo N.length fc)/\F8 w' Q x)) (z:=10) zk SU (fun aa=> ?_);refine lY (i:=0) (v:= ?va0) zo rfl zk zk zk (fun _ _ _ h=>h) (Or.inl ⟨zt,?hya0⟩) aa ?resta0
 case hya0=>(intro w' _;go_simp;try with_reducible rfl)
 refine qn ?_;refine lY (i:=1) (v:= ?va1) zo rfl zk zk zk (fun _ _ _ h=>h) (Or.inl ⟨zt,?hya1⟩) aa ?resta1
 case hya1=>(intro w' _;go_simp;try with_reducible rfl)
 refine qn ?_;refine lY (i:=2) (v:= ?va2) zo rfl zk zk zk (fun _ _ _ h=>h) (Or.inl ⟨zt,?hya2⟩) aa ?resta2
 case hya2=>(intro w' _;go_simp;try with_reducible rfl)
 refine qn ?_;refine lY (i:=3) (v:= ?va3) zo rfl zk zk zk (fun _ _ _ h=>h) (Or.inl ⟨zt,?hya3⟩) aa ?resta3
 case hya3=>(intro w' _;go_simp;try with_reducible rfl)
 refine qn ?_;refine mV (i:=4) (v:= ?va4) zo zk rfl zk zk zk zk (fun _ _ _ h=>h) (Or.inl ⟨zt,?hya4⟩) aa ?resta4
 case hya4=>(intro w' ab;have q1:=ab.1.c1;clear ab;go_simp;try with_reducible rfl)
 refine qn ?_;refine mV (i:=5) (v:= ?va5) zo zk rfl zk zk zk zk (fun _ _ _ h=>h) (Or.inl ⟨zt,?hya5⟩) aa ?resta5
 case hya5=>(intro w' ab;have q9:=ab.2;rw [b9.o] at q9;obtain ⟨q0,q1,q2,q3,q4,q5,q6,q7,-⟩:=F8.cells q9;unfold AZ at q7;dsimp only at q0 q1 q2 q3 q4 q5 q6 q7;clear q9;clear ab;go_simp;try with_reducible rfl)
 refine qn ?_;refine lN (i:=6) zk rfl (fun kQ hK=> ?_);go_simp;rw [<-hX.o];refine hK _ _ (.inl SX) ?_;clear hK kQ aa;refine qn ?_;refine lN (i:=7) zk rfl (fun kQ hK=> ?_);simp only [ZR,ZU,ZW];refine Lib.wp_append_run _ _ _ _ _ rfl (.slice fo N.length fc) (qG U.heap.size 1 1) ?ahs ?ahx _ w2 ae ?_
 case ahs=>rfl
 case ahx=>rfl
 refine hK _ _ (.inl S2) ?_;clear hK kQ;refine qn ?_;refine lY (i:=8) (v:= ?vb8) zo rfl zk zk zk (fun _ _ _ h=>h) (Or.inl ⟨zt,?hyb8⟩) S2 ?restb8
 case hyb8=>(intro w' _;go_simp;try with_reducible rfl)
 refine qn ?_;refine lY (i:=9) (v:= ?vb9) zo rfl zk zk zk (fun _ _ _ h=>h) (Or.inl ⟨zt,?hyb9⟩) S2 ?restb9
 case hyb9=>(intro w' _;go_simp;try with_reducible rfl)
 refine qn ?_;refine lN (i:=10) zk rfl (fun kQ hK=> ?_);go_simp;refine hK _ _ (.inr ⟨rfl,zo⟩) ?_;clear hK kQ;refine nZ zk ?_ _;clear n1 nf S2 SX SU;go_wp2;go_ret;exact .inr ⟨zj,rfl,HFS.o⟩
theorem Fb{bm}{pv}{fo}{m fc}(w)(p9)(h:G0 w bm pv (.slice fo m fc))(ho: -9223372036854775808<=p9/\p9<=9223372036854775807):
  qC 90 #[qP bm,qI p9] w fun e w'=>e= .returned (.bool (decide (0<=p9/\p9<(m:Int))))/\w'=w:=by
 have m1:=h.c1;by_cases h0:0<=p9
 ·have d0:decide (0<=p9)=true:=by simp;omega
  have e:decide (0<=p9/\p9<(m:Int))=decide (p9<(m:Int)):=xm;rw [e];go_enter func90,ntmps90;exact ka7
 have d0:decide (0<=p9)=false:=zm;have e:decide (0<=p9/\p9<(m:Int))=false:=xm;rw [e];go_enter func90,ntmps90;exact ka7
theorem Rp{R}(hR:u9 R){l F G:qX}(hs:oX (lX R) 0 [] l= .inr F)(h1:∀x∈lX R,x∈G)(h2:∀x∈l,x∈G):(lX R).length+F.length<=G.length:=by
 obtain ⟨hF,g2,_,_,_⟩:=oT (pW _) hs
 have n2:(lX R++F).Nodup:=by
  exact kh1
 have:=oP n2 (H:=G) (fun x hx=>by
  rcases uV.1 hx with q | q
  ·exact h1 x q
  ·rcases g2 x q with p | p
   ·simp at p
   ·exact h2 x p)
 simp_all
theorem Ul{R}(hR:u9 R){l G}{a}(eJ:∀x∈G,∀y∈G,byO x=byO y->mB x=mB y->x=y)(cU:∀x∈G,mv x=0)(h1:∀x∈lX R,x∈G)(h2:∀x∈l,x∈G)(hlen:(lX R).length+l.length<=400)(hj:oW (lX R) l a):(∃cd,cd≠0/\a= .inl (-1,cd)/\¬Xg G (lX R) l)\/∃fresh,a= .inr fresh/\∀x,x∈lX R++fresh↔x∈lX R\/x∈l:=by
 have hnf:∀ {cd:Nat},a= .inl (-1,cd)->¬Xg G (lX R) l:=fun {cd} e ⟨T,t1,t2,t3,t4⟩=>by
  obtain ⟨fresh,q,_⟩:=GV hR t1 (fun x hx y hy=>eJ x (h1 x hx) y (t2 y hy)) t3 t4 hlen;have:=q a hj;rw [e] at this
  cases this
 obtain ⟨out,s1,s2⟩:=tc (S:=lX R) (T:=G) (fun x hx y hy=>eJ x (h1 x hx) y (h1 y hy)) eJ (fun x hx y hy=>eJ x (h1 x hx) y hy) cU (l:=l) 0 (fresh:=[]) h2 (fun x hx=>ya);obtain ⟨g1,g2,g3,g4,g5⟩:=oT (pW _) s1
 grind [oW]
def Vb(G:qX)(K K':qH)(a:Nat)(l:qX):Prop:=(∀r,r≠a->K' r=K r)/\(∀x∈lX (K a),x∈lX (K' a))/\(∀x∈lX (K' a),x∈lX (K a)\/x∈l)/\(Xg G (lX (K a)) l->∀x∈l,x∈lX (K' a))
def oe:DSt->List OpX->Nat×DSt
 | s,[]=>(0,s)
 | s,y::ys=>if (pN s y).1=0 then oe (pN s y).2 ys else pN s y
theorem Qf{s s'}{y}{ys}(h:pN s y=(0,s')):oe s (y::ys)=oe s' ys:=by
 grind [pN,oe]
theorem FM{s s'}{y}{ys}{cd}(h:pN s y=(cd,s'))(hc:cd≠0):oe s (y::ys)=(cd,s'):=by
 simp_all [pN,oe,if_neg]
def sg(R:Rws)(u:Nat->Int)(F:qX):Prop:=∃ys,oI (lX R) ys/\F=ys.filter (fun x=> !rF u x)
def Ru(ad:qF)(K K':qH)(st st':qD)(a:Nat)(l:qX)(v:Value):Prop:=(∃ix cd,oW (lX (K a)) l (.inl (ix,cd))/\cd≠0/\v=eV ad cd/\K'=K/\st'=st)\/(∃fresh R' F,oW (lX (K a)) l (.inr fresh)/\K'=lR K a R'/\u9 R'/\(∀x,x∈lX R'↔x∈lX (K a)\/x∈l)/\sg R' (oV (K a)) F/\v=eV ad (oe (st a) F).1/\st'=lR st a (oe (st a) F).2)
def UQ(gd:Nat->Option Obj)(B n bm i:Nat)(ad:qF)(G:qX)(K:qH)(st:qD)(N:qJ)(a:Nat)(l:qX)(w:qW)(e:Ending)(w':qW):Prop:=∃(v:Value) (K':qH) (D':Nat->List OpX) (st':qD),e= .returned v/\Aside (q8 gd B n bm K' st' N w'/\Below B w w'/\r9 n i G K' D' st' N/\Vb G K K' a l/\(Xg G (lX (K a)) l->(st a).2.1=false->(st a).2.2.1=false->v= .nilIface)/\Ru ad K K' st st' a l v)
theorem GD(w)(c)(br)(o9)(R)(u)(h:K7 w c br o9 R)(hn:(lX R).length<=1000):
  qC 89 #[qP br,.agg #[qI (u 0),qI (u 1),qI (u 2),qI (u 3)]] w fun e w'=>∃ao cap F,e= .returned (.slice ao F.length cap)/\Aside ((∃ys,oI (lX R) ys/\F=ys.filter (fun x=> !rF u x))/\M1 w' (.slice ao F.length cap) F/\(F≠ []->∀g,(Value.slice ao F.length cap).ownBlock=some g->w.heap.size<=g/\g<w'.heap.size)/\qL w w'):=by
 refine (Px w c br o9 R u h hn).mono ?_;rintro e w' ⟨val,ys,he,h2,h1,h3⟩
 rcases h1 with ⟨rfl,rfl⟩ | ⟨gb,cp,rfl,hg,hO⟩
 ·exact ⟨none,0,[],he,⟨[],h2,rfl⟩,.inl ⟨rfl,rfl⟩,fun q=>absurd rfl q,h3⟩
 refine ⟨_,cp,_,he,⟨ys,h2,rfl⟩,.inr ⟨gb,0,cp,rfl,fun j u hj=> ?_⟩,fun hne g hg'=> ?_,h3⟩
 ·rw [Zc];exact hO.cell j u hj
 cases hg'
 refine ⟨hg,?_⟩
 cases hF:ys.filter (fun x=> !rF u x) with
 | nil=>exact absurd hF hne
 | cons y t=>
  have:=hO.cell 0 (qI y.1) (by rw [hF];rfl);exact uN w' (qB gb) this
theorem Va{w}{ao}{cap}{F}(h:M1 w (.slice ao F.length cap) F):F1 w ao F:=by
 rcases h with ⟨_,q⟩ | ⟨b,o,cp,q1,q2⟩
 ·exact .inl q
 exact kj5
theorem QL{w}{ao}{cap}{F}(h:M1 w (.slice ao F.length cap) F){k}{x}(hk:F[k]? =some x):∃blk off,ao=some (qA blk off)/\zb1 w blk (off+k*8) x.1 x.2.1 x.2.2.1 x.2.2.2.1 x.2.2.2.2.1 x.2.2.2.2.2.1 x.2.2.2.2.2.2.1 x.2.2.2.2.2.2.2:=by
 have hi:=(uI.1 hk).1
 rcases Va h with rfl | ⟨blk,off,rfl,hc⟩
 ·simp at hi
 obtain ⟨t,b,n,kd,nd,o,s,v⟩:=x;refine ⟨blk,off,rfl,Uh hc k hi ?_⟩
 simp_all
theorem Mm{gd}{B}{ad}{ow}{n bm}{pv fv}{bp br d}{dv}{c}{K}{st}{N}{i}{G}{D}(w)(a)(la)(lc)(l)(h:n9 gd B w ow n bm pv fv bp br d dv c K st N)(hI:r9 n i G K D st N)(hE:E6 B ad w)(ha:a<n)(hi:i<=155)(hin:F1 w la l)(hl:∀x∈l,x∈G)(jL:l.length<=200):
  qC 88 #[qP (bp a),.slice la l.length lc] w (UQ gd B n bm i ad G K st N a l w):=by
 have ha4:=uT ha h.W9;have hla:=hI.D4 ha;have p0:=(h.GA a ha).1.c0;have hvec:=tM w (c a) (br a) (a:Int) (K a) (h.GP a ha).1.GP zj
 have HM:Aside (n9 gd B w ow n bm pv fv bp br d dv c K st N/\r9 n i G K D st N/\E6 B ad w/\F1 w la l/\∀x∈l,x∈G):=⟨h,hI,hE,hin,hl⟩
 go_enter func88,ntmps88;go_wp2_with fail;refine hvec.mono ?_;rintro e w1 ⟨rfl,hb1⟩;obtain ⟨U,hU⟩:=ze (w1.alloc (.cells #[qI (oV (K a) 0),qI (oV (K a) 1),qI (oV (K a) 2),qI (oV (K a) 3)] 103));obtain ⟨P,hP⟩:=ze w1.heap.size
 have ah:qL w U:=by rw [hU.o];exact hb1.alloc hb1.size _
 have VU:J0 U P (oV (K a)):=by rw [hU.o,hP.o];exact heap_alloc_new w1 _
 have dN:=HM.o.1.later ah;have hPo:=HM.o.1.high P (by rw [hP.o];exact hb1.size);have p0:=(dN.GA a ha).1.c0
 have iC:=Gq U (c a) (br a) (a:Int) (K a) la lc l (dN.GP a ha).1 (HM.o.2.2.1.later ah).t.G3 (HM.o.2.2.2.1.later ah) (BG (fun x hx=>HM.o.2.1.G5.ok x (HM.o.2.2.2.2 x hx))) zj zj (fun F hF=>by
  have:=Rp (HM.o.2.1.GC a ha) hF (HM.o.2.1.G5.sub a ha) HM.o.2.2.2.2
  have:=HM.o.2.1.G5.D4
  omega)
 have HU:Aside (n9 gd B U ow n bm pv fv bp br d dv c K st N/\J0 U P (oV (K a))/\qL w U/\ow P=0):=⟨dN,VU,ah,hPo⟩
 go_upto_region 2 with fail;rw [show ((K a 0).length:Int)=oV (K a) 0 from rfl,show ((K a 1).length:Int)=oV (K a) 1 from rfl,show ((K a 2).length:Int)=oV (K a) 2 from rfl,show ((K a 3).length:Int)=oV (K a) 3 from rfl,<-hU.o,<-hP.o];go_wp2_with fail;refine iC.mono ?_;rintro e w2 ⟨ja,c',hj,hA,hm⟩
 rcases Ul (HM.o.2.1.GC a ha) HM.o.2.1.G5.one HM.o.2.1.G5.ok (HM.o.2.1.G5.sub a ha) HM.o.2.2.2.2 zj hj with ⟨cd,hcd,rfl,hnf⟩ | ⟨fresh,rfl,hfr⟩
 ·obtain ⟨hR,jv,rfl,hv⟩:=hm
  obtain rfl:jv=eV ad cd:=by
   rcases hv with ⟨_,q,_⟩ | ⟨q,_⟩
   ·exact q
   omega
  obtain ⟨bR,hk2⟩:=HU.o.1.abb ha hA hR
  have H2:Aside (q8 gd B n bm K st N w2/\Below B w w2/\¬Xg G (lX (K a)) l/\oW (lX (K a)) l (.inl (-1,cd))/\cd≠0):=⟨⟨_,_,_,_,_,_,_,_,by rw [sG] at bR;exact bR⟩,(HU.o.2.2.1.mono HM.o.1.l9).trans (HU.o.1.m8 hk2 (fun k e=>zj)),hnf,hj,hcd⟩
  rw [mO hcd];go_wp2;go_ret;exact ⟨_,K,D,st,rfl,H2.o.1,H2.o.2.1,HM.o.2.1,⟨fun _ _=>rfl,fun x hx=>hx,fun x hx=>.inl hx,fun q=>absurd q H2.o.2.2.1⟩,fun q=>absurd q H2.o.2.2.1,.inl ⟨_,_,H2.o.2.2.2.1,H2.o.2.2.2.2,by rw [mO H2.o.2.2.2.2];rfl,rfl,rfl⟩⟩
 obtain ⟨rfl,R',hR,hmem0⟩:=hm;obtain ⟨bR,hk2⟩:=HU.o.1.abb ha hA hR
 have hmem:∀x,x∈lX R'↔x∈lX (K a)\/x∈l:=fun x=>(hmem0 x).trans (hfr x)
 have HJ:Aside (oW (lX (K a)) l (.inr fresh)):=hj;have hV2:J0 w2 P (oV (K a)):=(hk2.block P HU.o.2.1.lt (fun q=>by have q':=q;rw [HU.o.2.2.2] at q';omega)).trans HU.o.2.1
 obtain ⟨ow2,how2⟩:∃f,Aside (f=mU ow U w2 (10+a)):=⟨_,rfl⟩
 rw [<-how2.o] at bR
 have hP2:ow2 P=0:=by rw [how2.o,ml HU.o.2.1.lt];exact HU.o.2.2.2
 have cC:=bR.later (uM _ w2).drew
 have dA:(lX R').length<=155:=by
  have:=oP hR.h.num.J2 (H:=G) (fun x hx=>((hmem x).1 hx).elim (HM.o.2.1.G5.sub a ha x) (HM.o.2.2.2.2 x));have:=HM.o.2.1.G5.D4;omega
 have hdf:=GD w2.drew _ (br a) (a:Int) R' (oV (K a)) (by have:=(cC.GP a ha).1.GP;rw [lT,lT] at this;exact this) zj
 have H2:Aside (n9 gd B w2.drew ow2 n bm pv fv bp br d dv (lR c a c') (lR K a R') st N/\Below B w w2.drew/\u9 R'/\(∀x,x∈lX R'↔x∈lX (K a)\/x∈l)/\ow2 P=0):=⟨cC,((HU.o.2.2.1.mono HM.o.1.l9).trans (HU.o.1.m8 hk2 (fun k e=>zj))).drew,hR.h,hmem,hP2⟩
 have SD:t8 w2.drew (bp a) (br a) (d a)/\J0 w2.drew P (oV (K a)):=⟨(cC.GA a ha).1,hV2⟩
 go_upto_region 5 with fail;refine lV (S:=(fun w'=>t8 w' (bp a) (br a) (d a)/\J0 w' P (oV (K a)))) zk SD (fun aa=> ?_);refine tk 0 aa ?_ (y:=ty zl);refine tk 1 aa ?_ (y:=ty zl);refine tk 2 aa ?_ (y:=ty zl);refine tk 3 aa ?_ (y:=ty zH);refine tk 4 aa ?_ (y:=ty (by intro w' ab;have q0:=ab.2.at (i:=0) zj;have q1:=ab.2.at (i:=1) zj;have q2:=ab.2.at (i:=2) zj;have q3:=ab.2.at (i:=3) zj;clear ab;go_simp;try with_reducible rfl));refine tk 7 aa ?_ (y:=ty zl);refine an (i:=5) zk rfl (fun kQ hK=> ?_);go_simp;refine hdf.mono ?_;rintro e w3 ⟨ao,cap,F,rfl,H3⟩
 have S3:t8 w3 (bp a) (br a) (d a)/\J0 w3 P (oV (K a)):=⟨SD.1.same (H3.o.2.2.2.block _ SD.1.lt),SD.2.later H3.o.2.2.2⟩
 have aa:=S3;refine hK _ _ S3 ?_;refine qn ?_;refine an (i:=6) zk rfl (fun kQ hK=> ?_);go_simp;refine hK _ _ S3 ?_;refine wpAnyH_done zk ?_ _;refine qn ?_
 have hFd:Al F/\F.Nodup/\∀x,x∈F↔x∈lX R'/\x∉lX (K a):=by
  obtain ⟨ys,y1,y2⟩:=H3.o.1;rw [y2];exact EZ (HM.o.2.1.GC a ha) H2.o.2.2.1 (fun x hx y hy=>H2.o.2.2.1.G6.one x ((H2.o.2.2.2.1 x).2 (.inl hx)) y hy) y1
 have hFl:F.length<=155:=by
  have:=oP hFd.2.1 (H:=G) (fun x hx=>(((H2.o.2.2.2.1 x).1 ((hFd.2.2 x).1 hx).1)).elim (HM.o.2.1.G5.sub a ha x) (HM.o.2.2.2.2 x));have:=HM.o.2.1.G5.D4;omega
 obtain ⟨cC,aW⟩:=H2.o.1.adi H3.o.2.2.2
 obtain ⟨ow3,how3⟩:∃f,Aside (f=mU ow2 w2.drew w3 4):=⟨_,rfl⟩
 rw [<-how3.o] at cC aW
 have H4:Aside (n9 gd B w3 ow3 n bm pv fv bp br d (lR dv a (dv a)) (lR c a c') (lR K a R') (lR st a (st a)) N/\G8 (st a) (D a++F.take 0)/\M1 w3 (.slice ao F.length cap) F/\(F≠ []->∀g,(Value.slice ao F.length cap).ownBlock=some g->ow3 g=4)/\Below B w w3):=⟨by rw [sG,sG];exact cC,by rw [List.take_zero,Yd];exact HM.o.2.1.B6 a ha,H3.o.2.1,fun hne g hg=>aW g (H3.o.2.2.1 hne g hg).1 (H3.o.2.2.1 hne g hg).2,H2.o.2.1.trans (H3.o.2.2.2.mono H2.o.1.l9)⟩
 have HF:Aside (Al F/\F.Nodup/\∀x,x∈F↔x∈lX R'/\x∉lX (K a)):=hFd;have HDF:Aside (sg R' (oV (K a)) F):=H3.o.1;go_wp2;go_loopg [35] F.length (fun kx s35 wr=>∃(k:Nat) (s:DSt) (ow':Nat->Nat) (v':Value),s35=qN k/\k<=F.length/\F.length - k<=kx/\Aside (n9 gd B wr ow' n bm pv fv bp br d (lR dv a v') (lR c a c') (lR K a R') (lR st a s) N/\G8 s (D a++F.take k)/\s.2.1=(st a).2.1/\((st a).2.1=true->k=0)/\((st a).2.1=false->(st a).2.2.1=false->s.2.2.1=false)/\M1 wr (.slice ao F.length cap) F/\(F≠ []->∀g,(Value.slice ao F.length cap).ownBlock=some g->ow' g=4)/\Below B w wr)/\Aside (oe (st a) F=oe s (F.drop k)))
 case atStart=>exact ⟨0,st a,ow3,dv a,rfl,uW _,uL _,⟨H4.o.1,H4.o.2.1,rfl,fun _=>rfl,fun _ q=>q,H4.o.2.2.1,H4.o.2.2.2.1,H4.o.2.2.2.2⟩,rfl⟩
 case round=>
  obtain ⟨k,s0,ow',v',rfl,hk,aY,A,AP⟩:=hrel;by_cases hlt:k<F.length
  ·have d1:qlt k F.length=true:=by simp;omega
   have wk:((k:Int)).toNat=k:=zj;have pk:(0:Int)<=(k:Int):=zj;have bk:(k:Int)<(F.length:Int):=zj
   obtain ⟨⟨t,b,m,kd,nd,o,s,v⟩,hx⟩:∃x,Aside (F[k]? =some x):=⟨F[k],uJ hlt⟩
   obtain ⟨x,b9⟩:∃x:OpX,Aside (x=(t,b,m,kd,nd,o,s,v)):=⟨_,rfl⟩
   have HDR:Aside (F.drop k=x::F.drop (k+1)):=by
    have e:=Yg hlt
    have e2:F[k]=x:=by
     have:=hx.o;rw [uJ hlt,<-b9.o] at this;exact Option.some.inj this
    show F.drop k=_
    rw [e,e2]
   have hFn:F≠ []:=fun q=>by rw [q] at hlt;simp at hlt
   have hxF:x∈F:=by rw [b9.o];exact uP hx.o
   have hxo:=H2.o.2.2.1.G6.ok x ((HF.o.2.2 x).1 hxF).1;obtain ⟨b1,o1,e1,E1⟩:=QL A.o.2.2.2.2.2.1 hx.o;dsimp only at E1;subst e1;obtain ⟨q0,q1,q2,q3,q4,q5,q6,q7⟩:=E1;obtain ⟨U2,hU2⟩:=ze (wr.alloc (qOc t b m kd nd o s v));obtain ⟨Q,hQ⟩:=ze wr.heap.size
   have jX:qL wr U2.drew:=by rw [hU2.o];exact (zh wr _).drew
   have OX:m6 U2.drew Q x:=by rw [hU2.o,hQ.o,b9.o];exact m6.F5 wr (t,b,m,kd,nd,o,s,v)
   have fi:=A.o.1.later jX;have hQo:=A.o.1.high Q (by rw [hQ.o];exact uL _);have fC:=fi.B6 a ha;rw [lT,lT] at fC;have hsz:=BG (l:=[x]) (fun z hz=>by rw [Zf.1 hz];exact hxo) x zr
   have hDl:(D a++F.take k).length<=320:=by have:=HM.o.2.1.abl ha;rw [uQ,Zr];omega
   have aZ:=Dz U2.drew x fC.1 ((HM.o.2.2.1.mono A.o.2.2.2.2.2.2.2).later jX).j (fun j hj=>fi.low j (by rw [fC.2 j hj];omega)) hsz.1 hsz.2 (by have:=A.o.2.1.D4;omega);have hst:=A.o.2.1.app fC.1.left.1 hDl hxo
   obtain ⟨gU,s2,hcs⟩:∃gU s2,Aside (pN s0 x=(gU,s2)):=⟨(pN s0 x).1,(pN s0 x).2,rfl⟩
   rw [hcs.o] at aZ hst;dsimp only at aZ hst
   have gc:s0.2.1=false->s0.2.2.1=false->gU=0/\s2.2.2.1=false:=fun f1 f2=>by
    have bN:=A.o.2.1.D4;have eD:=sM hxo;have dA:=nD (mQ x);have hc:=hcs.o;obtain ⟨B0,off0,wt0,lf0⟩:=s0;dsimp only at f1 f2 bN;subst f1;subst f2;rw [BC hxo zj] at hc
    cases hc
    exact ki2
   have HST:Aside (((gU=0/\s0.2.1=false/\s2.2.1=false/\G8 s2 ((D a++F.take k)++ [x]))\/(gU=11/\s2.2.1=true/\G8 s2 (D a++F.take k)))/\(s0.2.1=false->s0.2.2.1=false->gU=0/\s2.2.2.1=false)):=⟨hst,gc⟩
   have HA:Aside (n9 gd B U2.drew ow' n bm pv fv bp br d (lR dv a v') (lR c a c') (lR K a R') (lR st a s0) N/\s0.2.1=(st a).2.1/\((st a).2.1=true->k=0)/\((st a).2.1=false->(st a).2.2.1=false->s0.2.2.1=false)/\M1 U2.drew (.slice (some (qA b1 o1)) F.length cap) F/\(∀g,(Value.slice (some (qA b1 o1)) F.length cap).ownBlock=some g->ow' g=4)/\Below B w U2.drew/\m6 U2.drew Q x/\ow' Q=0):=⟨fi,A.o.2.2.1,A.o.2.2.2.1,A.o.2.2.2.2.1,A.o.2.2.2.2.2.1.later jX,A.o.2.2.2.2.2.2.1 hFn,A.o.2.2.2.2.2.2.2.trans (jX.mono A.o.1.l9),OX,hQo⟩
   have SD:t8 U2.drew (bp a) (br a) (d a)/\m6 U2.drew Q x:=⟨(fi.GA a ha).1,OX⟩
   rw [b9.o] at aZ;unfold IR at aZ;dsimp only at aZ;obtain ⟨u0,bI⟩:=za wr;subst bI;go_upto_region 8 with fail;rw [<-hU2.o,<-hQ.o];refine lV (S:=(fun w'=>t8 w' (bp a) (br a) (d a)/\m6 w' Q x)) zk SD (fun aa=> ?_);refine tk 0 aa ?_ (y:=ty zl);refine tk 1 aa ?_ (y:=ty zl);refine tk 2 aa ?_ (y:=ty zl);refine tk 3 aa ?_ (y:=ty xo);refine tk 4 aa ?_ (y:=ty (by intro w' ab;have q2:=ab.2;rw [b9.o] at q2;obtain ⟨q0,q1,q2,q3,q4,q5,q6,q7,-⟩:=m6.cells q2;dsimp only at q0 q1 q2 q3 q4 q5 q6 q7;clear ab;go_simp;try with_reducible rfl));refine an (i:=5) zk rfl (fun kQ hK=> ?_);go_simp;refine aZ.mono ?_;rintro e w5 ⟨rfl,H5⟩;obtain ⟨dv5,fi,cV⟩:=HA.o.1.aaQ (st':=s2) ha (by rw [lT];exact H5.o)
   have S5:t8 w5 (bp a) (br a) (d a)/\m6 w5 Q x:=⟨(fi.GA a ha).1,(cV.block Q HA.o.2.2.2.2.2.2.2.1.lt (fun q=>by have q':=q;rw [HA.o.2.2.2.2.2.2.2.2] at q';omega)).trans HA.o.2.2.2.2.2.2.2.1⟩
   have hss:∀ {α:Type} (f:Nat->α) (x y:α),lR (lR f a x) a y=lR f a y:=fun f x y=>by funext r;unfold lR;split<;>rfl
   rw [hss,hss] at fi
   have hin4:∀g,(Value.slice (some (qA b1 o1)) F.length cap).ownBlock=some g->g<U2.drew.heap.size:=fun g hg=>HA.o.1.H (by rw [HA.o.2.2.2.2.2.1 g hg];omega)
   have H6:Aside (n9 gd B w5 (mU ow' U2.drew w5 (20+a)) n bm pv fv bp br d (lR dv a dv5) (lR c a c') (lR K a R') (lR st a s2) N/\M1 w5 (.slice (some (qA b1 o1)) F.length cap) F/\(∀g,(Value.slice (some (qA b1 o1)) F.length cap).ownBlock=some g->mU ow' U2.drew w5 (20+a) g=4)/\Below B w w5):=⟨fi,np HA.o.2.2.2.2.1 (fun g hg=>cV.block g (hin4 g hg) (fun q=>by have q':=q;rw [HA.o.2.2.2.2.2.1 g hg] at q';omega)),fun g hg=>(ml (hin4 g hg)).trans (HA.o.2.2.2.2.2.1 g hg),HA.o.2.2.2.2.2.2.1.trans (HA.o.1.m8 cV (fun k e=>zj))⟩
   refine hK _ _ S5 ?_;refine qn ?_;refine an (i:=6) zk rfl (fun kQ hK=> ?_);go_simp;refine hK _ _ S5 ?_;refine wpAnyH_done zk ?_ _;refine qn ?_
   rcases HST.o.1 with ⟨rfl,hon,hso,hdi⟩ | ⟨rfl,hso,hdi⟩
   ·have HD:Aside (s0.2.1=false/\s2.2.1=false/\G8 s2 (D a++F.take (k+1))):=⟨hon,hso,by
     have e:F.take (k+1)=F.take k++ [x]:=by rw [b9.o,Zy,hx.o];rfl
     rw [e,<-Zo]
     exact hdi⟩
    rw [show eV ad 0= .nilIface from rfl];go_wp2;go_roundg (F.length - (k+1))
    case measure=>omega
    case rel=>exact ⟨k+1,s2,_,dv5,zN,zj,uL _,⟨H6.o.1,HD.o.2.2,by rw [HD.o.2.1,<-HD.o.1,HA.o.2.1],fun q=>(by rw [<-HA.o.2.1,HD.o.1] at q;cases q),fun f1 f2=>(HST.o.2 (by rw [HA.o.2.1];exact f1) (HA.o.2.2.2.1 f1 f2)).2,H6.o.2.1,fun _=>H6.o.2.2.1,H6.o.2.2.2⟩,by
     show oe (st a) F=oe s2 (F.drop (k+1))
     rw [AP.o,HDR.o,Qf hcs.o]⟩
   have HD:Aside (s2.2.1=true/\G8 s2 (D a++F.take k)):=⟨hso,hdi⟩
   rw [mO (show (11:Nat)≠0 by omega)];go_wp2;go_ret;refine ⟨_,lR K a R',lR D a (D a++F.take k),lR st a s2,rfl,⟨_,_,_,_,_,_,_,_,H6.o.1⟩,H6.o.2.2.2,HM.o.2.1.aaX ha HM.o.2.2.2.2 H2.o.2.2.2.1 H2.o.2.2.1 HF.o.1 HF.o.2.1 HF.o.2.2 HA.o.2.2.1 (fun q=>by rw [HD.o.1] at q;cases q) HD.o.2,⟨fun r hr=>lP _ _ hr,fun x hx=>by rw [lT];exact (H2.o.2.2.2.1 x).2 (.inl hx),fun x hx=>by rw [lT] at hx;exact (H2.o.2.2.2.1 x).1 hx,fun _ x hx=>vn⟩,fun _ f1 f2=> ?_,.inr ⟨fresh,R',F,HJ.o,rfl,H2.o.2.2.1,H2.o.2.2.2.1,HDF.o,by rw [AP.o,HDR.o,FM hcs.o zj,mO (show (11:Nat)≠0 by omega)];rfl,by rw [AP.o,HDR.o,FM hcs.o zj]⟩⟩;have:=(HST.o.2 (by rw [HA.o.2.1];exact f1) (HA.o.2.2.2.1 f1 f2)).1;omega
  have d1:qlt k F.length=false:=zm;obtain rfl:k=F.length:=zj;have HA:Aside (_):=A.o;go_wp2;go_ret;exact ⟨_,lR K a R',lR D a (D a++F.take F.length),lR st a s0,rfl,⟨_,_,_,_,_,_,_,_,HA.o.1⟩,HA.o.2.2.2.2.2.2.2,HM.o.2.1.aaX ha HM.o.2.2.2.2 H2.o.2.2.2.1 H2.o.2.2.1 HF.o.1 HF.o.2.1 HF.o.2.2 HA.o.2.2.2.1 (fun q=>⟨by rw [<-HA.o.2.2.1];exact q,uL _⟩) HA.o.2.1,⟨fun r hr=>lP _ _ hr,fun x hx=>by rw [lT];exact (H2.o.2.2.2.1 x).2 (.inl hx),fun x hx=>by rw [lT] at hx;exact (H2.o.2.2.2.1 x).1 hx,fun _ x hx=>vn⟩,fun _ _ _=>rfl,.inr ⟨fresh,R',F,HJ.o,rfl,H2.o.2.2.1,H2.o.2.2.2.1,HDF.o,by rw [AP.o,List.drop_length];rfl,by rw [AP.o,List.drop_length];rfl⟩⟩
def Rm(K K':qH)(st st':qD)(a:Nat):Prop:=(∃R',K'=lR K a R'/\u9 R'/\∀z,z∈lX R'↔z∈(mp (st a).1).1)/\st'=lR st a (wH (st a))
def WK(gd:Nat->Option Obj)(B n bm i:Nat)(G:qX)(K:qH)(D:Nat->List OpX)(st:qD)(N:qJ)(a:Nat)(w:qW)(e:Ending)(w':qW):Prop:=∃(K':qH) (st':qD),e= .returned .nilIface/\Aside (q8 gd B n bm K' st' N w'/\Below B w w'/\r9 n i G K' D st' N/\(∀r,r≠a->K' r=K r)/\Rm K K' st st' a)
theorem FJ{α}(f)(a)(x y:α):lR (lR f a x) a y=lR f a y:=by
 funext r;unfold lR;split<;>rfl
theorem Pm{gd}{B}{ad}{ow}{n bm}{pv fv}{bp br d}{dv}{c}{K}{st}{N}{i}{G}{D}(w)(a)(h:n9 gd B w ow n bm pv fv bp br d dv c K st N)(hI:r9 n i G K D st N)(hE:E6 B ad w)(ha:a<n)(hi:i<=155):
  qC 92 #[qP (bp a)] w (WK gd B n bm i G K D st N a w):=by
 have ha4:=uT ha h.W9;have p0:=(h.GA a ha).1.c0;obtain ⟨T,kv,bt,bx,bc,A,hM,-⟩:=(h.GP a ha).1.GP;have bJ:=Ww w (br a) T (a:Int) kv bt bx bc hM.cell;have hnew:=NY w (a:Int) zj zj
 have HM:Aside (n9 gd B w ow n bm pv fv bp br d dv c K st N/\r9 n i G K D st N/\E6 B ad w):=⟨h,hI,hE⟩
 go_enter func92,ntmps92;go_wp2_with fail;refine bJ.mono ?_;rintro e w1 ⟨rfl,rfl⟩;go_wp2_with fail;refine hnew.mono ?_;rintro e w2 ⟨c0,b0,rfl,hR0,hb2⟩;have bR:=HM.o.1.later hb2;have p2:=(bR.GA a ha).1;have p0:=p2.c0;have pf:=p2.fz 0;obtain ⟨cC,hk3⟩:=HM.o.1.adL ha hb2 hR0;obtain ⟨W,hW⟩:=ze (w2.setCell (qB (bp a)) (qP b0));rw [<-hW.o] at cC hk3
 obtain ⟨ow3,how3⟩:∃f,Aside (f=mU ow w1 w2 (10+a)):=⟨_,rfl⟩
 rw [<-how3.o] at cC;have hb3:=HM.o.1.m8 hk3 (fun k e=>zj);have hrec:=Ie W (cC.B6 a ha).1 (HM.o.2.2.mono hb3).j (fun k hk=>cC.low k (by rw [(cC.B6 a ha).2 k hk];omega)) (HM.o.2.1.ado ha zj);have kK:=(cC.GA a ha).1;rw [lT] at kK
 have H3:Aside (n9 gd B W ow3 n bm pv fv bp (lR br a b0) d dv (lR c a c0) (lR K a (fun _=>[])) st N/\Below B w1 W/\t8 W (bp a) b0 (d a)):=⟨cC,hb3,kK⟩
 have r1:=kK.c1;go_upto_region 5 with fail;rw [<-hW.o];go_wp2_with fail;refine hrec.mono ?_;rintro e w4 ⟨rv,rfl,H4⟩;obtain ⟨lD,jJ,hk4⟩:=H3.o.1.aaQ ha H4.o.1;have hbk:=(HM.o.2.1.B6 a ha).adn;have hrow:=H4.o.2.1;rw [hbk.1] at hrow;obtain ⟨ra,rc,hrv⟩:=mC hrow
 have dY:F1 w4 ra (D a):=by
  rw [hrv] at hrow
  rcases Cg hrow with ⟨_,q⟩ | ⟨b,o,cp,q1,q2⟩
  ·exact .inl q
  exact kj5
 obtain ⟨ow4,how4⟩:∃f,Aside (f=mU ow3 W w4 (20+a)):=⟨_,rfl⟩
 rw [<-how4.o] at jJ;have hb4:=H3.o.2.1.trans (H3.o.1.m8 hk4 (fun k e=>zj));have hr4:=(jJ.GP a ha).1;simp only [lT] at hr4;have hdw:=(HM.o.2.1.G5.U8 a ha).1;have iC:=WY w4 c0 b0 (a:Int) (fun _=>[]) ra rc (D a) (D a) hr4 (HM.o.2.2.mono hb4).t dY hdw (fun x hx=>by simp [lX] at hx) (fun x hx=>hx) (fun x hx=>.inr hx) (by have:=HM.o.2.1.abl ha;simp [lX];omega);have hp4:=(jJ.GA a ha).1;rw [lT] at hp4;have r0:=hp4.c0
 have H5:Aside (n9 gd B w4 ow4 n bm pv fv bp (lR br a b0) d (lR dv a lD) (lR c a c0) (lR K a (fun _=>[])) (lR st a (wH (st a))) N/\Below B w1 w4):=⟨jJ,hb4⟩
 subst hrv;go_wp2_with fail;refine iC.mono ?_;rintro e w5 ⟨m,c',R',rfl,hA,hR',hmem,hlen⟩;obtain ⟨fi,cV⟩:=H5.o.1.abb (a:=a) (c':=c') (R':=R') ha (by rw [lT];exact hA) (by rw [lT];exact hR');rw [FJ,FJ] at fi
 have H6:Aside (q8 gd B n bm (lR K a R') (lR st a (wH (st a))) N w5/\Below B w1 w5/\u9 R'/\∀x,x∈lX R'↔x∈D a):=⟨⟨_,_,_,_,_,_,_,_,fi⟩,H5.o.2.trans (H5.o.1.m8 cV (fun k e=>zj)),hR'.h,fun x=>by rw [hmem x];simp [lX]⟩
 go_wp2;go_ret;have hbk:=(HM.o.2.1.B6 a ha).adn;exact ⟨lR K a R',lR st a (wH (st a)),rfl,H6.o.1,H6.o.2.1,HM.o.2.1.acA ha H6.o.2.2.2 H6.o.2.2.1 hbk.2.1 hbk.2.2,fun r hr=>lP _ _ hr,⟨R',rfl,H6.o.2.2.1,fun z=>by rw [hbk.1];exact H6.o.2.2.2 z⟩,rfl⟩

end