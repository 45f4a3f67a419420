import Derived.Test.YtehighgebbdenaaGreatDoorRa46
set_option linter.unusedVariables false
set_option linter.unusedSimpArgs false
set_option maxRecDepth 100000
set_option maxHeartbeats 64000000
namespace Go.Proofs.YtehighgebbdenaaGreatDoor
open Go.Proofs.Tryz
section
open Go Go.RowKit Go.Lib Go.Sort Go.Maps
open scoped Classical
theorem Iw {B:Nat} {ad:Nat->Addr} (w:World) (by_:Int) (la:Option Addr) (lc:Nat) (l:List CI) (v0 v1 v2 v3 node:Int) (hE:EnvP B ad w) (hcy:Aside (Cyc ad)) (hin:InRow rt w la l) (hl:l.length<9223372036854775808) (hops:∀a∈l,OpsIn w a.2.2.1 a.2.2.2.2/\a.2.2.2.2.length<9223372036854775808) (hwf:∀a∈l,a.2.1.2.2.2.1<256/\(-9223372036854775808<=aL a.2.1/\aL a.2.1<=9223372036854775807)/\(-9223372036854775808<=aJ a.2.1/\aJ a.2.1<=9223372036854775807)) (hnode: -2^63<=node/\node<2^63):
  Calls prog 3 #[.int .i64 by_,.slice la l.length lc,.agg #[.int .i64 v0,.int .i64 v1,.int .i64 v2,.int .i64 v3],.int .i64 node] w fun e w'=>e= .returned (.bool true)/\Below w.heap.size w w':=by
 obtain ⟨P0,hP0⟩:=ze w.heap.size;obtain ⟨U,hU⟩:=ze (w.alloc (.cells #[.int .i64 v0,.int .i64 v1,.int .i64 v2,.int .i64 v3] 23));have hbU:Below w.heap.size w U:=yS
 have hPU:U.heap[P0]? =some (.cells #[.int .i64 v0,.int .i64 v1,.int .i64 v2,.int .i64 v3] 23 (0,0)):=by rw [hU.o,hP0.o];exact heap_alloc_new w _
 have hbg:=EY U (hE.later hbU).t
 have H0:Aside (EnvP B ad w/\InRow rt w la l/\(∀a∈l,OpsIn w a.2.2.1 a.2.2.2.2/\a.2.2.2.2.length<9223372036854775808)/\(∀a∈l,a.2.1.2.2.2.1<256/\(-9223372036854775808<=aL a.2.1/\aL a.2.1<=9223372036854775807)/\(-9223372036854775808<=aJ a.2.1/\aJ a.2.1<=9223372036854775807))):=⟨hE,hin,hops,hwf⟩
 have HU0:Aside (Below w.heap.size w U/\U.heap[P0]? =some (.cells #[.int .i64 v0,.int .i64 v1,.int .i64 v2,.int .i64 v3] 23 (0,0))):=⟨hbU,hPU⟩
 clear hE hin hops hwf hbU hPU;go_enter func3,ntmps3;go_upto_region 1 with fail;rw [<-hU.o,<-hP0.o];go_wp2_with fail;refine hbg.mono ?_;clear hbg;rintro e w1 ⟨rfl,hb1⟩
 have HB1:Aside (Below w.heap.size w w1/\w1.heap[P0]? =some (.cells #[.int .i64 v0,.int .i64 v1,.int .i64 v2,.int .i64 v3] 23 (0,0))):=⟨zj HU0.o.1 hb1,(hb1.block P0 (vO.1 HU0.o.2).1).trans HU0.o.2⟩
 clear hb1;by_cases hl30:30<l.length
 ·have d1:decide ((30:Int)<(l.length:Int))=true:=by simp;omega
  have d1n:decide (30<l.length)=true:=zr;go_wp2;go_ret;exact ⟨rfl,HB1.o.1⟩
 have d1:decide ((30:Int)<(l.length:Int))=false:=zr;have d1n:decide (30<l.length)=false:=zr;by_cases hby:0<=by_/\by_<4
 case neg=>
  have hno:=JJ by_ w1 _ _ (H0.o.1.later HB1.o.1).e.c1 zo;go_wp2_with fail;refine hno.mono ?_;clear hno;rintro e w2 ⟨rfl,hb2⟩;have HB2:Aside (Below w.heap.size w w2):=zj HB1.o.1 hb2;have hcd:=nJ w2 (H0.o.1.later HB2.o).e 1 zo 2;have e2:(dY 1==2)=true:=zu;rw [e2] at hcd;clear hb2;by_cases hlo:by_<0
  ·have d2:decide (by_<0)=true:=decide_eq_true hlo;exact kh4
  have d2:decide (by_<0)=false:=decide_eq_false hlo;have d3:decide ((4:Int)<=by_)=true:=decide_eq_true zo;exact kh4
 obtain ⟨i,rfl⟩:∃i:Nat,by_=(i:Int):=⟨by_.toNat,zo⟩
 have hi4:i<4:=zo;have d2:decide ((i:Int)<0)=false:=zv;have d3:decide ((4:Int)<=(i:Int))=false:=zr;have d3n:decide (4<=i)=false:=zr;clear hby;have hnew:=DG w1 (i:Int) zo zo;go_wp2_with fail;refine hnew.mono ?_;clear hnew;rintro e w2 ⟨c0_,br,rfl,hRep,hb2⟩;obtain ⟨m,hm⟩:=ze w2.heap.size;obtain ⟨V,hV⟩:=ze (w2.alloc (.cells #[.int .i64 (i:Int),.slice none 0 0] 34));obtain ⟨B1,hB1⟩:=ze w1.heap.size
 have HST:Aside (RaSt B1 w1 br m i 0 0 (fun _=>[]) [] V):=by
  have hbV:Below w2.heap.size w2 V:=by rw [hV.o];exact zh w2 _
  have hcell:V.heap[m]? =some (.cells #[.int .i64 (i:Int),.slice none 0 0] 34 (0,0)):=by rw [hV.o,hm.o];exact heap_alloc_new w2 _
  refine ⟨⟨⟨c0_,none,0,?_,⟨hcell,.inl rfl⟩,.inl ⟨rfl,rfl⟩,?_,fun q=>absurd rfl q,fun k hk=>jb⟩,?_,?_,fun k hk=>jb,?_⟩,FM,rfl,vV _⟩
  ·rw [hB1.o];exact hRep.later hbV
  ·rw [hm.o];exact hRep.high _ zg
  ·rw [hB1.o];exact zj hb2 hbV
  ·rw [hB1.o];exact vM _
  rw [hB1.o,hm.o];exact hb2.size
 have HE2:Aside (EnvP B1 ad w1):=(H0.o.1.later HB1.o.1).up (by rw [hB1.o];exact uf H0.o.1.e.size HB1.o.1.size) (by rw [hB1.o];exact vM _)
 have HIN:Aside (∀W,Below B1 w1 W->InRow rt W la l/\(∀a∈l,OpsIn W a.2.2.1 a.2.2.2.2)/\Below w.heap.size w W/\(W.cell? ⟨P0,0,none⟩=some (.int .i64 v0)/\W.cell? ⟨P0,1,none⟩=some (.int .i64 v1)/\W.cell? ⟨P0,2,none⟩=some (.int .i64 v2)/\W.cell? ⟨P0,3,none⟩=some (.int .i64 v3))):=by
  intro W hW;rw [hB1.o] at hW;have hwW:Below w.heap.size w W:=zj HB1.o.1 hW;have hp:=(hW.block P0 (vO.1 HB1.o.2).1).trans HB1.o.2;refine ⟨H0.o.2.1.later hwW,fun a ha=>(H0.o.2.2.1 a ha).1.later hwW,hwW,?_,?_,?_,?_⟩<;>simp [World.cell?,hp]
 clear hRep hb2;go_upto_region 10 with fail;rw [<-hV.o,<-hm.o];go_wp2;go_loopg [13,14] l.length (fun kx s13 s14 wr=>∃(j tot:Nat) (R:Rws) (S:List OpX),s13= .int .i64 (tot:Int)/\s14= .int .i64 (j:Int)/\j<=l.length/\l.length - j<=kx/\Aside (RaSt B1 w1 br m i j tot R S wr))
 case atStart=>exact ⟨0,0,_,_,rfl,rfl,vV _,vM _,HST.o⟩
 case round=>
  clear HST hV hm;obtain ⟨j,tot,R,S,rfl,rfl,hj,hjx,A⟩:=hrel;obtain ⟨u,hu⟩:=zc wr;subst hu;have HRK:Aside (RowsK R):=A.o.pr.rows
  have hSl:S.length<=90:=by have:=A.o.len;have:=A.o.most;omega
  have htl:tot<=90:=by have:=A.o.most;omega
  have hRl:(aR R).length<=90:=by have:=A.o.same.perm.length_eq;omega
  by_cases hlt:j<l.length
  ·have d4:decide ((j:Int)<(l.length:Int))=true:=by simp;omega
   have d4n:decide (j<l.length)=true:=zr
   obtain ⟨a,hx⟩:∃a,Aside (l[j]? =some a):=⟨l[j],vN hlt⟩
   have HAM:Aside (a∈l):=vQ hx.o;obtain ⟨b1,o1,e1,E1⟩:=((HIN.o u A.o.pr.below).1).get mC hx.o;obtain ⟨jn,⟨xt,xb,xn,xk,xd,xo,xs,xv⟩,oa,oc,ol⟩:=a;subst e1;have wi:((j:Int)).toNat=j:=zo;have pi:(0:Int)<=(j:Int):=zo;have bi:(j:Int)<(l.length:Int):=zo;have q0:=E1 0 _ rfl;have q1:=E1 1 _ rfl;have q2:=E1 2 _ rfl;have q3:=E1 3 _ rfl;have q4:=E1 4 _ rfl;have q5:=E1 5 _ rfl;have q6:=E1 6 _ rfl;have q7:=E1 7 _ rfl;have q8:=E1 8 _ rfl;have q9:=E1 9 _ rfl;simp only [Zg] at q0;dsimp only at q0 q1 q2 q3 q4 q5 q6 q7 q8 q9;clear E1;obtain ⟨A0,hA0⟩:=ze u.heap.size;obtain ⟨U1,hU1⟩:=ze (u.alloc (.cells #[.bool jn,.int .i64 xt,.int .i64 xb,.int .i64 xn,.int .u8 (xk:Int),.int .i64 xd,.int .i64 xo,.string xs,.string xv,.slice oa ol.length oc] 40));obtain ⟨C1,hC1⟩:=ze U1.heap.size;obtain ⟨U2,hU2⟩:=ze (U1.alloc (.cells #[.int .i64 xt,.int .i64 xb,.int .i64 xn,.int .u8 (xk:Int),.int .i64 xd,.int .i64 xo,.string xs,.string xv] 38))
   have hbU1:Below u.heap.size u U1:=by rw [hU1.o];exact zh u _
   have hA1:ABlk U1 A0 (jn,(xt,xb,xn,xk,xd,xo,xs,xv),(oa,oc,ol)):=by rw [hU1.o,hA0.o];exact heap_alloc_new u _
   have hbU2:Below U1.heap.size U1 U2:=by rw [hU2.o];exact zh U1 _
   have hO2:OpBlk U2 C1 (xt,xb,xn,xk,xd,xo,xs,xv):=by rw [hU2.o,hC1.o];exact OpBlk.new U1 (xt,xb,xn,xk,xd,xo,xs,xv)
   have HU2:Aside (Pr B1 w1 br m i R S [A0] U2/\ABlk U2 A0 (jn,(xt,xb,xn,xk,xd,xo,xs,xv),(oa,oc,ol))/\OpBlk U2 C1 (xt,xb,xn,xk,xd,xo,xs,xv)):=by
    refine ⟨(A.o.pr.guard hbU1 (by rw [hA0.o];exact vM _) hA1.lt).later hbU2,hA1.later hbU2,hO2⟩
   obtain ⟨y1,y2,y3,y4,y5,y6,y7,y8⟩:=hA1.op;dsimp only at y1 y2 y3 y4 y5 y6 y7 y8;clear hbU1 hA1 hbU2 hO2;go_upto_region 15 with fail;rw [<-hU1.o,<-hA0.o];clear q0 q1 q2 q3 q4 q5 q6 q7 q8 q9;go_upto_region 16 with fail;rw [<-hU2.o,<-hC1.o];clear y1 y2 y3 y4 y5 y6 y7 y8 hU1 hU2 hA0 hC1;have holl:ol.length<9223372036854775808:=(H0.o.2.2.1 _ HAM.o).2
   have HS16:Aside (∀W,Below U2.heap.size U2 W->(fun w':World=>ABlk w' A0 (jn,(xt,xb,xn,xk,xd,xo,xs,xv),(oa,oc,ol))/\OpsIn w' (some ⟨C1,0,none⟩) [(xt,xb,xn,xk,xd,xo,xs,xv)]/\OpsIn w' oa ol) W):=by
    intro W hW;have hpr:=HU2.o.1.later hW;exact ⟨HU2.o.2.1.later hW,oF (HU2.o.2.2.later hW),(HIN.o W hpr.below).2.1 _ HAM.o⟩
   go_cut [83] (fun s83 wx=>∃z:Bool,s83= .bool z/\Aside ((z=false->lq (xt,xb,xn,xk,xd,xo,xs,xv)/\ol.length<=20/\∀x∈ol,lq x)/\Below U2.heap.size U2 wx))
   case first=>
    refine aO (S:=(fun w'=>ABlk w' A0 (jn,(xt,xb,xn,xk,xd,xo,xs,xv),(oa,oc,ol))/\OpsIn w' (some ⟨C1,0,none⟩) [(xt,xb,xn,xk,xd,xo,xs,xv)]/\OpsIn w' oa ol)) zq (HS16.o U2.drew ((vP _ U2).drew)) (fun hHeld=> ?_);refine tk 0 hHeld ?_;refine tk 2 hHeld ?_;refine tk 3 hHeld ?_ (hy:=Or.inl ⟨zA,by intro w' hSw;obtain ⟨y0,y9⟩:=ABlk.ends hSw.1;dsimp only at y0 y9;clear hSw;go_simp;try with_reducible rfl⟩);refine aY (i:=1) zq rfl (fun K hK=> ?_);go_simp;refine (IC 1 U2.drew (some ⟨C1,0,none⟩) 1 [(xt,xb,xn,xk,xd,xo,xs,xv)] hHeld.2.1 zv).mono ?_;rintro e w5 ⟨h5,rfl⟩
    rcases h5 with rfl | ⟨rfl,hl1,hs1⟩
    ·refine hK _ _ hHeld ?_;clear hK K;refine qn ?_;refine aY (i:=4) zq rfl (fun K hK=> ?_);go_simp;refine (IC 20 U2.drew oa oc ol hHeld.2.2 zo).mono ?_;rintro e w5 ⟨h5,rfl⟩
     rcases h5 with rfl | ⟨rfl,hl4,hs4⟩
     ·exact kc5
     exact kc5
    refine hK _ _ hHeld ?_;clear hK K;refine qn ?_;refine aY (i:=4) zq rfl (fun K hK=> ?_);go_simp;refine (IC 20 U2.drew oa oc ol hHeld.2.2 zo).mono ?_;rintro e w5 ⟨h5,rfl⟩
    rcases h5 with rfl | ⟨rfl,hl4,hs4⟩
    ·exact kc5
    refine hK _ _ hHeld ?_;clear hK K;refine qn ?_;refine tk 5 hHeld ?_;refine tk 6 hHeld ?_;refine wpAnyH_done zq ?_ _;refine qn ?_;go_wp2;go_meet;exact ⟨false,rfl,⟨fun _=>⟨KT hs1 0 zv,hl4,fun x hx=>At hs4 x hx⟩,(vP _ U2).drew⟩⟩
   obtain ⟨z,rfl,HZ⟩:=hcut;obtain ⟨U3,hU3⟩:=zc wc;subst hU3
   have HU3:Aside (Pr B1 w1 br m i R S [A0] U3/\ABlk U3 A0 (jn,(xt,xb,xn,xk,xd,xo,xs,xv),(oa,oc,ol))):=⟨HU2.o.1.later HZ.o.2,HU2.o.2.1.later HZ.o.2⟩
   clear HU2 HS16
   cases z with
   | true=>
    go_wp2;go_ret;exact ⟨rfl,(HIN.o _ HU3.o.1.below).2.2.1⟩
   | false=>
    obtain ⟨hsx,hol,hso⟩:=HZ.o.1 rfl
    have HSH:Aside (lq (xt,xb,xn,xk,xd,xo,xs,xv)/\∀x∈ol,lq x):=⟨hsx,hso⟩
    clear HZ hsx hso;obtain ⟨y0,y9⟩:=HU3.o.2.ends;dsimp only at y0 y9
    cases jn with
    | true=>
     have hsz:Aside (oL ol):=fun x hx=>⟨by have:=(HSH.o.2 x hx).1;omega,by have:=(HSH.o.2 x hx).2;omega⟩
     have hown:=CB U3 oa oc ol ((HIN.o U3 HU3.o.1.below).2.1 _ HAM.o) zo;go_wp2_with fail;refine hown.mono ?_;clear hown;rintro e W1 ⟨vo,rfl,hv1,hb1⟩;obtain ⟨la1,lc1,rfl,hin1⟩:=Ff hv1
     have HW1:Aside (Pr B1 w1 br m i R S [A0] W1/\ABlk W1 A0 (true,(xt,xb,xn,xk,xd,xo,xs,xv),(oa,oc,ol))/\OpsIn W1 la1 ol):=⟨HU3.o.1.later hb1,HU3.o.2.later hb1,hin1⟩
     clear hb1 hin1 hv1 HU3 y0 y9;have hj:=EB HW1.o.1 HE2.o.t la1 lc1 ol HW1.o.2.2 hsz.o zo;go_wp2_with fail;refine hj.mono ?_;clear hj;rintro e W2 ⟨a,hja,hkp,hm2⟩;have hA2:ABlk W2 A0 (true,(xt,xb,xn,xk,xd,xo,xs,xv),(oa,oc,ol)):=(hkp A0 zv).trans HW1.o.2.1
     cases a with
     | inl p=>
      obtain ⟨ix,cd⟩:=p;dsimp only at hm2;obtain ⟨hpr2,ve,rfl,hve⟩:=hm2
      have HW2:Aside (Pr B1 w1 br m i R S [A0] W2/\rX ad W2 ve ix cd/\aB (aR R) ol (.inl (ix,cd))):=⟨hpr2,hve,hja⟩
      obtain ⟨y0,y9⟩:=hA2.ends;dsimp only at y0 y9;clear hA2 hkp hpr2 hve hja HW1;have hmj:=oK HW2.o.1 oa oc ol ((HIN.o W2 HW2.o.1.below).2.1 _ HAM.o) hsz.o (A.o.same.well HRK.o) zo zo;go_wp2_with fail;refine hmj.mono ?_;clear hmj y0 y9;rintro e W3 ⟨a',hja',hk3,hm3⟩;obtain rfl:a'= .inl (ix,cd):=(A.o.same.join HRK.o HW2.o.2.2 hja').symm;dsimp only at hm3;obtain ⟨hpr3,rfl⟩:=hm3;obtain ⟨X,hX⟩:=ze (W3.alloc (.cells #[.int .i64 (cd:Int),.int .i64 ix] 46));obtain ⟨FB,hFB⟩:=ze W3.heap.size
      have hbX:Below W3.heap.size W3 X:=by rw [hX.o];exact zh W3 _
      have hfX:X.heap[FB]? =some (.cells #[.int .i64 (cd:Int),.int .i64 ix] 46 (0,0)):=jB
      have hv3:rX ad X ve ix cd:=by
       obtain ⟨_,_,_,_,hM,_⟩:=HW2.o.1.ex;exact sS (CW HW2.o.2.1 hk3 hM.cell zu) hbX
      have HX:Aside (Pr B1 w1 br m i R S [A0] X):=hpr3.later hbX;have z0:X.cell? ⟨FB,0,none⟩=some (.int .i64 (cd:Int)):=qr;have z1:X.cell? ⟨FB,1,none⟩=some (.int .i64 ix):=qr;have hcd:=tI HW2.o.2.2;have hfl:=BH X ve ix cd (HE2.o.mono HX.o.below).e hcd.1 hcd.2.1 hv3;clear hbX hfX hv3 hpr3 hk3 hja' HW2 hcd;go_upto_region 21 with fail;rw [<-hX.o,<-hFB.o];go_wp2_with fail;refine hfl.mono ?_;clear hfl z0 z1;rintro e W4 ⟨rfl,HB4⟩;have HW4:Aside (Pr B1 w1 br m i R S [A0] W4):=HX.o.later HB4.o;clear HB4 HX hX hFB;by_cases h60:60<tot
      ·have d5:decide ((60:Int)<(tot:Int))=true:=by simp;omega
       have d5n:decide (60<tot)=true:=zr;have hwt:wrap64 (tot:Int)=(tot:Int):=om zo;have hwt2:IntKind.i64.wrap (tot:Int)=(tot:Int):=yr;exact kq3
      have d5:decide ((60:Int)<(tot:Int))=false:=zr;have d5n:decide (60<tot)=false:=zr;have hwt:wrap64 (tot:Int)=(tot:Int):=om zo;have hwt2:IntKind.i64.wrap (tot:Int)=(tot:Int):=yr;have hwj:wrap64 ((j:Int)+1)=(j:Int)+1:=yl;have hwj2:IntKind.i64.wrap ((j:Int)+1)=(j:Int)+1:=qQ;go_wp2;go_roundg (l.length - (j+1))
      case measure=>(clear hwt hwt2 hwj hwj2;omega)
      case rel=>
       clear hwt hwt2 hwj hwj2;exact ⟨j+1,tot,R,S,zD,zD,zo,vM _,A.o.stay HW4.o⟩
     | inr fresh=>
      dsimp only at hm2;obtain ⟨rfl,R',hpr2,hmem⟩:=hm2
      have HW2:Aside (Pr B1 w1 br m i R' S [A0] W2/\aB (aR R) ol (.inr fresh)/\∀x,x∈aR R'↔x∈aR R++fresh):=⟨hpr2,hja,hmem⟩
      obtain ⟨y0,y9⟩:=hA2.ends;dsimp only at y0 y9;clear hA2 hkp hpr2 hmem hja HW1;have hmj:=oK HW2.o.1 oa oc ol ((HIN.o W2 HW2.o.1.below).2.1 _ HAM.o) hsz.o (A.o.same.well HRK.o) zo zo;go_wp2_with fail;refine hmj.mono ?_;clear hmj y0 y9;rintro e W3 ⟨a',hja',hk3,hm3⟩;obtain rfl:a'= .inr fresh:=(A.o.same.join HRK.o HW2.o.2.1 hja').symm;dsimp only at hm3;obtain ⟨rfl,S',hpr3,hpS,hsS⟩:=hm3;have hfr:=kK hja';have HN:Aside (SameO R' S'/\S'.length=S.length+fresh.length):=A.o.same.next hpr3.rows hfr.1 hfr.2 HW2.o.2.2 hpS hsS
      have hfl2:fresh.length<=400:=by
       have:=Ac hja';omega
      obtain ⟨X,hX⟩:=ze (W3.alloc (.cells #[.int .i64 0,.int .i64 (-1)] 46));obtain ⟨FB,hFB⟩:=ze W3.heap.size
      have hbX:Below W3.heap.size W3 X:=by rw [hX.o];exact zh W3 _
      have hfX:X.heap[FB]? =some (.cells #[.int .i64 0,.int .i64 (-1)] 46 (0,0)):=jB;have HX:Aside (Pr B1 w1 br m i R' S' [A0] X):=hpr3.later hbX;have z0:X.cell? ⟨FB,0,none⟩=some (.int .i64 0):=qr;have z1:X.cell? ⟨FB,1,none⟩=some (.int .i64 (-1)):=qr;have hfl:=rE X;clear hbX hfX hpr3 hk3 hja' HW2 hpS hsS hfr;go_upto_region 21 with fail;rw [<-hX.o,<-hFB.o];go_wp2_with fail;refine hfl.mono ?_;clear hfl z0 z1;rintro e W4 ⟨rfl,HB4⟩;have HW4:Aside (Pr B1 w1 br m i R' S' [A0] W4):=HX.o.later HB4.o;clear HB4 HX hX hFB;by_cases h60:60<tot+fresh.length
      ·have d5:decide ((60:Int)<(tot:Int)+(fresh.length:Int))=true:=by simp;omega
       have hwt:wrap64 ((tot:Int)+(fresh.length:Int))=(tot:Int)+(fresh.length:Int):=yl;have hwt2:IntKind.i64.wrap ((tot:Int)+(fresh.length:Int))=(tot:Int)+(fresh.length:Int):=yr;exact kq3
      have d5:decide ((60:Int)<(tot:Int)+(fresh.length:Int))=false:=zr;have hwt:wrap64 ((tot:Int)+(fresh.length:Int))=(tot:Int)+(fresh.length:Int):=yl;have hwt2:IntKind.i64.wrap ((tot:Int)+(fresh.length:Int))=(tot:Int)+(fresh.length:Int):=yr;have hwj:wrap64 ((j:Int)+1)=(j:Int)+1:=yl;have hwj2:IntKind.i64.wrap ((j:Int)+1)=(j:Int)+1:=qQ;go_wp2;go_roundg (l.length - (j+1))
      case measure=>(clear hwt hwt2 hwj hwj2;omega)
      case rel=>
       clear hwt hwt2 hwj hwj2;exact ⟨j+1,tot+fresh.length,R',S',zD,zD,zo,vM _,HW4.o.less (fun k hk=>jb),HN.o.1,by rw [HN.o.2,A.o.len],zo⟩
    | false=>
     obtain ⟨y1,y2,y3,y4,y5,y6,y7,y8⟩:=HU3.o.2.op;dsimp only at y1 y2 y3 y4 y5 y6 y7 y8;obtain ⟨C2,hC2⟩:=ze U3.heap.size;obtain ⟨V,hV⟩:=ze (U3.alloc (.cells #[.int .i64 xt,.int .i64 xb,.int .i64 xn,.int .u8 (xk:Int),.int .i64 xd,.int .i64 xo,.string xs,.string xv] 38))
     have hbV:Below U3.heap.size U3 V:=by rw [hV.o];exact zh U3 _
     have hOV:OpBlk V C2 (xt,xb,xn,xk,xd,xo,xs,xv):=by rw [hV.o,hC2.o];exact OpBlk.new U3 (xt,xb,xn,xk,xd,xo,xs,xv)
     have HV0:Aside (Below U3.heap.size U3 V/\OpBlk V C2 (xt,xb,xn,xk,xd,xo,xs,xv)/\U3.heap.size<=C2):=⟨hbV,hOV,by rw [hC2.o];exact vM _⟩
     go_upto_region 27 with fail;rw [<-hV.o,<-hC2.o];obtain ⟨j0,j1,j2,j3,j4,j5,j6,j7,jf⟩:=hOV.cells;have jf3:=jf 3;dsimp only at j0 j1 j2 j3 j4 j5 j6 j7;clear y0 y9 y1 y2 y3 y4 y5 y6 y7 y8 hbV hOV hV hC2;go_cut [129] (fun s129 wx=>∃z:Bool,s129= .bool z/\Aside ((z=true->KdN xk=115)/\(z=false->KdN xk=xk))/\wx=V)
     case first=>
      by_cases k1:xk=109
      ·have e1:((xk:Int)==109)=true:=by simp;omega
       have e1n:(xk==109)=true:=zr;have e1b:((xk:Int) !=109)=false:=zr;have e1m:(xk !=109)=false:=zr;go_wp2;go_meet;exact ⟨false,rfl,⟨(fun q=>absurd q zu),(fun _=>if_pos (.inl k1))⟩,rfl⟩
      have e1:((xk:Int)==109)=false:=zr;have e1n:(xk==109)=false:=zr;have e1b:((xk:Int) !=109)=true:=zr;have e1m:(xk !=109)=true:=zr;by_cases k2:xk=105
      ·have e2:((xk:Int)==105)=true:=by simp;omega
       have e2n:(xk==105)=true:=zr;have e2b:((xk:Int) !=105)=false:=zr;have e2m:(xk !=105)=false:=zr;go_wp2;go_meet;exact ⟨false,rfl,⟨(fun q=>absurd q zu),(fun _=>if_pos (.inr (.inl k2)))⟩,rfl⟩
      have e2:((xk:Int)==105)=false:=zr;have e2n:(xk==105)=false:=zr;have e2b:((xk:Int) !=105)=true:=zr;have e2m:(xk !=105)=true:=zr;by_cases k3:xk=100
      ·have e3:((xk:Int)==100)=true:=by simp;omega
       have e3n:(xk==100)=true:=zr;have e3b:((xk:Int) !=100)=false:=zr;have e3m:(xk !=100)=false:=zr;go_wp2;go_meet;exact ⟨false,rfl,⟨(fun q=>absurd q zu),(fun _=>if_pos (.inr (.inr k3)))⟩,rfl⟩
      have e3:((xk:Int)==100)=false:=zr;have e3n:(xk==100)=false:=zr;have e3b:((xk:Int) !=100)=true:=zr;have e3m:(xk !=100)=true:=zr;go_wp2;go_meet;exact ⟨true,rfl,⟨(fun _=>if_neg (fun q=>zo)),(fun q=>absurd q zu)⟩,rfl⟩
     obtain ⟨z,rfl,HZ2,hwc⟩:=hcut;obtain rfl:=hwc;go_upto_if 129 with fail;go_cut [21] (fun s21 wx=>s21= .pointer (some ⟨C2,0,none⟩)/\Aside (Below U3.heap.size U3 wx/\OpBlk wx C2 (xt,xb,xn,KdN xk,xd,xo,xs,xv)))
     case first=>
      cases z with
      | true=>
       have hkd:=HZ2.o.1 rfl;go_wp2;go_meet;refine ⟨rfl,⟨HV0.o.1.setCell HV0.o.2.2 _,?_⟩⟩;rw [hkd];exact heap_setCell_same _ C2 3 _ _ (.int .u8 (115:Nat)) HV0.o.2.1
      | false=>
       have hkd:=HZ2.o.2 rfl;go_wp2;go_meet;exact ⟨rfl,⟨HV0.o.1,by rw [hkd];exact HV0.o.2.1⟩⟩
     obtain ⟨rfl,HC⟩:=hcut;obtain ⟨V2,hV2⟩:=zc wc;subst hV2;clear HZ2 HV0 jf jf3 j0 j1 j2 j3 j4 j5 j6 j7
     have HV2:Aside (Pr B1 w1 br m i R S [A0] V2/\OpBlk V2 C2 (xt,xb,xn,KdN xk,xd,xo,xs,xv)):=⟨HU3.o.1.later HC.o.1,HC.o.2⟩
     clear HC HU3
     have HWF:Aside (KdN xk<256/\(-9223372036854775808<=xd/\xd<=9223372036854775807)/\(-9223372036854775808<=xo/\xo<=9223372036854775807)):=⟨by rcases IR xk with q | q | q | q<;>rw [q]<;>omega,(H0.o.2.2.2 _ HAM.o).2⟩
     obtain ⟨T,HTT⟩:∃T,Aside (du (aR R) T/\0<=T/\T<=1073741824):=by
      obtain ⟨c,ao,cap,h1,-⟩:=A.o.pr.ex;obtain ⟨T,kv,bt,bx,bc,AA,hMid,hPm,hTm⟩:=h1.rep.time;exact ⟨T,hTm,Cr HRK.o.well.ok hTm⟩
     have hmk:Calls prog 14 #[.pointer (some ⟨br,0,none⟩),aD (xt,xb,xn,KdN xk,xd,xo,xs,xv)] V2 (MkOut ad V2 (fun y cd=>MkIs (aR R) T i (R i).length (xt,xb,xn,KdN xk,xd,xo,xs,xv) (y,cd))):=by
      obtain ⟨c,ao,cap,h1,-⟩:=HV2.o.1.ex;exact Hr V2 c br i R (xt,xb,xn,KdN xk,xd,xo,xs,xv) h1 (HE2.o.t.mono HV2.o.1.below) hcy hi4 T HTT.o.1 HTT.o.2.2 zo xc xf HWF.o.1 HWF.o.2.1 HWF.o.2.2
     unfold aD at hmk;dsimp only at hmk;obtain ⟨j0,j1,j2,j3,j4,j5,j6,j7,-⟩:=HV2.o.2.cells;dsimp only at j0 j1 j2 j3 j4 j5 j6 j7;go_wp2_with fail;refine hmk.mono ?_;clear hmk j0 j1 j2 j3 j4 j5 j6 j7;rintro e W1 ⟨⟨yt,yb,yn,yk,yd,yo,ys,yv⟩,cd,rfl,HB1'⟩;unfold aD;dsimp only;obtain ⟨D1,hD1⟩:=ze W1.heap.size;obtain ⟨X1,hX1⟩:=ze (W1.alloc (.cells #[.int .i64 yt,.int .i64 yb,.int .i64 yn,.int .u8 (yk:Int),.int .i64 yd,.int .i64 yo,.string ys,.string yv] 38))
     have hbX1:Below W1.heap.size W1 X1:=by rw [hX1.o];exact zh W1 _
     have HX1:Aside (Pr B1 w1 br m i R S [A0] X1/\OpBlk X1 C2 (xt,xb,xn,KdN xk,xd,xo,xs,xv)/\OpBlk X1 D1 (yt,yb,yn,yk,yd,yo,ys,yv)/\MkIs (aR R) T i (R i).length (xt,xb,xn,KdN xk,xd,xo,xs,xv) ((yt,yb,yn,yk,yd,yo,ys,yv),cd)):=⟨(HV2.o.1.later HB1'.o.1).later hbX1,(HV2.o.2.later HB1'.o.1).later hbX1,by rw [hX1.o,hD1.o];exact OpBlk.new W1 (yt,yb,yn,yk,yd,yo,ys,yv),HB1'.o.2⟩
     clear hbX1 HB1' HV2;go_upto_region 30 with fail;rw [<-hX1.o,<-hD1.o];clear hX1 hD1
     have hmm:Calls prog 15 #[.pointer (some ⟨m,0,none⟩),aD (xt,xb,xn,KdN xk,xd,xo,xs,xv)] X1 fun e w'=>e= .returned (.tuple #[aD (yt,yb,yn,yk,yd,yo,ys,yv),.int .i64 (cd:Int)])/\Aside (Below X1.heap.size X1 w'):=by
      obtain ⟨c,ao,cap,h1,h2,h3,-⟩:=HX1.o.1.ex;refine (Cg X1 (xt,xb,xn,KdN xk,xd,xo,xs,xv) T h2 h3 (A.o.same.well HRK.o) A.o.same.sort hi4 (rz A.o.same HRK.o HTT.o.1) HTT.o.2.1 zo xc xf (IR xk) HWF.o.2.2.2).mono ?_;rintro e w' ⟨aa,rfl,hbw,hmi⟩;rw [mX A.o.same HRK.o hi4] at hmi;obtain rfl:aa=((yt,yb,yn,yk,yd,yo,ys,yv),cd):=hmi.one (HX1.o.2.2.2.perm A.o.same.perm.symm);exact ⟨rfl,hbw⟩
     unfold aD at hmm;dsimp only at hmm;obtain ⟨j0,j1,j2,j3,j4,j5,j6,j7,-⟩:=HX1.o.2.1.cells;dsimp only at j0 j1 j2 j3 j4 j5 j6 j7;go_wp2_with fail;refine hmm.mono ?_;clear hmm j0 j1 j2 j3 j4 j5 j6 j7;rintro e W2 ⟨rfl,HB2⟩;obtain ⟨D2,hD2⟩:=ze W2.heap.size;obtain ⟨X2,hX2⟩:=ze (W2.alloc (.cells #[.int .i64 yt,.int .i64 yb,.int .i64 yn,.int .u8 (yk:Int),.int .i64 yd,.int .i64 yo,.string ys,.string yv] 38))
     have hbX2:Below W2.heap.size W2 X2:=by rw [hX2.o];exact zh W2 _
     have hO2:OpBlk X2 D2 (yt,yb,yn,yk,yd,yo,ys,yv):=by rw [hX2.o,hD2.o];exact OpBlk.new W2 (yt,yb,yn,yk,yd,yo,ys,yv)
     have HX2:Aside (Pr B1 w1 br m i R S [D2] X2/\OpBlk X2 D1 (yt,yb,yn,yk,yd,yo,ys,yv)/\OpBlk X2 D2 (yt,yb,yn,yk,yd,yo,ys,yv)):=⟨((HX1.o.1.later HB2.o).guard hbX2 (by rw [hD2.o];exact vM _) hO2.lt).less (fun k hk=>by simp at hk;simp [hk]),(HX1.o.2.2.1.later HB2.o).later hbX2,hO2⟩
     have HMK:Aside (MkIs (aR R) T i (R i).length (xt,xb,xn,KdN xk,xd,xo,xs,xv) ((yt,yb,yn,yk,yd,yo,ys,yv),cd)):=HX1.o.2.2.2;clear hbX2 hO2 HB2 HX1;go_upto_region 31 with fail;rw [<-hX2.o,<-hD2.o];clear hX2 hD2;have hc12:cd<=12:=Ji HMK.o
     have hcd:Calls prog 8 #[eV ad cd,.int .i64 (cd:Int)] X2 fun e w'=>e= .returned (.bool true)/\Aside (Below X2.heap.size X2 w'):=by
      by_cases h0:cd=0
      ·rw [h0];refine (Cl 0 X2).mono ?_;exact kk5
      obtain ⟨k,hk⟩:∃k,cd=k+1:=⟨cd - 1,zo⟩
      have hk12:k<12:=zo
      have ec:dY k=(cd:Int):=by rw [hk];unfold dY;split<;>omega
      have ev:eV ad cd= .iface 399 (.pointer (some (ad k))):=by rw [hk];rfl
      rw [ev];refine (nJ X2 (HE2.o.mono HX2.o.1.below).e k hk12 (cd:Int)).mono ?_;rintro e w' ⟨rfl,hb⟩;exact ⟨by rw [ec];simp,hb⟩
     go_wp2_with fail;refine hcd.mono ?_;clear hcd;rintro e W3 ⟨rfl,HB3⟩
     have HW3:Aside (Pr B1 w1 br m i R S [D2] W3/\OpBlk W3 D1 (yt,yb,yn,yk,yd,yo,ys,yv)/\OpBlk W3 D2 (yt,yb,yn,yk,yd,yo,ys,yv)):=⟨HX2.o.1.later HB3.o,HX2.o.2.1.later HB3.o,HX2.o.2.2.later HB3.o⟩
     clear HB3 HX2;obtain ⟨j0,j1,j2,j3,j4,j5,j6,j7,-⟩:=HW3.o.2.1.cells;obtain ⟨i0,i1,i2,i3,i4,i5,i6,i7,-⟩:=HW3.o.2.2.cells;dsimp only at j0 j1 j2 j3 j4 j5 j6 j7 i0 i1 i2 i3 i4 i5 i6 i7
     have heq:=fun w=>LI yt yb yn yk yd yo ys yv yt yb yn yk yd yo ys yv w
     rw [AO] at heq;have hwj:wrap64 ((j:Int)+1)=(j:Int)+1:=yl;have hwj2:IntKind.i64.wrap ((j:Int)+1)=(j:Int)+1:=qQ;by_cases h0:cd=0
     ·subst h0;obtain ⟨X4,hX4⟩:=ze (W3.alloc (.cells #[.int .i64 yt,.int .i64 yb,.int .i64 yn,.int .u8 (yk:Int),.int .i64 yd,.int .i64 yo,.string ys,.string yv] 38));obtain ⟨L1,hL1⟩:=ze W3.heap.size
      have hbX4:Below W3.heap.size W3 X4:=by rw [hX4.o];exact zh W3 _
      have hin4:OpsIn X4 (some ⟨L1,0,none⟩) [(yt,yb,yn,yk,yd,yo,ys,yv)]:=oF (by rw [hX4.o,hL1.o];exact OpBlk.new W3 (yt,yb,yn,yk,yd,yo,ys,yv));have HNX:Aside (NextOp R i T (yt,yb,yn,yk,yd,yo,ys,yv)):=Ep HRK.o HMK.o;have HOK:Aside (an (yt,yb,yn,yk,yd,yo,ys,yv)=0):=(HNX.o.well HRK.o hi4 HTT.o.1.1).1.ok _ uv;have hj:=EB (HW3.o.1.later hbX4) HE2.o.t (some ⟨L1,0,none⟩) 1 [(yt,yb,yn,yk,yd,yo,ys,yv)] hin4 (rT HOK.o) zr;have HD2:Aside (OpBlk X4 D2 (yt,yb,yn,yk,yd,yo,ys,yv)):=HW3.o.2.2.later hbX4;clear hbX4 hin4 HW3 hc12;go_wp2_with fail;rw [<-hX4.o,<-hL1.o];refine hj.mono ?_;clear hj j0 j1 j2 j3 j4 j5 j6 j7 i0 i1 i2 i3 i4 i5 i6 i7 hX4 hL1 heq;rintro e W5 ⟨aj,hja,hkp,hm5⟩;obtain rfl:aj= .inr [(yt,yb,yn,yk,yd,yo,ys,yv)]:=Fr HRK.o hi4 HNX.o HTT.o.1 zo hja;dsimp only at hm5;obtain ⟨rfl,R',hpr5,hmem⟩:=hm5;have hO5:OpBlk W5 D2 (yt,yb,yn,yk,yd,yo,ys,yv):=(hkp D2 zv).trans HD2.o
      have HW5:Aside (Pr B1 w1 br m i R' S [D2] W5/\OpBlk W5 D2 (yt,yb,yn,yk,yd,yo,ys,yv)/\aB (aR R) [(yt,yb,yn,yk,yd,yo,ys,yv)] (.inr [(yt,yb,yn,yk,yd,yo,ys,yv)])/\∀x,x∈aR R'↔x∈aR R++ [(yt,yb,yn,yk,yd,yo,ys,yv)]):=⟨hpr5,hO5,hja,hmem⟩
      clear hpr5 hO5 hja hmem hkp HD2;obtain ⟨i0,i1,i2,i3,i4,i5,i6,i7,-⟩:=HW5.o.2.1.cells;dsimp only at i0 i1 i2 i3 i4 i5 i6 i7;obtain ⟨X6,hX6⟩:=ze (W5.alloc (.cells #[.int .i64 yt,.int .i64 yb,.int .i64 yn,.int .u8 (yk:Int),.int .i64 yd,.int .i64 yo,.string ys,.string yv] 38));obtain ⟨L2,hL2⟩:=ze W5.heap.size
      have hbX6:Below W5.heap.size W5 X6:=by rw [hX6.o];exact zh W5 _
      have hin6:OpsIn X6 (some ⟨L2,0,none⟩) [(yt,yb,yn,yk,yd,yo,ys,yv)]:=oF (by rw [hX6.o,hL2.o];exact OpBlk.new W5 (yt,yb,yn,yk,yd,yo,ys,yv));have hmj:=oK (HW5.o.1.later hbX6) (some ⟨L2,0,none⟩) 1 [(yt,yb,yn,yk,yd,yo,ys,yv)] hin6 (rT HOK.o) (A.o.same.well HRK.o) zo zv;clear hbX6 hin6;go_wp2_with fail;rw [<-hX6.o,<-hL2.o];refine hmj.mono ?_;clear hmj i0 i1 i2 i3 i4 i5 i6 i7 hX6 hL2;rintro e W7 ⟨aj,hja',hk7,hm7⟩;obtain rfl:aj= .inr [(yt,yb,yn,yk,yd,yo,ys,yv)]:=(A.o.same.join HRK.o HW5.o.2.2.1 hja').symm;dsimp only at hm7;obtain ⟨rfl,S',hpr7,hpS,hsS⟩:=hm7;have hfr:=kK hja';have HN:Aside (SameO R' S'/\S'.length=S.length+1):=A.o.same.next hpr7.rows hfr.1 hfr.2 HW5.o.2.2.2 hpS hsS;obtain ⟨X,hX⟩:=ze (W7.alloc (.cells #[.int .i64 0,.int .i64 (-1)] 46));obtain ⟨FB,hFB⟩:=ze W7.heap.size
      have hbX:Below W7.heap.size W7 X:=by rw [hX.o];exact zh W7 _
      have hfX:X.heap[FB]? =some (.cells #[.int .i64 0,.int .i64 (-1)] 46 (0,0)):=by rw [hX.o,hFB.o];exact heap_alloc_new W7 _
      have HX:Aside (Pr B1 w1 br m i R' S' [D2] X):=hpr7.later hbX;have z0:X.cell? ⟨FB,0,none⟩=some (.int .i64 0):=qr;clear hbX hfX hpr7 hk7 hja' hpS hsS hfr HW5;go_upto_region 36 with fail;rw [<-hX.o,<-hFB.o];have hwt:wrap64 ((tot:Int)+1)=(tot:Int)+1:=yl;have hwt2:IntKind.i64.wrap ((tot:Int)+1)=(tot:Int)+1:=yr;clear hX hFB;go_wp2;go_roundg (l.length - (j+1))
      case measure=>(clear hwt hwt2 hwj hwj2;omega)
      case rel=>
       clear hwt hwt2 hwj hwj2;exact ⟨j+1,tot+1,R',S',zD,zD,zo,vM _,HX.o.less (fun k hk=>jb),HN.o.1,by rw [HN.o.2,A.o.len],by have:=A.o.most;omega⟩
     have c0:decide ((0:Int)<(cd:Int))=true:=zr;have c0n:decide (0<cd)=true:=zr;go_wp2;go_roundg (l.length - (j+1))
     case measure=>(clear hwj hwj2;omega)
     case rel=>
      clear hwj hwj2;exact ⟨j+1,tot,R,S,zD,zD,zo,vM _,A.o.stay HW3.o.1⟩
  have d4:decide ((j:Int)<(l.length:Int))=false:=zr;have d4n:decide (j<l.length)=false:=zr;obtain ⟨c,ao,cap,h1,h2,h3,-,-,-⟩:=A.o.pr.ex;obtain ⟨T,kv,bt,bx,bc,AA,hMid,hPm,hTm⟩:=h1.rep.time
  have HES:Aside (EndS B1 w1 c br m i ao cap R S u):=⟨h1,h2,A.o.pr.below,A.o.pr.size⟩
  have HSM:Aside (Shp ao cap/\WellK S/\SameO R S):=⟨h3,A.o.same.well HRK.o,A.o.same⟩
  have HTT:Aside (du (aR R) T):=hTm
  have HP0:Aside (∀W,Below B1 w1 W->(W.cell? ⟨P0,0,none⟩=some (.int .i64 v0)/\W.cell? ⟨P0,1,none⟩=some (.int .i64 v1)/\W.cell? ⟨P0,2,none⟩=some (.int .i64 v2)/\W.cell? ⟨P0,3,none⟩=some (.int .i64 v3))):=fun W hW=>(HIN.o W hW).2.2.2
  clear h1 h2 h3 hMid hPm hTm kv bt bx bc AA A;go_upto_region 39 with fail;refine aO (S:=(fun w'=>EndS B1 w1 c br m i ao cap R S w')) zq (HES.o.later ((vP _ u).drew)) (fun hHeld=> ?_);refine tk 0 hHeld ?_;refine tk 2 hHeld ?_;refine aY (i:=1) zq rfl (fun K hK=> ?_);go_simp;refine (pF u.drew c br (i:Int) R hHeld.rep.rep (HE2.o.t.mono hHeld.below).is zo).mono ?_;rintro e k1w ⟨s1,rfl,hs1,hb1⟩;have HV1:Aside (EndS B1 w1 c br m i ao cap R S k1w):=hHeld.later hb1;have HS1:Aside (StateIs (aR R) s1):=hs1;refine hK _ _ HV1.o ?_;clear hK K;refine qn ?_;clear hs1 hb1;refine aY (i:=3) zq rfl (fun K hK=> ?_);go_simp;refine (CY k1w HV1.o.mrp HSM.o.1 HSM.o.2.1 HSM.o.2.2.sort zo).mono ?_;rintro e k2w ⟨s2,rfl,H2⟩;obtain rfl:s2=⟨s1.toArray⟩:=tX HSM.o.2.1 HSM.o.2.2.perm HS1.o H2.o.1;have HV2:Aside (EndS B1 w1 c br m i ao cap R S k2w):=HV1.o.later H2.o.2;refine hK _ _ HV2.o ?_;clear hK K;refine qn ?_
  obtain ⟨X,hX⟩:∃X:ByteArray,Aside (X=⟨s1.toArray⟩):=⟨_,rfl⟩
  rw [<-hX.o];have n1:(X !=X)=false:=wP X;have n2:(X.toList==X.toList)=true:=zv;have n3:(X==X)=true:=nc X;refine tk 4 HV2.o ?_;refine tk 5 HV2.o ?_;refine tk 6 HV2.o ?_;refine tk 8 HV2.o ?_;refine aY (i:=7) zq rfl (fun K hK=> ?_);go_simp;refine (tV k2w c br (i:Int) R HV2.o.rep.rep zo).mono ?_;rintro e k3w ⟨rfl,hb3⟩;have HV3:Aside (EndS B1 w1 c br m i ao cap R S k3w):=HV2.o.later hb3;refine hK _ _ HV3.o ?_;clear hK K;refine qn ?_;clear hb3;refine aY (i:=9) zq rfl (fun K hK=> ?_);go_simp;have hmv:=nC k3w HV3.o.mrp HSM.o.2.1.ok zo;rw [mX HSM.o.2.2 HRK.o (show 0<4 by omega),mX HSM.o.2.2 HRK.o (show 1<4 by omega),mX HSM.o.2.2 HRK.o (show 2<4 by omega),mX HSM.o.2.2 HRK.o (show 3<4 by omega)] at hmv;refine hmv.mono ?_;clear hmv;rintro e k4w ⟨rfl,H4⟩;have HV4:Aside (EndS B1 w1 c br m i ao cap R S k4w):=HV3.o.later H4.o;refine hK _ _ HV4.o ?_;clear hK K;refine qn ?_;have hve:=Ls ((R 0).length:Int) ((R 1).length:Int) ((R 2).length:Int) ((R 3).length:Int);refine tk 10 HV4.o ?_;refine tk 11 HV4.o ?_;refine tk 12 HV4.o ?_;refine tk 13 HV4.o ?_;refine tk 14 HV4.o ?_;refine tk 15 HV4.o ?_;refine tk 17 HV4.o ?_;refine aY (i:=16) zq rfl (fun K hK=> ?_);go_simp;obtain ⟨T',kv,bt,bx,bc,AA,hMid,hPm,hTm⟩:=HV4.o.rep.rep.time;obtain rfl:T'=T:=bJ hTm HTT.o;refine (rU k4w br T' (i:Int) kv bt bx bc hMid.cell).mono ?_;clear hMid hPm hTm;rintro e k5w ⟨rfl,hv5⟩;subst hv5;refine hK _ _ HV4.o ?_;clear hK K;refine qn ?_;refine aY (i:=18) zq rfl (fun K hK=> ?_);go_simp;have hmt:=oD k5w HV4.o.mrp zo;rw [rz HSM.o.2.2 HRK.o HTT.o] at hmt;refine hmt.mono ?_;clear hmt;rintro e k6w ⟨rfl,H6⟩;have HV6:Aside (EndS B1 w1 c br m i ao cap R S k6w):=HV4.o.later H6.o;refine hK _ _ HV6.o ?_;clear hK K;refine qn ?_;refine tk 19 HV6.o ?_;refine tk 20 HV6.o ?_;refine tk 21 HV6.o ?_;refine tk 22 HV6.o ?_;refine tk 24 HV6.o ?_;refine tk 25 HV6.o ?_;refine tk 26 HV6.o ?_
  refine tk 27 HV6.o ?_ (hy:=Or.inl ⟨zA,by intro w' hSw;obtain ⟨c0,c1,cf⟩:=(EndS.mrp hSw).c;clear hSw;go_simp;try with_reducible rfl⟩);refine aY (i:=23) zq rfl (fun K hK=> ?_);go_simp;refine (AL k6w c br (i:Int) R HV6.o.rep.rep zo).mono ?_;rintro e k7w ⟨vo,ys,rfl,ho7,hst7,hb7,-⟩;obtain rfl:ys=S:=lj HSM.o.2.2 HRK.o hst7;have HO7:Aside (OpsAt k7w vo ys):=ho7;have HV7:Aside (EndS B1 w1 c br m i ao cap R ys k7w):=HV6.o.later hb7;refine hK _ _ HV7.o ?_;clear hK K;refine qn ?_;clear ho7 hst7 hb7;refine aY (i:=28) zq rfl (fun K hK=> ?_);go_simp;refine (AM k7w vo (.slice ao ys.length cap) ys HO7.o (HSM.o.1.at HV7.o.mrp.ops) zo).mono ?_;rintro e k8w ⟨rfl,hb8⟩;have HV8:Aside (EndS B1 w1 c br m i ao cap R ys k8w):=HV7.o.later hb8;refine hK _ _ HV8.o ?_;clear hK K;refine qn ?_;clear hb8;refine tk 29 HV8.o ?_;refine tk 30 HV8.o ?_;refine wpAnyH_done zq ?_ _;refine qn ?_;go_wp2;go_upto_region 41 with fail;refine aO (S:=(fun w'=>EndS B1 w1 c br m i ao cap R ys w')) zq (HV8.o.later ((vP _ k8w).drew)) (fun hHeld=> ?_);refine tk 0 hHeld ?_;refine tk 1 hHeld ?_ (hy:=Or.inl ⟨zA,qg⟩);refine tk 3 hHeld ?_;refine tk 4 hHeld ?_ (hy:=Or.inl ⟨zA,qg⟩);refine aY (i:=2) zq rfl (fun K hK=> ?_);go_simp;refine (DU k8w.drew c br (i:Int) R (vOf v0 v1 v2 v3) hHeld.rep.rep zo).mono ?_;rintro e k9w ⟨vd,yd,rfl,hsd,hvd,hb9⟩;obtain rfl:yd=ys:=lj HSM.o.2.2 HRK.o hsd;have HD:Aside (OpsAt k9w vd (cl v0 v1 v2 v3 yd)):=IA HSM.o.2.1.ok hvd;have HV9:Aside (EndS B1 w1 c br m i ao cap R yd k9w):=hHeld.later hb9;refine hK _ _ HV9.o ?_;clear hK K;refine qn ?_;clear hsd hvd hb9;refine aY (i:=5) zq rfl (fun K hK=> ?_);go_simp;refine (Fl k9w v0 v1 v2 v3 HV9.o.mrp HSM.o.2.1.ok zo).mono ?_;rintro e k10w ⟨rv,rfl,H10⟩
  have HD2:Aside (OpsAt k10w vd (cl v0 v1 v2 v3 yd)/\OpsAt k10w rv (cl v0 v1 v2 v3 yd)):=⟨HD.o.later H10.o.2,dI H10.o.1⟩
  have HV10:Aside (EndS B1 w1 c br m i ao cap R yd k10w):=HV9.o.later H10.o.2;refine hK _ _ HV10.o ?_;clear hK K;refine qn ?_;refine aY (i:=6) zq rfl (fun K hK=> ?_);go_simp;refine (AM k10w vd rv (cl v0 v1 v2 v3 yd) HD2.o.1 HD2.o.2 (by have:=Fs v0 v1 v2 v3 yd;omega)).mono ?_;rintro e k11w ⟨rfl,hb11⟩;have HV11:Aside (EndS B1 w1 c br m i ao cap R yd k11w):=HV10.o.later hb11;refine hK _ _ HV11.o ?_;clear hK K;refine qn ?_;clear hb11;refine tk 7 HV11.o ?_;refine tk 8 HV11.o ?_;refine tk 9 HV11.o ?_;refine tk 11 HV11.o ?_;refine tk 12 HV11.o ?_;refine aY (i:=10) zq rfl (fun K hK=> ?_);go_simp;obtain ⟨T',kv,bt,bx,bc,AA,hMid,hPm,hTm⟩:=HV11.o.rep.rep.time;refine (AN k11w c br T' (i:Int) kv bt bx bc AA node hMid.cell hMid.text (by have:=hPm.length_eq;omega) hnode.1 hnode.2).mono ?_;rintro e k12w ⟨st,rfl,ht12,hb12⟩
  have HT12:Aside (mT AA node st/\AA.Perm (aR R)):=⟨ht12,hPm⟩
  have HV12:Aside (EndS B1 w1 c br m i ao cap R yd k12w):=HV11.o.later hb12;refine hK _ _ HV12.o ?_;clear hK K;refine qn ?_;clear hMid hPm hTm ht12 hb12;refine aY (i:=13) zq rfl (fun K hK=> ?_);go_simp;refine (rJ k12w node HV12.o.mrp HSM.o.1 HSM.o.2.1 HSM.o.2.2.nodup zo).mono ?_;rintro e k13w ⟨st2,rfl,H13⟩;obtain rfl:st2=st:=(EF HSM.o.2.2 HT12.o.2 HT12.o.1 H13.o.1).symm;have HV13:Aside (EndS B1 w1 c br m i ao cap R yd k13w):=HV12.o.later H13.o.2.2;refine hK _ _ HV13.o ?_;clear hK K;refine qn ?_;have k1:(st2 !=st2)=false:=wP st2;have k2:(st2.toList==st2.toList)=true:=zv;have k3:(st2==st2)=true:=nc st2;refine tk 14 HV13.o ?_;refine tk 15 HV13.o ?_;refine tk 16 HV13.o ?_;refine wpAnyH_done zq ?_ _;refine qn ?_;go_wp2;go_ret;exact ⟨rfl,(HIN.o _ HV13.o.below).2.2.1⟩
