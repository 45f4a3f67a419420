import Derived.Test.YtjclejjkganhfaaGreatDoorSA26
import Derived.Test.YtjclejjkganhfaaGreatDoorSA28
import Derived.Test.YtjclejjkganhfaaGreatDoorSA29
set_option linter.unusedSimpArgs false
set_option linter.unusedVariables false
set_option maxRecDepth 100000
set_option maxHeartbeats 64000000
namespace Go.Proofs.YtjclejjkganhfaaGreatDoor
open Go.Proofs.Tryz
section
open RowKit Lib Go.Sort Maps
open scoped Classical
theorem MO{gd}{B}{ad}{n bm}{K}{st}(w)(lN:n<=4)(h:p9 gd B n bm K st [] w)(hE:E7 B ad w)(hK:∀r,r<n->(lY (K r)).length<=1000):
  qC 93 #[qP bm] w fun e w'=>(∃u,e= .returned u)/\Aside (p9 gd B n bm K st (mK K n n) w'/\Below B w w'):=by
 have HM:Aside (p9 gd B n bm K st [] w/\E7 B ad w/\B<=w.heap.size):=⟨h,hE,hE.t.G6.size⟩
 obtain ⟨ow,pv,fv,bp,br,d,dv,c,hm⟩:=h;have m0:=hm.D8.c0;obtain ⟨po,pc,eD⟩:=mC hm.K9;subst eD;go_enter func93,ntmps93;go_wp2;go_loopg [9] n (fun kx s9 wr=>∃k:Nat,s9=qN k/\k<=n/\n - k<=kx/\Aside (p9 gd B n bm K st (mK K n k) wr/\Below B w wr))
 case atStart=>exact ⟨0,rfl,uW _,uM _,HM.o.1,uO _ _⟩
 case round=>
  obtain ⟨k,rfl,hk,aY,A⟩:=hrel;by_cases hlt:k<n
  ·have d1:qlt k n=true:=by simp;omega
   have dg:decide (k<n)=true:=zl;have HMK:Aside (p9 gd B n bm K st (mK K n k) wr/\Below B w wr):=A.o;obtain ⟨ow1,pv1,fv1,bp1,br1,d1',dv1,c1,hm1⟩:=A.o.1;have m1:=hm1.D8.c0;obtain ⟨po1,pc1,hpv1⟩:=mC hm1.K9;subst hpv1;obtain ⟨u,hu⟩:=za wr;subst hu;go_wp2;go_loopg [17] n (fun ky ji wy=>∃m:Nat,ji=qN m/\m<=n/\n - m<=ky/\Aside (p9 gd B n bm K st (mK K n k++nN K k m) wy/\Below B w wy))
   case atStart=>exact ⟨0,rfl,uW _,uM _,by rw [show nN K k 0= [] from rfl,Ye];exact HMK.o⟩
   case round=>
    obtain ⟨m,rfl,hm',hmx,A⟩:=hrel;by_cases hlm:m<n
    ·have e1:qlt m n=true:=by simp;omega
     have e1n:decide (m<n)=true:=zl;by_cases hkm:k=m
     ·subst hkm;have e2:((k:Int)==(k:Int))=true:=zq;have e3:((k:Int) !=(k:Int))=false:=zq
      have HA:Aside (p9 gd B n bm K st (mK K n k++nN K k (k+1)) wr/\Below B w wr):=by rw [GM];exact A.o
      go_wp2;go_roundg (n - (k+1))
      case measure=>omega
      case rel=>exact ⟨k+1,zJ,zj,uM _,HA.o⟩
     have e2:((k:Int)==(m:Int))=false:=xL
     have e3:((k:Int) !=(m:Int))=true:=by rw [bne_iff_ne];omega
     have gA:=St wr (k:Int) (m:Int) A.o.1 (HM.o.2.1.mono A.o.2) hK ⟨zj,zj⟩ ⟨zj,zj⟩
     have hlen:(mK K n k++nN K k m).length<30:=by
      have h1:=tJ K n k;have h2:=CZ K k m;have h3:k*n<=3*4:=Nat.mul_le_mul zj lN;rw [uS];omega
     have HB:Aside (Below B w wr/\(mK K n k++nN K k m).length<30/\k≠m):=⟨A.o.2,hlen,hkm⟩
     obtain ⟨u2,hu2⟩:=za wr;subst hu2;go_wp2_with fail;refine gA.mono ?_;rintro e w2 ⟨v2,N2,rfl,H2,_⟩
     have HA:Aside (p9 gd B n bm K st (mK K n k++nN K k (m+1)) w2/\Below B w w2):=by
      refine ⟨?_,HB.o.1.trans H2.o.2.1⟩
      rcases H2.o.2.2 with ⟨_,_,a',b',_,_,_,e1,e2,e3⟩ | ⟨_,q⟩
      ·obtain rfl:k=a':=by omega
       obtain rfl:m=b':=zj;rw [Hy K HB.o.2.2,<-Zr,<-e3];exact H2.o.1
      exact absurd ⟨⟨zj,zj⟩,⟨zj,zj⟩,fun e=>HB.o.2.2 zj,HB.o.2.1⟩ q
     go_wp2;go_roundg (n - (m+1))
     case measure=>omega
     case rel=>exact ⟨m+1,zJ,zj,uM _,HA.o⟩
    have e1:qlt m n=false:=zl;have e1n:decide (m<n)=false:=zl;obtain rfl:m=n:=zj
    have HA:Aside (p9 gd B m bm K st (mK K m (k+1)) wr/\Below B w wr):=by rw [Ag];exact A.o
    go_wp2;go_roundg (m - (k+1))
    case measure=>omega
    case rel=>exact ⟨k+1,zJ,zj,uM _,HA.o⟩
  have d1:qlt k n=false:=zl;have dg:decide (k<n)=false:=zl;obtain rfl:k=n:=zj;have HA:Aside (p9 gd B k bm K st (mK K k k) wr/\Below B w wr):=A.o;go_wp2;go_end0;exact ⟨⟨_,rfl⟩,HA.o⟩
def Rb(n:Nat)(K:qH):Prop:=∀r,r<n->∀x,x∈lY (K r)↔x∈lY (K 0)
structure aaE (w:qW) (Mb bm pg n pc:Nat) (fv:Value) (bp br d:Nat->Nat):Prop where
 F9:w.cell? (qB Mb)=some (qP bm)
 D8:G7 w bm (qG pg n pc) fv
 row:∀r,r<n->w.cell? (qA pg r)=some (qP (bp r))
 G0:∀r,r<n->u7 w (bp r) (br r) (d r)
theorem aaE.later{w w'}{Mb bm pg n pc}{fv}{bp br d}(h:aaE w Mb bm pg n pc fv bp br d)(hb:qL w w'):aaE w' Mb bm pg n pc fv bp br d:=
 ⟨oH hb h.F9,(hb.block bm h.D8.lt).trans h.D8,fun r hr=>oH hb (h.row r hr),fun r hr=>(h.G0 r hr).same (hb.block _ (h.G0 r hr).lt)⟩
theorem NL{gd}{B}{ad}{n bm}{K}{st}{N}{ow}{fv}{bp br d}{dv}{c}{pg pc Mb}(w)(r)(hr:r<n)(h:n9 gd B w ow n bm (qG pg n pc) fv bp br d dv c K st N)(hE:E7 B ad w)(hA:aaE w Mb bm pg n pc fv bp br d)(hK:∀r,r<n->(lY (K r)).length<=300):
  qC 125 #[qP (bp r),qP Mb] w fun e w'=>∃z:Bool,e= .returned (.bool z)/\Aside ((Rb n K->z=false)/\qL w w'):=by
 have h0:0<n:=zj;have hmD:=h.later (uO _ w).drew;have hED:=hE.later (uO _ w).drew;have aG:=Cc w.drew (c r) (br r) (r:Int) (K r) (hmD.G4 r hr).1.G4 hED.t.is (hK r hr);have SD:=hA.later (uO _ w).drew
 have HM:Aside (n9 gd B w.drew ow n bm (qG pg n pc) fv bp br d dv c K st N/\E7 B ad w.drew):=⟨hmD,hED⟩
 go_enter func125,ntmps125;go_upto_region 1 with fail;refine lV (S:=(fun w'=>aaE w' Mb bm pg n pc fv bp br d)) zk SD (fun aa=> ?_);refine tk 0 aa ?_ (y:=ty zm);refine tk 1 aa ?_ (y:=ty zm);refine tk 2 aa ?_ (y:=ty zm);refine tk 3 aa ?_ (y:=ty (by intro w' ab;have q1:=(ab.G0 r hr).c0;clear ab;go_simp;try with_reducible rfl));refine tk 5 aa ?_ (y:=ty (by intro w' ab;have q1:=ab.F9;clear ab;go_simp;try with_reducible rfl));refine tk 6 aa ?_ (y:=ty zm);refine tk 7 aa ?_ (y:=ty zm);refine tk 8 aa ?_ (y:=ty (by intro w' ab;have q1:=ab.D8.c0;clear ab;go_simp;try with_reducible rfl));refine tk 9 aa ?_ (y:=ty zm);refine tk 10 aa ?_ (y:=ty (by intro w' ab;have q1:=ab.row 0 h0;clear ab;go_simp;try with_reducible rfl));refine tk 11 aa ?_ (y:=ty zm);refine tk 12 aa ?_ (y:=ty zm);refine tk 13 aa ?_ (y:=ty (by intro w' ab;have q1:=(ab.G0 0 h0).c0;clear ab;go_simp;try with_reducible rfl));refine an (i:=4) zk rfl (fun kQ df=> ?_);go_simp;refine aG.mono ?_;rintro e w2 ⟨s1,rfl,hS1,hb2⟩;have S2:=SD.later hb2;have bJ:=HM.o.1.later hb2;have aN:=Cc w2 (c 0) (br 0) ((0:Nat):Int) (K 0) (bJ.G4 0 h0).1.G4 (HM.o.2.later hb2).t.is (hK 0 h0)
 obtain ⟨X,hX⟩:∃X:ByteArray,Aside (X=⟨s1.toArray⟩):=⟨_,rfl⟩
 rw [<-hX.o]
 have cP:Aside (qL w w2/\G3 (lY (K r)) s1):=⟨(uO _ w).drew.trans hb2,hS1⟩
 refine df _ _ S2 ?_;refine qn ?_;refine an (i:=14) zk rfl (fun kQ df=> ?_);go_simp;refine aN.mono ?_;rintro e w3 ⟨s2,rfl,hS2,hb3⟩;have S3:=S2.later hb3
 obtain ⟨Y,hY⟩:∃Y:ByteArray,Aside (Y=⟨s2.toArray⟩):=⟨_,rfl⟩
 rw [<-hY.o]
 have fb:Aside (qL w w3/\G3 (lY (K 0)) s2):=⟨zi cP.o.1 hb3,hS2⟩
 refine df _ _ S3 ?_;have aa:=S3;refine qn ?_;refine tk 15 aa ?_ (y:=ty zm);refine an (i:=16) zk rfl (fun kQ hK=> ?_);go_simp;refine hK _ _ S3 ?_;refine wpAnyH_done zk ?_ _;refine qn ?_;go_wp2;go_ret;refine ⟨_,rfl,fun hal=> ?_,fb.o.1⟩;have k1:=(HM.o.1.G4 r hr).1.h;have k2:=(HM.o.1.G4 0 h0).1.h;have hst:=G3.same k1.G5 ((List.perm_ext_iff_of_nodup k1.num.I7 k2.num.I7).2 (hal r hr)) cP.o.2 fb.o.2
 have hXY:X=Y:=by rw [hX.o,hY.o,hst]
 subst hXY;simp
theorem QC{gd}{B}{ad}{n bm}{K}{st}{N}{ow}{fv}{bp br d}{dv}{c}{pg pc Mb}(w)(eg:∀args w,(callFunc 125 args).run prog w= .ok (.enter 125 args) w)(h:n9 gd B w ow n bm (qG pg n pc) fv bp br d dv c K st N)(hE:E7 B ad w)(hA:aaE w Mb bm pg n pc fv bp br d)(hK:∀r,r<n->(lY (K r)).length<=300):
  qC 169 #[qG pg n pc,.func (.func 125) #[] #[qP Mb]] w fun e w'=>∃z:Int,e= .returned (qI z)/\Aside ((Rb n K->z= -1)/\qL w w'):=by
 have HM:Aside (n9 gd B w ow n bm (qG pg n pc) fv bp br d dv c K st N/\E7 B ad w/\aaE w Mb bm pg n pc fv bp br d):=⟨h,hE,hA⟩
 have lN:=h.X7;go_enter func169,ntmps169;go_wp2;go_loopg [5,8] n (fun kx _ s8 wr=>∃(k:Nat),s8=qN k/\k<=n/\n - k<=kx/\Aside (qL w wr))
 case atStart=>exact ⟨0,rfl,uW _,uM _,uO _ w⟩
 case round=>
  obtain ⟨k,rfl,hk,aY,A⟩:=hrel;by_cases hlt:k<n
  ·have aq:qlt k n=true:=by simp;omega
   have hltn:decide (k<n)=true:=zl;have ek:((k:Int)).toNat=k:=zj;have pk:(0:Int)<=(k:Int):=zj;have bk:(k:Int)<(n:Int):=zj;have r0:=(HM.o.2.2.later A.o).row k hlt;have ac:=NL wr k hlt (HM.o.1.later A.o) (HM.o.2.1.later A.o) (HM.o.2.2.later A.o) hK;have HA:Aside (qL w wr):=A.o;go_wp2_with fail;go_at_fn 125;refine ac.mono ?_;rintro e w1 ⟨z,rfl,HZ⟩;have HB1:Aside (qL w w1):=zi HA.o HZ.o.2
   cases z with
   | true=>
    go_wp2;go_ret;exact ⟨_,rfl,fun q=>absurd (HZ.o.1 q) zo,HB1.o⟩
   | false=>
    go_wp2;go_roundg (n - (k+1))
    case measure=>omega
    case rel=>exact ⟨k+1,zJ,zj,uM _,HB1.o⟩
  have aq:qlt k n=false:=zl;have hltn:decide (k<n)=false:=zl;have HA:Aside (qL w wr):=A.o;go_wp2;go_ret;exact ⟨_,rfl,fun _=>rfl,HA.o⟩
theorem Re{gd}{B}{ad}{n bm}{K}{st}{N}{ow}{fv}{bp br d}{dv}{c}{pg pc Mb}(w)(h:n9 gd B w ow n bm (qG pg n pc) fv bp br d dv c K st N)(hE:E7 B ad w)(hA:aaE w Mb bm pg n pc fv bp br d)(hK:∀r,r<n->(lY (K r)).length<=300):
  qC 124 #[qG pg n pc,.func (.func 125) #[] #[qP Mb]] w fun e w'=>∃z:Bool,e= .returned (.bool z)/\Aside ((Rb n K->z=false)/\qL w w'):=by
 have eg:∀args w,(callFunc 125 args).run prog w= .ok (.enter 125 args) w:=enters_of func125 zk rfl;have cE:=QC w eg h hE hA hK;go_enter func124,ntmps124;go_wp2_with fail;refine cE.mono ?_;rintro e w1 ⟨z,rfl,HZ⟩;go_wp2;go_ret;exact ⟨_,rfl,fun q=>by rw [HZ.o.1 q];rfl,HZ.o.2⟩
theorem OC{gd}{B}{ad}{n bm}{K}{st}{N}(w)(hn:1<=n)(h:p9 gd B n bm K st N w)(hE:E7 B ad w)(hK:∀r,r<n->(lY (K r)).length<=300):
  qC 94 #[qP bm] w fun e w'=>∃z:Bool,e= .returned (.bool z)/\Aside ((Rb n K->z=true)/\qL w w'):=by
 obtain ⟨ow,pv,fv,bp,br,d,dv,c,hm⟩:=h
 have eD:∃pg pc,pv=qG pg n pc:=by
  rcases hm.K9.2 with ⟨_,q⟩ | ⟨g,cap,cur,q,_⟩
  ·omega
  exact ⟨g,cap,q⟩
 obtain ⟨pg,pc,rfl⟩:=eD;obtain ⟨Mb,hMb⟩:=ze w.heap.size;obtain ⟨U,hU⟩:=ze (w.alloc (.cells #[qP bm] 41));have ah:qL w U:=yC;have dK:=hm.later ah
 have bL:U.cell? (qB Mb)=some (qP bm):=by
  have:=heap_alloc_new w (.cells #[qP bm] 41);unfold World.cell?;dsimp only;rw [hU.o,hMb.o,this];rfl
 have hA:aaE U Mb bm pg n pc fv bp br d:=⟨bL,dK.D8,fun r hr=>by rw [dK.K9.cellAt r zj,CM bp hr],fun r hr=>(dK.G0 r hr).1⟩
 have hhs:=Re U dK (hE.later ah) hA hK;have m0:=dK.D8.c0;have HB:Aside (qL w U):=ah;go_enter func94,ntmps94;go_upto_region 1 with fail;rw [<-hU.o,<-hMb.o];go_wp2_with fail;refine hhs.mono ?_;rintro e w1 ⟨z,rfl,HZ⟩;go_wp2;go_ret;exact ⟨_,rfl,fun q=>by rw [HZ.o.1 q];rfl,zi HB.o HZ.o.2⟩
def LW(K:qH)(st:qD)(N:qJ):Nat->(Nat->Rws)->(Nat->DSt)->List nO->Prop
 | 0,K',st',N'=>K'=K/\st'=st/\N'=N
 | m+1,K',st',N'=>∃K1 st1 N1 cd,LW K st N m K1 st1 N1/\N1≠ []/\Wl K1 st1 N1 0 K' st' N' cd
def Ay(n:Nat)(K:qH)(st:qD):Nat->(Nat->Rws)->(Nat->DSt)->Prop
 | 0,K',st'=>K'=K/\st'=st
 | k+1,K',st'=>∃K1 st1 m,Ay n K st k K1 st1/\LW K1 st1 (mK K1 n n) m K' st' []
def UD(K:qH)(st:qD)(K':qH)(st':qD):Prop:=Ay 3 K st 3 K' st'/\∀r q,r<3->q<3->∀x∈lY (K r),x∈lY (K' q)
def Uc(gd:Nat->Option Obj)(B n bm i:Nat)(G:qX)(K:qH)(st:qD)(w:qW)(e:Ending)(w':qW):Prop:=∃(K':qH) (D':Nat->List OpX) (st':qD),e= .returned (.bool true)/\Aside (p9 gd B n bm K' st' [] w'/\Below B w w'/\r9 n i G K' D' st' []/\(∀r,r<n->∀x∈lY (K r),x∈lY (K' r))/\(∀r,r<n->∀x∈G,x∈lY (K' r))/\Ay n K st n K' st')
theorem Pf{gd}{B}{ad}{n bm}{K}{st}{N}{i}{G}{D}(w)(hn:1<=n)(h:p9 gd B n bm K st N w)(hI:r9 n i G K D st N)(hE:E7 B ad w)(hi:i<=155):
  qC 52 #[qP bm] w (Uc gd B n bm i G K st w):=by
 obtain ⟨ow,pv,fv,bp,br,d,dv,c,hm⟩:=h;have lN:=hm.X7;have m1:=hm.D8.c1;have mf:=hm.D8.fz 1;obtain ⟨ju,jz⟩:=hm.abt (w1:=w) (v:=qE) (N':=[]) (m7.refl _ w) (Zk _ _ _ _) (fun g hg=>xC) (fun x hx=>ya);obtain ⟨po,pc,eD⟩:=mC hm.K9;subst eD;obtain ⟨W,hW⟩:=ze (w.setCell (qA bm 1) qE);rw [<-hW.o] at ju jz;have m0:=ju.D8.c0;have hI0:r9 n i G K D st []:=hI.L8 (fun x hx=>ya)
 have HW:Aside (p9 gd B n bm K st [] W/\Below B w W/\r9 n i G K D st []/\E7 B ad w):=⟨⟨_,_,_,_,_,_,_,_,ju⟩,hm.m8 jz (fun k e=>zj),hI0,hE⟩
 go_enter func52,ntmps52;go_upto_region 2 with fail;rw [<-hW.o];go_wp2;go_loopg [11] n (fun kx iP wr=>∃(k:Nat) (K1:qH) (D1:Nat->List OpX) (st1:qD),iP=qN k/\k<=n/\n - k<=kx/\Aside (p9 gd B n bm K1 st1 [] wr/\Below B w wr/\r9 n i G K1 D1 st1 []/\(∀r,r<n->∀x∈lY (K r),x∈lY (K1 r))/\(1<=k->∀r,r<n->∀x∈G,x∈lY (K1 r))/\Ay n K st k K1 st1))
 case atStart=>exact ⟨0,K,D,st,rfl,uW _,uM _,HW.o.1,HW.o.2.1,HW.o.2.2.1,fun r _ x hx=>hx,fun q=>absurd q zj,rfl,rfl⟩
 case round=>
  obtain ⟨k,K1,D1,st1,rfl,hk,aY,A⟩:=hrel;by_cases hlt:k<n
  ·have d1:qlt k n=true:=by simp;omega
   have dg:decide (k<n)=true:=zl;have gA:=MO wr lN A.o.1 (HW.o.2.2.2.mono A.o.2.1) (fun r hr=>by have:=A.o.2.2.1.y9 hr;omega)
   have HA:Aside (Below B w wr/\r9 n i G K1 D1 st1 []/\(∀r,r<n->∀x∈lY (K r),x∈lY (K1 r))/\Ay n K st k K1 st1):=⟨A.o.2.1,A.o.2.2.1,A.o.2.2.2.1,A.o.2.2.2.2.2⟩
   obtain ⟨u0,b9⟩:=za wr;subst b9;go_wp2_with fail;refine gA.mono ?_;rintro e w2 ⟨⟨u,rfl⟩,H2⟩
   have HS:Aside (p9 gd B n bm K1 st1 (mK K1 n n) w2/\Below B w w2/\r9 n i G K1 D1 st1 (mK K1 n n)/\(mK K1 n n).length<=30/\Rnd n G K1 K1 (mK K1 n n)/\∃m,LW K1 st1 (mK K1 n n) m K1 st1 (mK K1 n n)):=by
    have hr:=Rnd.start (G:=G) (K:=K1) lN;refine ⟨H2.o.1,HA.o.1.trans H2.o.2,HA.o.2.1.L8 (fun x hx=>.inr ?_),by have:=hr.ab5;omega,hr,0,rfl,rfl,rfl⟩;obtain ⟨a,b,_,_,_,rfl⟩:=mem_asks.1 hx;exact ⟨fun y hy=>absurd hy (by show ¬(y∈([]:qX));simp),uW _⟩
   go_wp2;go_loopg [22] (left (mK K1 n n)) (fun ky _ wy=>∃(K2:qH) (D2:Nat->List OpX) (st2:qD) (N2:qJ),left N2<=ky/\Aside (p9 gd B n bm K2 st2 N2 wy/\Below B w wy/\r9 n i G K2 D2 st2 N2/\N2.length<=30/\Rnd n G K1 K2 N2/\∃m,LW K1 st1 (mK K1 n n) m K2 st2 N2))
   case atStart=>exact ⟨K1,D1,st1,_,uM _,HS.o⟩
   case round=>
    obtain ⟨K2,D2,st2,N2,ku,A⟩:=hrel;obtain ⟨ow2,pv2,fv2,bp2,br2,d2,dv2,c2,bJ⟩:=A.o.1;have n1:=bJ.D8.c1;obtain ⟨fo2,fc2,hfv2⟩:=mC bJ.L8;subst hfv2;by_cases hN:N2= []
    ·have hN0:N2.length=0:=by rw [hN];rfl
     have e1:qlt 0 N2.length=false:=by rw [hN0];rfl
     have e1n:decide (0<N2.length)=false:=by rw [hN0];rfl
     have HD:Aside (p9 gd B n bm K2 st2 [] wr/\Below B w wr/\r9 n i G K2 D2 st2 []/\(∀r,r<n->∀x∈lY (K r),x∈lY (K2 r))/\(1<=k+1->∀r,r<n->∀x∈G,x∈lY (K2 r))/\Ay n K st (k+1) K2 st2):=by
      have hR:=A.o.2.2.2.2.1;obtain ⟨m,hdn⟩:=A.o.2.2.2.2.2;rw [hN] at hdn;have h1:=A.o.1;have h3:=A.o.2.2.1;rw [hN] at hR h1 h3;exact ⟨h1,A.o.2.1,h3,fun r hr x hx=>hR.aaB r hr x (HA.o.2.2.1 r hr x hx),fun _=>hR.done HA.o.2.1,_,_,m,HA.o.2.2.2,hdn⟩
     go_wp2;go_roundg (n - (k+1))
     case measure=>omega
     case rel=>exact ⟨k+1,K2,D2,st2,zJ,zj,uM _,HD.o⟩
    have hNp:=YI.2 hN;have e1:qlt 0 N2.length=true:=zl;have e1n:decide (0<N2.length)=true:=zl;have bG:=Cs wr 0 A.o.1 A.o.2.2.1 A.o.2.2.2.1 (HW.o.2.2.2.mono A.o.2.1) hi ⟨zj,zj⟩
    have HB:Aside (Below B w wr/\Rnd n G K1 K2 N2/\N2≠ []/\∃m,LW K1 st1 (mK K1 n n) m K2 st2 N2):=⟨A.o.2.1,A.o.2.2.2.2.1,hN,A.o.2.2.2.2.2⟩
    obtain ⟨u1,cw⟩:=za wr;subst cw;go_wp2_with fail;refine bG.mono ?_;rintro e w3 ⟨v3,K3,D3,st3,N3,rfl,H3,HX⟩;have cz:=HB.o.2.1.next HA.o.2.1 HB.o.2.2.1 H3.o.2.2.2.2.1 H3.o.2.2.2.1
    have H4:Aside (p9 gd B n bm K3 st3 N3 w3/\Below B w w3/\r9 n i G K3 D3 st3 N3/\N3.length<=30/\Rnd n G K1 K3 N3/\∃m,LW K1 st1 (mK K1 n n) m K3 st3 N3):=by
     obtain ⟨cd,_,_,hdx⟩:=zcA (m:=0) H3.o.2.2.2.2.1 H3.o.2.2.2.2.2 HX.o;obtain ⟨m,hdn⟩:=HB.o.2.2.2;exact ⟨H3.o.1,HB.o.1.trans H3.o.2.1,H3.o.2.2.1,H3.o.2.2.2.1,cz.1,m+1,_,_,_,cd,hdn,HB.o.2.2.1,hdx⟩
    go_wp2;go_roundg (left N3)
    case measure=>omega
    case rel=>exact ⟨K3,D3,st3,N3,uM _,H4.o⟩
  have d1:qlt k n=false:=zl;have dg:decide (k<n)=false:=zl;obtain rfl:k=n:=zj;have hag:=OC wr hn A.o.1 (HW.o.2.2.2.mono A.o.2.1) (fun r hr=>by have:=A.o.2.2.1.y9 hr;omega)
  have HA:Aside (p9 gd B k bm K1 st1 [] wr/\Below B w wr/\r9 k i G K1 D1 st1 []/\(∀r,r<k->∀x∈lY (K r),x∈lY (K1 r))/\(∀r,r<k->∀x∈G,x∈lY (K1 r))/\Ay k K st k K1 st1):=⟨A.o.1,A.o.2.1,A.o.2.2.1,A.o.2.2.2.1,A.o.2.2.2.2.1 hn,A.o.2.2.2.2.2⟩
  obtain ⟨u0,b9⟩:=za wr;subst b9;go_wp2_with fail;refine hag.mono ?_;rintro e w2 ⟨z,rfl,HZ⟩
  have hal:Rb k K1:=fun r hr x=>⟨fun q=>HA.o.2.2.2.2.1 0 zj x (HA.o.2.2.1.G9.sub r hr x q),fun q=>HA.o.2.2.2.2.1 r hr x (HA.o.2.2.1.G9.sub 0 zj x q)⟩
  obtain rfl:z=true:=HZ.o.1 hal;go_wp2;go_ret;obtain ⟨_,_,_,_,_,_,_,_,hmz⟩:=HA.o.1;exact ⟨K1,D1,st1,rfl,⟨_,_,_,_,_,_,_,_,hmz.later HZ.o.2⟩,HA.o.2.1.trans (HZ.o.2.mono hmz.l9),HA.o.2.2.1,HA.o.2.2.2.1,HA.o.2.2.2.2⟩
abbrev zd0:=Nat×Nat×Bool×(Int×Int×Int×Int)×List OpX
def FV(x:nO):zd0:=(x.1,x.2.1,x.2.2.1,(x.2.2.2.1 0,x.2.2.2.1 1,x.2.2.2.1 2,x.2.2.2.1 3),IG x)
structure F3 (K L:qH) (s t:qD) (N M:qJ):Prop where
 D6:∀r,r<3->∀j,j<4->K r j=L r j
 x8:∀r,r<3->s r=t r
 B8:N.map FV=M.map FV
theorem F3.all{K L}{s t}{N M}(h:F3 K L s t N M){r}(hr:r<3):lY (K r)=lY (L r):=by
 unfold lY;rw [h.D6 r hr 0 zj,h.D6 r hr 1 zj,h.D6 r hr 2 zj,h.D6 r hr 3 zj]
theorem F3.vec{K L}{s t}{N M}(h:F3 K L s t N M){r}(hr:r<3){j}(hj:j<4):oW (K r) j=oW (L r) j:=by
 unfold oW;rw [h.D6 r hr j hj]
theorem F3.y9{K L}{s t}{N M}(h:F3 K L s t N M):N.length=M.length:=by
 have:=congrArg List.length h.B8;exact ko1
theorem F3.e{K L}{s t}{N M}(h:F3 K L s t N M){k:Nat}{x}(hx:N[k]? =some x):∃y,M[k]? =some y/\FV x=FV y:=by
 have e:=congrArg (fun l=>l[k]?) h.B8
 grind
theorem oX{α β:Type}(f:α->β):∀(l:List α) (k:Nat),(l.eraseIdx k).map f=(l.map f).eraseIdx k
 | [],k=>zq
 | a::l,0=>zq
 | a::l,k+1=>by simp [oX f l k]
theorem PY{A}{T}{i n}{x}{a a'}(h:Fr A T i n x a)(h':Fr A T i n x a'):a=a':=by
 rcases h with ⟨q,h⟩ | ⟨q1,q2,q3,q4,h⟩<;>rcases h' with ⟨k,h'⟩ | ⟨k1,k2,k3,k4,h'⟩
 ·exact h.one h'
 ·omega
 ·omega
 rw [h,h']
theorem Ej{R}(hR:t7 R){ys zs}(h:nH (lY R) ys)(h':nH (lY R) zs):ys=zs:=by
 have T9:∀ {ys:qX},nH (lY R) ys->ys.Pairwise (fun a b=>CLt (stO a) (stO b)):=fun {ys} hs=>by
  have hp:=nA hs;have bU:=hp.1.nodup_iff.2 hR.num.I7;refine KL hp.2 ?_;rw [ZJ];intro i j hi hj ay e;have:=hR.G5.J (hp.1.mem_iff.1 (Qc hi)) (hp.1.mem_iff.1 (Qc hj)) e;exact absurd this (ZJ.1 bU i j hi hj ay)
 exact Gu (T9 h) (T9 h') (fun x=>by rw [(nA h).1.mem_iff,(nA h').1.mem_iff])
theorem LF{u v}(h:∀j,j<4->u j=v j){x}(hx:mz x=0):pG u x=pG v x:=by
 grind [Ab,pG]
theorem Ko{R R'}(hR:t7 R)(hRR:lY R=lY R'){u v}(huv:∀j,j<4->u j=v j){F F'}(h:rC R u F)(h':rC R' v F'):F=F':=by
 obtain ⟨ys,h1,rfl⟩:=h;obtain ⟨zs,k1,rfl⟩:=h';rw [<-hRR] at k1;rw [Ej hR h1 k1];refine List.filter_congr (fun x hx=> ?_);rw [LF huv (hR.num.ok x ((nA k1).1.mem_iff.1 hx))]
theorem Cg{K L}{s t}{N M}(h:F3 K L s t N M){a}(ha:a<3){R R'}(hR:t7 R)(hR':t7 R')(e:∀x,x∈lY R↔x∈lY R'):∀r,r<3->∀j,j<4->lR K a R r j=lR L a R' r j:=fun r hr j hj=>by
 by_cases q:r=a
 ·subst q;rw [lU,lU];exact ri hR.num hR'.num e hj
 rw [lP _ _ q,lP _ _ q];exact h.D6 r hr j hj
theorem rS{K L}{s t}{N M}(h:F3 K L s t N M){a}{x y}(e:x=y):∀r,r<3->lR s a x r=lR t a y r:=fun r hr=>by
 by_cases q:r=a
 ·subst q;rw [lU,lU];exact e
 exact km6
section
variable {K L K' L':qH} {s t s' t':qD} {N M N' M':qJ}
theorem zaw(hS:F3 K L s t N M){r}(hr:r<3){y0 yy zz}{cd0 c d}(h:DoX K K' s s' r y0 cd0 yy c)(h':DoX L L' t t' r y0 cd0 zz d):c=d/\(∀q,q<3->∀j,j<4->K' q j=L' q j)/\∀q,q<3->s' q=t' q:=by
 have e:=hS.x8 r hr
 rcases h with ⟨a0,a1,_,rfl,rfl⟩ | ⟨a0,a1,a2,_,rfl,rfl⟩ | ⟨a0,a1,a2,_,⟨R,rfl,hR,hm⟩,rfl⟩<;>rcases h' with ⟨b0,b1,_,rfl,rfl⟩ | ⟨b0,b1,b2,_,rfl,rfl⟩ | ⟨b0,b1,b2,_,⟨R',rfl,hR',hm'⟩,rfl⟩
 ·exact ⟨by rw [a1,b1],hS.D6,hS.x8⟩
 ·exact absurd b0 a0
 ·exact absurd b0 a0
 ·exact absurd a0 b0
 ·exact ⟨by rw [a2,b2,e],hS.D6,rS hS (by rw [e])⟩
 ·simp_all
 ·exact absurd a0 b0
 ·simp_all
 exact ⟨by rw [a2,b2],Cg hS hr hR hR' (fun x=>by rw [hm,hm',hS.all hr]),rS hS (by rw [e])⟩
theorem Xc(hS:F3 K L s t N M){r q}(hr:r<3){c d}(h:zdw K s N r q K' s' N' c)(h':zdw L t M r q L' t' M' d):c=d/\F3 K' L' s' t' N' M':=by
 have hl:=hS.y9;obtain ⟨rfl,rfl,h⟩:=h;obtain ⟨rfl,rfl,h'⟩:=h'
 rcases h with ⟨a1,a2,rfl⟩ | ⟨a1,a2,rfl⟩<;>rcases h' with ⟨b1,b2,rfl⟩ | ⟨b1,b2,rfl⟩
 ·refine ⟨by rw [a2,b2],hS.D6,hS.x8,?_⟩;rw [Zz,Zz,hS.B8];simp only [ZR,Yu,FV,DL];rw [hS.vec hr (show 0<4 by omega),hS.vec hr (show 1<4 by omega),hS.vec hr (show 2<4 by omega),hS.vec hr (show 3<4 by omega)]
 ·omega
 ·omega
 simp_all
theorem UU(hS:F3 K L s t N M){m}{c d}(h:zdu K s N m K' s' N' c)(h':zdu L t M m L' t' M' d):c=d/\F3 K' L' s' t' N' M':=by
 have hl:=hS.y9;obtain ⟨rfl,rfl,h⟩:=h;obtain ⟨rfl,rfl,h'⟩:=h'
 rcases h with ⟨a1,a2,rfl⟩ | ⟨a1,a2,rfl⟩<;>rcases h' with ⟨b1,b2,rfl⟩ | ⟨b1,b2,rfl⟩
 ·simp_all
 ·omega
 ·omega
 exact ⟨by rw [a2,b2],hS.D6,hS.x8,by rw [oX,oX,hS.B8]⟩
theorem Rg(hS:F3 K L s t N M){m}{c d}(h:zdr K s N m K' s' N' c)(h':zdr L t M m L' t' M' d):c=d/\F3 K' L' s' t' N' M':=by
 have hl:=hS.y9;obtain ⟨rfl,rfl,h⟩:=h;obtain ⟨rfl,rfl,h'⟩:=h'
 rcases h with ⟨a1,a2,rfl⟩ | ⟨x,hx,h⟩<;>rcases h' with ⟨b1,b2,rfl⟩ | ⟨y,hy,h'⟩
 ·simp_all
 ·simp_all
 ·simp_all
 obtain ⟨y',gT,e⟩:=hS.e hx;rw [hy] at gT
 cases gT
 rcases h with ⟨a1,a2,rfl⟩ | ⟨a1,a2,rfl⟩<;>rcases h' with ⟨b1,b2,rfl⟩ | ⟨b1,b2,rfl⟩
 ·exact ⟨by rw [a2,b2],hS.D6,hS.x8,by rw [Zz,Zz,hS.B8];simp only [ZR,Yu];rw [e]⟩
 ·omega
 ·omega
 simp_all
theorem Qw(hS:F3 K L s t N M){a}(ha:a<3){l l'}(jx:l=l'){c d}(h:LZ K K' s s' a l c)(h':LZ L L' t t' a l' d):c=d/\(∀q,q<3->∀j,j<4->K' q j=L' q j)/\∀q,q<3->s' q=t' q:=by
 subst jx;have e:=hS.x8 a ha
 rcases h with ⟨ix,h1,rfl,rfl⟩ | ⟨fr,R,F,h1,rfl,hR,hm,hF,h2,rfl⟩<;>rcases h' with ⟨ix',k1,rfl,rfl⟩ | ⟨fr',R',F',k1,rfl,hR',hm',hF',k2,rfl⟩
 ·rw [hS.all ha] at h1;have:=As h1 k1
  cases this
  exact ⟨rfl,hS.D6,hS.x8⟩
 ·rw [hS.all ha] at h1
  cases As h1 k1
 ·rw [hS.all ha] at h1
  cases As h1 k1
 have ff:∀x,x∈lY R↔x∈lY R':=fun x=>by rw [hm,hm',hS.all ha]
 have hRR:lY R=lY R':=by
  unfold lY;rw [ri hR.num hR'.num ff (show 0<4 by omega),ri hR.num hR'.num ff (show 1<4 by omega),ri hR.num hR'.num ff (show 2<4 by omega),ri hR.num hR'.num ff (show 3<4 by omega)]
 have hFF:=Ko hR hRR (fun j hj=>hS.vec ha hj) hF hF'
 grind [Cg,rS]
theorem PJ(hS:F3 K L s t N M)(hK:∀q,q<3->t7 (K q))(gW:∀x∈N,x.2.1<3){m}{c d}(h:Wl K s N m K' s' N' c)(h':Wl L t M m L' t' M' d):c=d/\F3 K' L' s' t' N' M':=by
 have hl:=hS.y9
 rcases h with ⟨a1,a2,rfl,rfl,rfl⟩ | ⟨x,hx,h⟩<;>rcases h' with ⟨b1,b2,rfl,rfl,rfl⟩ | ⟨y,hy,h'⟩
 ·simp_all
 ·simp_all
 ·simp_all
 obtain ⟨y',gT,e⟩:=hS.e hx;rw [hy] at gT
 cases gT
 have ht:=gW x (uR hx)
 have hlx:(N.eraseIdx m).length=(M.eraseIdx m).length:=by
  have h1:=(uK.1 hx).1;rw [List.length_eraseIdx,List.length_eraseIdx,if_pos h1,if_pos zj,hl]
 obtain ⟨x1,x2,x3,x4,x5,x6,x7⟩:=x;obtain ⟨y1,y2,y3,y4,y5,y6,y7⟩:=y;simp only [FV,Prod.mk.injEq] at e;obtain ⟨rfl,rfl,rfl,⟨e0,e1,e2,e3⟩,e7⟩:=e;dsimp only at h h' ht;have e7':x7=y7:=e7
 rcases h with ⟨a0,a2,rfl,rfl,F,hF,hN⟩ | ⟨a0,rfl,hY⟩<;>rcases h' with ⟨b0,b2,rfl,rfl,F',hF',hN'⟩ | ⟨b0,rfl,hY'⟩
 ·have hFF:=Ko (hK _ ht) (hS.all ht) (fun j hj=>by
   grind) hF hF'
  subst hFF;refine ⟨by rw [a2,b2],hS.D6,hS.x8,?_⟩
  rcases hN with ⟨q,rfl⟩ | ⟨q1,q2,ao,cap,rfl⟩<;>rcases hN' with ⟨q',rfl⟩ | ⟨q1',q2',ao',cap',rfl⟩
  ·rw [oX,oX,hS.B8]
  ·grind
  ·grind
  rw [Zz,Zz,oX,oX,hS.B8];rfl
 ·simp_all
 ·simp_all
 obtain ⟨r1,r2,r3⟩:=Qw hS ht e7' hY hY';exact ⟨r1,r2,r3,by rw [oX,oX,hS.B8]⟩
def WfM(K:qH)(N:qJ):Prop:=(∀q,q<3->t7 (K q))/\∀x∈N,x.1<3/\x.2.1<3
theorem rT{a}{R}(h:∀q,q<3->t7 (K q))(hR:t7 R):∀q,q<3->t7 (lR K a R q):=fun q hq=>by
 grind [lU,lP]
end
def Qq(A:qX)(ms:List Mov)(qs:List Plc):Prop:=ms.Perm (pu A)/\ml ms/\D4 (mX ms) qs
def ME(A:qX)(i:Int)(es:List Enx):Prop:=∃ms qs,Qq A ms qs/\NI qs i es
def Js(A:qX)(path:qU)(b:Int)(is:Bool):Prop:=
 (Lib.hasPrefix path [47]=false/\b=0/\is=false)\/(path= [47]/\b=0/\is=true)\/
 ∃nm,path=47::nm/\nm≠ []/\∃ms qs,Qq A ms qs/\((is=true/\K5 qs 0 (nk 47 nm) b)\/(is=false/\b=0/\∃pre n1 rest b1,pre++n1::rest=nk 47 nm/\K5 qs 0 pre b1/\Cq qs b1 n1))
def LD(A:qX)(l8:Int)(s:qU)(is:Bool):Prop:=
 (l8=0/\s= [47]/\is=true)\/(l8≠0/\∃ms qs,Qq A ms qs/\((¬Ins (mX ms) l8 0/\s= []/\is=false)\/(Ins (mX ms) l8 0/\∃L,UpL (mX ms) l8 L/\s=zas qs L/\is=true)))
def JX:qU:=[110,111,116,104,105,110,103]
def okE(cd:Nat):qU:=if cd=0 then [111,107] else sg cd
def DoS(K:qH)(st:qD)(N:qJ)(r:Nat)(y:OpX)(K':qH)(st':qD)(N':qJ)(a:qU):Prop:=N'=N/\∃T y0 cd0 yy cd,oA (lY (K r)) T/\Fr (lY (K r)) T r (K r r).length y (y0,cd0)/\DoX K K' st st' r y0 cd0 yy cd/\a=(if cd=0 then Lib.itoa (idO yy) else sg cd)
def Tg(g:Nat)(x:IL)(K:qH)(st:qD)(N:qJ)(K':qH)(st':qD)(N':qJ)(a:qU):Prop:=match g with
 | 31=>∃(r:Nat) (n0:Int) (x0:qY),x=([(r:Int)],[n0],[x0])/\DoS K st N r (0,0,0,109,0,n0,x0,⟨#[]⟩) K' st' N' a
 | 33=>∃(r:Nat) (n0 n1:Int) (x0:qY),x=([(r:Int)],[n0,n1],[x0])/\((n0=0/\K'=K/\st'=st/\N'=N/\a=sg 6)\/(n0≠0/\DoS K st N r (0,0,0,109,n0,n1,x0,⟨#[]⟩) K' st' N' a))
 | 34=>∃(r:Nat) (n0 n1:Int) (x0:qY),x=([(r:Int)],[n0,n1],[x0])/\DoS K st N r (0,0,0,105,n0,n1,⟨#[]⟩,x0) K' st' N' a
 | 35=>∃(r:Nat) (n0 n1:Int),x=([(r:Int)],[n0,n1],[])/\DoS K st N r (0,0,0,100,n0,n1,⟨#[]⟩,⟨#[]⟩) K' st' N' a
 | 36=>∃(r:Nat) (n0:Int) (x0 x1:qY),x=([(r:Int)],[n0],[x0,x1])/\DoS K st N r (0,0,0,115,n0,0,x0,x1) K' st' N' a
 | 38=>∃(r q cd:Nat),x=([(r:Int),(q:Int)],[],[])/\a=okE cd/\((r=q/\cd=2/\K'=K/\st'=st/\N'=N)\/(r≠q/\zdw K st N r q K' st' N' cd))
 | 40=>∃(m cd:Nat),x=([],[(m:Int)],[])/\a=okE cd/\Wl K st N m K' st' N' cd
 | 42=>∃(m cd:Nat),x=([],[(m:Int)],[])/\a=okE cd/\zdu K st N m K' st' N' cd
 | 44=>∃(m cd:Nat),x=([],[(m:Int)],[])/\a=okE cd/\zdr K st N m K' st' N' cd
 | 46=>∃(r:Nat) (n0:Int),x=([(r:Int)],[n0],[])/\a=okE (JS (st r).2.1 n0)/\K'=K/\N'=N/\st'=lR st r (BH (st r) n0)
 | 48=>∃(r:Nat),x=([(r:Int)],[],[])/\a=okE 0/\N'=N/\Ti K K' st st' r
 | 50=>x=([],[],[])/\a= [121,101,115]/\N'= []/\UD K st K' st'
 | 53=>x=([],[],[])/\a=Lib.itoa (N.length:Int)/\K'=K/\st'=st/\N'=N
 | 57=>∃(r:Nat) (s:qU),x=([(r:Int)],[],[])/\a=Oc s/\G3 (lY (K r)) s/\K'=K/\st'=st/\N'=N
 | 59=>∃(r:Nat) (n0:Int) (es:List Enx),x=([(r:Int)],[n0],[])/\a=TA es/\ME (lY (K r)) n0 es/\K'=K/\st'=st/\N'=N
 | 61=>∃(r:Nat) (x0:qY) (b:Int) (is:Bool),x=([(r:Int)],[],[x0])/\a=(if is=true then Lib.itoa b else JX)/\Js (lY (K r)) x0.data.toList b is/\K'=K/\st'=st/\N'=N
 | 63=>∃(r:Nat) (n0:Int) (s:qU) (is:Bool),x=([(r:Int)],[n0],[])/\a=(if is=true then s else JX)/\LD (lY (K r)) n0 s is/\K'=K/\st'=st/\N'=N
 | _=>∃(r:Nat),x=([(r:Int)],[],[])/\a=QL (oW (K r) 0) (oW (K r) 1) (oW (K r) 2) (oW (K r) 3)/\K'=K/\st'=st/\N'=N
def LX(C9:qY)(K:qH)(st:qD)(N:qJ)(K':qH)(st':qD)(N':qJ)(a:qU):Prop:=match rB C9 with
 | []=>False
 | p::ps=>match tblAll.lookup p.data.toList with
  | none=>K'=K/\st'=st/\N'=N/\a=sg 1
  | some sp=>match nj sp.2.1.data.toList ps with
   | none=>K'=K/\st'=st/\N'=N/\a=sg 1
   | some x=>Tg sp.2.2 x K st N K' st' N' a
def LsX:List ByteArray->(Nat->Rws)->(Nat->DSt)->List nO->(Nat->Rws)->(Nat->DSt)->List nO->List qU->Prop
 | [],K,st,N,K',st',N',tl=>K'=K/\st'=st/\N'=N/\tl= []
 | l::ls,K,st,N,K',st',N',tl=>∃K1 st1 N1 a bs,LX l K st N K1 st1 N1 a/\LsX ls K1 st1 N1 K' st' N' bs/\tl=a::bs
theorem LsX.aaV:∀ {ls:List ByteArray} {l:qY} {K K1 K':qH} {st st1 st':qD} {N N1 N':qJ} {tl:List qU} {a:qU},LsX ls K st N K1 st1 N1 tl->LX l K1 st1 N1 K' st' N' a->LsX (ls++ [l]) K st N K' st' N' (tl++ [a])
 | [],l,K,K1,K',st,st1,st',N,N1,N',tl,a,h,k=>by
  obtain ⟨rfl,rfl,rfl,rfl⟩:=h;exact ⟨_,_,_,a,[],k,⟨rfl,rfl,rfl,rfl⟩,rfl⟩
 | x::ls,l,K,K1,K',st,st1,st',N,N1,N',tl,a,h,k=>by
  obtain ⟨K2,st2,N2,b,bs,h1,h2,rfl⟩:=h;exact ⟨K2,st2,N2,b,bs++ [a],h1,LsX.aaV h2 k,rfl⟩
def QR(x:IL):Prop:=(∀r∈x.1,0<=r/\r<3)/\(∀n∈x.2.1,0<=n/\n<=9999999)/\∀u∈x.2.2,u.size<=1000000
theorem Dl:∀ {ks:qU} {ps:List ByteArray} {s x:IL},(∀u∈ps,u.size<=1000000)->QR s->og ks ps s=some x->QR x
 | [],ps,s,x,_,h,e=>by simp only [og] at e;cases e;exact h
 | k::ks,[],s,x,_,h,e=>by simp only [og] at e;cases e;exact h
 | k::ks,p::ps,s,x,hp,h,e=>by
  simp only [og] at e;split at e
  ·rename_i ht;refine Dl (fun u hu=>hp u (Za _ hu)) ?_ e
   unfold nw at ht |-
   have hnum:∀n,pq 7 p.data.toList=some n->n<=9999999:=fun n hn=>by have:=Dv 7 _ n hn;omega
   split
   ·rename_i hk;rw [if_pos hk] at ht;simp only [Yk,decide_eq_true_eq] at ht;refine ⟨fun r hr=> ?_,h.2.1,h.2.2⟩
    rcases uU.1 hr with hr | hr
    ·exact h.1 r hr
    grind
   rename_i hk;rw [if_neg hk] at ht;split
   ·rename_i hk2;rw [if_pos hk2] at ht;refine ⟨h.1,fun r hr=> ?_,h.2.2⟩
    rcases uU.1 hr with hr | hr
    ·exact h.2.1 r hr
    rw [Zc.1 hr];obtain ⟨n,hn⟩:=Yl.1 ht
    grind
   refine ⟨h.1,h.2.1,fun u hu=> ?_⟩
   rcases uU.1 hu with hu | hu
   ·exact h.2.2 u hu
   simp_all
  cases e
theorem Ny{form}{ps}{x}(hp:∀u∈ps,u.size<=1000000)(e:nj form ps=some x):QR x:=by
 unfold nj at e;split at e
 ·exact Dl hp ⟨zq,zq,zq⟩ e
 cases e
theorem Ei{A}{ms ms'}{qs qs'}(h:Qq A ms qs)(h':Qq A ms' qs'):ms=ms'/\qs=qs':=by
 have e:=CO h.2.1 h'.2.1 (h.1.trans h'.1.symm);subst e;exact ⟨rfl,h.2.2.q h'.2.2⟩
theorem TR{A}{i}{es es'}(h:ME A i es)(h':ME A i es'):es=es':=by
 obtain ⟨ms,qs,h1,h2⟩:=h;obtain ⟨ms',qs',k1,k2⟩:=h';obtain ⟨rfl,rfl⟩:=Ei h1 k1;exact sV h1.2.2.K7 h2 k2
theorem Fp{qs}(hr:qs.Pairwise (fun a b=>a.1<b.1)){a b c}{nm}(h:tP qs a nm b)(k:tP qs a nm c):b=c:=by
 obtain ⟨es,i,e,h1,h2,h3,h4,rfl⟩:=h;obtain ⟨es',j,e',k1,k2,k3,k4,rfl⟩:=k
 grind [sV,Qa]
theorem VB{qs}(hr:qs.Pairwise (fun a b=>a.1<b.1)){a b}{nm}(h:tP qs a nm b)(k:Cq qs a nm):False:=by
 obtain ⟨es,i,e,h1,h2,h3,_,_⟩:=h;obtain ⟨es',k1,k2⟩:=k
 grind [sV,uR]
theorem Kr{qs}(hr:qs.Pairwise (fun a b=>a.1<b.1)):∀ {l:List qU} {a b c:Int},K5 qs a l b->K5 qs a l c->b=c
 | [],a,b,c,h,k=>(show a=b from h).symm.trans k
 | x::l,a,b,c,⟨d,h1,h2⟩,⟨d',k1,k2⟩=>by
  obtain rfl:=Fp hr h1 k1;exact Kr hr h2 k2
theorem QO{qs}(hr:qs.Pairwise (fun a b=>a.1<b.1)):∀ {pre:List qU} {nm:qU} {rest:List qU} {a b c:Int},K5 qs a (pre++nm::rest) b->K5 qs a pre c->Cq qs c nm->False
 | [],nm,rest,a,b,c,⟨d,h1,_⟩,k,hn=>by
  rw [<-show a=c from k] at hn;exact VB hr h1 hn
 | x::pre,nm,rest,a,b,c,⟨d,h1,h2⟩,⟨d',k1,k2⟩,hn=>by
  obtain rfl:=Fp hr h1 k1;exact QO hr h2 k2 hn
theorem VF{A}{path}{b b'}{is is'}(h:Js A path b is)(h':Js A path b' is'):b=b'/\is=is':=by
 rcases h with ⟨p,rfl,rfl⟩ | ⟨rfl,rfl,rfl⟩ | ⟨nm,rfl,hn,ms,qs,h1,h2⟩<;>rcases h' with ⟨p',rfl,rfl⟩ | ⟨e',rfl,rfl⟩ | ⟨nm',e',hn',ms',qs',k1,k2⟩
 ·exact kh6
 ·subst e';simp [Lib.hasPrefix] at p
 ·subst e';simp [Lib.hasPrefix] at p
 ·simp [Lib.hasPrefix] at p'
 ·exact kh6
 ·simp_all
 ·simp [Lib.hasPrefix] at p'
 ·simp_all
 cases e'
 obtain ⟨rfl,rfl⟩:=Ei h1 k1;have hr:=h1.2.2.K7
 grind [Kr,QO]
theorem XS{f} :∀ {L L':List Plc} {x:Int},UpL f x L->UpL f x L'->L=L'
 | [],[],_,_,_=>rfl
 | [],p::l,x,h,k=>by
  have h0:f x=none:=h;have h1:=k.1
  simp_all
 | p::l,[],x,h,k=>by
  have h0:f x=none:=k;have h1:=h.1
  simp_all
 | p::l,q::m,x,h,k=>by
  obtain ⟨h1,h2⟩:=h;obtain ⟨k1,k2⟩:=k;rw [h1] at k1
  cases k1
  rw [XS h2 k2]
theorem WM{A}{l8}{s s'}{is is'}(h:LD A l8 s is)(h':LD A l8 s' is'):s=s'/\is=is':=by
 rcases h with ⟨rfl,rfl,rfl⟩ | ⟨hn,ms,qs,h1,h2⟩<;>rcases h' with ⟨e',rfl,rfl⟩ | ⟨hn',ms',qs',k1,k2⟩
 ·exact kh6
 ·exact absurd rfl hn'
 ·exact absurd e' hn
 grind [Ei,XS]
section
variable {K L K' L':qH} {s t s' t':qD} {N M N' M':qJ}
theorem zbK(hS:F3 K L s t N M){r}(hr:r<3){y}{a b}(h:DoS K s N r y K' s' N' a)(h':DoS L t M r y L' t' M' b):a=b/\F3 K' L' s' t' N' M':=by
 obtain ⟨rfl,T,y0,cd0,yy,cd,h1,h2,h3,rfl⟩:=h;obtain ⟨rfl,T',z0,dd0,zz,dd,k1,k2,k3,rfl⟩:=h';have eA:=hS.all hr;rw [eA] at h1 h2;obtain rfl:=nt h1 k1;rw [hS.D6 r hr r zj] at h2;have e:=PY h2 k2
 cases e
 obtain ⟨rfl,q1,q2⟩:=zaw hS hr h3 k3;refine ⟨?_,q1,q2,hS.B8⟩;by_cases hc:cd=0
 ·rw [if_pos hc,if_pos hc]
  have e1:yy=y0:=by
   rcases h3 with ⟨p1,p2,_⟩ | ⟨_,p2,p3,_⟩ | ⟨_,_,_,e,_⟩
   ·exact absurd (p2.symm.trans hc) p1
   ·exact absurd (p3.symm.trans hc) p2
   exact e
  have e2:zz=y0:=by
   rcases k3 with ⟨p1,p2,_⟩ | ⟨_,p2,p3,_⟩ | ⟨_,_,_,e,_⟩
   ·exact absurd (p2.symm.trans hc) p1
   ·exact absurd (p3.symm.trans hc) p2
   exact e
  rw [e1,e2]
 simp_all
theorem BT{α β:Type}{f g:α->List β} :∀ {l:List α},(∀a∈l,f a=g a)->l.flatMap f=l.flatMap g
 | [],_=>rfl
 | a::l,h=>by rw [List.flatMap_cons,List.flatMap_cons,h a zq,BT (fun b hb=>h b (by simp [hb]))]
theorem WL(hS:F3 K L s t N M):∀m,m<=3->(mK K 3 m).map FV=(mK L 3 m).map FV:=by
 intro m hm;unfold mK;rw [List.map_flatMap,List.map_flatMap];refine BT (fun a ha=> ?_)
 have ha3:a<3:=by have:=List.mem_range.1 ha;omega
 unfold nN;rw [YQ,YQ];refine Yp (fun b _=> ?_);simp only [Function.comp,FV,DL];rw [hS.vec ha3 (show 0<4 by omega),hS.vec ha3 (show 1<4 by omega),hS.vec ha3 (show 2<4 by omega),hS.vec ha3 (show 3<4 by omega)]
theorem Ww(h:WfM K N){m c}(hd:Wl K s N m K' s' N' c):WfM K' N':=by
 rcases hd with ⟨_,_,rfl,_,rfl⟩ | ⟨x,hx,⟨_,_,rfl,_,F,_,hN⟩ | ⟨_,rfl,hY⟩⟩
 ·exact h
 ·have h2:=h.2 x (uR hx)
  rcases hN with ⟨_,rfl⟩ | ⟨_,_,ao,cap,rfl⟩
  ·exact ⟨h.1,fun y hy=>h.2 y (ZN hy)⟩
  refine ⟨h.1,fun y hy=> ?_⟩
  rcases uU.1 hy with q | q
  ·exact h.2 y (ZN q)
  simp_all
 refine ⟨?_,fun y hy=>h.2 y (ZN hy)⟩
 rcases hY with ⟨_,_,rfl,_⟩ | ⟨_,R,_,_,rfl,hR,_⟩
 ·exact h.1
 exact rT h.1 hR
theorem FL(h:WfM K N):∀ {m:Nat} {K':qH} {s':qD} {N':qJ},LW K s N m K' s' N'->WfM K' N'
 | 0,_,_,_,⟨e1,_,e3⟩=>by rw [e1,e3];exact h
 | m+1,_,_,_,⟨K1,s1,N1,cd,h1,_,h3⟩=>Ww (FL h h1) h3
theorem wK(hS:F3 K L s t N M)(hW:WfM K N):∀ {m:Nat} {K' L':qH} {s' t':qD} {N' M':qJ},LW K s N m K' s' N'->LW L t M m L' t' M'->F3 K' L' s' t' N' M'
 | 0,_,_,_,_,_,_,⟨e1,e2,e3⟩,⟨f1,f2,f3⟩=>zM
 | m+1,_,_,_,_,_,_,⟨K1,s1,N1,cd,h1,h2,h3⟩,⟨L1,t1,M1,dd,k1,k2,k3⟩=>by
  have hs:=wK hS hW h1 k1;have hw:=FL hW h1;exact (PJ hs hw.1 (fun x hx=>(hw.2 x hx).2) h3 k3).2
theorem Fy:∀ {m j:Nat} {K':qH} {s':qD} {N':qJ},LW K s N m K' s' N'->j<m->∃K1 s1 N1,LW K s N j K1 s1 N1/\N1≠ []
 | 0,j,_,_,_,_,hj=>absurd hj zj
 | m+1,j,_,_,_,⟨K1,s1,N1,cd,h1,h2,h3⟩,hj=>by
  by_cases e:j=m
  ·grind
  exact Fy h1 zj
theorem F3.nil{K L}{s t}{N M}(h:F3 K L s t N M):N= []↔M= []:=by
 have:=h.y9
 grind
theorem Vd(hS:F3 K L s t N M)(hW:WfM K N){m n}(h:LW K s N m K' s' [])(h':LW L t M n L' t' []):F3 K' L' s' t' [] []:=by
 rcases Qa m n with q | q | q
 ·obtain ⟨L1,t1,M1,k1,k2⟩:=Fy h' q;exact absurd ((wK hS hW h k1).nil.1 rfl) k2
 ·subst q;exact wK hS hW h h'
 obtain ⟨K1,s1,N1,k1,k2⟩:=Fy h q;exact absurd ((wK hS hW k1 h').nil.2 rfl) k2
theorem Ii(h:∀q,q<3->t7 (K q)):WfM K (mK K 3 3):=⟨h,fun x hx=>by
 obtain ⟨a,b,ha,hb,_,rfl⟩:=mem_asks.1 hx
 exact ⟨ha,hb⟩⟩
theorem AY(h:∀q,q<3->t7 (K q)):∀ {k:Nat} {K':qH} {s':qD},Ay 3 K s k K' s'->∀q,q<3->t7 (K' q)
 | 0,_,_,⟨e,_⟩=>by rw [e];exact h
 | k+1,_,_,⟨K1,s1,m,h1,h2⟩=>(FL (Ii (AY h h1)) h2).1
theorem Fe(hS:F3 K L s t [] [])(hW:∀q,q<3->t7 (K q)):∀ {k:Nat} {K' L':qH} {s' t':qD},Ay 3 K s k K' s'->Ay 3 L t k L' t'->F3 K' L' s' t' [] []
 | 0,_,_,_,_,⟨e,f⟩,⟨e',f'⟩=>zM
 | k+1,_,_,_,_,⟨K1,s1,m,h1,h2⟩,⟨L1,t1,n,k1,k2⟩=>by
  have hs:=Fe hS hW h1 k1;have hw:=AY hW h1;exact Vd ⟨hs.D6,hs.x8,WL hs 3 zg⟩ (Ii hw) h2 k2
theorem Qv(fG:F3 K L s t N M)(hW:∀q,q<3->t7 (K q)){k}(h:Ay 3 K s k K' s')(h':Ay 3 L t k L' t'):F3 K' L' s' t' [] []:=Fe ⟨fG.D6,fG.x8,rfl⟩ hW h h'
theorem XE(hS:F3 K L s t N M)(hW:WfM K N){g}{x}(hx:QR x){a b}(h:Tg g x K s N K' s' N' a)(h':Tg g x L t M L' t' M' b):a=b/\F3 K' L' s' t' N' M':=by
 have hr1:∀ {r:Nat} {l ws},x=((r:Int)::l,ws)->r<3:=fun {r l ws} e=>by
  have:=hx.1 (r:Int) (by rw [e];simp);omega
 have same:∀ {a b:qU},a=b->K'=K->s'=s->N'=N->L'=L->t'=t->M'=M->a=b/\F3 K' L' s' t' N' M':=fun e e1 e2 e3 f1 f2 f3=>by
  simp_all
 unfold Tg at h h';split at h
 ·obtain ⟨r,n0,x0,rfl,h⟩:=h;obtain ⟨q,m0,y0,e,h'⟩:=h';exact kd9
 ·obtain ⟨r,n0,n1,x0,rfl,h⟩:=h;obtain ⟨q,m0,m1,y0,e,h'⟩:=h';exact kd9
 ·obtain ⟨r,n0,n1,x0,rfl,h⟩:=h;obtain ⟨q,m0,m1,y0,e,h'⟩:=h';exact kd9
 ·obtain ⟨r,n0,n1,rfl,h⟩:=h;obtain ⟨q,m0,m1,e,h'⟩:=h';exact kd9
 ·obtain ⟨r,n0,x0,x1,rfl,h⟩:=h;obtain ⟨q,m0,y0,y1,e,h'⟩:=h';exact kd9
 ·obtain ⟨r,q,cd,rfl,rfl,h⟩:=h;obtain ⟨r',q',dd,e,rfl,h'⟩:=h';simp only [Prod.mk.injEq,List.cons.injEq,ZW,and_true] at e
  grind [Xc]
 ·obtain ⟨m,cd,rfl,rfl,h⟩:=h;obtain ⟨m',dd,e,rfl,h'⟩:=h';simp only [Prod.mk.injEq,List.cons.injEq,ZW,and_true,true_and] at e;subst e;obtain ⟨rfl,q⟩:=PJ hS hW.1 (fun x hx=>(hW.2 x hx).2) h h';exact ⟨rfl,q⟩
 ·obtain ⟨m,cd,rfl,rfl,h⟩:=h;obtain ⟨m',dd,e,rfl,h'⟩:=h';simp only [Prod.mk.injEq,List.cons.injEq,ZW,and_true,true_and] at e
  grind [UU]
 ·obtain ⟨m,cd,rfl,rfl,h⟩:=h;obtain ⟨m',dd,e,rfl,h'⟩:=h';simp only [Prod.mk.injEq,List.cons.injEq,ZW,and_true,true_and] at e
  grind [Rg]
 ·obtain ⟨r,n0,rfl,rfl,rfl,rfl,rfl⟩:=h;obtain ⟨q,m0,e,rfl,rfl,rfl,rfl⟩:=h';simp only [Prod.mk.injEq,List.cons.injEq,ZW,and_true] at e;obtain ⟨rfl,rfl⟩:=e;have ed:=hS.x8 r (hr1 rfl);exact ⟨by rw [ed],hS.D6,rS hS (by rw [ed]),hS.B8⟩
 ·obtain ⟨r,rfl,rfl,rfl,⟨R,rfl,hR,hm⟩,rfl⟩:=h;obtain ⟨q,e,rfl,rfl,⟨R',rfl,hR',hm'⟩,rfl⟩:=h';simp only [Prod.mk.injEq,List.cons.injEq,ZW,and_true] at e;subst e;have hr:=hr1 (r:=r) rfl;have ed:=hS.x8 r hr;exact ⟨rfl,Cg hS hr hR hR' (fun x=>by rw [hm,hm',ed]),rS hS (by rw [ed]),hS.B8⟩
 ·obtain ⟨-,rfl,rfl,h⟩:=h;obtain ⟨-,rfl,rfl,h'⟩:=h';exact ⟨rfl,Qv hS hW.1 h.1 h'.1⟩
 ·obtain ⟨-,rfl,rfl,rfl,rfl⟩:=h;obtain ⟨-,rfl,rfl,rfl,rfl⟩:=h';exact ⟨by rw [hS.y9],hS⟩
 ·obtain ⟨r,u,rfl,rfl,h,h1,h2,h3⟩:=h;obtain ⟨q,v,e,rfl,h',k1,k2,k3⟩:=h';simp only [Prod.mk.injEq,List.cons.injEq,ZW,and_true] at e;subst e;have hr:=hr1 (r:=r) rfl;refine same ?_ h1 h2 h3 k1 k2 k3;rw [h.same (hW.1 r hr).G5 (List.Perm.of_eq (hS.all hr)) h']
 ·obtain ⟨r,n0,es,rfl,rfl,h,h1,h2,h3⟩:=h;obtain ⟨q,m0,es',e,rfl,h',k1,k2,k3⟩:=h';simp only [Prod.mk.injEq,List.cons.injEq,ZW,and_true] at e;obtain ⟨rfl,rfl⟩:=e;rw [hS.all (hr1 rfl)] at h
  grind [TR]
 ·obtain ⟨r,x0,b0,is,rfl,rfl,h,h1,h2,h3⟩:=h;obtain ⟨q,y0,b1,is',e,rfl,h',k1,k2,k3⟩:=h';simp only [Prod.mk.injEq,List.cons.injEq,ZW,and_true,true_and] at e;obtain ⟨rfl,rfl⟩:=e;rw [hS.all (hr1 rfl)] at h
  grind [VF]
 ·obtain ⟨r,n0,u,is,rfl,rfl,h,h1,h2,h3⟩:=h;obtain ⟨q,m0,v,is',e,rfl,h',k1,k2,k3⟩:=h';simp only [Prod.mk.injEq,List.cons.injEq,ZW,and_true] at e;obtain ⟨rfl,rfl⟩:=e;rw [hS.all (hr1 rfl)] at h
  grind [WM]
 rename_i q1 q2 q3 q4 q5 q6 q7 q8 q9 q10 q11 q12 q13 q14 q15 q16 q17;split at h'
 all_goals first
  | exact absurd rfl q1 | exact absurd rfl q2 | exact absurd rfl q3 | exact absurd rfl q4 | exact absurd rfl q5 | exact absurd rfl q6 | exact absurd rfl q7 | exact absurd rfl q8 | exact absurd rfl q9 | exact absurd rfl q10 | exact absurd rfl q11 | exact absurd rfl q12 | exact absurd rfl q13 | exact absurd rfl q14 | exact absurd rfl q15 | exact absurd rfl q16 | exact absurd rfl q17
  | skip
 obtain ⟨r,rfl,rfl,h1,h2,h3⟩:=h;obtain ⟨q,e,rfl,k1,k2,k3⟩:=h';simp only [Prod.mk.injEq,List.cons.injEq,ZW,and_true] at e;subst e;have hr:=hr1 (r:=r) rfl;exact same (by rw [hS.vec hr (show 0<4 by omega),hS.vec hr (show 1<4 by omega),hS.vec hr (show 2<4 by omega),hS.vec hr (show 3<4 by omega)]) h1 h2 h3 k1 k2 k3
end
structure aaw (m:Int) (w:qW):Prop where
 tab:Lib.TabIs prog w "internal/strconv.uint64pow10" .u64 Lib.pow10Tab
 max:w.cell? (qB 14)=some (qI m)
theorem aaw.later{m}{w w'}(h:aaw m w)(hb:qL w w'):aaw m w':=⟨Lib.tabBelow_of_tabIs h.tab w' hb,mZ hb h.max⟩
theorem VJ{qs}{p}(h:Cn p):(nmB qs p).size<=1000:=by
 have hIL:=Lib.itoa_length_le p.1 (by have:=h.1;omega) (by have:=h.2.1;omega);have e:(nmB qs p).size=(nmB qs p).data.toList.length:=zq;have e2:p.2.2.data.toList.length=p.2.2.size:=zq;have h2:=h.2.2
 grind [Si,uS,Zd]
theorem zdZ{qs}(hf:∀p∈qs,Cn p){a}{nm}{b}(h:tP qs a nm b):0<=b/\b<2^62:=by
 obtain ⟨es,k,e,⟨R,h1,_,rfl⟩,h2,h3,h4,h5⟩:=h;rw [ZQ] at h2;obtain ⟨q,hq,rfl⟩:=YP.1 h2;have hm:=(Yo.1 (h1.mem_iff.1 (uR hq))).1;have:=hf q hm;rw [<-h5];exact ⟨this.1,this.2.1⟩
theorem zcP{qs}(hf:∀p∈qs,Cn p):∀ {nms:List qU} {a b:Int},(0<=a/\a<2^62)->K5 qs a nms b->0<=b/\b<2^62
 | [],a,b,h0,h=>(show a=b from h)▸h0
 | nm::r,a,b,h0,⟨c,h1,h2⟩=>zcP hf (zdZ hf h1) h2
section
variable {W:qW} {c:Nat→Nat} {br:Nat} {o8:Int} {R:Rws} {m:Int}
theorem XW(hE:aaw m W)(b)(h0:0<=b)(h1:b<2^62)(W')(hb:qL W W'):qC 54 #[qI b] W' (qR (.string ⟨(Lib.itoa b).toArray⟩) W'):=
 pP b zj zj W' (hE.later hb).tab
def OF(A:qX)(P:qU->Prop)(W:qW)(s:qY)(W':qW):Prop:=∃t,s=⟨t.toArray⟩/\P t/\qL W W'
theorem zdP(h:L0 W c br o8 R)(hK:t7 R)(hl:(lY R).length<=300)(hE:aaw m W):
  qC 58 #[qP br] W (mi (OF (lY R) (fun a=>∃s,a=Oc s/\G3 (lY R) s) W)):=by
 refine (Mm W br m (G3 (lY R)) hE.max ((Cc W c br o8 R h hE.tab hl).mono ?_)).mono ?_
 ·rintro e w' ⟨s,rfl,hs,hb⟩;exact ⟨s,rfl,⟨hs,Pt hK.G5 hl hs⟩,hb⟩
 rintro e w' ⟨s,rfl,H⟩;exact ⟨_,rfl,⟨_,rfl,⟨s,rfl,H.o.1⟩,H.o.2⟩⟩
theorem zdQ(h:L0 W c br o8 R)(hl:(lY R).length<=300)(hE:aaw m W)(i):
  qC 60 #[qP br,qI i] W (mi (OF (lY R) (fun a=>∃es,a=TA es/\ME (lY R) i es) W)):=by
 obtain ⟨bt,bm,n,v,ms,qs,hA,hp,hq,hql,bK⟩:=h.acj hl;have hf:=wo hA.V9 hq;refine (Ss W br i (ME (lY R) i) ((Te W br bt bm n v _ hA qs hq hql i hE.tab).mono ?_) (fun b W' h0 h1 hb=>XW hE b h0 h1 W' hb)).mono ?_
 ·rintro e w' ⟨v',es,rfl,H⟩;obtain ⟨h1,h2,h3⟩:=H.o;refine ⟨v',es,rfl,h1,⟨⟨ms,qs,⟨hp,bK,hq⟩,h2⟩,?_,?_⟩,h3⟩
  ·obtain ⟨R',k1,_,rfl⟩:=h2;rw [Zj,k1.length_eq]
   grind
  obtain ⟨R',k1,_,rfl⟩:=h2;intro e he;obtain ⟨q,hq',rfl⟩:=Zm.1 he;have hm:=hf q (Yo.1 (k1.mem_iff.1 hq')).1;exact ⟨VJ hm,hm.1,hm.2.1⟩
 rintro e w' ⟨es,rfl,H⟩;exact ⟨_,rfl,⟨_,rfl,⟨es,rfl,H.o.1⟩,H.o.2⟩⟩
theorem zdM(h:L0 W c br o8 R)(hl:(lY R).length<=300)(hE:aaw m W)(path)(hs:path.size<=1000000):
  qC 62 #[qP br,.string path] W (mi (OF (lY R) (fun a=>∃b is,a=(if is=true then Lib.itoa b else JX)/\Js (lY R) path.data.toList b is) W)):=by
 have fJ:∀Q:Int->Bool->Prop,(∀b is,Q b is->Js (lY R) path.data.toList b is/\0<=b/\b<2^62)->(qC 105 #[qP br,.string path] W fun e w'=>∃b is,e=qT #[qI b,.bool is]/\Q b is/\qL W w')->
   qC 62 #[qP br,.string path] W (mi (OF (lY R) (fun a=>∃b is,a=(if is=true then Lib.itoa b else JX)/\Js (lY R) path.data.toList b is) W)):=fun Q hQ hc=>by
  refine (VZ W br path Q hc (fun b W' hq hb=>XW hE b (hQ b true hq).2.1 (hQ b true hq).2.2 W' hb)).mono ?_;rintro e w' ⟨b,is,rfl,H⟩;exact ⟨_,rfl,⟨_,rfl,⟨b,is,rfl,(hQ b is H.o.1).1⟩,H.o.2⟩⟩
 cases hp:Lib.hasPrefix path.data.toList [47] with
 | false=>
  refine fJ (fun b is=>b=0/\is=false) (fun b is q=>⟨.inl ⟨hp,q.1,q.2⟩,zj,zj⟩) ((RG W br path hp).mono ?_)
  simp_all
 | true=>
  obtain ⟨nm,dr⟩:∃nm,path.data.toList=47::nm:=by
   cases e:path.data.toList with
   | nil=>rw [e] at hp;cases hp
   | cons x r=>
    rw [e] at hp
    have:x=47:=by
     unfold Lib.hasPrefix at hp;simp at hp;exact hp.symm
    simp_all
  by_cases he:nm= []
  ·subst he;refine fJ (fun b is=>b=0/\is=true) (fun b is q=>⟨.inr (.inl ⟨dr,q.1,q.2⟩),zj,zj⟩) ((Oy W br path dr).mono ?_)
   simp_all
  obtain ⟨bt,bm,n,v,ms,qs,hA,dB,hq,hql,bK⟩:=h.acj hl;have hf:=wo hA.V9 hq;refine fJ (fun b is=>(is=true/\K5 qs 0 (nk 47 nm) b)\/(is=false/\b=0/\∃pre n1 rest b1,pre++n1::rest=nk 47 nm/\K5 qs 0 pre b1/\Cq qs b1 n1)) (fun b is q=>⟨.inr (.inr ⟨nm,dr,he,ms,qs,⟨dB,bK,hq⟩,q⟩),?_⟩) ((zaa W br bt bm n v _ hA qs hq hql path ⟨nm.toArray⟩ (by simpa using dr) (by simpa using he) hs hE.tab m hE.max).mono ?_)
  ·rcases q with ⟨_,q⟩ | ⟨_,q,_⟩
   ·exact zcP hf ⟨zj,zj⟩ q
   omega
  rintro e w' ⟨⟨b,rfl,hw⟩ | ⟨rfl,pre,n1,rest,b1,k1,k2,k3⟩,hb⟩
  ·exact ⟨b,true,rfl,.inl ⟨rfl,by simpa using hw⟩,hb⟩
  grind
theorem zdJ(h:L0 W c br o8 R)(hl:(lY R).length<=300)(hE:aaw m W)(l8)(hn:0<=l8/\l8<10000000):
  qC 64 #[qP br,qI l8] W (mi (OF (lY R) (fun a=>∃s is,a=(if is=true then s else JX)/\LD (lY R) l8 s is) W)):=by
 obtain ⟨bt,bm,n,v,ms,qs,hA,dB,hq,hql,bK⟩:=h.acj hl;have bE:Wf l8:=Eg zj zj;refine (OR W br l8 (LD (lY R) l8) ?_).mono ?_
 ·by_cases h0:l8=0
  ·subst h0;refine (Oi W br).mono ?_;rintro e w' ⟨rfl,rfl⟩;exact ⟨[47],true,rfl,.inl ⟨rfl,rfl,rfl⟩,uO _ _⟩
  by_cases hi:Ins (mX ms) l8 0
  ·obtain ⟨d,hd⟩:=hA.V9.aaa.abS;obtain ⟨L,hL⟩:=GU hd (d l8+1) l8 zj;refine (zbt W br bt bm n v _ hA qs hq hql l8 bE h0 hi L hL hE.tab).mono ?_;rintro e w' ⟨rfl,hb⟩;exact ⟨_,true,rfl,.inr ⟨h0,ms,qs,⟨dB,bK,hq⟩,.inr ⟨hi,L,hL,rfl,rfl⟩⟩,hb⟩
  refine (Uz W br bt bm n v _ hA l8 bE h0 hi).mono ?_;rintro e w' ⟨rfl,hb⟩;exact ⟨[],false,rfl,.inr ⟨h0,ms,qs,⟨dB,bK,hq⟩,.inl ⟨hi,rfl,rfl⟩⟩,hb⟩
 rintro e w' ⟨s,is,rfl,H⟩;exact ⟨_,rfl,⟨_,rfl,⟨s,is,rfl,H.o.1⟩,H.o.2⟩⟩
end
end
section
open RowKit
theorem zdl{p}{s}(h:(nw 68 p s).2=true):∃r:Nat,r<3/\(nw 68 p s).1=(s.1++ [(r:Int)],s.2.1,s.2.2):=by
 unfold nw at h |-
 grind
theorem zcI{p}{s}(h:(nw 78 p s).2=true):∃n:Nat,n<10000000/\(nw 78 p s).1=(s.1,s.2.1++ [(n:Int)],s.2.2):=by
 unfold nw at h |-
 rw [if_neg zj,if_pos rfl] at h |-
 obtain ⟨n,hn⟩:=Yl.1 h;refine ⟨_,?_,rfl⟩;rw [hn];have:=Dv 7 _ n hn
 simp_all
theorem zcX{k}(h1:k≠68)(h2:k≠78){p}{s}(h:(nw k p s).2=true):(nw k p s).1=(s.1,s.2.1,s.2.2++ [p])/\pL k p.data.toList=true:=by
 simp_all [nw,if_neg]
theorem Am{k}{ks}{ps}{s x}(h:og (k::ks) ps s=some x)(hl:ps.length=ks.length+1):∃p r,ps=p::r/\r.length=ks.length/\(nw k.toNat p s).2=true/\og ks r (nw k.toNat p s).1=some x:=by
 cases ps with
 | nil=>simp at hl
 | cons p r=>
  grind [og]
theorem oy{form}{ps}{x}(h:nj form ps=some x):ps.length=form.length/\og form ps ([],[],[])=some x:=by
 grind [nj]
theorem Aw{ks}{ps}{s x}(h:og (68::ks) ps s=some x)(hl:ps.length=ks.length+1):∃(r:Nat) (gQ:List ByteArray),r<3/\gQ.length=ks.length/\(∀u∈gQ,u∈ps)/\og ks gQ (s.1++ [(r:Int)],s.2.1,s.2.2)=some x:=by
 grind [Am,zdl,Za]
theorem EF{ks}{ps}{s x}(h:og (78::ks) ps s=some x)(hl:ps.length=ks.length+1):∃(n:Nat) (gQ:List ByteArray),n<10000000/\gQ.length=ks.length/\(∀u∈gQ,u∈ps)/\og ks gQ (s.1,s.2.1++ [(n:Int)],s.2.2)=some x:=by
 grind [Am,zcI,Za]
theorem Qy{k}(h1:k.toNat≠68)(h2:k.toNat≠78){ks}{ps}{s x}(h:og (k::ks) ps s=some x)(hl:ps.length=ks.length+1):∃(p:qY) (gQ:List ByteArray),p∈ps/\pL k.toNat p.data.toList=true/\gQ.length=ks.length/\(∀u∈gQ,u∈ps)/\og ks gQ (s.1,s.2.1,s.2.2++ [p])=some x:=by
 grind [Am,zcX,Zq,Za]
theorem oC{ps}{s x}(h:og [] ps s=some x):x=s:=by
 simp only [og] at h
 cases h;rfl
section
variable {ps:List ByteArray} {x:IL}
theorem XP(h:nj [] ps=some x):x=([],[],[]):=oC (oy h).2
theorem Pc(h:nj [68] ps=some x):∃r:Nat,r<3/\x=([(r:Int)],[],[]):=by
 obtain ⟨hl,h⟩:=oy h
 grind [Aw,oC]
theorem Xl(h:nj [68,68] ps=some x):∃r q:Nat,r<3/\q<3/\x=([(r:Int),(q:Int)],[],[]):=by
 obtain ⟨hl,h⟩:=oy h
 grind [Aw,oC]
theorem OI(h:nj [78] ps=some x):∃n:Nat,n<10000000/\x=([],[(n:Int)],[]):=by
 obtain ⟨hl,h⟩:=oy h
 grind [EF,oC]
theorem Io(h:nj [68,78] ps=some x):∃r n:Nat,r<3/\n<10000000/\x=([(r:Int)],[(n:Int)],[]):=by
 obtain ⟨hl,h⟩:=oy h
 grind [Aw,EF,oC]
theorem UL(h:nj [68,78,78] ps=some x):∃r n m:Nat,r<3/\n<10000000/\m<10000000/\x=([(r:Int)],[(n:Int),(m:Int)],[]):=by
 obtain ⟨hl,h⟩:=oy h
 grind [Aw,EF,oC]
theorem Vm{k}(h1:k.toNat≠68)(h2:k.toNat≠78)(h:nj [68,78,k] ps=some x):∃(r n:Nat) (u:qY),r<3/\n<10000000/\pL k.toNat u.data.toList=true/\x=([(r:Int)],[(n:Int)],[u]):=by
 exact kj3
theorem Gk{k}(h1:k.toNat≠68)(h2:k.toNat≠78)(h:nj [68,78,78,k] ps=some x):∃(r n m:Nat) (u:qY),r<3/\n<10000000/\m<10000000/\pL k.toNat u.data.toList=true/\x=([(r:Int)],[(n:Int),(m:Int)],[u]):=by
 exact kj3
theorem TW{k}(h1:k.toNat≠68)(h2:k.toNat≠78)(h:nj [68,78,k,k] ps=some x):∃(r n:Nat) (u v:qY),r<3/\n<10000000/\pL k.toNat u.data.toList=true/\pL k.toNat v.data.toList=true/\x=([(r:Int)],[(n:Int)],[u,v]):=by
 exact kj3
theorem zbk{k}(h1:k.toNat≠68)(h2:k.toNat≠78)(h:nj [68,k] ps=some x):∃(r:Nat) (u:qY),r<3/\u∈ps/\x=([(r:Int)],[],[u]):=by
 obtain ⟨hl,h⟩:=oy h
 grind [Aw,Qy,oC]
end
theorem KM{l}(h:mr l=true):l.length<=60:=by
 unfold mr at h
 grind
theorem KH{l}(h:pL 87 l=true):l.length<=60:=by
 simp_all [pL,if_pos,KM]
theorem zda{l}(h:pL 76 l=true):l.length<=60:=by
 simp_all [pL,if_neg,if_pos,Yk,KM]
theorem pQ{u:qY}(h:u.data.toList.length<=60):u.size<=60:=by
 simp_all
end
section
open RowKit Lib Go.Sort Maps
open scoped Classical
section
variable {K L K' L':Nat→Rws} {s t s' t':Nat→DSt} {N M N' M':List nO}
theorem GZ(h:WfM K N){r}{y}{a}(hd:DoS K s N r y K' s' N' a):WfM K' N':=by
 obtain ⟨rfl,T,y0,cd0,yy,cd,h1,h2,h3,rfl⟩:=hd
 rcases h3 with ⟨_,_,_,rfl,_⟩ | ⟨_,_,_,_,rfl,_⟩ | ⟨_,_,_,_,⟨R,rfl,hR,_⟩,_⟩
 ·exact h
 ·exact h
 exact ⟨rT h.1 hR,h.2⟩
theorem zcx(h:WfM K N){g}{x}(hx:QR x){a}(ha:Tg g x K s N K' s' N' a):WfM K' N':=by
 have same:K'=K->N'=N->WfM K' N':=fun e f=>by rw [e,f];exact h
 unfold Tg at ha;split at ha
 ·obtain ⟨r,n0,x0,rfl,ha⟩:=ha;exact GZ h ha
 ·obtain ⟨r,n0,n1,x0,rfl,⟨_,h1,_,h3,_⟩ | ⟨_,ha⟩⟩:=ha
  ·exact same h1 h3
  exact GZ h ha
 ·obtain ⟨r,n0,n1,x0,rfl,ha⟩:=ha;exact GZ h ha
 ·obtain ⟨r,n0,n1,rfl,ha⟩:=ha;exact GZ h ha
 ·obtain ⟨r,n0,x0,x1,rfl,ha⟩:=ha;exact GZ h ha
 ·obtain ⟨r,q,cd,rfl,rfl,⟨_,_,h1,_,h3⟩ | ⟨_,e1,_,⟨_,_,e3⟩ | ⟨_,_,e3⟩⟩⟩:=ha
  ·exact same h1 h3
  ·have hr:=hx.1 (r:Int) zq;have hq:=hx.1 (q:Int) zq;rw [e1,e3];refine ⟨h.1,fun y hy=> ?_⟩
   rcases uU.1 hy with k | k
   ·exact h.2 y k
   rw [Zc.1 k];exact ⟨show r<3 by omega,show q<3 by omega⟩
  exact same e1 e3
 ·obtain ⟨m,cd,rfl,rfl,ha⟩:=ha;exact Ww h ha
 ·obtain ⟨m,cd,rfl,rfl,e1,_,⟨_,_,e3⟩ | ⟨_,_,e3⟩⟩:=ha
  ·exact same e1 e3
  rw [e1,e3];exact ⟨h.1,fun y hy=>h.2 y (ZN hy)⟩
 ·obtain ⟨m,cd,rfl,rfl,e1,_,⟨_,_,e3⟩ | ⟨y,hy,⟨_,_,e3⟩ | ⟨_,_,e3⟩⟩⟩:=ha
  ·exact same e1 e3
  ·rw [e1,e3];refine ⟨h.1,fun z hz=> ?_⟩
   rcases uU.1 hz with k | k
   ·exact h.2 z k
   rw [Zc.1 k];exact h.2 y (uR hy)
  exact same e1 e3
 ·obtain ⟨r,n0,rfl,rfl,e1,e2,_⟩:=ha;exact same e1 e2
 ·obtain ⟨r,rfl,rfl,e2,⟨R,e1,hR,_⟩,_⟩:=ha;rw [e1,e2];exact ⟨rT h.1 hR,h.2⟩
 ·obtain ⟨_,_,e2,ha⟩:=ha;rw [e2];exact ⟨AY h.1 ha.1,fun x hx=>ya⟩
 ·obtain ⟨_,_,e1,_,e3⟩:=ha;exact same e1 e3
 ·obtain ⟨_,_,_,_,_,e1,_,e3⟩:=ha;exact same e1 e3
 ·obtain ⟨_,_,_,_,_,_,e1,_,e3⟩:=ha;exact same e1 e3
 ·obtain ⟨_,_,_,_,_,_,_,e1,_,e3⟩:=ha;exact same e1 e3
 ·obtain ⟨_,_,_,_,_,_,_,e1,_,e3⟩:=ha;exact same e1 e3
 grind
theorem MX(C9)(h:C9.size<=1000000){p}{ps}(e:rB C9=p::ps):∀u∈ps,u.size<=1000000:=fun u hu=>by
 have:=tA ⟨#[32]⟩ (min 6 (C9.size+1) - 1) C9 u (by
  grind [rB,Za])
 omega
theorem zcW(hS:F3 K L s t N M)(hW:WfM K N){C9}(hl:C9.size<=1000000){a b}(h:LX C9 K s N K' s' N' a)(h':LX C9 L t M L' t' M' b):a=b/\F3 K' L' s' t' N' M'/\WfM K' N':=by
 unfold LX at h h';obtain ⟨p,ps,e⟩:=EM C9;rw [e] at h h';dsimp only at h h'
 cases hk:tblAll.lookup p.data.toList with
 | none=>
  simp_all
 | some sp=>
  rw [hk] at h h';dsimp only at h h'
  cases hr:nj sp.2.1.data.toList ps with
  | none=>
   simp_all
  | some x=>
   rw [hr] at h h';dsimp only at h h';have hx:=Ny (MX C9 hl e) hr
   grind [XE,zcx]
theorem Se:∀ {ls ms:List ByteArray} {K L K' L':qH} {s t s' t':qD} {N M N' M':qJ} {tl ul:List qU},(∀l∈ls,l.size<=1000000)->F3 K L s t N M->WfM K N->LsX ls K s N K' s' N' tl->(∃n,ms=ls.take n)->LsX ms L t M L' t' M' ul->ul=tl.take ms.length
 | ls,[],_,_,_,_,_,_,_,_,_,_,_,_,_,_,_,_,_,_,_,⟨_,_,_,e⟩=>uH
 | [],m::ms,_,_,_,_,_,_,_,_,_,_,_,_,_,_,_,_,_,_,⟨n,hn⟩,_=>zM
 | l::ls,m::ms,K,L,K',L',s,t,s',t',N,M,N',M',tl,ul,hl,hS,hW,h,⟨n,hn⟩,h'=>by
  obtain ⟨K1,s1,N1,a,as_,h1,h2,rfl⟩:=h;obtain ⟨L1,t1,M1,b,bs,k1,k2,rfl⟩:=h'
  cases n with
  | zero=>cases hn
  | succ n=>
   rw [List.take_succ_cons] at hn
   cases hn
   obtain ⟨rfl,fl,fX⟩:=zcW hS hW (hl _ zq) h1 k1;have ih:=Se (fun x hx=>hl x (by simp [hx])) fl fX h2 ⟨n,rfl⟩ k2
   simp_all
end
def z8:OpX:=(2,0,2,105,4,0,⟨#[]⟩,⟨#[120]⟩)
def helloL:List ByteArray:=[⟨#[109,97,107,101,32,48,32,48,32,97]⟩,⟨#[119,114,105,116,101,32,48,32,52,32,48,32,120]⟩,⟨#[99,97,108,109]⟩,⟨#[115,116,97,116,101,32,50]⟩]
def helloA:List qU:=[[52],[56],[121,101,115],[52,32,105,110,32,48,32,97,59,32,52,32,116,101,120,116,32,120]]
theorem Wq:wR x4=0:=zo
theorem XN:wR z8=0:=zo
theorem zdO:pJ ([],false,false,0) x4=(0,(nE (mO x4),false,false,0)):=by
 grind [nE,mO,x4,rb,Wq,nG,Bj,left]
theorem zd9:(pJ (nE (mO x4),false,false,0) z8).1=0:=by
 have hl:(nE (mO x4)).length+(nE (mO z8)).length<=65536:=by
  have:=rb Wq;have:=rb XN;rw [nG,nG];omega
 rw [Bj XN hl]
theorem zeG:Fr [] 0 0 0 (0,0,0,109,0,0,⟨#[97]⟩,⟨#[]⟩) (x4,0):=by
 refine .inl ⟨.inl rfl,.inl ⟨rfl,rfl,?_⟩⟩;have e1:nR 0 0 0 109 0 0 ⟨#[97]⟩ ⟨#[]⟩=x4:=rfl;have e2:pZ x4=0:=zo
 simp_all [SJ,Bu,nR,if_neg,if_pos]
theorem zcp:m9 [x4] 4:=⟨x4,zq,rfl,rfl,rfl⟩
theorem zeI:Fr [x4] 1 0 1 (0,0,0,105,4,0,⟨#[]⟩,⟨#[120]⟩) (z8,0):=by
 refine .inl ⟨.inr (.inl rfl),.inr (.inr (.inl ⟨rfl,(0,true),.inl ⟨rfl,rfl,fun _=>zcp,fun _=>rfl⟩,?_⟩))⟩;have e1:nR 1 0 1 105 4 0 ⟨#[]⟩ ⟨#[chO ⟨#[120]⟩]⟩=z8:=rfl;have e2:pZ z8=0:=zo
 show _=Bu true (nR 1 0 1 105 4 0 ⟨#[]⟩ ⟨#[chO ⟨#[120]⟩]⟩)
 simp_all [Bu,if_neg,if_pos]
theorem zdR(m)(hne:m.2.1≠m.2.2.1):mX [m]=upd tB m.2.1 (some m.2):=by
 show K8 tB m=_
 exact ng (fun hi=>hi.elim hne (fun h=>FE rfl h))
theorem zbp(nd):m9 [x4,z8] nd↔nd=4:=by
 constructor
 ·rintro ⟨x,hx,h1,e,_⟩;simp only [uZ,ZS,or_false] at hx
  rcases hx with rfl | rfl
  ·exact e.symm
  exact absurd h1 zo
 rintro rfl;exact ⟨x4,zq,rfl,rfl,rfl⟩
theorem ztext:Lib.join (Bd [(4,0,⟨#[97]⟩)] [(4,[120])] []) [10]= [52,32,105,110,32,48,32,97,10,52,32,116,101,120,116,32,120]:=by
 have h4:Lib.itoa 4= [52]:=by unfold Lib.itoa;simp [Lib.decDigits]
 have h0:Lib.itoa 0= [48]:=by unfold Lib.itoa;simp [Lib.decDigits]
 unfold Bd oT BJ AO;simp [h4,h0,sf,Lib.join_cons,Lib.joinTail]
theorem zdC:u9 [x4,z8] 4 [(8,120,false)]:=by
 refine ⟨[(0,(8,120,false))],List.Perm.refl _,⟨zq,zq,fun u m v e=> ?_⟩,?_⟩
 ·have:m∈ [((0:Int),((8:Int),(120:Nat),false))]:=by rw [e];simp
  grind
 have hg:¬oG [x4,z8] 4 8:=by
  rintro ⟨x,hx,h1,_⟩;simp only [uZ,ZS,or_false] at hx
  rcases hx with rfl | rfl<;>exact absurd h1 zo
 have e:sZ [x4,z8] 4 (8,120,false)=(8,120,false):=by unfold sZ;exact if_neg hg
 show _= [sZ [x4,z8] 4 (8,120,false)]
 rw [e]
theorem zcL:G3 [x4,z8] [52,32,105,110,32,48,32,97,10,52,32,116,101,120,116,32,120]:=by
 refine ⟨[((1,0),(4,0,⟨#[97]⟩))],[(4,0,⟨#[97]⟩)],[(4,[120])],[x4,z8],[],List.Perm.refl _,YO _ _,?_,⟨YO _ _,fun nd=> ?_,fun t ht=> ?_⟩,List.Perm.refl _,⟨List.Pairwise.nil,fun p=> ?_⟩,ztext.symm⟩
 ·rw [zdR _ zo];refine ⟨YO _ _,fun p=> ?_⟩;obtain ⟨a,b,s⟩:=p;simp only [Zc,upd];constructor
  ·simp_all
  intro e;split at e
  ·cases e;rfl
  cases e
 ·rw [zbp];simp
 ·simp only [Zc] at ht;subst ht;exact ⟨[(8,120,false)],zdC,rfl⟩
 constructor
 ·intro h;simp at h
 rintro ⟨_,s,hs⟩;have:rj [x4,z8]=noC:=rfl;rw [this] at hs
 cases hs
theorem zdT:Oc [52,32,105,110,32,48,32,97,10,52,32,116,101,120,116,32,120]= [52,32,105,110,32,48,32,97,59,32,52,32,116,101,120,116,32,120]:=zk
section
variable {K K':qH} {s s':qD} {N N':qJ} {S:OpX→Prop}
def zdq(S:OpX->Prop)(K:qH)(N:qJ):Prop:=(∀r,r<3->∀x∈lY (K r),S x)/\∀n∈N,∀x∈IG n,S x
theorem zby{m c}(hW:WfM K N)(h:zdq S K N)(hd:Wl K s N m K' s' N' c):zdq S K' N':=by
 rcases hd with ⟨_,_,rfl,_,rfl⟩ | ⟨x,hx,⟨_,_,rfl,_,F,hF,hN⟩ | ⟨_,rfl,hY⟩⟩
 ·exact h
 ·have hn:=(hW.2 x (uR hx)).2
  rcases hN with ⟨_,rfl⟩ | ⟨_,_,ao,cap,rfl⟩
  ·exact ⟨h.1,fun n hn=>h.2 n (ZN hn)⟩
  refine ⟨h.1,fun n hm=> ?_⟩
  rcases uU.1 hm with q | q
  ·exact h.2 n (ZN q)
  rw [Zc.1 q];intro y hy;obtain ⟨ys,h1,rfl⟩:=hF;exact h.1 _ hn y ((nA h1).1.mem_iff.1 (Yo.1 hy).1)
 have hm:∀n∈N.eraseIdx m,∀y∈IG n,S y:=fun n hn=>h.2 n (ZN hn)
 rcases hY with ⟨_,_,rfl,_⟩ | ⟨_,R',_,_,rfl,_,hmem,_⟩
 ·exact ⟨h.1,hm⟩
 refine ⟨fun r hr y hy=> ?_,hm⟩;by_cases e:r=x.2.1
 ·subst e;rw [lU] at hy
  rcases (hmem y).1 hy with q | q
  ·exact h.1 _ hr y q
  exact h.2 x (uR hx) y q
 rw [lP _ _ e] at hy;exact h.1 r hr y hy
theorem zbZ(hW:WfM K N)(h:zdq S K N):∀ {m:Nat} {K':qH} {s':qD} {N':qJ},LW K s N m K' s' N'->zdq S K' N'
 | 0,_,_,_,⟨e1,_,e3⟩=>by rw [e1,e3];exact h
 | m+1,_,_,_,⟨K1,s1,N1,cd,h1,_,h3⟩=>zby (FL hW h1) (zbZ hW h h1) h3
theorem KI(hW:∀q,q<3->t7 (K q))(h:∀r,r<3->∀x∈lY (K r),S x):∀ {k:Nat} {K':qH} {s':qD},Ay 3 K s k K' s'->∀r,r<3->∀x∈lY (K' r),S x
 | 0,_,_,⟨e,_⟩=>by rw [e];exact h
 | k+1,_,_,⟨K1,s1,m,h1,h2⟩=>(zbZ (Ii (AY hW h1)) ⟨KI hW h h1,fun n hn x hx=>by
   obtain ⟨a,b,_,_,_,rfl⟩:=mem_asks.1 hn
   exact absurd hx (by show ¬x∈([]:qX);simp)⟩ h2).1
theorem Th{l p}{ps}{sp}{x}{a}(hw:rB l=p::ps)(hl:tblAll.lookup p.data.toList=some sp)(hr:nj sp.2.1.data.toList ps=some x)(h:LX l K s N K' s' N' a):Tg sp.2.2 x K s N K' s' N' a:=by
 grind [LX]
theorem zdV{a}(hK:K 0=fun _=>[])(hs:s 0=([],false,false,0))(h:DoS K s N 0 (0,0,0,109,0,0,⟨#[97]⟩,⟨#[]⟩) K' s' N' a):a= [52]/\s' 0=(nE (mO x4),false,false,0)/\∃R,K'=lR K 0 R/\t7 R/\∀z,z∈lY R↔z=x4:=by
 obtain ⟨_,T,y0,cd0,yy,cd,hT,cz,hdo,rfl⟩:=h;have hT0:=Ud hK hT;subst hT0
 have hl:(K 0 0).length=0:=by rw [hK];rfl
 rw [Bn hK,hl] at cz;have e:=PY cz zeG
 cases e
 have ha:pJ (s 0) x4=(0,(nE (mO x4),false,false,0)):=by rw [hs];exact zdO
 rcases hdo with ⟨h,_⟩ | ⟨_,h,_⟩ | ⟨_,_,rfl,rfl,⟨R',rfl,hR,hm⟩,rfl⟩
 ·exact absurd rfl h
 ·simp_all
 refine ⟨?_,by rw [lU,ha],R',rfl,hR,fun z=> ?_⟩
 ·show Lib.itoa 4=_
  unfold Lib.itoa;simp [Lib.decDigits]
 rw [hm,Bn hK];simp
theorem zdb{a}(hR:t7 (K 0))(hK:∀z,z∈lY (K 0)↔z=x4)(hs:s 0=(nE (mO x4),false,false,0))(h:DoS K s N 0 (0,0,0,105,4,0,⟨#[]⟩,⟨#[120]⟩) K' s' N' a):a= [56]/\∃R,K'=lR K 0 R/\t7 R/\∀z,z∈lY R↔z=x4\/z=z8:=by
 have hp:=(List.perm_ext_iff_of_nodup hR.num.I7 (show [x4].Nodup from YO _ _)).2 (fun z=>by rw [hK];simp);have hall:=List.perm_singleton.1 hp
 have hlen:(K 0 0).length=1:=by
  obtain ⟨k,hk,hx⟩:=mem_allR.1 (show x4∈lY (K 0) by rw [hall];simp);obtain ⟨j,hj,q1,q2,_⟩:=hR.num.e hk hx
  have iW:k=0:=by
   have:(byO x4:Int)=0:=rfl;omega
  subst iW;have h1:=List.length_pos_of_mem hx
  have h2:(lY (K 0)).length=1:=by rw [hall];rfl
  unfold lY at h2;simp only [uS] at h2;omega
 obtain ⟨_,T,y0,cd0,yy,cd,hT,cz,hdo,rfl⟩:=h;rw [hall] at cz hT
 have hT1:T=1:=by
  have h1:(1:Int)<=T:=hT.1 x4 zq
  rcases hT.2.1 with q | ⟨z,hz,q⟩
  ·omega
  rw [Zc.1 hz] at q;exact q.symm
 subst hT1;rw [hlen] at cz;have e:=PY cz zeI
 cases e
 have ha:(pJ (s 0) z8).1=0:=by rw [hs];exact zd9
 rcases hdo with ⟨h,_⟩ | ⟨_,h,_⟩ | ⟨_,_,rfl,rfl,⟨R',rfl,hR',hm⟩,rfl⟩
 ·exact absurd rfl h
 ·exact absurd ha h
 refine ⟨?_,R',rfl,hR',fun z=> ?_⟩
 ·show Lib.itoa 8=_
  unfold Lib.itoa;simp [Lib.decDigits]
 grind
theorem Mw{tl}(hK:∀r,r<3->K r=fun _=>[])(hs:∀r,r<3->s r=([],false,false,0))(h:LsX helloL K s [] K' s' N' tl):tl=helloA:=by
 obtain ⟨K1,s1,N1,a1,b1,h1,⟨K2,s2,N2,a2,b2,h2,⟨K3,s3,N3,a3,b3,h3,⟨K4,s4,N4,a4,b4,h4,⟨_,_,_,rfl⟩,rfl⟩,rfl⟩,rfl⟩,rfl⟩:=h;have g1:=Th (p:=⟨#[109,97,107,101]⟩) (ps:=[⟨#[48]⟩,⟨#[48]⟩,⟨#[97]⟩]) (x:=([0],[0],[⟨#[97]⟩])) zk rfl zk h1;have g2:=Th (p:=⟨#[119,114,105,116,101]⟩) (ps:=[⟨#[48]⟩,⟨#[52]⟩,⟨#[48]⟩,⟨#[120]⟩]) (x:=([0],[4,0],[⟨#[120]⟩])) zk rfl zk h2;have g3:=Th (p:=⟨#[99,97,108,109]⟩) (ps:=[]) (x:=([],[],[])) zk rfl zk h3;have g4:=Th (p:=⟨#[115,116,97,116,101]⟩) (ps:=[⟨#[50]⟩]) (x:=([2],[],[])) zk rfl zk h4;obtain ⟨r,n0,x0,e,d1⟩:=g1;simp only [Prod.mk.injEq,List.cons.injEq,and_true] at e;obtain ⟨e1,rfl,rfl⟩:=e;obtain rfl:r=0:=zj;obtain ⟨rfl,q1,R1,rfl,w1,m1⟩:=zdV (hK 0 zj) (hs 0 zj) d1;obtain ⟨r,n0,n1,x0,e,d2⟩:=g2;simp only [Prod.mk.injEq,List.cons.injEq,and_true] at e;obtain ⟨e1,⟨rfl,rfl⟩,rfl⟩:=e;obtain rfl:r=0:=zj;obtain ⟨rfl,R2,rfl,w2,m2⟩:=zdb (by rw [lU];exact w1) (by rw [lU];exact m1) q1 d2;obtain ⟨_,rfl,_,hc⟩:=g3;obtain ⟨r,t,e,rfl,hst,_⟩:=g4;simp only [Prod.mk.injEq,List.cons.injEq,and_true] at e;obtain rfl:r=2:=zj;have hx:∀q,q<3->t7 (lR (lR K 0 R1) 0 R2 q):=rT (rT (fun q hq=>by rw [hK q hq];exact wY) w1) w2
 have dy:=KI (S:=fun z=>z=x4\/z=z8) hx (fun q hq z hz=>by
  grind [lU,lP,Bn]) hc.1 2 zj
 have hsup:=hc.2 0 2 zj zj;rw [lU] at hsup;have hw3:=AY hx hc.1 2 zj
 have hp:(lY (K3 2)).Perm [x4,z8]:=(List.perm_ext_iff_of_nodup hw3.num.I7 zo).2 (fun z=>by
  grind)
 rw [G3.same hw3.G5 hp hst zcL,zdT];rfl
end
def gdN(gd:Nat->Option Obj)(S0:Nat)(W:qW):Nat->Option Obj:=fun k=>if S0<=k then W.heap[k]? else gd k
theorem p9.u{gd}{B n bm}{K}{st}{N}{w W}(h:p9 gd B n bm K st N w){S0}(hS:w.heap.size<=S0)(hb:qL w W):p9 (gdN gd S0 W) B n bm K st N W:=by
 obtain ⟨ow,pv,fv,bp,br,d,dv,c,hm⟩:=h;have h':=(hm.later hb).act (fun k=>S0<=k/\k<W.heap.size) (fun k hk=>⟨hm.high k (uQ hS hk.1),uQ hm.l9 (uQ hS hk.1),hk.2⟩);refine p9.X2 ⟨_,_,_,_,_,_,_,_,h'⟩ (fun k o e=> ?_);unfold gdN at e
 grind
theorem p9.ab6{gd}{B n bm S0}{K K'}{st st'}{N N'}{W w'}(h:p9 (gdN gd S0 W) B n bm K st N W)(h':p9 (gdN gd S0 W) B n bm K' st' N' w')(hs:W.heap.size<=w'.heap.size):D9 (fun k=>S0<=k\/gd k≠none) W w':=by
 refine ⟨hs,fun k hK hk=> ?_⟩
 obtain ⟨o,ho⟩:∃o,gdN gd S0 W k=some o:=by
  unfold gdN;by_cases q:S0<=k
  ·simp_all
  rw [if_neg q]
  rcases hK with p | p
  ·exact absurd p q
  cases e:gd k with
  | none=>exact absurd e p
  | some o=>exact ⟨o,rfl⟩
 rw [h.held ho,h'.held ho]
theorem p9.abD{gd}{B n bm S0}{K}{st}{N}{W w' w''}(h:p9 (gdN gd S0 W) B n bm K st N w')(ce:∀k o,gd k=some o->k<S0)(hk:m7 (fun k=>S0<=k/\k<W.heap.size) w' w''):p9 gd B n bm K st N w'':=by
 obtain ⟨ow,pv,fv,bp,br,d,dv,c,hm⟩:=h;refine ⟨ow,pv,fv,bp,br,d,dv,c,hm.acQ (hk.mono (fun k _ q=> ?_)) (fun k _=>rfl) (fun k e=>.inl e) (fun k o e=> ?_)⟩
 ·refine (hm.guard k W.heap[k] ?_).1
  simp_all [gdN,if_pos,Yf]
 have hlt:=ce k o e;obtain ⟨e1,e2⟩:=hm.guard k o (by unfold gdN;grind);exact ⟨e1,(hk.block k (hm.F (by rw [e1];omega)) (fun q=>by have:=q.1;omega)).trans e2⟩
theorem p9.acp{gd}{B n bm S0}{K}{st}{N}{W w'}(h:p9 (gdN gd S0 W) B n bm K st N w')(ce:∀k o,gd k=some o->k<S0):p9 gd B n bm K st N w':=h.abD ce (m7.refl _ _)
structure E8 (gd:Nat->Option Obj) (B:Nat) (ad:qF) (bm i:Nat) (G:qX) (K:qH) (D:Nat->List OpX) (st:qD) (N:qJ) (w:qW):Prop where
 D8:p9 gd B 3 bm K st N w
 G9:r9 3 i G K D st N
 L8:N.length<=30
 G6:E7 B ad w
 X7:i<=150
theorem E8.gl{gd}{B}{ad}{bm i}{G}{K}{D}{st}{N}{w}(h:E8 gd B ad bm i G K D st N w):∀k o,gd k=some o->k<w.heap.size:=fun k o e=>(uN.1 (h.D8.held e)).1
def Got(gd:Nat->Option Obj)(B bm i:Nat)(w:qW)(K':qH)(st':qD)(N':qJ)(w':qW):Prop:=∃G' D',p9 gd B 3 bm K' st' N' w'/\Below B w w'/\r9 3 (i+1) G' K' D' st' N'/\N'.length<=30
theorem Got.later{gd}{B bm i}{w}{K'}{st'}{N'}{w' w''}(h:Got gd B bm i w K' st' N' w')(hb:qL w' w''):Got gd B bm i w K' st' N' w'':=by
 obtain ⟨G',D',h1,h2,h3,h4⟩:=h;refine ⟨G',D',h1.later hb,h2.trans (hb.mono ?_),h3,h4⟩;obtain ⟨_,_,_,_,_,_,_,_,hm⟩:=h1;exact hm.l9
theorem E8.same{gd}{B}{ad}{bm i}{G}{K}{D}{st}{N}{w w'}(h:E8 gd B ad bm i G K D st N w)(hb:qL w w'):Got gd B bm i w K st N w':=by
 refine ⟨G,D,h.D8.later hb,hb.mono ?_,h.G9.up zj,h.L8⟩;obtain ⟨_,_,_,_,_,_,_,_,hm⟩:=h.D8;exact hm.l9

end