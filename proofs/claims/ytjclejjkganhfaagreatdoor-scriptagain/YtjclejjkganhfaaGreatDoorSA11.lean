import Derived.Test.YtjclejjkganhfaaGreatDoorSA06
import Derived.Test.YtjclejjkganhfaaGreatDoorSA07
import Derived.Test.YtjclejjkganhfaaGreatDoorSA08
import Derived.Shelf.SlSortCmp.KitK
import Derived.Shelf.SlSortCmp.QuietGrown
import Derived.Shelf.SlicesE.Clone
import Derived.Lib.OwnBridge
set_option linter.unusedSimpArgs false
set_option linter.unusedVariables false
set_option maxRecDepth 100000
set_option maxHeartbeats 64000000
namespace Go.Proofs.YtjclejjkganhfaaGreatDoor
open Go.Proofs.Tryz
section
open Shelf RowKit Lib Go.Sort
def CB(x:OpX×Nat):List Value:=nD x.1
theorem Vs(x):(CB x).length=8:=rfl
theorem VT(x):∀v∈CB x,v.oneCell'=true:=by
 intro v hv;simp [CB,nD] at hv;exact kh5
def ltX(x y:OpX):Bool:=pY x.1 x.2.1 y.1 y.2.1
def WD(x y:OpX×Nat):Int:=if ltX x.1 y.1 then -1 else if ltX y.1 x.1 then 1 else 0
theorem QH(x y):decide (WD x y<0)=tlt ltX x y:=by
 unfold WD tlt
 grind
theorem Nk:ltOf WD=tlt ltX:=by
 funext x y;exact QH x y
theorem Ek(t b t' b'):pY t b t' b'=decide (t<t'\/(t=t'/\b<b')):=by
 unfold pY
 grind
theorem PK:SWO ltX where
 irrefl x:=by unfold ltX;rw [Ek];simp
 trans x y z h1 h2:=by grind [ltX,Ek]
 ntrans x y z h1 h2:=by grind [ltX,Ek]
theorem rH{w w1 w2:qW}(h1:∃q os,w1=grow (w.drewN q) os)(h2:∃q os,w2=grow (w1.drewN q) os):∃q os,w2=grow (w.drewN q) os:=by
 obtain ⟨q,os,rfl⟩:=h1;obtain ⟨q',os',rfl⟩:=h2;exact ⟨q+q',os++os',by rw [<-grow_grow,<-World.drewN_drewN];rfl⟩
theorem OJ(t b t' b')(w):
  qC 218 #[.agg #[qI t,qI b],.agg #[qI t',qI b']] w fun e w'=>e= .returned (.bool (pY t b t' b'))/\∃q os,w'=grow (w.drewN q) os:=by
 unfold pY;by_cases h:t=t'
 ·have hd:(t !=t')=false:=by simp [h]
  rw [if_pos h];go_enter func218,ntmps218;go_wp2;exact ki7
 have hd:(t !=t')=true:=by simp [h]
 rw [if_neg h];go_enter func218,ntmps218;go_wp2;exact ki7
theorem tR(t b t' b')(z)(w)(hz:pY t b t' b'=z):
  qC 218 #[.agg #[qI t,qI b],.agg #[qI t',qI b']] w fun e w'=>e= .returned (.bool z)/\∃q os,w'=grow (w.drewN q) os:=by rw [<-hz];exact OJ t b t' b' w
theorem mJ{w w'}(h:∃q os,w'=grow (w.drewN q) os):qL w w':=by
 obtain ⟨q,os,rfl⟩:=h;exact Lib.below_grow _ _ zg _ _
theorem Iq(x y)(w):
  qC 223 #[.agg (CB x).toArray,.agg (CB y).toArray] w fun e w'=>e= .returned (qI (WD x y))/\∃q os,w'=grow (w.drewN q) os:=by
 obtain ⟨⟨t,b,n,k,l8,other,name,value⟩,i⟩:=x;obtain ⟨⟨t',b',n',k',node',other',name',value'⟩,i'⟩:=y
 have hg:∃q os,((w.alloc (qOc t b n k l8 other name value)).alloc (qOc t' b' n' k' node' other' name' value'))=grow (w.drewN q) os:=⟨0,_,vJ⟩
 have c0:((w.alloc (qOc t b n k l8 other name value)).alloc (qOc t' b' n' k' node' other' name' value')).cell? (qB w.heap.size)=some (qI t):=zY;have c1:((w.alloc (qOc t b n k l8 other name value)).alloc (qOc t' b' n' k' node' other' name' value')).cell? (qA w.heap.size 1)=some (qI b):=zY;have c2:((w.alloc (qOc t b n k l8 other name value)).alloc (qOc t' b' n' k' node' other' name' value')).cell? (qB (w.heap.size+1))=some (qI t'):=zY;have c3:((w.alloc (qOc t b n k l8 other name value)).alloc (qOc t' b' n' k' node' other' name' value')).cell? (qA (w.heap.size+1) 1)=some (qI b'):=zY;unfold WD ltX;simp only [CB,nD]
 cases h1:pY t b t' b' with
 | true=>
  have H1:=Lib.hid h1;go_enter func223,ntmps223;go_wp2_with fail
  generalize ((w.alloc (qOc t b n k l8 other name value)).alloc (qOc t' b' n' k' node' other' name' value'))=u at hg c0 c1 c2 c3 |-
  refine (tR _ _ _ _ true _ H1.o).mono ?_;rintro e w1 ⟨rfl,hb⟩;have hg1:=rH hg hb;go_wp2;go_ret;exact ⟨rfl,hg1⟩
 | false=>
  have H1:=Lib.hid h1
  cases h2:pY t' b' t b with
  | true=>
   have H2:=Lib.hid h2;go_enter func223,ntmps223;go_wp2_with fail
   generalize ((w.alloc (qOc t b n k l8 other name value)).alloc (qOc t' b' n' k' node' other' name' value'))=u at hg c0 c1 c2 c3 |-
   refine (tR _ _ _ _ false _ H1.o).mono ?_;rintro e w1 ⟨rfl,hb⟩;have hg1:=rH hg hb;have e0:=mZ (mJ hb) c0;have e1:=mZ (mJ hb) c1;have e2:=mZ (mJ hb) c2;have e3:=mZ (mJ hb) c3;go_wp2_with fail;refine (tR _ _ _ _ true _ H2.o).mono ?_;exact kl0
  | false=>
   have H2:=Lib.hid h2;go_enter func223,ntmps223;go_wp2_with fail
   generalize ((w.alloc (qOc t b n k l8 other name value)).alloc (qOc t' b' n' k' node' other' name' value'))=u at hg c0 c1 c2 c3 |-
   refine (tR _ _ _ _ false _ H1.o).mono ?_;rintro e w1 ⟨rfl,hb⟩;have hg1:=rH hg hb;have e0:=mZ (mJ hb) c0;have e1:=mZ (mJ hb) c1;have e2:=mZ (mJ hb) c2;have e3:=mZ (mJ hb) c3;go_wp2_with fail;refine (tR _ _ _ _ false _ H2.o).mono ?_;exact kl0
theorem KF(blk off size)(w):CmpLays prog 223 #[] CB 8 WD blk off size w:=fun _ _ _ _ x y=>Iq x y _
theorem WB:∀args w,(callFunc 223 args).run prog w= .ok (.enter 223 args) w:=enters_of func223 zk rfl
structure STy (P:Program) (k:Nat):Prop where
 mixed:P.follows .mixedOrders=true
 t0:P.underlying 0=some (TypeDesc.tuple #[])
 a0:∀w,(isAgg 0).run P w= .ok false w
 z0:∀w,(Go.sizeOf 0).run P w= .ok 1 w
 v0:∀w,(zeroValue 0).run P w= .ok (Value.tuple #[]) w
 t3:P.underlying 3=some (TypeDesc.int IntKind.i64)
 a3:∀w,(isAgg 3).run P w= .ok false w
 z3:∀w,(Go.sizeOf 3).run P w= .ok 1 w
 v3:∀w,(zeroValue 3).run P w= .ok (Value.int IntKind.i64 0) w
 t4:P.underlying 4=some (TypeDesc.bool)
 a4:∀w,(isAgg 4).run P w= .ok false w
 z4:∀w,(Go.sizeOf 4).run P w= .ok 1 w
 v4:∀w,(zeroValue 4).run P w= .ok (Value.bool false) w
 tS:P.underlying 136=some (TypeDesc.slice 88)
 aS:∀w,(isAgg 136).run P w= .ok false w
 zS:∀w,(Go.sizeOf 136).run P w= .ok 1 w
 vS:∀w,(zeroValue 136).run P w= .ok (Value.slice none 0 0) w
 tC:P.underlying 307=some (TypeDesc.func #[88,88] #[3] false)
 aC:∀w,(isAgg 307).run P w= .ok false w
 zC:∀w,(Go.sizeOf 307).run P w= .ok 1 w
 vC:∀w,(zeroValue 307).run P w= .ok (Value.nilFunc) w
 tU:P.underlying 325=some (TypeDesc.int IntKind.u64)
 aU:∀w,(isAgg 325).run P w= .ok false w
 zU:∀w,(Go.sizeOf 325).run P w= .ok 1 w
 vU:∀w,(zeroValue 325).run P w= .ok (Value.int IntKind.u64 0) w
 aE:∀w,(isAgg 88).run P w= .ok true w
 zE:∀w,(Go.sizeOf 88).run P w= .ok k w
theorem WY:STy prog 8:=⟨zk,underlying0,isAgg0,sizeOf0,zeroValue0,underlying3,isAgg3,sizeOf3,zeroValue3,underlying4,isAgg4,sizeOf4,zeroValue4,underlying136,isAgg136,sizeOf136,zeroValue136,underlying307,isAgg307,sizeOf307,zeroValue307,underlying325,isAgg325,sizeOf325,zeroValue325,isAgg88,sizeOf88⟩
theorem pt{P}{α}[Inhabited α](k)(L:STy P k)(hF:P.funcs[(379:Nat)]? =some f379)(enc)(blk off cap a b n:Nat)(d0 d:Array α)(w0 w)(cf)
  (R:RowK enc k w0 blk off d0) (hs:d0.size=d.size) (S:SWK enc k w0 blk off d w) (hab:a+n<=b) (hb:b+n<=d.size) (hsz:d.size<4611686018427387904):
  Calls P 379 #[.slice (some (qA blk off)) d.size cap,qI a,qI b,qI n,cf] w fun e w'=>e=qT #[]/\∃d',aar d d' a b n/\SWK enc k w0 blk off d' w':=by
 have mixed:=L.mixed;have t0:=L.t0;have a0:=L.a0;have z0:=L.z0;have v0:=L.v0;have t3:=L.t3;have a3:=L.a3;have z3:=L.z3;have v3:=L.v3;have t4:=L.t4;have a4:=L.a4;have z4:=L.z4;have v4:=L.v4;have tS:=L.tS;have aS:=L.aS;have zS:=L.zS;have vS:=L.vS;have tC:=L.tC;have aC:=L.aC;have zC:=L.zC;have vC:=L.vC;have tU:=L.tU;have aU:=L.aU;have zU:=L.zU;have vU:=L.vU;have aE:=L.aE;have zE:=L.zE;have S0:Aside (SWK enc k w0 blk off d w):=S;go_enter hF,ntmps379;go_wp2;go_loopg [10] n (fun kx gP wr=>∃(i:Nat) (dk:Array α),gP=qI i/\i<=n/\n - i<=kx/\Aside (aar d dk a b i)/\Aside (SWK enc k w0 blk off dk wr))
 case atStart=>exact ⟨0,d,rfl,uW _,uM _,aar.zero d a b,S0⟩
 case round=>
  obtain ⟨i,dk,rfl,hi,aY,EX,S1⟩:=hrel;have gJ:=EX.o.size;by_cases hlt:i<n
  ·have aq:(i:Int)<(n:Int):=by omega
   go_wp2_with fail;have ea:((a:Int)+(i:Int)).toNat=a+i:=zj;have pa:(0:Int)<=(a:Int)+(i:Int):=zj;have ba:(a:Int)+(i:Int)<(d.size:Int):=zj;have ra:IntKind.i64.wrap ((a:Int)+(i:Int))=(a:Int)+(i:Int):=zw;have ec:((b:Int)+(i:Int)).toNat=b+i:=zj;have pc:(0:Int)<=(b:Int)+(i:Int):=zj;have bc:(b:Int)+(i:Int)<(d.size:Int):=zj;have rc:IntKind.i64.wrap ((b:Int)+(i:Int))=(b:Int)+(i:Int):=zw;have S2:Aside (SWK enc k w0 blk off (swp dk (a+i) (b+i)) ((wr.drew.setCells blk (off+(a+i)*k) (enc dk[b+i]!)).setCells blk (off+(b+i)*k) (enc dk[a+i]!))):=S1.o.swapped R (a+i) (b+i) zj zj;have la:=S1.o.ld1 R zj P (a+i) zj;have lb:=S1.o.ld1 R zj P (b+i) zj;have sa:=S1.o.st1 R zj P (a+i) zj dk[b+i]!;have sb:=S1.o.st2 R zj P (a+i) (b+i) zj zj dk[b+i]! dk[a+i]!;have na:(enc dk[a+i]!).length=k:=R.hk _;have nb:(enc dk[b+i]!).length=k:=R.hk _;generalize enc dk[a+i]! =cI at S2 la sb na;generalize enc dk[b+i]! =cJ at S2 lb sa sb nb;go_big_region_o
   generalize (wr.drew.setCells blk (off+(a+i)*k) cJ).setCells blk (off+(b+i)*k) cI=w2 at S2 |-
   go_wp2;go_roundg (n - (i+1))
   case measure=>omega
   case rel=>exact ⟨i+1,swp dk (a+i) (b+i),zJ,zj,uM _,EX.o.next zj zj,S2⟩
  have aq:¬(i:Int)<(n:Int):=zj;go_wp2;go_end0;have:i=n:=zj;subst this;exact ⟨rfl,dk,EX.o,S1.o⟩
theorem Bf{P}{α}[Inhabited α](k)(L:STy P k)(hF:P.funcs[(379:Nat)]? =some f379)(hG:P.funcs[(366:Nat)]? =some f366)(enc)(blk off cap a m b)(d0 d:Array α)(w0 w)(cf)
  (R:RowK enc k w0 blk off d0) (hs:d0.size=d.size) (S:SWK enc k w0 blk off d w) (ham:a<m) (jt:m<b) (hb:b<=d.size) (hsz:d.size<4611686018427387904):
  Calls P 366 #[.slice (some (qA blk off)) d.size cap,qI a,qI m,qI b,cf] w fun e w'=>e=qT #[]/\∃d',O9 d d' a m b/\SWK enc k w0 blk off d' w':=by
 have eS:∀args w,(callFunc 379 args).run P w= .ok (.enter 379 args) w:=enters_of hF zk rfl;have S0:Aside (SWK enc k w0 blk off d w):=S;go_enter hG,ntmps366;go_wp2;go_loopg [10,11] (b - a) (fun kx gP iP wr=>∃(i j:Nat) (dk:Array α),gP=qN i/\iP=qN j/\0<i/\0<j/\a+i<=m/\m+j<=b/\i+j<=kx/\dk.size=d.size/\Aside (∀d2,O9 dk d2 (m - i) m (m+j)->O9 d d2 a m b)/\Aside (SWK enc k w0 blk off dk wr))
 case atStart=>exact ⟨m - a,b - m,d,ur,ur,zj,zj,zj,zj,zj,rfl,(fun d2 h=>by rw [show m - (m - a)=a by omega,show m+(b - m)=b by omega] at h;exact h),S0⟩
 case round=>
  obtain ⟨i,j,dk,rfl,rfl,hi,hj,him,hjm,aY,gJ,RT,S1⟩:=hrel
  rcases Qa i j with hlt | rfl | hgt
  ·have q1:((i:Int) !=(j:Int))=true:=by simp;omega
   have q2:qlt j i=false:=zl;go_wp2_with fail;have c1:(m:Int) - (i:Int)=((m - i:Nat):Int):=zj;have c2:(m:Int)+(j:Int) - (i:Int)=((m+j - i:Nat):Int):=zj;rw [c1,c2,<-gJ];refine (pt k L hF enc blk off cap (m - i) (m+j - i) i d0 dk w0 wr cf R zj S1.o zj zj zj).mono ?_;rintro e w2 ⟨rfl,d1,EX,S2⟩
   have cZ:d1.size=d.size:=by rw [EX.size,gJ]
   have iM:Aside (∀d2,O9 d1 d2 (m - i) m (m+(j - i))->O9 d d2 a m b):=fun d2 h2=>RT.o d2 (O9.right zj hlt zj EX h2)
   have S3:Aside (SWK enc k w0 blk off d1 w2):=S2;rw [gJ];go_wp2;go_roundg (i+(j - i))
   case measure=>omega
   case rel=>exact ⟨i,j - i,d1,rfl,ur,hi,zj,him,zj,uM _,cZ,iM,S3⟩
  ·have q1:((i:Int) !=(i:Int))=false:=by simp
   go_wp2_with fail;have c1:(m:Int) - (i:Int)=((m - i:Nat):Int):=zj;rw [c1,<-gJ];refine (pt k L hF enc blk off cap (m - i) m i d0 dk w0 wr cf R zj S1.o zj zj zj).mono ?_;rintro e w2 ⟨rfl,d1,EX,S2⟩;have iM:=RT.o d1 (O9.adh zj zj EX);go_wp2;go_end0;exact ⟨rfl,d1,iM,S2⟩
  have q1:((i:Int) !=(j:Int))=true:=zl;have q2:qlt j i=true:=zl;go_wp2_with fail;have c1:(m:Int) - (i:Int)=((m - i:Nat):Int):=zj;rw [c1,<-gJ];refine (pt k L hF enc blk off cap (m - i) m j d0 dk w0 wr cf R zj S1.o zj zj zj).mono ?_;rintro e w2 ⟨rfl,d1,EX,S2⟩
  have cZ:d1.size=d.size:=by rw [EX.size,gJ]
  have iM:Aside (∀d2,O9 d1 d2 (m - (i - j)) m (m+j)->O9 d d2 a m b):=fun d2 h2=>RT.o d2 (O9.left zj hgt zj EX h2)
  have S3:Aside (SWK enc k w0 blk off d1 w2):=S2;rw [gJ];go_wp2;go_roundg (i - j+j)
  case measure=>omega
  case rel=>exact ⟨i - j,j,d1,ur,rfl,zj,hj,zj,hjm,uM _,cZ,iM,S3⟩
structure Xm (P:Program) {β:Type} [Inhabited β] (lt:β->β->Bool) (k:Nat) (enc:β×Nat->List Value) (cf:β×Nat->β×Nat->Int) (g:Nat) (w0:qW) (blk off:Nat) (d0:Array (β×Nat)):Prop where
 ty:STy P k
 fS:P.funcs[(379:Nat)]? =some f379
 fR:P.funcs[(366:Nat)]? =some f366
 fM:P.funcs[(330:Nat)]? =some f330
 row:RowK enc k w0 blk off d0
 X2:∀x y,decide (cf x y<0)=tlt lt x y
 swo:SWO lt
 eg:∀args w,(callFunc g args).run P w= .ok (.enter g args) w
 cmp:CmpLays P g #[] enc k cf blk off d0.size w0
def pz(P:Program){β:Type}[Inhabited β](lt:β->β->Bool)(k:Nat)(enc:β×Nat->List Value)(g:Nat)(w0:qW)(blk off cap a m b:Nat)(d:Array (β×Nat))(w:qW):Prop:=
 Calls P 330 #[.slice (some (qA blk off)) d.size cap,qI a,qI m,qI b,.func (.func g) #[] #[]] w fun e w'=>e=qT #[]/\∃d',(PermIn a b d d'/\SortedIn (slt lt) a b d')/\SWK enc k w0 blk off d' w'
theorem PB{P}{β}[Inhabited β]{lt}{k}{enc}{cf}{g}{w0}{blk off}{d0}(V:Xm P lt k enc cf g w0 blk off d0)(cap a m b)(d:Array (β×Nat))(w)
  (hs:d0.size=d.size) (S:SWK enc k w0 blk off d w) (hr:F0 lt a m b d) (ham:a<m) (jt:m<b) (hb:b<=d.size) (hsz:d.size<4611686018427387904) (h1:m=a+1):
  pz P lt k enc g w0 blk off cap a m b d w:=by
 unfold pz;have L:=V.ty;have mixed:=L.mixed;have t0:=L.t0;have a0:=L.a0;have z0:=L.z0;have v0:=L.v0;have t3:=L.t3;have a3:=L.a3;have z3:=L.z3;have v3:=L.v3;have t4:=L.t4;have a4:=L.a4;have z4:=L.z4;have v4:=L.v4;have tS:=L.tS;have aS:=L.aS;have zS:=L.zS;have vS:=L.vS;have tC:=L.tC;have aC:=L.aC;have zC:=L.zC;have vC:=L.vC;have tU:=L.tU;have aU:=L.aU;have zU:=L.zU;have vU:=L.vU;have aE:=L.aE;have zE:=L.zE;have R:=V.row;have eg:=V.eg;have CMP:Aside (CmpLays P g #[] enc k cf blk off d0.size w0):=V.cmp;have LT:Aside (∀x y,decide (cf x y<0)=tlt lt x y):=V.X2;have S0:Aside (SWK enc k w0 blk off d w):=S;have HR:Aside (F0 lt a m b d):=hr;have q0:((m:Int) - (a:Int)==1)=true:=zl;have H1:Aside (m=a+1):=h1;clear h1;go_enter V.fM,ntmps330;go_wp2;go_loopg [10,11] (b - m) (fun kx gP iP wr=>∃(i j:Nat),gP=qN i/\iP=qN j/\m<=i/\i<=j/\j<=b/\j - i<=kx/\Aside ((m<i->tlt lt d[i - 1]! d[a]! =true)/\(j<b->tlt lt d[j]! d[a]! =false))/\Aside (SWK enc k w0 blk off d wr))
 case atStart=>exact ⟨m,b,rfl,rfl,uM _,zj,uM _,uM _,⟨fun h=>zj,fun h=>zj⟩,S0⟩
 case round=>
  obtain ⟨i,j,rfl,rfl,hi,ay,hj,aY,ED,S1⟩:=hrel;by_cases hlt:i<j
  ·have aq:qlt i j=true:=by simp;omega
   go_wp2_with fail
   obtain ⟨h,hh⟩:∃h:Nat,h=(i+j) / 2:=⟨_,rfl⟩
   have gw:i<=h:=zj;have hi2:h<j:=zj;have hz:((i:Int)+(j:Int)) / 2=(h:Int):=zj;rw [hz];clear hz hh;have ex:((h:Int)).toNat=h:=zj;have px:(0:Int)<=(h:Int):=zj;have bdx:(h:Int)<(d.size:Int):=zj;have rx:IntKind.i64.wrap ((h:Int))=(h:Int):=zw;have ey:((a:Int)).toNat=a:=zj;have py:(0:Int)<=(a:Int):=zj;have bdy:(a:Int)<(d.size:Int):=zj;have ry:IntKind.i64.wrap ((a:Int))=(a:Int):=zw;have lx:=S1.o.ld R zj P (h) zj;have ly:=S1.o.ld R zj P (a) zj;have hc:=S1.o.cmp CMP.o zj d[h]! d[a]!;have hl:=LT.o d[h]! d[a]!
   have SG:Aside (∀n os,SWK enc k w0 blk off d (grow (wr.drewN n) os)):=fun n os=>S1.o.grown n os
   generalize cf d[h]! d[a]! =z at hc hl;have HL:=Lib.hid hl;clear hl;simp only [Array.append_empty] at hc;by_cases ik:z<0
   ·go_wp2_with fail;go_quiet_grown (first | (go_at_fn g;refine Calls.grown_of (hc _ _)));have S2:Aside (SWK enc k w0 blk off d (grow (wr.drewN nq) osq)):=SG.o nq osq
    have fK:Aside ((m<h+1->tlt lt d[h+1 - 1]! d[a]! =true)/\(j<b->tlt lt d[j]! d[a]! =false)):=⟨fun _=>by rw [Nat.add_sub_cancel,<-HL.o];exact decide_eq_true ik,ED.o.2⟩
    clear lx ly hc SG S1 ED
    generalize grow (wr.drewN nq) osq=w2 at S2 |-
    go_wp2;go_roundg (j - (h+1))
    case measure=>omega
    case rel=>exact ⟨h+1,j,zJ,rfl,zj,zj,hj,uM _,fK,S2⟩
   go_wp2_with fail;go_quiet_grown (first | (go_at_fn g;refine Calls.grown_of (hc _ _)));have S2:Aside (SWK enc k w0 blk off d (grow (wr.drewN nq) osq)):=SG.o nq osq
   have fK:Aside ((m<i->tlt lt d[i - 1]! d[a]! =true)/\(h<b->tlt lt d[h]! d[a]! =false)):=⟨ED.o.1,fun _=>by rw [<-HL.o];exact decide_eq_false zj⟩
   clear lx ly hc SG S1 ED
   generalize grow (wr.drewN nq) osq=w2 at S2 |-
   go_wp2;go_roundg (h - i)
   case measure=>omega
   case rel=>exact ⟨i,h,rfl,rfl,hi,gw,zj,uM _,fK,S2⟩
  have aq:qlt i j=false:=zl;obtain rfl:i=j:=zj;have EI:=ED;go_wp2;clear ED;go_loopg [13] (i - 1 - a) (fun kx gO wv=>∃(t:Nat) (dk:Array (β×Nat)),gO=qN t/\a<=t/\t+1<=i/\i - 1 - t<=kx/\dk.size=d.size/\Aside (O9 d dk a (a+1) (t+1))/\Aside (SWK enc k w0 blk off dk wv))
  case atStart=>exact ⟨a,d,rfl,uM _,zj,uM _,rfl,O9.none d a (a+1) (a+1) zj zj (.inr rfl),S1⟩
  case round=>
   clear S1;obtain ⟨t,dk,rfl,ht,hti,hkx2,gJ,RT,S1⟩:=hrel;by_cases io:t+1<i
   ·have im:decide ((t:Int)<(i:Int) - 1)=true:=by simp;omega
    go_wp2_with fail;have ex:((t:Int)).toNat=t:=zj;have px:(0:Int)<=(t:Int):=zj;have bdx:(t:Int)<(d.size:Int):=zj;have rx:IntKind.i64.wrap ((t:Int))=(t:Int):=zw;have ey:((t:Int)+1).toNat=t+1:=zj;have py:(0:Int)<=(t:Int)+1:=zj;have bdy:(t:Int)+1<(d.size:Int):=zj;have ry:IntKind.i64.wrap ((t:Int)+1)=(t:Int)+1:=zw;have S2:Aside (SWK enc k w0 blk off (swp dk (t) (t+1)) ((wr.drew.setCells blk (off+(t)*k) (enc dk[t+1]!)).setCells blk (off+(t+1)*k) (enc dk[t]!))):=S1.o.swapped R (t) (t+1) zj zj;have la:=S1.o.ld1 R zj P (t) zj;have lb:=S1.o.ld1 R zj P (t+1) zj;have sa:=S1.o.st1 R zj P (t) zj dk[t+1]!;have sb:=S1.o.st2 R zj P (t) (t+1) zj zj dk[t+1]! dk[t]!;have na:(enc dk[t]!).length=k:=R.hk _;have nb:(enc dk[t+1]!).length=k:=R.hk _;generalize enc dk[t]! =cI at S2 la sb na;generalize enc dk[t+1]! =cJ at S2 lb sa sb nb;clear S1;go_big_region_o;clear la lb sa sb
    generalize (wr.drew.setCells blk (off+(t)*k) cJ).setCells blk (off+(t+1)*k) cI=w2 at S2 |-
    go_wp2;go_roundg (i - 1 - (t+1))
    case measure=>omega
    case rel=>exact ⟨t+1,swp dk t (t+1),zJ,zj,zj,uM _,by rw [swp_size];exact gJ,RT.o.up ht zj,S2⟩
   have im:decide ((t:Int)<(i:Int) - 1)=false:=zl;go_wp2;(try simp only [Exit.inBlock,Exit.then]);refine bodyPost_ret (results_none rfl _ _ _) rfl ?_;have kg:t+1=i:=zj
   have iM:O9 d dk a (a+1) i:=by rw [<-kg];exact RT.o
   have h1:=H1.o;subst h1;exact ⟨rfl,dk,⟨permIn_mono d dk _ _ _ _ zg hj hb iM.G8,F0.first V.swo HR.o hi hj (fun h=>EI.o.1 h) (fun h=>EI.o.2 h) iM⟩,S1.o⟩
theorem Tr{P}{β}[Inhabited β]{lt}{k}{enc}{cf}{g}{w0}{blk off}{d0}(V:Xm P lt k enc cf g w0 blk off d0)(cap a m b)(d:Array (β×Nat))(w)
  (hs:d0.size=d.size) (S:SWK enc k w0 blk off d w) (hr:F0 lt a m b d) (ham:a<m) (jt:m<b) (hb:b<=d.size) (hsz:d.size<4611686018427387904) (h0:m≠a+1) (h1:b=m+1):
  pz P lt k enc g w0 blk off cap a m b d w:=by
 unfold pz;have L:=V.ty;have mixed:=L.mixed;have t0:=L.t0;have a0:=L.a0;have z0:=L.z0;have v0:=L.v0;have t3:=L.t3;have a3:=L.a3;have z3:=L.z3;have v3:=L.v3;have t4:=L.t4;have a4:=L.a4;have z4:=L.z4;have v4:=L.v4;have tS:=L.tS;have aS:=L.aS;have zS:=L.zS;have vS:=L.vS;have tC:=L.tC;have aC:=L.aC;have zC:=L.zC;have vC:=L.vC;have tU:=L.tU;have aU:=L.aU;have zU:=L.zU;have vU:=L.vU;have aE:=L.aE;have zE:=L.zE;have R:=V.row;have eg:=V.eg;have CMP:Aside (CmpLays P g #[] enc k cf blk off d0.size w0):=V.cmp;have LT:Aside (∀x y,decide (cf x y<0)=tlt lt x y):=V.X2;have S0:Aside (SWK enc k w0 blk off d w):=S;have HR:Aside (F0 lt a m b d):=hr;have q0:((m:Int) - (a:Int)==1)=false:=zl;have q1:((b:Int) - (m:Int)==1)=true:=zl;have H1:Aside (b=m+1):=h1;clear h0 h1;go_enter V.fM,ntmps330;go_wp2;go_loopg [14,15] (m - a) (fun kx gP iP wr=>∃(i j:Nat),gP=qN i/\iP=qN j/\a<=i/\i<=j/\j<=m/\j - i<=kx/\Aside ((a<i->tlt lt d[m]! d[i - 1]! =false)/\(j<m->tlt lt d[m]! d[j]! =true))/\Aside (SWK enc k w0 blk off d wr))
 case atStart=>exact ⟨a,m,rfl,rfl,uM _,zj,uM _,uM _,⟨fun h=>zj,fun h=>zj⟩,S0⟩
 case round=>
  obtain ⟨i,j,rfl,rfl,hi,ay,hj,aY,ED,S1⟩:=hrel;by_cases hlt:i<j
  ·have aq:qlt i j=true:=by simp;omega
   go_wp2_with fail
   obtain ⟨h,hh⟩:∃h:Nat,h=(i+j) / 2:=⟨_,rfl⟩
   have gw:i<=h:=zj;have hi2:h<j:=zj;have hz:((i:Int)+(j:Int)) / 2=(h:Int):=zj;rw [hz];clear hz hh;have ex:((m:Int)).toNat=m:=zj;have px:(0:Int)<=(m:Int):=zj;have bdx:(m:Int)<(d.size:Int):=zj;have rx:IntKind.i64.wrap ((m:Int))=(m:Int):=zw;have ey:((h:Int)).toNat=h:=zj;have py:(0:Int)<=(h:Int):=zj;have bdy:(h:Int)<(d.size:Int):=zj;have ry:IntKind.i64.wrap ((h:Int))=(h:Int):=zw;have lx:=S1.o.ld R zj P (m) zj;have ly:=S1.o.ld R zj P (h) zj;have hc:=S1.o.cmp CMP.o zj d[m]! d[h]!;have hl:=LT.o d[m]! d[h]!
   have SG:Aside (∀n os,SWK enc k w0 blk off d (grow (wr.drewN n) os)):=fun n os=>S1.o.grown n os
   generalize cf d[m]! d[h]! =z at hc hl;have HL:=Lib.hid hl;clear hl;simp only [Array.append_empty] at hc;by_cases ik:z<0
   ·go_wp2_with fail;go_quiet_grown (first | (go_at_fn g;refine Calls.grown_of (hc _ _)));have S2:Aside (SWK enc k w0 blk off d (grow (wr.drewN nq) osq)):=SG.o nq osq
    have fK:Aside ((a<i->tlt lt d[m]! d[i - 1]! =false)/\(h<m->tlt lt d[m]! d[h]! =true)):=⟨ED.o.1,fun _=>by rw [<-HL.o];exact decide_eq_true ik⟩
    generalize grow (wr.drewN nq) osq=w2 at S2 |-
    go_wp2;go_roundg (h - i)
    case measure=>omega
    case rel=>exact ⟨i,h,rfl,rfl,hi,gw,zj,uM _,fK,S2⟩
   go_wp2_with fail;go_quiet_grown (first | (go_at_fn g;refine Calls.grown_of (hc _ _)));have S2:Aside (SWK enc k w0 blk off d (grow (wr.drewN nq) osq)):=SG.o nq osq
   have fK:Aside ((a<h+1->tlt lt d[m]! d[h+1 - 1]! =false)/\(j<m->tlt lt d[m]! d[j]! =true)):=⟨fun _=>by rw [Nat.add_sub_cancel,<-HL.o];exact decide_eq_false zj,ED.o.2⟩
   generalize grow (wr.drewN nq) osq=w2 at S2 |-
   have hd:(!decide (z<0))=true:=xh;go_wp2;go_roundg (j - (h+1))
   case measure=>omega
   case rel=>exact ⟨h+1,j,zJ,rfl,zj,zj,hj,uM _,fK,S2⟩
   rename_i hx;exact ko9
  have aq:qlt i j=false:=zl;obtain rfl:i=j:=zj;have EI:=ED;go_wp2;go_loopg [17] (m - i) (fun kx ji wv=>∃(t:Nat) (dk:Array (β×Nat)),ji=qN t/\i<=t/\t<=m/\t - i<=kx/\dk.size=d.size/\Aside (O9 d dk t m (m+1))/\Aside (SWK enc k w0 blk off dk wv))
  case atStart=>exact ⟨m,d,rfl,hj,uM _,uM _,rfl,O9.none d m m (m+1) zj zj (.inl rfl),S1⟩
  case round=>
   obtain ⟨t,dk,rfl,ht,ke,hkx2,gJ,RT,S1⟩:=hrel;by_cases io:i<t
   ·obtain ⟨t',rfl⟩:∃t',t=t'+1:=⟨t - 1,zj⟩
    have im:decide ((i:Int)<((t'+1:Nat):Int))=true:=zl;have hltz3:decide ((i:Int)<(t':Int)+1)=true:=zl;go_wp2_with fail;have ex:((t':Int)+1).toNat=t'+1:=zj;have px:(0:Int)<=(t':Int)+1:=zj;have bdx:(t':Int)+1<(d.size:Int):=zj;have rx:IntKind.i64.wrap ((t':Int)+1)=(t':Int)+1:=zw;have ey:((t':Int)).toNat=t':=zj;have py:(0:Int)<=(t':Int):=zj;have bdy:(t':Int)<(d.size:Int):=zj;have ry:IntKind.i64.wrap ((t':Int))=(t':Int):=zw;have S2:Aside (SWK enc k w0 blk off (swp dk (t'+1) (t')) ((wr.drew.setCells blk (off+(t'+1)*k) (enc dk[t']!)).setCells blk (off+(t')*k) (enc dk[t'+1]!))):=S1.o.swapped R (t'+1) (t') zj zj;have la:=S1.o.ld1 R zj P (t'+1) zj;have lb:=S1.o.ld1 R zj P (t') zj;have sa:=S1.o.st1 R zj P (t'+1) zj dk[t']!;have sb:=S1.o.st2 R zj P (t'+1) (t') zj zj dk[t']! dk[t'+1]!;have na:(enc dk[t'+1]!).length=k:=R.hk _;have nb:(enc dk[t']!).length=k:=R.hk _;generalize enc dk[t'+1]! =cI at S2 la sb na;generalize enc dk[t']! =cJ at S2 lb sa sb nb;go_big_region_o
    generalize (wr.drew.setCells blk (off+(t'+1)*k) cJ).setCells blk (off+(t')*k) cI=w2 at S2 |-
    go_wp2;go_roundg (t' - i)
    case measure=>omega
    case rel=>exact ⟨t',swp dk (t'+1) t',by first | rfl | go_num | (congr 1;omega),zj,zj,uM _,by rw [swp_size];exact gJ,RT.o.abE zj zj,S2⟩
   have im:qlt i t=false:=zl;go_wp2;(try simp only [Exit.inBlock,Exit.then]);refine bodyPost_ret (results_none rfl _ _ _) rfl ?_;have kg:t=i:=zj
   have iM:O9 d dk i m (m+1):=by rw [<-kg];exact RT.o
   have h1:=H1.o;subst h1;exact ⟨rfl,dk,⟨permIn_mono d dk _ _ _ _ hi zg hb iM.G8,F0.ac6 V.swo HR.o hi hj (fun h=>EI.o.1 h) (fun h=>EI.o.2 h) iM⟩,S1.o⟩
theorem F0.off{β}[Inhabited β]{lt}{a c e b}{d d':Array (β×Nat)}(h:F0 lt c e b d)(hce:c<=e)(p:PermIn a c d d'):F0 lt c e b d' where
 one:=fun i j hi ay hj=>by rw [p.2.1 i (.inr hi),p.2.1 j (.inr zj)];exact h.one i j hi ay hj
 two:=fun i j hi ay hj=>by rw [p.2.1 i (.inr zj),p.2.1 j (.inr zj)];exact h.two i j hi ay hj
 tag:=fun x y hx b6 hy hyb=>by rw [p.2.1 x (.inr hx),p.2.1 y (.inr zj)];exact h.tag x y hx b6 hy hyb
theorem zcV{P}{β}[Inhabited β]{lt}{k}{enc}{cf}{g}{w0}{blk off}{d0}(V:Xm P lt k enc cf g w0 blk off d0)(cap a m b)(d:Array (β×Nat))(w)
  (hs:d0.size=d.size) (S:SWK enc k w0 blk off d w) (hr:F0 lt a m b d) (ham:a<m) (jt:m<b) (hb:b<=d.size) (hsz:d.size<4611686018427387904) (_h0:m≠a+1) (_h1:b≠m+1)
  (IH:∀a' m' b' d' w',b' - a'<b - a->d0.size=d'.size->SWK enc k w0 blk off d' w'->F0 lt a' m' b' d'->a'<m'->m'<b'->b'<=d'.size->d'.size<4611686018427387904->pz P lt k enc g w0 blk off cap a' m' b' d' w') (co:(a+b) / 2<m):
  pz P lt k enc g w0 blk off cap a m b d w:=by
 unfold pz;have L:=V.ty;have mixed:=L.mixed;have t0:=L.t0;have a0:=L.a0;have z0:=L.z0;have v0:=L.v0;have t3:=L.t3;have a3:=L.a3;have z3:=L.z3;have v3:=L.v3;have t4:=L.t4;have a4:=L.a4;have z4:=L.z4;have v4:=L.v4;have tS:=L.tS;have aS:=L.aS;have zS:=L.zS;have vS:=L.vS;have tC:=L.tC;have aC:=L.aC;have zC:=L.zC;have vC:=L.vC;have tU:=L.tU;have aU:=L.aU;have zU:=L.zU;have vU:=L.vU;have aE:=L.aE;have zE:=L.zE;have eR:∀args w,(callFunc 366 args).run P w= .ok (.enter 366 args) w:=enters_of V.fR zk rfl;have eM:∀args w,(callFunc 330 args).run P w= .ok (.enter 330 args) w:=enters_of V.fM zk rfl;have R:=V.row;have eg:=V.eg;have CMP:Aside (CmpLays P g #[] enc k cf blk off d0.size w0):=V.cmp;have LT:Aside (∀x y,decide (cf x y<0)=tlt lt x y):=V.X2;have S0:Aside (SWK enc k w0 blk off d w):=S;have HR:Aside (F0 lt a m b d):=hr;have k9:Aside (∀a' m' b' d' w',b' - a'<b - a->d0.size=d'.size->SWK enc k w0 blk off d' w'->F0 lt a' m' b' d'->a'<m'->m'<b'->b'<=d'.size->d'.size<4611686018427387904->pz P lt k enc g w0 blk off cap a' m' b' d' w'):=IH;clear S hr IH;have q0:((m:Int) - (a:Int)==1)=false:=zl;have q1:((b:Int) - (m:Int)==1)=false:=zl;clear _h0 _h1
 obtain ⟨mid,hmi⟩:∃mid:Nat,mid=(a+b) / 2:=⟨_,rfl⟩
 rw [<-hmi] at co;have hm1:a<mid:=zj;have bJ:mid<b:=zj;have cA:a+b<=2*mid+1:=zj;have jw:2*mid<=a+b:=zj;have q2:qlt mid m=true:=zl;have hz:((a:Int)+(b:Int)) / 2=(mid:Int):=zj;have HZ:=Lib.hid hz
 obtain ⟨pp,hpp⟩:∃pp:Nat,pp=mid+m - 1:=⟨_,rfl⟩
 have bR:pp+1<=mid+m:=zj;have gm:mid+m<=pp+1:=zj;have HP:=Lib.hid (show (mid:Int)+(m:Int) - 1=(pp:Int) by omega);clear hz hmi hpp;go_enter V.fM,ntmps330;go_upto_region 25 with fail;rw [HZ.o];clear HZ;go_wp2;rw [HP.o];clear HP;clear q0 q1 q2;go_loopg [20,21] (mid - (mid+m - b)) (fun kx s20 s21 wr=>∃(i j:Nat),s20=qN i/\s21=qN j/\mid+m - b<=i/\i<=j/\j<=mid/\j - i<=kx/\Aside ((mid+m - b<i->tlt lt d[mid+m - i]! d[i - 1]! =false)/\(j<mid->tlt lt d[mid+m - 1 - j]! d[j]! =true))/\Aside (SWK enc k w0 blk off d wr))
 case atStart=>exact ⟨mid+m - b,mid,yh,rfl,uM _,zj,uM _,uM _,⟨fun h=>zj,fun h=>zj⟩,S0⟩
 case round=>
  clear S0;obtain ⟨i,j,rfl,rfl,hi,ay,hj,aY,ED,S1⟩:=hrel;by_cases hlt:i<j
  ·have aq:qlt i j=true:=by simp;omega
   go_wp2_with fail
   obtain ⟨h,hh⟩:∃h:Nat,h=(i+j) / 2:=⟨_,rfl⟩
   have gw:i<=h:=zj;have hi2:h<j:=zj;have hz:((i:Int)+(j:Int)) / 2=(h:Int):=zj
   obtain ⟨q,hq⟩:∃q:Nat,q=mid+m - 1 - h:=⟨_,rfl⟩
   have hq1:q+h+1<=mid+m:=zj;have hq2:mid+m<=q+h+1:=zj;have HQ:=Lib.hid (show (pp:Int)=(q:Int)+(h:Int) by omega);have lf:=Lib.hid hq;rw [hz,HQ.o];clear hz hh hq;have ex:((q:Int)).toNat=q:=zj;have px:(0:Int)<=(q:Int):=zj;have bdx:(q:Int)<(d.size:Int):=zj;have rx:IntKind.i64.wrap ((q:Int))=(q:Int):=zw;have ey:((h:Int)).toNat=h:=zj;have py:(0:Int)<=(h:Int):=zj;have bdy:(h:Int)<(d.size:Int):=zj;have ry:IntKind.i64.wrap ((h:Int))=(h:Int):=zw;have lx:=S1.o.ld R zj P (q) zj;have ly:=S1.o.ld R zj P (h) zj;have hc:=S1.o.cmp CMP.o zj d[q]! d[h]!;have hl:=LT.o d[q]! d[h]!
   have SG:Aside (∀n os,SWK enc k w0 blk off d (grow (wr.drewN n) os)):=fun n os=>S1.o.grown n os
   generalize cf d[q]! d[h]! =z at hc hl;have HL:=Lib.hid hl;clear hl;simp only [Array.append_empty] at hc;by_cases ik:z<0
   ·go_wp2_with fail;go_quiet_grown (first | (go_at_fn g;refine Calls.grown_of (hc _ _)));have S2:Aside (SWK enc k w0 blk off d (grow (wr.drewN nq) osq)):=SG.o nq osq
    have fK:Aside ((mid+m - b<i->tlt lt d[mid+m - i]! d[i - 1]! =false)/\(h<mid->tlt lt d[mid+m - 1 - h]! d[h]! =true)):=⟨ED.o.1,fun _=>vy⟩
    clear lx ly hc SG S1 ED
    generalize grow (wr.drewN nq) osq=w2 at S2 |-
    rw [<-HQ.o];clear HQ lf;go_wp2;go_roundg (h - i)
    case measure=>omega
    case rel=>exact ⟨i,h,rfl,rfl,hi,gw,zj,uM _,fK,S2⟩
   go_wp2_with fail;go_quiet_grown (first | (go_at_fn g;refine Calls.grown_of (hc _ _)));have S2:Aside (SWK enc k w0 blk off d (grow (wr.drewN nq) osq)):=SG.o nq osq
   have fK:Aside ((mid+m - b<h+1->tlt lt d[mid+m - (h+1)]! d[h+1 - 1]! =false)/\(j<mid->tlt lt d[mid+m - 1 - j]! d[j]! =true)):=⟨fun _=>by rw [Nat.add_sub_cancel,show mid+m - (h+1)=mid+m - 1 - h by omega,<-lf.o,<-HL.o];exact decide_eq_false zj,ED.o.2⟩
   clear lx ly hc SG S1 ED
   generalize grow (wr.drewN nq) osq=w2 at S2 |-
   have hd:(!decide (z<0))=true:=xh;rw [<-HQ.o];clear HQ lf;go_wp2;go_roundg (j - (h+1))
   case measure=>omega
   case rel=>exact ⟨h+1,j,zJ,rfl,zj,zj,hj,uM _,fK,S2⟩
   rename_i hx;exact ko9
  have aq:qlt i j=false:=zl;obtain rfl:i=j:=zj
  obtain ⟨e,hee⟩:∃e:Nat,e=mid+m - i:=⟨_,rfl⟩
  have he1:i+e=mid+m:=zj
  have bu:a<i->e<b->tlt lt d[e]! d[i - 1]! =false:=fun x y=>by rw [hee];exact ED.o.1 zj
  have iy:i<m->m<e->tlt lt d[e - 1]! d[i]! =true:=fun x y=>qZ
  have jV:Aside (a<i->e<b->tlt lt d[e]! d[i - 1]! =false):=bu;have jW:Aside (i<m->m<e->tlt lt d[e - 1]! d[i]! =true):=iy;have hze:(mid:Int)+(m:Int) - (i:Int)=(e:Int):=zj;have HZE:=Lib.hid hze;clear bu iy hze hee ED;go_upto_region 39 with fail;rw [HZE.o];clear HZE;by_cases hrot:i<mid
  ·skip;have b0:qlt i m=true:=zl;have b1:qlt m e=true:=zl;go_wp2_with fail;clear b0 b1;refine (Bf k L V.fS V.fR enc blk off cap i m e d0 d w0 wr _ R hs S1.o zj zj zj zj).mono ?_;rintro ex w1 ⟨rfl,d1,RT,S_1⟩;have cj:=RT.G8.1;have S2:Aside (SWK enc k w0 blk off d1 w1):=S_1;clear S_1 S1
   have ci:Aside (F0 lt a i mid d1/\F0 lt mid e b d1/\∀p q,a<=p->p<mid->mid<=q->q<b->slt lt d1[q]! d1[p]! =false):=by
    exact kd0
   have gN:Aside (PermIn a b d d1):=permIn_mono d d1 _ _ _ _ zj zj hb RT.G8;clear RT jV jW;by_cases hse:a<i
   ·skip;have b0:qlt a i=true:=zl;have b1:qlt i mid=true:=zl;go_wp2_with fail;clear b0 b1;have C:=k9.o a i mid d1 w1 zj zj S2.o ci.o.1 zj zj zj zj;unfold pz at C;rw [cj] at C;refine C.mono ?_;clear C;rintro ex w2 ⟨rfl,d2,⟨PMd2,SOd2⟩,S_d2⟩
    have gh:d2.size=d.size:=by rw [PMd2.1,cj]
    have k8:Aside (SWK enc k w0 blk off d2 w2):=S_d2
    have f9:Aside (PermIn a mid d1 d2/\SortedIn (slt lt) a mid d2):=⟨PMd2,SOd2⟩
    clear PMd2 SOd2 S_d2;clear S2;by_cases hth:e<b
    ·exact ka8
    skip;have b0:qlt mid e=true:=zl;have b1:qlt e b=false:=zl;exact kc4
   skip;have b0:qlt a i=false:=zl
   have eo:Aside (PermIn a mid d1 d1/\SortedIn (slt lt) a mid d1):=⟨permIn_refl _ _ _,F0.O ci.o.1 zj⟩
   by_cases hth:e<b
   ·exfalso;omega
   skip;have b0:qlt mid e=true:=zl;have b1:qlt e b=false:=zl;exact kb1
  skip;have b0:qlt i m=true:=zl;have b1:qlt m e=false:=zl
  obtain ⟨d1,w1,cZ,hw1⟩:∃d1 w1,d1=d/\w1=wr:=⟨_,_,rfl,rfl⟩
  have RT:O9 d d1 i m e:=xI;have cj:=RT.G8.1
  have S2:Aside (SWK enc k w0 blk off d1 w1):=by rw [cZ,hw1];exact S1
  rw [<-hw1];clear cZ hw1 S1
  have ci:Aside (F0 lt a i mid d1/\F0 lt mid e b d1/\∀p q,a<=p->p<mid->mid<=q->q<b->slt lt d1[q]! d1[p]! =false):=by
   exact kd0
  have gN:Aside (PermIn a b d d1):=permIn_mono d d1 _ _ _ _ zj zj hb RT.G8;clear RT jV jW;have b0:qlt a i=true:=zl;have b1:qlt i mid=false:=zl
  have eo:Aside (PermIn a mid d1 d1/\SortedIn (slt lt) a mid d1):=⟨permIn_refl _ _ _,F0.O ci.o.1 zj⟩
  by_cases hth:e<b
  ·exact ka9
  exfalso;omega
theorem zcw{P}{β}[Inhabited β]{lt}{k}{enc}{cf}{g}{w0}{blk off}{d0}(V:Xm P lt k enc cf g w0 blk off d0)(cap a m b)(d:Array (β×Nat))(w)
  (hs:d0.size=d.size) (S:SWK enc k w0 blk off d w) (hr:F0 lt a m b d) (ham:a<m) (jt:m<b) (hb:b<=d.size) (hsz:d.size<4611686018427387904) (_h0:m≠a+1) (_h1:b≠m+1)
  (IH:∀a' m' b' d' w',b' - a'<b - a->d0.size=d'.size->SWK enc k w0 blk off d' w'->F0 lt a' m' b' d'->a'<m'->m'<b'->b'<=d'.size->d'.size<4611686018427387904->pz P lt k enc g w0 blk off cap a' m' b' d' w') (co:m<=(a+b) / 2):
  pz P lt k enc g w0 blk off cap a m b d w:=by
 unfold pz;have L:=V.ty;have mixed:=L.mixed;have t0:=L.t0;have a0:=L.a0;have z0:=L.z0;have v0:=L.v0;have t3:=L.t3;have a3:=L.a3;have z3:=L.z3;have v3:=L.v3;have t4:=L.t4;have a4:=L.a4;have z4:=L.z4;have v4:=L.v4;have tS:=L.tS;have aS:=L.aS;have zS:=L.zS;have vS:=L.vS;have tC:=L.tC;have aC:=L.aC;have zC:=L.zC;have vC:=L.vC;have tU:=L.tU;have aU:=L.aU;have zU:=L.zU;have vU:=L.vU;have aE:=L.aE;have zE:=L.zE;have eR:∀args w,(callFunc 366 args).run P w= .ok (.enter 366 args) w:=enters_of V.fR zk rfl;have eM:∀args w,(callFunc 330 args).run P w= .ok (.enter 330 args) w:=enters_of V.fM zk rfl;have R:=V.row;have eg:=V.eg;have CMP:Aside (CmpLays P g #[] enc k cf blk off d0.size w0):=V.cmp;have LT:Aside (∀x y,decide (cf x y<0)=tlt lt x y):=V.X2;have S0:Aside (SWK enc k w0 blk off d w):=S;have HR:Aside (F0 lt a m b d):=hr;have k9:Aside (∀a' m' b' d' w',b' - a'<b - a->d0.size=d'.size->SWK enc k w0 blk off d' w'->F0 lt a' m' b' d'->a'<m'->m'<b'->b'<=d'.size->d'.size<4611686018427387904->pz P lt k enc g w0 blk off cap a' m' b' d' w'):=IH;have q0:((m:Int) - (a:Int)==1)=false:=zl;have q1:((b:Int) - (m:Int)==1)=false:=zl
 obtain ⟨mid,hmi⟩:∃mid:Nat,mid=(a+b) / 2:=⟨_,rfl⟩
 rw [<-hmi] at co;have hm1:a<mid:=zj;have bJ:mid<b:=zj;have cA:a+b<=2*mid+1:=zj;have jw:2*mid<=a+b:=zj;have q2:qlt mid m=false:=zl;have hz:((a:Int)+(b:Int)) / 2=(mid:Int):=zj;have HZ:=Lib.hid hz
 obtain ⟨pp,hpp⟩:∃pp:Nat,pp=mid+m - 1:=⟨_,rfl⟩
 have bR:pp+1<=mid+m:=zj;have gm:mid+m<=pp+1:=zj;have HP:=Lib.hid (show (mid:Int)+(m:Int) - 1=(pp:Int) by omega);clear hz hmi hpp;go_enter V.fM,ntmps330;go_upto_region 25 with fail;rw [HZ.o];go_wp2;rw [HP.o];rw [decide_eq_false (show ¬mid<m by omega)];go_loopg [20,21] (m - (a)) (fun kx s20 s21 wr=>∃(i j:Nat),s20=qN i/\s21=qN j/\a<=i/\i<=j/\j<=m/\j - i<=kx/\Aside ((a<i->tlt lt d[mid+m - i]! d[i - 1]! =false)/\(j<m->tlt lt d[mid+m - 1 - j]! d[j]! =true))/\Aside (SWK enc k w0 blk off d wr))
 case atStart=>exact ⟨a,m,yh,rfl,uM _,zj,uM _,uM _,⟨fun h=>zj,fun h=>zj⟩,S0⟩
 case round=>
  obtain ⟨i,j,rfl,rfl,hi,ay,hj,aY,ED,S1⟩:=hrel;by_cases hlt:i<j
  ·have aq:qlt i j=true:=by simp;omega
   go_wp2_with fail
   obtain ⟨h,hh⟩:∃h:Nat,h=(i+j) / 2:=⟨_,rfl⟩
   have gw:i<=h:=zj;have hi2:h<j:=zj;have hz:((i:Int)+(j:Int)) / 2=(h:Int):=zj
   obtain ⟨q,hq⟩:∃q:Nat,q=mid+m - 1 - h:=⟨_,rfl⟩
   have hq1:q+h+1<=mid+m:=zj;have hq2:mid+m<=q+h+1:=zj;have HQ:=Lib.hid (show (pp:Int)=(q:Int)+(h:Int) by omega);have lf:=Lib.hid hq;rw [hz,HQ.o];clear hz hh hq;have ex:((q:Int)).toNat=q:=zj;have px:(0:Int)<=(q:Int):=zj;have bdx:(q:Int)<(d.size:Int):=zj;have rx:IntKind.i64.wrap ((q:Int))=(q:Int):=zw;have ey:((h:Int)).toNat=h:=zj;have py:(0:Int)<=(h:Int):=zj;have bdy:(h:Int)<(d.size:Int):=zj;have ry:IntKind.i64.wrap ((h:Int))=(h:Int):=zw;have lx:=S1.o.ld R zj P (q) zj;have ly:=S1.o.ld R zj P (h) zj;have hc:=S1.o.cmp CMP.o zj d[q]! d[h]!;have hl:=LT.o d[q]! d[h]!
   have SG:Aside (∀n os,SWK enc k w0 blk off d (grow (wr.drewN n) os)):=fun n os=>S1.o.grown n os
   generalize cf d[q]! d[h]! =z at hc hl;have HL:=Lib.hid hl;clear hl;simp only [Array.append_empty] at hc;by_cases ik:z<0
   ·go_wp2_with fail;go_quiet_grown (first | (go_at_fn g;refine Calls.grown_of (hc _ _)));have S2:Aside (SWK enc k w0 blk off d (grow (wr.drewN nq) osq)):=SG.o nq osq
    have fK:Aside ((a<i->tlt lt d[mid+m - i]! d[i - 1]! =false)/\(h<m->tlt lt d[mid+m - 1 - h]! d[h]! =true)):=⟨ED.o.1,fun _=>vy⟩
    generalize grow (wr.drewN nq) osq=w2 at S2 |-
    rw [<-HQ.o];go_wp2;go_roundg (h - i)
    case measure=>omega
    case rel=>exact ⟨i,h,rfl,rfl,hi,gw,zj,uM _,fK,S2⟩
   go_wp2_with fail;go_quiet_grown (first | (go_at_fn g;refine Calls.grown_of (hc _ _)));have S2:Aside (SWK enc k w0 blk off d (grow (wr.drewN nq) osq)):=SG.o nq osq
   have fK:Aside ((a<h+1->tlt lt d[mid+m - (h+1)]! d[h+1 - 1]! =false)/\(j<m->tlt lt d[mid+m - 1 - j]! d[j]! =true)):=⟨fun _=>by rw [Nat.add_sub_cancel,show mid+m - (h+1)=mid+m - 1 - h by omega,<-lf.o,<-HL.o];exact decide_eq_false zj,ED.o.2⟩
   clear lx ly hc SG S1 ED
   generalize grow (wr.drewN nq) osq=w2 at S2 |-
   have hd:(!decide (z<0))=true:=xh;rw [<-HQ.o];clear HQ lf;go_wp2;go_roundg (j - (h+1))
   case measure=>omega
   case rel=>exact ⟨h+1,j,zJ,rfl,zj,zj,hj,uM _,fK,S2⟩
   rename_i hx;exact ko9
  have aq:qlt i j=false:=zl;obtain rfl:i=j:=zj
  obtain ⟨e,hee⟩:∃e:Nat,e=mid+m - i:=⟨_,rfl⟩
  have he1:i+e=mid+m:=zj
  have bu:a<i->e<b->tlt lt d[e]! d[i - 1]! =false:=fun x y=>by rw [hee];exact ED.o.1 zj
  have iy:i<m->m<e->tlt lt d[e - 1]! d[i]! =true:=fun x y=>qZ
  have jV:Aside (a<i->e<b->tlt lt d[e]! d[i - 1]! =false):=bu;have jW:Aside (i<m->m<e->tlt lt d[e - 1]! d[i]! =true):=iy;have hze:(mid:Int)+(m:Int) - (i:Int)=(e:Int):=zj;have HZE:=Lib.hid hze;clear bu iy hze hee ED;go_upto_region 39 with fail;rw [HZE.o];clear HZE;by_cases hrot:i<m
  ·skip;have b0:qlt i m=true:=zl;have b1:qlt m e=true:=zl;go_wp2_with fail;clear b0 b1;refine (Bf k L V.fS V.fR enc blk off cap i m e d0 d w0 wr _ R hs S1.o zj zj zj zj).mono ?_;rintro ex w1 ⟨rfl,d1,RT,S_1⟩;have cj:=RT.G8.1;have S2:Aside (SWK enc k w0 blk off d1 w1):=S_1;clear S_1 S1
   have ci:Aside (F0 lt a i mid d1/\F0 lt mid e b d1/\∀p q,a<=p->p<mid->mid<=q->q<b->slt lt d1[q]! d1[p]! =false):=by
    exact kd0
   have gN:Aside (PermIn a b d d1):=permIn_mono d d1 _ _ _ _ zj zj hb RT.G8;clear RT jV jW;by_cases hse:a<i
   ·skip;have b0:qlt a i=true:=zl;have b1:qlt i mid=true:=zl;go_wp2_with fail;clear b0 b1;have C:=k9.o a i mid d1 w1 zj zj S2.o ci.o.1 zj zj zj zj;unfold pz at C;rw [cj] at C;refine C.mono ?_;clear C;rintro ex w2 ⟨rfl,d2,⟨PMd2,SOd2⟩,S_d2⟩
    have gh:d2.size=d.size:=by rw [PMd2.1,cj]
    have k8:Aside (SWK enc k w0 blk off d2 w2):=S_d2
    have f9:Aside (PermIn a mid d1 d2/\SortedIn (slt lt) a mid d2):=⟨PMd2,SOd2⟩
    clear PMd2 SOd2 S_d2;clear S2;by_cases hth:e<b
    ·exact ka8
    exfalso;omega
   skip;have b0:qlt a i=false:=zl
   have eo:Aside (PermIn a mid d1 d1/\SortedIn (slt lt) a mid d1):=⟨permIn_refl _ _ _,F0.O ci.o.1 zj⟩
   by_cases hth:e<b
   ·exact ka9
   skip;have b0:qlt mid e=true:=zl;have b1:qlt e b=false:=zl;exact kb1
  skip;have b0:qlt i m=false:=zl
  obtain ⟨d1,w1,cZ,hw1⟩:∃d1 w1,d1=d/\w1=wr:=⟨_,_,rfl,rfl⟩
  have RT:O9 d d1 i m e:=xI;have cj:=RT.G8.1
  have S2:Aside (SWK enc k w0 blk off d1 w1):=by rw [cZ,hw1];exact S1
  rw [<-hw1];clear cZ hw1 S1
  have ci:Aside (F0 lt a i mid d1/\F0 lt mid e b d1/\∀p q,a<=p->p<mid->mid<=q->q<b->slt lt d1[q]! d1[p]! =false):=by
   exact kd0
  have gN:Aside (PermIn a b d d1):=permIn_mono d d1 _ _ _ _ zj zj hb RT.G8;clear RT jV jW;by_cases hse:i<mid
  ·skip;have b0:qlt a i=true:=zl;have b1:qlt i mid=true:=zl;go_wp2_with fail;clear b0 b1;have C:=k9.o a i mid d1 w1 zj zj S2.o ci.o.1 zj zj zj zj;unfold pz at C;rw [cj] at C;refine C.mono ?_;clear C;rintro ex w2 ⟨rfl,d2,⟨PMd2,SOd2⟩,S_d2⟩
   have gh:d2.size=d.size:=by rw [PMd2.1,cj]
   have k8:Aside (SWK enc k w0 blk off d2 w2):=S_d2
   have f9:Aside (PermIn a mid d1 d2/\SortedIn (slt lt) a mid d2):=⟨PMd2,SOd2⟩
   clear PMd2 SOd2 S_d2;clear S2;have b0:qlt mid e=false:=zl;exact kc4
  skip;have b0:qlt a i=true:=zl;have b1:qlt i mid=false:=zl
  have eo:Aside (PermIn a mid d1 d1/\SortedIn (slt lt) a mid d1):=⟨permIn_refl _ _ _,F0.O ci.o.1 zj⟩
  have b0:qlt mid e=false:=zl;exact kb1
theorem Ir{P}{β}[Inhabited β]{lt}{k}{enc}{cf}{g}{w0}{blk off}{d0}(V:Xm P lt k enc cf g w0 blk off d0)(cap):∀(n a m b:Nat) (d:Array (β×Nat)) (w:qW),
  b - a<=n->d0.size=d.size->SWK enc k w0 blk off d w->F0 lt a m b d->a<m->m<b->b<=d.size->d.size<4611686018427387904->pz P lt k enc g w0 blk off cap a m b d w
 | 0,a,m,b,d,w=>fun hn _ _ _ h1 h2 _ _=>absurd hn zj
 | n+1,a,m,b,d,w=>fun hn hs S hr h1 h2 hb hsz=>by
  have IH:∀a' m' b' d' w',b' - a'<b - a->d0.size=d'.size->SWK enc k w0 blk off d' w'->F0 lt a' m' b' d'->a'<m'->m'<b'->b'<=d'.size->d'.size<4611686018427387904->pz P lt k enc g w0 blk off cap a' m' b' d' w':=fun a' m' b' d' w' hl=>Ir V cap n a' m' b' d' w' zj
  grind [PB,Tr,zcV,zcw]
def Lf(P:Program){β:Type}[Inhabited β](lt:β->β->Bool)(k:Nat)(enc:β×Nat->List Value)(g:Nat)(w0:qW)(blk off cap a b:Nat)(d:Array (β×Nat))(w:qW):Prop:=
 Calls P 329 #[.slice (some (qA blk off)) d.size cap,qI a,qI b,.func (.func g) #[] #[]] w fun e w'=>e=qT #[]/\∃d',(PermIn a b d d'/\SortedIn (slt lt) a b d')/\SWK enc k w0 blk off d' w'
theorem JT{P}{β}[Inhabited β]{lt}{k}{enc}{cf}{g}{w0}{blk off}{d0}(V:Xm P lt k enc cf g w0 blk off d0)(cap)(d:Array (β×Nat))(w)
  (hF:P.funcs[(272:Nat)]? =some f272)
  (eI:∀args w,(callFunc 329 args).run P w= .ok (.enter 329 args) w)
  (INS:∀a b d w,d0.size=d.size->SWK enc k w0 blk off d w->a<=b->b<=d.size->d.size<4611686018427387904->(∀p q,a<=p->p<q->q<b->d[p]!.2<d[q]!.2)->Lf P lt k enc g w0 blk off cap a b d w)
  (hs:d0.size=d.size) (S:SWK enc k w0 blk off d w) (ht:∀p,p<d.size->d[p]!.2=p) (hsz:d.size<1152921504606846976):
  Calls P 272 #[.slice (some (qA blk off)) d.size cap,qI d.size,.func (.func g) #[] #[]] w fun e w'=>e=qT #[]/\∃d',(PermIn 0 d.size d d'/\SortedIn (slt lt) 0 d.size d')/\SWK enc k w0 blk off d' w':=by
 have L:=V.ty;have eM:∀args w,(callFunc 330 args).run P w= .ok (.enter 330 args) w:=enters_of V.fM zk rfl;have I0:Aside (∀a b d w,d0.size=d.size->SWK enc k w0 blk off d w->a<=b->b<=d.size->d.size<4611686018427387904->(∀p q,a<=p->p<q->q<b->d[p]!.2<d[q]!.2)->Lf P lt k enc g w0 blk off cap a b d w):=INS;have S0:Aside (SWK enc k w0 blk off d w):=S;have T0:Aside (∀p,p<d.size->d[p]!.2=p):=ht;go_enter hF,ntmps272;go_wp2;go_loopg [7,8] d.size (fun kx s7 s8 wr=>∃(c a:Nat) (dk:Array (β×Nat)),s7=qN a/\s8=qI ((a:Int)+20)/\a<=d.size/\d.size - a<=kx/\dk.size=d.size/\Aside (a=c*20)/\Aside (L6 lt 20 a d.size dk)/\Aside (∀p,a<=p->p<d.size->dk[p]!.2=p)/\Aside (PermIn 0 d.size d dk)/\Aside (SWK enc k w0 blk off dk wr))
 case atStart=>exact ⟨0,0,d,rfl,yh,uW _,uM _,rfl,(by omega:(0:Nat)=0*20),⟨fun p hp c=>by rw [T0.o p hp],fun i j _ hj=>zj⟩,fun p _ hp=>T0.o p hp,permIn_refl _ _ _,S0⟩
 case round=>
  obtain ⟨c,a,dk,rfl,rfl,han,aY,fA,HA,BL,TG,PM,S1⟩:=hrel;by_cases hlt:a+20<=d.size
  ·have q1:decide ((a:Int)+20<=(d.size:Int))=true:=by simp;omega
   go_wp2_with fail;have c1:(a:Int)+20=((a+20:Nat):Int):=zj;have C:=I0.o a (a+20) dk wr zj S1.o zj zj zj (fun p q hp ki hq=>xB);unfold Lf at C;rw [fA,<-c1] at C;clear c1;refine C.mono ?_;rintro ex w1 ⟨rfl,d1,⟨PM1,SO1⟩,S_1⟩;have S2:Aside (SWK enc k w0 blk off d1 w1):=S_1
   have cZ:d1.size=d.size:=by rw [PM1.1,fA]
   have BL2:Aside (L6 lt 20 (a+20) d.size d1):=L6.K8 BL.o fA.symm HA.o hlt (.inl rfl) PM1 SO1
   have TG2:Aside (∀p,a+20<=p->p<d.size->d1[p]!.2=p):=fun p hp gI=>by rw [PM1.2.1 p (.inr hp)];exact TG.o p zj gI
   have PM2:Aside (PermIn 0 d.size d d1):=permIn_trans _ _ _ _ _ PM.o (permIn_mono dk d1 _ _ _ _ (uW _) hlt zj PM1)
   have HA2:Aside (a+20=(c+1)*20):=by have:=HA.o;show _=_;omega
   go_wp2;go_roundg (d.size - (a+20))
   case measure=>omega
   case rel=>exact ⟨c+1,a+20,d1,zJ,by first | rfl | go_num | (congr 1;omega),hlt,uM _,cZ,HA2,BL2,TG2,PM2,S2⟩
  have q1:decide ((a:Int)+20<=(d.size:Int))=false:=zl;go_wp2_with fail;have C:=I0.o a d.size dk wr zj S1.o zj zj zj (fun p q hp ki hq=>xB);unfold Lf at C;rw [fA] at C;refine C.mono ?_;rintro ex w1 ⟨rfl,d1,⟨PM1,SO1⟩,S_1⟩;have S2:Aside (SWK enc k w0 blk off d1 w1):=S_1
  have cZ:d1.size=d.size:=by rw [PM1.1,fA]
  have BL2:Aside (L6 lt 20 d.size d.size d1):=L6.K8 BL.o fA.symm HA.o zg (.inr ⟨rfl,zj⟩) PM1 SO1;have PM2:Aside (PermIn 0 d.size d d1):=permIn_trans _ _ _ _ _ PM.o (permIn_mono dk d1 _ _ _ _ (uW _) zg zj PM1);go_wp2;go_loopg [6] d.size (fun kx s6 wr=>∃(B:Nat) (dk:Array (β×Nat)),s6=qN B/\20<=B/\d.size - B<=kx/\dk.size=d.size/\Aside (L6 lt B d.size d.size dk)/\Aside (PermIn 0 d.size d dk)/\Aside (SWK enc k w0 blk off dk wr))
  case atStart=>exact ⟨20,d1,rfl,uM _,zj,cZ,BL2,PM2,S2⟩
  case round=>
   obtain ⟨B,dk2,rfl,hB,aY,hdk2,BL,PM,S1⟩:=hrel;by_cases hBn:B<d.size
   ·have q1:qlt B d.size=true:=by simp;omega
    have HF:Aside (Y7 lt B 0 d.size dk2):=BL.o.ac8;go_wp2;go_loopg [7,8] d.size (fun kx s7 s8 wr=>∃(c a:Nat) (dk:Array (β×Nat)),s7=qN a/\s8=qI ((a:Int)+2*(B:Int))/\a<=d.size/\d.size - a<=kx/\dk.size=d.size/\Aside (a=c*(2*B))/\Aside (Y7 lt B a d.size dk)/\Aside (PermIn 0 d.size d dk)/\Aside (SWK enc k w0 blk off dk wr))
    case atStart=>exact ⟨0,0,dk2,rfl,yh,uW _,uM _,hdk2,(by show 0=_;rw [Nat.zero_mul]),HF,PM,S1⟩
    case round=>
     obtain ⟨c,a,dk3,rfl,rfl,han,hkx3,fy,HA,HF,PM,S1⟩:=hrel;by_cases hlt:a+2*B<=d.size
     ·have q1:decide ((a:Int)+2*(B:Int)<=(d.size:Int))=true:=by simp;omega
      go_wp2_with fail;have c1:(a:Int)+(B:Int)=((a+B:Nat):Int):=zj;have c2:(a:Int)+2*(B:Int)=((a+2*B:Nat):Int):=zj;have C:=Ir V cap _ a (a+B) (a+2*B) dk3 wr zg zj S1.o (HF.o.acP HA.o rfl zj zj hlt) zj zj zj zj;unfold pz at C;rw [fy,<-c1,<-c2] at C;clear c1 c2;refine C.mono ?_;rintro ex w1 ⟨rfl,d1,⟨PM1,SO1⟩,S_1⟩;have S2:Aside (SWK enc k w0 blk off d1 w1):=S_1
      have cZ:d1.size=d.size:=by rw [PM1.1,fy]
      have HF2:Aside (Y7 lt B (a+2*B) d.size d1):=Y7.K8 HF.o fy.symm HA.o zj hlt (.inl rfl) PM1 SO1;have PM2:Aside (PermIn 0 d.size d d1):=permIn_trans _ _ _ _ _ PM.o (permIn_mono dk3 d1 _ _ _ _ (uW _) hlt zj PM1)
      have HA2:Aside (a+2*B=(c+1)*(2*B)):=by show _=_;rw [YG,<-HA.o];omega
      go_wp2;go_roundg (d.size - (a+2*B))
      case measure=>omega
      case rel=>exact ⟨c+1,a+2*B,d1,yh,yh,hlt,uM _,cZ,HA2,HF2,PM2,S2⟩
     have q1:decide ((a:Int)+2*(B:Int)<=(d.size:Int))=false:=zl;by_cases hmn:a+B<d.size
     ·have q2:decide ((a:Int)+(B:Int)<(d.size:Int))=true:=by simp;omega
      go_wp2_with fail;have c1:(a:Int)+(B:Int)=((a+B:Nat):Int):=zj;have C:=Ir V cap _ a (a+B) d.size dk3 wr zg zj S1.o (HF.o.acP HA.o rfl zj zj zg) zj zj zj zj;unfold pz at C;rw [fy,<-c1] at C;clear c1;refine C.mono ?_;clear C;rintro ex w1 ⟨rfl,d1,⟨PM1,SO1⟩,S_1⟩;have S2:Aside (SWK enc k w0 blk off d1 w1):=S_1
      have cZ:d1.size=d.size:=by rw [PM1.1,fy]
      have BL2:Aside (L6 lt (2*B) d.size d.size d1):=(Y7.K8 HF.o fy.symm HA.o zj zg (.inr ⟨rfl,zj⟩) PM1 SO1).ab8;have PM2:Aside (PermIn 0 d.size d d1):=permIn_trans _ _ _ _ _ PM.o (permIn_mono dk3 d1 _ _ _ _ (uW _) zg zj PM1);clear S_1 PM1 SO1 HF PM S1 HA;go_wp2;go_roundg (d.size - 2*B)
      case measure=>omega
      case rel=>exact ⟨2*B,d1,yh,zj,uM _,cZ,BL2,PM2,S2⟩
     have q2:decide ((a:Int)+(B:Int)<(d.size:Int))=false:=zl;have BL2:Aside (L6 lt (2*B) d.size d.size dk3):=HF.o.ac9 HA.o zj;go_wp2;go_roundg (d.size - 2*B)
     case measure=>omega
     case rel=>exact ⟨2*B,dk3,yh,zj,uM _,fy,BL2,PM,S1⟩
   have q1:qlt B d.size=false:=zl;go_wp2;go_end0;exact ⟨rfl,dk2,⟨PM.o,BL.o.all zj⟩,S1.o⟩
def zb7:Ren:=⟨fun | 20=>329 | n=>n,fun | 0=>0 | 3=>3 | 4=>4 | 22=>136 | 24=>88 | 25=>307 | n=>n,fun n=>n⟩
theorem UP:SlLaysF0.n20 prog zb7 where
 mixed:=zk
 f20:=⟨ "slices.insertionSortCmpFunc[concordat/api.Op]",zk,func329.trans qk⟩
 t0:=underlying0
 a0:=isAgg0
 z0:=sizeOf0
 v0:=zeroValue0
 t3:=underlying3
 a3:=isAgg3
 z3:=sizeOf3
 v3:=zeroValue3
 t4:=underlying4
 a4:=isAgg4
 z4:=sizeOf4
 v4:=zeroValue4
 t22:=underlying136
 a22:=isAgg136
 z22:=sizeOf136
 v22:=zeroValue136
 t25:=underlying307
 a25:=isAgg307
 z25:=sizeOf307
 v25:=zeroValue307
theorem zcR{w0}{blk off}{d0}(R:RowK CB 8 w0 blk off d0)(cap a b)(d)(w)(hs:d0.size=d.size)(S:SWK CB 8 w0 blk off d w)(hab:a<=b)(hb:b<=d.size)(hsz:d.size<4611686018427387904)(ht:∀p q,a<=p->p<q->q<b->d[p]!.2<d[q]!.2):
  Lf prog ltX 8 CB 223 w0 blk off cap a b d w:=by
 have I:=NH PK d a b hab hb ht;rw [<-Nk] at I;unfold Lf;refine (AnyQ.insertionSortCmpFunc UP 8 isAgg88 sizeOf88 CB R.hk R.h1 WD 223 #[] blk off cap a b d w WB (KF blk off d.size w) (S.holds R.hblk R.hH hs.symm) (S.lt R.hblk) hab hb hsz).mono ?_;rintro e w' ⟨rfl,n,os,rfl⟩;exact ⟨rfl,_,I,S.on R.hblk n _ os I.1.1⟩
theorem PO{w0}{blk off}{d0}(R:RowK CB 8 w0 blk off d0):Xm prog ltX 8 CB WD 223 w0 blk off d0:=
 ⟨WY,func379,func366,func330,R,QH,PK,WB,KF blk off d0.size w0⟩
theorem tY(w)(blk off cap)(d)(R:RowK CB 8 w blk off d)(ht:∀p,p<d.size->d[p]!.2=p)(hsz:d.size<1152921504606846976):
  qC 222 #[.slice (some (qA blk off)) d.size cap,.func (.func 223) #[] #[]] w fun e w'=>e=qT #[]/\∃d',(PermIn 0 d.size d d'/\SortedIn (slt ltX) 0 d.size d')/\SWK CB 8 w blk off d' w':=by
 have eS:∀args w,(callFunc 272 args).run prog w= .ok (.enter 272 args) w:=enters_of func272 zk rfl;have eI:∀args w,(callFunc 329 args).run prog w= .ok (.enter 329 args) w:=enters_of func329 zk rfl;have C:=JT (PO R) cap d w func272 eI (zcR R cap) rfl (SWK.start R.hH) ht hsz;have CA:Aside _:=C;go_enter func222,ntmps222;go_wp2_with fail;refine Calls.mono CA.o ?_;rintro e w' ⟨rfl,d',hd,S⟩;have S2:Aside (SWK CB 8 w blk off d' w'):=S;have H2:Aside (PermIn 0 d.size d d'/\SortedIn (slt ltX) 0 d.size d'):=hd;go_wp2;go_end0;exact ⟨rfl,d',H2.o,S2.o⟩
def VS:Ren:=⟨fun | 41=>97 | n=>n,fun | 4=>4 | 22=>136 | 23=>88 | n=>n,fun n=>n⟩
theorem Dk:SlLaysE0.n41 prog VS where
 mixed:=zk
 f41:=⟨ "slices.Clone[[]concordat/api.Op,concordat/api.Op]",zk,func97.trans qk⟩
 t4:=underlying4
 a4:=isAgg4
 z4:=sizeOf4
 v4:=zeroValue4
 t22:=underlying136
 a22:=isAgg136
 z22:=sizeOf136
 v22:=zeroValue136
theorem Aq(w)(b off c)(xs)(hn:xs.length<=1000)(hc:∀j u,(cellsOf xs)[j]? =some u->w.cell? (qA b (off+j))=some u):
  qC 97 #[.slice (some (qA b off)) xs.length c] w fun e w'=>∃v',e= .returned v'/\w'.ownsRow w.heap.size 88 8 v' xs.length (cellsOf xs)/\v'≠qE/\qL w w':=by
 obtain ⟨i0,hi,aD,aw,aJ⟩:=info_parts rD;exact AnyE.slices_Clone Dk i0 _ 8 80 hi aD aw aJ rfl zj sizeOf88 b off xs.length c (cellsOf xs) w (mo xs) zB zj hc (Jm xs)
theorem Bg(w):qC 97 #[qE] w fun e w'=>e= .returned qE/\w'=w:=
 AnyE.slices_Clone_nil Dk 0 0 w
def pD(xs:qX):Array (OpX×Nat):=xs.zipIdx.toArray
theorem mt(xs):(pD xs).size=xs.length:=by simp [pD]
theorem Gs(xs)(i)(hi:i<xs.length):(pD xs)[i]! =(xs[i]!,i):=by
 grind [mt,pD]
theorem WE{w}{l9 n g cap}{xs}(hn:n=xs.length)(h:w.ownsRow l9 88 8 (qG g n cap) n (cellsOf xs)):RowK CB 8 w g 0 (pD xs) where
 hk:=Vs
 h1:=VT
 hblk:=(h.lt g rfl).2
 hH:=fun j hj=>by
  rw [size_flatK,mt] at hj;have h1:j / 8<xs.length:=zj;have h2:j / 8*8+j % 8=j:=zj;refine ⟨?_,yT⟩;rw [Ze,h.cellAt j zj,get_flatK _ _ _ _ (by rw [mt];exact hj),Gs xs _ h1];have:=nZ xs (j / 8) (j % 8) h1 zj;rw [h2] at this;exact this
theorem below_grow{B}{w0 w}{os}(h:Below B w0 w)(hB:B<=w.heap.size):Below B w0 (grow w os):=
 ⟨h.os,h.tape,h.output,by rw [Go.Sort.size_grow];exact uQ h.size (Nat.le_add_right _ _),fun k hk=>by
  rw [<-h.block k hk]
  simp only [grow]
  grind⟩
theorem sY{B}{w0 w w'}{g}{d}(h:Below B w0 w)(hg:B<=g)(hB:B<=w.heap.size)(S:SWK CB 8 w g 0 d w'):Below B w0 w':=by
 obtain ⟨n,os,rfl⟩:=S;unfold sortWorldK putRowK
 simp_all [below_grow,below_putRow]
theorem Hx{w w'}{g}{d d'}(R:RowK CB 8 w g 0 d)(hs:d'.size=d.size)(S:SWK CB 8 w g 0 d' w')(j)(u)(hj:(cellsOf (d'.toList.map Prod.fst))[j]? =some u):w'.cell? (qA g (0+j))=some u:=by
 have H:=S.holds R.hblk R.hH hs;have hl:=(uK.1 hj).1;rw [mo,Zj,ZP] at hl;have h1:j / 8<d'.size:=zj;have h2:j / 8*8+j % 8=j:=zj;have c:=nZ (d'.toList.map Prod.fst) (j / 8) (j % 8) (by rw [Zj,ZP];exact h1) zj;rw [h2,hj] at c;have H1:=(H j xc).1
 grind [get_flatK,CB,nD,Zj,ZP]
def nH(xs ys:qX):Prop:=∃d':Array (OpX×Nat),(PermIn 0 xs.length (pD xs) d'/\SortedIn (slt ltX) 0 xs.length d')/\ys=d'.toList.map Prod.fst
theorem zbs(fv)(w):qC 329 #[qE,qI 0,qI 0,fv] w fun e w'=>e=qT #[]/\w'=w:=by
 go_enter func329,ntmps329;go_wp2;refine wp_loop_rounds 1 ?_;rw [rounds_succ];go_wp2;go_end0;exact kh6
theorem LG(g:Nat)(w):qC 272 #[qE,qI 0,.func (.func g) #[] #[]] w fun e w'=>e=qT #[]/\w'=w:=by
 go_enter func272,ntmps272;go_wp2;refine wp_loop_rounds 1 ?_;rw [rounds_succ];go_wp2_with fail;refine (zbs _ _).mono ?_;rintro e w' ⟨rfl,rfl⟩;go_wp2;refine wp_loop_rounds 1 ?_;rw [rounds_succ];go_wp2;go_end0;exact kh6
theorem tT(g:Nat)(w):qC 222 #[qE,.func (.func g) #[] #[]] w fun e w'=>e=qT #[]/\w'=w:=by
 go_enter func222,ntmps222;go_wp2_with fail;refine (LG _ _).mono ?_;rintro e w' ⟨rfl,rfl⟩;go_wp2;go_end0;exact kh6
theorem NJ(w)(v)(xs)(h:N5 w v xs)(hn:xs.length<=1000):
  qC 158 #[v] w fun e w'=>∃v' ys,e= .returned v'/\N5 w' v' ys/\nH xs ys/\qL w w'/\∀g,v'.ownBlock=some g->w.heap.size<=g:=by
 rcases h with ⟨rfl,rfl⟩ | ⟨blk,off,cap,rfl,hc⟩
 ·go_enter func158,ntmps158;go_wp2_with fail;refine (Bg _).mono ?_;rintro e w' ⟨rfl,rfl⟩;go_wp2_with fail;refine (tT _ _).mono ?_;rintro e w1 ⟨rfl,rfl⟩;go_wp2;go_ret;exact ⟨_,[],rfl,.inl ⟨rfl,rfl⟩,⟨#[],⟨permIn_refl _ _ _,fun i j _ _ hj=>absurd hj zq⟩,rfl⟩,uO _ _,fun g hg=>xC⟩
 have HC:Aside (∀j u,(cellsOf xs)[j]? =some u->w.cell? (qA blk (off+j))=some u):=hc;go_enter func158,ntmps158;go_wp2_with fail;refine (Aq w blk off cap xs hn HC.o).mono ?_;rintro e w1 ⟨v1,rfl,hown,hnil,hb⟩
 obtain ⟨g,c1,rfl,hg⟩:∃g c1,v1=qG g xs.length c1/\w.heap.size<=g:=by
  rcases hown.2 with ⟨h1,_⟩ | ⟨g,c1,cur,h1,h2,_⟩
  ·exact absurd h1 hnil
  exact ⟨g,c1,h1,h2⟩
 have R0:Aside (RowK CB 8 w1 g 0 (pD xs)):=WE rfl hown;have HB:Aside (qL w w1):=hb;go_wp2_with fail;have C:=tY w1 g 0 c1 (pD xs) R0.o (fun p hp=>xX) (by rw [mt];omega);rw [mt] at C;refine C.mono ?_;rintro e w2 ⟨rfl,d',hd,S⟩
 have hl:d'.size=xs.length:=by rw [hd.1.1,mt]
 have ir:(d'.toList.map Prod.fst).length=xs.length:=vv
 have F:Aside (N5 w2 (qG g xs.length c1) (d'.toList.map Prod.fst)/\nH xs (d'.toList.map Prod.fst)/\qL w w2):=
  ⟨.inr ⟨g,0,c1,by rw [ir],fun j u hj=>Hx R0.o vV S j u hj⟩,⟨d',hd,rfl⟩,sY HB.o hg HB.o.size S⟩
 go_wp2;go_ret;exact ⟨_,_,rfl,F.o.1,F.o.2.1,F.o.2.2,fun g' hg'=>by cases hg';exact hg⟩
theorem Is{d d':Array (OpX×Nat)}(h:PermIn 0 d.size d d'):d.toList.Perm d'.toList:=by
 have h2:=h.2.2;have e:=h.1
 have e1:d'.toList.take d.size=d'.toList:=by rw [<-e,<-ZP,Yq]
 first
  | simpa using h2
  | (simp at h2;rw [e1] at h2;exact h2)
  | (simp at h2;rw [e1] at h2;exact h2.symm)
end
section
open scoped Classical
def AO(nd:Int)(ws:List qU):qU:=Lib.itoa nd++ [32]++Lib.join ws [32]
def oT(p:Plc):qU:=AO p.1 [[105,110],Lib.itoa p.2.1,p.2.2.data.toList]
def BJ(t:Int×qU):qU:=AO t.1 [[116,101,120,116],t.2]
def Hp(m:Mrk):qU:=AO m.1 [[109,97,114,107],m.2.1.data.toList,m.2.2.data.toList]
def sf(t:Int×qU):Bool:=decide (t.2≠ [])
def Bd(qs:List Plc)(ts:List (Int×qU))(ms:List Mrk):List qU:=qs.map oT++(ts.filter sf).map BJ++ms.map Hp
structure N8 (A:qX) (ts:List (Int×qU)):Prop where
 K7:ts.Pairwise (fun a b=>a.1<b.1)
 U7:∀nd,nd∈ts.map (·.1)↔m9 A nd
 C9:∀t∈ts,∃L,u9 A t.1 L/\t.2=rA L
theorem N8.G8{A B}{ts}(h:N8 A ts)(e:A.Perm B):N8 B ts:=by
 refine ⟨h.K7,fun nd=>(h.U7 nd).trans ⟨fun q=>q.mono (fun x hx=>e.mem_iff.1 hx),fun q=>q.mono (fun x hx=>e.mem_iff.2 hx)⟩,fun t ht=> ?_⟩;obtain ⟨L,h1,h2⟩:=h.C9 t ht;exact ⟨L,h1.G8 e,h2⟩
theorem N8.q{A}{ts us}(h:N8 A ts)(k:N8 A us):ts=us:=by
 have one:∀ {xs ys:List (Int×qU)},N8 A xs->N8 A ys->∀p,p∈xs->p∈ys:=fun {xs ys} hx hy p hp=>by
  have:=(hy.U7 _).2 ((hx.U7 _).1 (Zm.2 ⟨p,hp,rfl⟩));obtain ⟨q,hq,e⟩:=Zm.1 this;obtain ⟨L,l1,l2⟩:=hx.C9 p hp;obtain ⟨M,m1,m2⟩:=hy.C9 q hq;have e':=e;rw [e'] at m1;obtain rfl:=l1.q m1
  grind
 exact rM (R:=fun a b:Int×qU=>a.1<b.1) (fun a=>Int.lt_irrefl _) (fun a b c=>Int.lt_trans) h.K7 k.K7 (fun p=>⟨one h k p,one k h p⟩)
def G3(A:qX)(s:qU):Prop:=∃ms qs ts A' mm,ms.Perm (pu A)/\ml ms/\D4 (mX ms) qs/\N8 A ts/\A'.Perm A/\P8 (rj A') mm/\s=Lib.join (Bd qs ts mm) [10]
theorem G3.G8{A B}{s}(h:G3 A s)(e:A.Perm B):G3 B s:=by
 obtain ⟨ms,qs,ts,A',mm,h1,h2,h3,h4,h5,h6,h7⟩:=h;exact ⟨ms,qs,ts,A',mm,h1.trans (e.filterMap _),h2,h3,h4.G8 e,h5.trans e,h6,h7⟩
theorem D5.adf{A}(h:D5 A):abe A:=fun x hx y hy e1 e2=>h.J hx hy (by unfold stO;rw [e1,e2])
theorem abe.mono{A B}(h:abe A)(e:∀x,x∈B->x∈A):abe B:=fun x hx y hy=>h x (e x hx) y (e y hy)
theorem MV{A B}(h:abe A)(e:A.Perm B):rj A=rj B:=
 Gf (fun m=>(e.filterMap _).mem_iff) h.P5
theorem G3.q{A}{s t}(hA:D5 A)(h:G3 A s)(k:G3 A t):s=t:=by
 obtain ⟨ms,qs,ts,A',mm,h1,h2,h3,h4,h5,h6,rfl⟩:=h;obtain ⟨ms',qs',ts',A'',mm',k1,k2,k3,k4,k5,k6,rfl⟩:=k;obtain rfl:=sd (h1.trans k1.symm) h2 k2;obtain rfl:=h3.q k3;obtain rfl:=h4.q k4;have e:=MV (hA.adf.mono (fun x hx=>h5.mem_iff.1 hx)) (h5.trans k5.symm);rw [e] at h6;obtain rfl:=h6.q k6;rfl
theorem G3.same{A B}{s t}(hA:D5 A)(e:A.Perm B)(h:G3 A s)(k:G3 B t):s=t:=h.q hA (k.G8 e.symm)
theorem join_nil(x):Lib.join [] x= []:=rfl
def BR(ys:qX):Prop:=ys.Pairwise (fun a b=>¬CLt (stO b) (stO a))
theorem zdf{x y}(hx:mz x=0)(hy:mz y=0)(h:idO x<idO y):CLt (stO x) (stO y):=by
 have a:=mP hx;have b:=mP hy;unfold idO at h;unfold CLt stO;dsimp only;omega
theorem zcj{x y}(hx:mz x=0)(hy:mz y=0)(h:idO x=idO y):stO x=stO y:=by
 have a:=mP hx;have b:=mP hy
 grind [idO,stO]
theorem Qr{ys}(ho:BR ys){c}{x y}(hx:x∈ys.take c)(hy:y∈ys)(h:CLt (stO y) (stO x)):y∈ys.take c:=by
 grind [ZA,BR]
end
section
open RowKit Lib Go.Sort
def F5(w:qW)(so:qO)(L:List ByteArray):Prop:=∀i x,L[i]? =some x->∃g o,so=some (qA g o)/\g<w.heap.size/\w.cell? (qA g (o+i))=some (.string x)
theorem F5.later{w w'}{so}{L}(h:F5 w so L)(hb:qL w w'):F5 w' so L:=fun i x hx=>by
 obtain ⟨g,o,e,hg,hc⟩:=h i x hx;exact ⟨g,o,e,uY hg hb.size,(hb.cell (p:=(qA g (o+i))) hg).trans hc⟩
theorem Eh{w:qW}{p}{v}(h:w.cell? p=some v):p.block<w.heap.size:=by
 have:w.heap[p.block]? ≠none:=fun e=>by rw [World.cell?,e] at h;cases h
 simp_all
theorem pC{w}{B}{ao}{cap}{L}(h:w.ownsRow B 9 1 (.slice ao L.length cap) L.length (L.map rz)):F5 w ao L:=fun i x hx=>by
 have hl:=(uK.1 hx).1
 rcases h.2 with ⟨h1,h2⟩ | ⟨g,cap',cur,hv,_⟩
 ·omega
 simp only [Value.slice.injEq] at hv;obtain ⟨rfl,-,-⟩:=hv
 have hc:w.cell? (qA g i)=some (.string x):=by
  rw [h.cellAt i zj,ZQ,hx];rfl
 grind
def mkT(a:qU):ByteArray:=⟨a.toArray⟩
def sh(tl:List qU):List Value:=tl.map fun a=>rz ⟨a.toArray⟩
theorem Di{w}{B}{ao}{cap n}{tl}(h:w.ownsRow B 9 1 (.slice ao n cap) tl.length (sh tl))(hn:n=tl.length):F5 w ao (tl.map mkT):=by
 subst hn
 have e:sh tl=(tl.map mkT).map rz:=by unfold sh;rw [YQ];rfl
 grind [Zj,mkT,pC]
theorem ta(w)(a1 a2)(c1 c2)(xs)(hn:xs.length<=1000)(h1:F5 w a1 xs)(h2:F5 w a2 xs):
  qC 12 #[.slice a1 xs.length c1,.slice a2 xs.length c2] w (qR (.bool true) w):=by
 have H:Aside (F5 w a1 xs/\F5 w a2 xs):=⟨h1,h2⟩
 go_enter func12,ntmps12;go_wp2;go_loopg [5] xs.length (fun kx s5 wr=>∃k:Nat,s5=qN k/\k<=xs.length/\xs.length - k<=kx/\Aside (qL w wr))
 case atStart=>exact ⟨0,rfl,uW _,uM _,uO _ _⟩
 case round=>
  obtain ⟨k,rfl,hk,aY,A⟩:=hrel;by_cases hlt:k<xs.length
  ·have aq:qlt k xs.length=true:=by simp;omega
   have ek:((k:Int)).toNat=k:=zj;have pk:(0:Int)<=(k:Int):=zj;have bk:(k:Int)<(xs.length:Int):=zj
   obtain ⟨x,hx⟩:∃x,Aside (xs[k]? =some x):=⟨xs[k],uL hlt⟩
   obtain ⟨g1,o1,e1,_,r1⟩:=H.o.1 k x hx.o;obtain ⟨g2,o2,e2,_,r2⟩:=H.o.2 k x hx.o;subst e1 e2;have z1:=mZ A.o r1;have z2:=mZ A.o r2;go_wp2;go_quiet (fail);go_wp2;go_roundg (xs.length - (k+1))
   case measure=>omega
   case rel=>exact ⟨k+1,zJ,zj,uM _,Go.below_drewN A.o _⟩
  have aq:qlt k xs.length=false:=zl;go_wp2;go_ret;exact ⟨rfl,A.o⟩

end