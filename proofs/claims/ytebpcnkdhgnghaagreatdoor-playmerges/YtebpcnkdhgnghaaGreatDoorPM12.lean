import Derived.Test.YtebpcnkdhgnghaaGreatDoorPM04
import Derived.Test.YtebpcnkdhgnghaaGreatDoorPM05
import Derived.Shelf.SlSortCmp.KitK
import Derived.Deep.DeepCutAuto
import Derived.WalkSmall
set_option linter.unusedSimpArgs false
set_option linter.unusedVariables false
set_option maxRecDepth 100000
set_option maxHeartbeats 64000000
namespace Go.Proofs.YtebpcnkdhgnghaaGreatDoor
open Go.Proofs.Tryz
variable {T b:Int} {blk g k pb:Nat} {P:Program} {w w' w0 w1:World}
section
open Go.Shelf Go.RowKit Go.Lib Go.Sort
def lB (x:OpX×Nat):List Value:=bq x.1
theorem Gi (x:OpX×Nat):(lB x).length=8:=rfl
theorem fL (x:OpX×Nat):∀v∈lB x,v.oneCell'=true:=by
 intro v hv;simp [lB,bq] at hv;exact kk6
def ltX (x y:OpX):Bool:=bM x.1 x.2.1 y.1 y.2.1
def Jv (x y:OpX×Nat):Int:=if ltX x.1 y.1 then -1 else if ltX y.1 x.1 then 1 else 0
theorem Fu (x y:OpX×Nat):decide (Jv x y<0)=tlt ltX x y:=by
 unfold Jv tlt
 cases h:ltX x.1 y.1 with
 | true=>rfl
 | false=>
  simp only [Bool.false_eq_true,if_false];split<;>rfl
theorem EE:ltOf Jv=tlt ltX:=by
 funext x y;exact Fu x y
theorem AP (t b t' b':Int):bM t b t' b'=decide (t<t'\/(t=t'/\b<b')):=by
 unfold bM;by_cases h:t=t'
 ·subst h;simp
 rw [if_neg h];simp [h]
theorem sA:SWO ltX where
 irrefl x:=by unfold ltX;rw [AP];simp
 trans x y z h1 h2:=jr
 ntrans x y z h1 h2:=jr
theorem fY {w2:World} (h1:∃q os,w1=grow (w.drewN q) os) (h2:∃q os,w2=grow (w1.drewN q) os):∃q os,w2=grow (w.drewN q) os:=by
 obtain ⟨q,os,rfl⟩:=h1;obtain ⟨q',os',rfl⟩:=h2;exact ⟨q+q',os++os',by rw [<-grow_grow,<-World.drewN_drewN];rfl⟩
theorem EC (t b t' b':Int) (w:World):
  Calls prog 128 #[.agg #[.int .i64 t,.int .i64 b],.agg #[.int .i64 t',.int .i64 b']] w fun e w'=>e= .returned (.bool (bM t b t' b'))/\∃q os,w'=grow (w.drewN q) os:=by
 unfold bM;by_cases h:t=t'
 ·have hd:(t !=t')=false:=by simp [h]
  rw [if_pos h];clear h;go_enter func128,ntmps128;go_wp2;exact ke1
 have hd:(t !=t')=true:=xQ;rw [if_neg h];clear h;go_enter func128,ntmps128;go_wp2;exact ke1
theorem gl (t b t' b':Int) (z:Bool) (w:World) (hz:bM t b t' b'=z):
  Calls prog 128 #[.agg #[.int .i64 t,.int .i64 b],.agg #[.int .i64 t',.int .i64 b']] w fun e w'=>e= .returned (.bool z)/\∃q os,w'=grow (w.drewN q) os:=by rw [<-hz];exact EC t b t' b' w
theorem aJ (h:∃q os,w'=grow (w.drewN q) os):Below w.heap.size w w':=by
 obtain ⟨q,os,rfl⟩:=h;exact Lib.below_grow _ _ zg _ _
theorem wN (x y:OpX×Nat) (w:World):
  Calls prog 133 #[.agg (lB x).toArray,.agg (lB y).toArray] w fun e w'=>e= .returned (.int .i64 (Jv x y))/\∃q os,w'=grow (w.drewN q) os:=by
 obtain ⟨⟨t,b,n,k,node,other,name,value⟩,i⟩:=x;obtain ⟨⟨t',b',n',k',node',other',name',value'⟩,i'⟩:=y
 have hg:∃q os,((w.alloc (.cells #[.int .i64 t,.int .i64 b,.int .i64 n,.int .u8 (k:Int),.int .i64 node,.int .i64 other,.string name,.string value] 61)).alloc (.cells #[.int .i64 t',.int .i64 b',.int .i64 n',.int .u8 (k':Int),.int .i64 node',.int .i64 other',.string name',.string value'] 61))=grow (w.drewN q) os:=⟨0,_,jv⟩
 have c0:((w.alloc (.cells #[.int .i64 t,.int .i64 b,.int .i64 n,.int .u8 (k:Int),.int .i64 node,.int .i64 other,.string name,.string value] 61)).alloc (.cells #[.int .i64 t',.int .i64 b',.int .i64 n',.int .u8 (k':Int),.int .i64 node',.int .i64 other',.string name',.string value'] 61)).cell? ⟨w.heap.size,0,none⟩=some (.int .i64 t):=qe;have c1:((w.alloc (.cells #[.int .i64 t,.int .i64 b,.int .i64 n,.int .u8 (k:Int),.int .i64 node,.int .i64 other,.string name,.string value] 61)).alloc (.cells #[.int .i64 t',.int .i64 b',.int .i64 n',.int .u8 (k':Int),.int .i64 node',.int .i64 other',.string name',.string value'] 61)).cell? ⟨w.heap.size,1,none⟩=some (.int .i64 b):=qe;have c2:((w.alloc (.cells #[.int .i64 t,.int .i64 b,.int .i64 n,.int .u8 (k:Int),.int .i64 node,.int .i64 other,.string name,.string value] 61)).alloc (.cells #[.int .i64 t',.int .i64 b',.int .i64 n',.int .u8 (k':Int),.int .i64 node',.int .i64 other',.string name',.string value'] 61)).cell? ⟨w.heap.size+1,0,none⟩=some (.int .i64 t'):=qe;have c3:((w.alloc (.cells #[.int .i64 t,.int .i64 b,.int .i64 n,.int .u8 (k:Int),.int .i64 node,.int .i64 other,.string name,.string value] 61)).alloc (.cells #[.int .i64 t',.int .i64 b',.int .i64 n',.int .u8 (k':Int),.int .i64 node',.int .i64 other',.string name',.string value'] 61)).cell? ⟨w.heap.size+1,1,none⟩=some (.int .i64 b'):=qe;unfold Jv ltX;simp only [lB,bq]
 cases h1:bM t b t' b' with
 | true=>
  have H1:=Lib.hid h1;clear h1;go_enter func133,ntmps133;go_wp2_with fail
  generalize ((w.alloc (.cells #[.int .i64 t,.int .i64 b,.int .i64 n,.int .u8 (k:Int),.int .i64 node,.int .i64 other,.string name,.string value] 61)).alloc (.cells #[.int .i64 t',.int .i64 b',.int .i64 n',.int .u8 (k':Int),.int .i64 node',.int .i64 other',.string name',.string value'] 61))=u at hg c0 c1 c2 c3 |-
  refine (gl _ _ _ _ true _ H1.o).mono ?_;rintro e w1 ⟨rfl,hb⟩;have hg1:=fY hg hb;clear hb c0 c1 c2 c3;go_wp2;go_ret;exact ⟨rfl,hg1⟩
 | false=>
  have H1:=Lib.hid h1;clear h1
  cases h2:bM t' b' t b with
  | true=>
   have H2:=Lib.hid h2;clear h2;go_enter func133,ntmps133;go_wp2_with fail
   generalize ((w.alloc (.cells #[.int .i64 t,.int .i64 b,.int .i64 n,.int .u8 (k:Int),.int .i64 node,.int .i64 other,.string name,.string value] 61)).alloc (.cells #[.int .i64 t',.int .i64 b',.int .i64 n',.int .u8 (k':Int),.int .i64 node',.int .i64 other',.string name',.string value'] 61))=u at hg c0 c1 c2 c3 |-
   refine (gl _ _ _ _ false _ H1.o).mono ?_;rintro e w1 ⟨rfl,hb⟩;have hg1:=fY hg hb;have e0:=aT (aJ hb) c0;have e1:=aT (aJ hb) c1;have e2:=aT (aJ hb) c2;have e3:=aT (aJ hb) c3;clear hb c0 c1 c2 c3 hg;go_wp2_with fail;refine (gl _ _ _ _ true _ H2.o).mono ?_;exact kj6
  | false=>
   have H2:=Lib.hid h2;clear h2;go_enter func133,ntmps133;go_wp2_with fail
   generalize ((w.alloc (.cells #[.int .i64 t,.int .i64 b,.int .i64 n,.int .u8 (k:Int),.int .i64 node,.int .i64 other,.string name,.string value] 61)).alloc (.cells #[.int .i64 t',.int .i64 b',.int .i64 n',.int .u8 (k':Int),.int .i64 node',.int .i64 other',.string name',.string value'] 61))=u at hg c0 c1 c2 c3 |-
   refine (gl _ _ _ _ false _ H1.o).mono ?_;rintro e w1 ⟨rfl,hb⟩;have hg1:=fY hg hb;have e0:=aT (aJ hb) c0;have e1:=aT (aJ hb) c1;have e2:=aT (aJ hb) c2;have e3:=aT (aJ hb) c3;clear hb c0 c1 c2 c3 hg;go_wp2_with fail;refine (gl _ _ _ _ false _ H2.o).mono ?_;exact kj6
theorem AH (blk off size:Nat) (w:World):CmpLays prog 133 #[] lB 8 Jv blk off size w:=fun _ _ _ _ x y=>wN x y _
theorem JH:∀args w,(callFunc 133 args).run prog w= .ok (.enter 133 args) w:=enters_of func133 zo rfl
end
section
open Go.Shelf Go.RowKit Go.Lib Go.Sort
structure STy (P:Program) (k:Nat):Prop where
 mixed:P.follows .mixedOrders=true
 t0:P.underlying 0=some (TypeDesc.tuple #[])
 a0:∀w,(isAgg 0).run P w= .ok false w
 z0:∀w,(Go.sizeOf 0).run P w= .ok 1 w
 v0:∀w,(zeroValue 0).run P w= .ok (Value.tuple #[]) w
 t3:P.underlying 3=some (TypeDesc.int IntKind.i64)
 a3:∀w,(isAgg 3).run P w= .ok false w
 z3:∀w,(Go.sizeOf 3).run P w= .ok 1 w
 v3:∀w,(zeroValue 3).run P w= .ok (Value.int IntKind.i64 0) w
 t4:P.underlying 4=some (TypeDesc.bool)
 a4:∀w,(isAgg 4).run P w= .ok false w
 z4:∀w,(Go.sizeOf 4).run P w= .ok 1 w
 v4:∀w,(zeroValue 4).run P w= .ok (Value.bool false) w
 tS:P.underlying 25=some (TypeDesc.slice 61)
 aS:∀w,(isAgg 25).run P w= .ok false w
 zS:∀w,(Go.sizeOf 25).run P w= .ok 1 w
 vS:∀w,(zeroValue 25).run P w= .ok (Value.slice none 0 0) w
 tC:P.underlying 228=some (TypeDesc.func #[61,61] #[3] false)
 aC:∀w,(isAgg 228).run P w= .ok false w
 zC:∀w,(Go.sizeOf 228).run P w= .ok 1 w
 vC:∀w,(zeroValue 228).run P w= .ok (Value.nilFunc) w
 tU:P.underlying 277=some (TypeDesc.int IntKind.u64)
 aU:∀w,(isAgg 277).run P w= .ok false w
 zU:∀w,(Go.sizeOf 277).run P w= .ok 1 w
 vU:∀w,(zeroValue 277).run P w= .ok (Value.int IntKind.u64 0) w
 aE:∀w,(isAgg 61).run P w= .ok true w
 zE:∀w,(Go.sizeOf 61).run P w= .ok k w
theorem Hx:STy prog 8:=⟨zo,underlying0,isAgg0,sizeOf0,zeroValue0,underlying3,isAgg3,sizeOf3,zeroValue3,underlying4,isAgg4,sizeOf4,zeroValue4,underlying25,isAgg25,sizeOf25,zeroValue25,underlying228,isAgg228,sizeOf228,zeroValue228,underlying277,isAgg277,sizeOf277,zeroValue277,isAgg61,sizeOf61⟩
theorem eO {α:Type} [Inhabited α] (k:Nat) (L:STy P k) (hF:P.funcs[(337:Nat)]? =some f337) (enc:α->List Value) (blk off cap a b n:Nat) (d0 d:Array α) (w0 w:World) (cf:Value)
  (R:RowK enc k w0 blk off d0) (hs:d0.size=d.size) (S:SWK enc k w0 blk off d w) (hab:a+n<=b) (hb:b+n<=d.size) (hsz:d.size<4611686018427387904):
  Calls P 337 #[.slice (some ⟨blk,off,none⟩) d.size cap,.int .i64 a,.int .i64 b,.int .i64 n,cf] w fun e w'=>e= .returned (.tuple #[])/\∃d',Exch d d' a b n/\SWK enc k w0 blk off d' w':=by
 have mixed:=L.mixed;have t0:=L.t0;have a0:=L.a0;have z0:=L.z0;have v0:=L.v0;have t3:=L.t3;have a3:=L.a3;have z3:=L.z3;have v3:=L.v3;have t4:=L.t4;have a4:=L.a4;have z4:=L.z4;have v4:=L.v4;have tS:=L.tS;have aS:=L.aS;have zS:=L.zS;have vS:=L.vS;have tC:=L.tC;have aC:=L.aC;have zC:=L.zC;have vC:=L.vC;have tU:=L.tU;have aU:=L.aU;have zU:=L.zU;have vU:=L.vU;have aE:=L.aE;have zE:=L.zE;have S0:Aside (SWK enc k w0 blk off d w):=S;clear S;go_enter hF,ntmps337;go_wp2;go_loopg [10] n (fun kx s10 wr=>∃(i:Nat) (dk:Array α),s10= .int .i64 i/\i<=n/\n - i<=kx/\Aside (Exch d dk a b i)/\Aside (SWK enc k w0 blk off dk wr))
 case atStart=>exact ⟨0,d,rfl,vM _,vB _,Exch.zero d a b,S0⟩
 case round=>
  clear S0;obtain ⟨i,dk,rfl,hi,hkx,EX,S1⟩:=hrel;have hds:dk.size=d.size:=EX.o.size;by_cases hlt:i<n
  ·have hltz:(i:Int)<(n:Int):=by omega
   go_wp2_with fail;have ea:((a:Int)+(i:Int)).toNat=a+i:=zj;have pa:(0:Int)<=(a:Int)+(i:Int):=zj;have ba:(a:Int)+(i:Int)<(d.size:Int):=zj;have ra:IntKind.i64.wrap ((a:Int)+(i:Int))=(a:Int)+(i:Int):=zu;have ec:((b:Int)+(i:Int)).toNat=b+i:=zj;have pc:(0:Int)<=(b:Int)+(i:Int):=zj;have bc:(b:Int)+(i:Int)<(d.size:Int):=zj;have rc:IntKind.i64.wrap ((b:Int)+(i:Int))=(b:Int)+(i:Int):=zu;have S2:Aside (SWK enc k w0 blk off (swp dk (a+i) (b+i)) ((wr.drew.setCells blk (off+(a+i)*k) (enc dk[b+i]!)).setCells blk (off+(b+i)*k) (enc dk[a+i]!))):=S1.o.swapped R (a+i) (b+i) zj zj;have la:=S1.o.ld1 R zj P (a+i) zj;have lb:=S1.o.ld1 R zj P (b+i) zj;have sa:=S1.o.st1 R zj P (a+i) zj dk[b+i]!;have sb:=S1.o.st2 R zj P (a+i) (b+i) zj zj dk[b+i]! dk[a+i]!;have na:(enc dk[a+i]!).length=k:=R.hk _;have nb:(enc dk[b+i]!).length=k:=R.hk _;generalize enc dk[a+i]! =cI at S2 la sb na;generalize enc dk[b+i]! =cJ at S2 lb sa sb nb;clear S1;go_big_region_o;clear la lb sa sb
   generalize (wr.drew.setCells blk (off+(a+i)*k) cJ).setCells blk (off+(b+i)*k) cI=w2 at S2 |-
   go_wp2;go_roundg (n - (i+1))
   case measure=>omega
   case rel=>exact ⟨i+1,swp dk (a+i) (b+i),zw,zj,vB _,EX.o.next zj zj,S2⟩
  have hltz:¬(i:Int)<(n:Int):=zj;go_wp2;go_end0;have:i=n:=zj;subst this;exact ⟨rfl,dk,EX.o,S1.o⟩
end
section
open Go.Shelf Go.RowKit Go.Lib Go.Sort
theorem mz {α:Type} [Inhabited α] (k:Nat) (L:STy P k) (hF:P.funcs[(337:Nat)]? =some f337) (hG:P.funcs[(307:Nat)]? =some f307) (enc:α->List Value) (blk off cap a m b:Nat) (d0 d:Array α) (w0 w:World) (cf:Value)
  (R:RowK enc k w0 blk off d0) (hs:d0.size=d.size) (S:SWK enc k w0 blk off d w) (ham:a<m) (hmb:m<b) (hb:b<=d.size) (hsz:d.size<4611686018427387904):
  Calls P 307 #[.slice (some ⟨blk,off,none⟩) d.size cap,.int .i64 a,.int .i64 m,.int .i64 b,cf] w fun e w'=>e= .returned (.tuple #[])/\∃d',Rot d d' a m b/\SWK enc k w0 blk off d' w':=by
 have mixed:=L.mixed;have t0:=L.t0;have a0:=L.a0;have z0:=L.z0;have v0:=L.v0;have t3:=L.t3;have a3:=L.a3;have z3:=L.z3;have v3:=L.v3;have t4:=L.t4;have a4:=L.a4;have z4:=L.z4;have v4:=L.v4;have tS:=L.tS;have aS:=L.aS;have zS:=L.zS;have vS:=L.vS;have tC:=L.tC;have aC:=L.aC;have zC:=L.zC;have vC:=L.vC;have tU:=L.tU;have aU:=L.aU;have zU:=L.zU;have vU:=L.vU;have aE:=L.aE;have zE:=L.zE;have eS:∀args w,(callFunc 337 args).run P w= .ok (.enter 337 args) w:=enters_of hF zo rfl;have S0:Aside (SWK enc k w0 blk off d w):=S;clear S;go_enter hG,ntmps307;go_wp2;go_loopg [10,11] (b - a) (fun kx s10 s11 wr=>∃(i j:Nat) (dk:Array α),s10= .int .i64 (i:Int)/\s11= .int .i64 (j:Int)/\0<i/\0<j/\a+i<=m/\m+j<=b/\i+j<=kx/\dk.size=d.size/\Aside (∀d2,Rot dk d2 (m - i) m (m+j)->Rot d d2 a m b)/\Aside (SWK enc k w0 blk off dk wr))
 case atStart=>exact ⟨m - a,b - m,d,jQ,jQ,zj,zj,zj,zj,zj,rfl,(fun d2 h=>by rw [show m - (m - a)=a by omega,show m+(b - m)=b by omega] at h;exact h),S0⟩
 case round=>
  clear S0;obtain ⟨i,j,dk,rfl,rfl,hi,hj,him,hjm,hkx,hds,RT,S1⟩:=hrel
  rcases Zw i j with hlt | rfl | hgt
  ·have q1:((i:Int) !=(j:Int))=true:=by simp;omega
   have q2:decide ((j:Int)<(i:Int))=false:=zq;go_wp2_with fail;have c1:(m:Int) - (i:Int)=((m - i:Nat):Int):=zj;have c2:(m:Int)+(j:Int) - (i:Int)=((m+j - i:Nat):Int):=zj;rw [c1,c2,<-hds];clear c1 c2;refine (eO k L hF enc blk off cap (m - i) (m+j - i) i d0 dk w0 wr cf R zj S1.o zj zj zj).mono ?_;rintro e w2 ⟨rfl,d1,EX,S2⟩
   have hd1:d1.size=d.size:=by rw [EX.size,hds]
   have RT2:Aside (∀d2,Rot d1 d2 (m - i) m (m+(j - i))->Rot d d2 a m b):=fun d2 h2=>RT.o d2 (Rot.right zj hlt zj EX h2)
   have S3:Aside (SWK enc k w0 blk off d1 w2):=S2;clear EX S2 S1 RT;rw [hds];go_wp2;go_roundg (i+(j - i))
   case measure=>omega
   case rel=>exact ⟨i,j - i,d1,rfl,jQ,hi,zj,him,zj,vB _,hd1,RT2,S3⟩
  ·have q1:((i:Int) !=(i:Int))=false:=by simp
   go_wp2_with fail;have c1:(m:Int) - (i:Int)=((m - i:Nat):Int):=zj;rw [c1,<-hds];clear c1;refine (eO k L hF enc blk off cap (m - i) m i d0 dk w0 wr cf R zj S1.o zj zj zj).mono ?_;rintro e w2 ⟨rfl,d1,EX,S2⟩;have RT2:=RT.o d1 (Rot.both zj zj EX);clear EX S1 RT;go_wp2;go_end0;exact ⟨rfl,d1,RT2,S2⟩
  have q1:((i:Int) !=(j:Int))=true:=zq;have q2:decide ((j:Int)<(i:Int))=true:=zq;go_wp2_with fail;have c1:(m:Int) - (i:Int)=((m - i:Nat):Int):=zj;rw [c1,<-hds];clear c1;refine (eO k L hF enc blk off cap (m - i) m j d0 dk w0 wr cf R zj S1.o zj zj zj).mono ?_;rintro e w2 ⟨rfl,d1,EX,S2⟩
  have hd1:d1.size=d.size:=by rw [EX.size,hds]
  have RT2:Aside (∀d2,Rot d1 d2 (m - (i - j)) m (m+j)->Rot d d2 a m b):=fun d2 h2=>RT.o d2 (Rot.left zj hgt zj EX h2)
  have S3:Aside (SWK enc k w0 blk off d1 w2):=S2;clear EX S2 S1 RT;rw [hds];go_wp2;go_roundg (i - j+j)
  case measure=>omega
  case rel=>exact ⟨i - j,j,d1,jQ,rfl,zj,hj,zj,hjm,vB _,hd1,RT2,S3⟩
end
section
open Go.Shelf Go.RowKit Go.Lib Go.Sort
structure KQ (P:Program) {β:Type} [Inhabited β] (lt:β->β->Bool) (k:Nat) (enc:β×Nat->List Value) (cf:β×Nat->β×Nat->Int) (g:Nat) (w0:World) (blk off:Nat) (d0:Array (β×Nat)):Prop where
 ty:STy P k
 fS:P.funcs[(337:Nat)]? =some f337
 fR:P.funcs[(307:Nat)]? =some f307
 fM:P.funcs[(257:Nat)]? =some f257
 row:RowK enc k w0 blk off d0
 less:∀x y,decide (cf x y<0)=tlt lt x y
 swo:SWO lt
 eg:∀args w,(callFunc g args).run P w= .ok (.enter g args) w
 cmp:CmpLays P g #[] enc k cf blk off d0.size w0
def eN (P:Program) {β:Type} [Inhabited β] (lt:β->β->Bool) (k:Nat) (enc:β×Nat->List Value) (g:Nat) (w0:World) (blk off cap a m b:Nat) (d:Array (β×Nat)) (w:World):Prop:=
 Calls P 257 #[.slice (some ⟨blk,off,none⟩) d.size cap,.int .i64 a,.int .i64 m,.int .i64 b,.func (.func g) #[] #[]] w fun e w'=>e= .returned (.tuple #[])/\∃d',(PermIn a b d d'/\SortedIn (slt lt) a b d')/\SWK enc k w0 blk off d' w'
theorem Fb {β:Type} [Inhabited β] {lt:β->β->Bool} {enc:β×Nat->List Value} {cf:β×Nat->β×Nat->Int} {off:Nat} {d0:Array (β×Nat)} (V:KQ P lt k enc cf g w0 blk off d0) (cap a m b:Nat) (d:Array (β×Nat)) (w:World)
  (hs:d0.size=d.size) (S:SWK enc k w0 blk off d w) (hr:Runs lt a m b d) (ham:a<m) (hmb:m<b) (hb:b<=d.size) (hsz:d.size<4611686018427387904) (h1:m=a+1):
  eN P lt k enc g w0 blk off cap a m b d w:=by
 unfold eN;have L:=V.ty;have mixed:=L.mixed;have t0:=L.t0;have a0:=L.a0;have z0:=L.z0;have v0:=L.v0;have t3:=L.t3;have a3:=L.a3;have z3:=L.z3;have v3:=L.v3;have t4:=L.t4;have a4:=L.a4;have z4:=L.z4;have v4:=L.v4;have tS:=L.tS;have aS:=L.aS;have zS:=L.zS;have vS:=L.vS;have tC:=L.tC;have aC:=L.aC;have zC:=L.zC;have vC:=L.vC;have tU:=L.tU;have aU:=L.aU;have zU:=L.zU;have vU:=L.vU;have aE:=L.aE;have zE:=L.zE;have R:=V.row;have eg:=V.eg;have CMP:Aside (CmpLays P g #[] enc k cf blk off d0.size w0):=V.cmp;have LT:Aside (∀x y,decide (cf x y<0)=tlt lt x y):=V.less;have S0:Aside (SWK enc k w0 blk off d w):=S;have HR:Aside (Runs lt a m b d):=hr;clear S hr;have q0:((m:Int) - (a:Int)==1)=true:=zq;have H1:Aside (m=a+1):=h1;clear h1;go_enter V.fM,ntmps257;go_wp2;clear q0;go_loopg [10,11] (b - m) (fun kx s10 s11 wr=>∃(i j:Nat),s10= .int .i64 (i:Int)/\s11= .int .i64 (j:Int)/\m<=i/\i<=j/\j<=b/\j - i<=kx/\Aside ((m<i->tlt lt d[i - 1]! d[a]! =true)/\(j<b->tlt lt d[j]! d[a]! =false))/\Aside (SWK enc k w0 blk off d wr))
 case atStart=>exact ⟨m,b,rfl,rfl,vB _,zj,vB _,vB _,⟨fun h=>zj,fun h=>zj⟩,S0⟩
 case round=>
  clear S0;obtain ⟨i,j,rfl,rfl,hi,hij,hj,hkx,ED,S1⟩:=hrel;by_cases hlt:i<j
  ·have hltz:decide ((i:Int)<(j:Int))=true:=by simp;omega
   go_wp2_with fail
   obtain ⟨h,hh⟩:∃h:Nat,h=(i+j) / 2:=⟨_,rfl⟩
   have hi1:i<=h:=zj;have hi2:h<j:=zj;have hz:((i:Int)+(j:Int)) / 2=(h:Int):=zj;rw [hz];clear hz hh;have ex:((h:Int)).toNat=h:=zj;have px:(0:Int)<=(h:Int):=zj;have bdx:(h:Int)<(d.size:Int):=zj;have rx:IntKind.i64.wrap ((h:Int))=(h:Int):=zu;have ey:((a:Int)).toNat=a:=zj;have py:(0:Int)<=(a:Int):=zj;have bdy:(a:Int)<(d.size:Int):=zj;have ry:IntKind.i64.wrap ((a:Int))=(a:Int):=zu;have lx:=S1.o.ld R zj P (h) zj;have ly:=S1.o.ld R zj P (a) zj;have hc:=S1.o.cmp CMP.o zj d[h]! d[a]!;have hl:=LT.o d[h]! d[a]!
   have SG:Aside (∀n os,SWK enc k w0 blk off d (grow (wr.drewN n) os)):=fun n os=>S1.o.grown n os
   generalize cf d[h]! d[a]! =z at hc hl;have HL:=Lib.hid hl;clear hl;simp only [Array.append_empty] at hc;by_cases hlv:z<0
   ·go_wp2_with fail;go_quiet_grown (first | (go_at_fn g;refine Calls.grown_of (hc _ _)));have S2:Aside (SWK enc k w0 blk off d (grow (wr.drewN nq) osq)):=SG.o nq osq
    have ED2:Aside ((m<h+1->tlt lt d[h+1 - 1]! d[a]! =true)/\(j<b->tlt lt d[j]! d[a]! =false)):=⟨fun _=>by rw [ZH,<-HL.o];exact decide_eq_true hlv,ED.o.2⟩
    clear lx ly hc SG S1 ED
    generalize grow (wr.drewN nq) osq=w2 at S2 |-
    go_wp2;go_roundg (j - (h+1))
    case measure=>omega
    case rel=>exact ⟨h+1,j,zw,rfl,zj,zj,hj,vB _,ED2,S2⟩
   go_wp2_with fail;go_quiet_grown (first | (go_at_fn g;refine Calls.grown_of (hc _ _)));have S2:Aside (SWK enc k w0 blk off d (grow (wr.drewN nq) osq)):=SG.o nq osq
   have ED2:Aside ((m<i->tlt lt d[i - 1]! d[a]! =true)/\(h<b->tlt lt d[h]! d[a]! =false)):=⟨ED.o.1,fun _=>by rw [<-HL.o];exact decide_eq_false zj⟩
   clear lx ly hc SG S1 ED
   generalize grow (wr.drewN nq) osq=w2 at S2 |-
   go_wp2;go_roundg (h - i)
   case measure=>omega
   case rel=>exact ⟨i,h,rfl,rfl,hi,hi1,zj,vB _,ED2,S2⟩
  have hltz:decide ((i:Int)<(j:Int))=false:=zq;obtain rfl:i=j:=zj;have EI:=ED;go_wp2;clear ED;go_loopg [13] (i - 1 - a) (fun kx s13 wv=>∃(t:Nat) (dk:Array (β×Nat)),s13= .int .i64 (t:Int)/\a<=t/\t+1<=i/\i - 1 - t<=kx/\dk.size=d.size/\Aside (Rot d dk a (a+1) (t+1))/\Aside (SWK enc k w0 blk off dk wv))
  case atStart=>exact ⟨a,d,rfl,vB _,zj,vB _,rfl,Rot.none d a (a+1) (a+1) zj zj (.inr rfl),S1⟩
  case round=>
   clear S1;obtain ⟨t,dk,rfl,ht,hti,hkx2,hds,RT,S1⟩:=hrel;by_cases hlt2:t+1<i
   ·have hltz2:decide ((t:Int)<(i:Int) - 1)=true:=by simp;omega
    go_wp2_with fail;have ex:((t:Int)).toNat=t:=zj;have px:(0:Int)<=(t:Int):=zj;have bdx:(t:Int)<(d.size:Int):=zj;have rx:IntKind.i64.wrap ((t:Int))=(t:Int):=zu;have ey:((t:Int)+1).toNat=t+1:=zj;have py:(0:Int)<=(t:Int)+1:=zj;have bdy:(t:Int)+1<(d.size:Int):=zj;have ry:IntKind.i64.wrap ((t:Int)+1)=(t:Int)+1:=zu;have S2:Aside (SWK enc k w0 blk off (swp dk (t) (t+1)) ((wr.drew.setCells blk (off+(t)*k) (enc dk[t+1]!)).setCells blk (off+(t+1)*k) (enc dk[t]!))):=S1.o.swapped R (t) (t+1) zj zj;have la:=S1.o.ld1 R zj P (t) zj;have lb:=S1.o.ld1 R zj P (t+1) zj;have sa:=S1.o.st1 R zj P (t) zj dk[t+1]!;have sb:=S1.o.st2 R zj P (t) (t+1) zj zj dk[t+1]! dk[t]!;have na:(enc dk[t]!).length=k:=R.hk _;have nb:(enc dk[t+1]!).length=k:=R.hk _;generalize enc dk[t]! =cI at S2 la sb na;generalize enc dk[t+1]! =cJ at S2 lb sa sb nb;clear S1;go_big_region_o;clear la lb sa sb
    generalize (wr.drew.setCells blk (off+(t)*k) cJ).setCells blk (off+(t+1)*k) cI=w2 at S2 |-
    go_wp2;go_roundg (i - 1 - (t+1))
    case measure=>omega
    case rel=>exact ⟨t+1,swp dk t (t+1),zw,zj,zj,vB _,by rw [swp_size];exact hds,RT.o.up ht zj,S2⟩
   have hltz2:decide ((t:Int)<(i:Int) - 1)=false:=zq;go_wp2;(try simp only [Exit.inBlock,Exit.then]);refine bodyPost_ret (results_none rfl _ _ _) rfl ?_;have ht2:t+1=i:=zj
   have RT2:Rot d dk a (a+1) i:=by rw [<-ht2];exact RT.o
   have h1:=H1.o;subst h1;exact ⟨rfl,dk,⟨permIn_mono d dk _ _ _ _ zg hj hb RT2.perm,Runs.first V.swo HR.o hi hj (fun h=>EI.o.1 h) (fun h=>EI.o.2 h) RT2⟩,S1.o⟩
theorem Gn {β:Type} [Inhabited β] {lt:β->β->Bool} {enc:β×Nat->List Value} {cf:β×Nat->β×Nat->Int} {off:Nat} {d0:Array (β×Nat)} (V:KQ P lt k enc cf g w0 blk off d0) (cap a m b:Nat) (d:Array (β×Nat)) (w:World)
  (hs:d0.size=d.size) (S:SWK enc k w0 blk off d w) (hr:Runs lt a m b d) (ham:a<m) (hmb:m<b) (hb:b<=d.size) (hsz:d.size<4611686018427387904) (h0:m≠a+1) (h1:b=m+1):
  eN P lt k enc g w0 blk off cap a m b d w:=by
 unfold eN;have L:=V.ty;have mixed:=L.mixed;have t0:=L.t0;have a0:=L.a0;have z0:=L.z0;have v0:=L.v0;have t3:=L.t3;have a3:=L.a3;have z3:=L.z3;have v3:=L.v3;have t4:=L.t4;have a4:=L.a4;have z4:=L.z4;have v4:=L.v4;have tS:=L.tS;have aS:=L.aS;have zS:=L.zS;have vS:=L.vS;have tC:=L.tC;have aC:=L.aC;have zC:=L.zC;have vC:=L.vC;have tU:=L.tU;have aU:=L.aU;have zU:=L.zU;have vU:=L.vU;have aE:=L.aE;have zE:=L.zE;have R:=V.row;have eg:=V.eg;have CMP:Aside (CmpLays P g #[] enc k cf blk off d0.size w0):=V.cmp;have LT:Aside (∀x y,decide (cf x y<0)=tlt lt x y):=V.less;have S0:Aside (SWK enc k w0 blk off d w):=S;have HR:Aside (Runs lt a m b d):=hr;clear S hr;have q0:((m:Int) - (a:Int)==1)=false:=zq;have q1:((b:Int) - (m:Int)==1)=true:=zq;have H1:Aside (b=m+1):=h1;clear h0 h1;go_enter V.fM,ntmps257;go_wp2;clear q0 q1;go_loopg [14,15] (m - a) (fun kx s10 s11 wr=>∃(i j:Nat),s10= .int .i64 (i:Int)/\s11= .int .i64 (j:Int)/\a<=i/\i<=j/\j<=m/\j - i<=kx/\Aside ((a<i->tlt lt d[m]! d[i - 1]! =false)/\(j<m->tlt lt d[m]! d[j]! =true))/\Aside (SWK enc k w0 blk off d wr))
 case atStart=>exact ⟨a,m,rfl,rfl,vB _,zj,vB _,vB _,⟨fun h=>zj,fun h=>zj⟩,S0⟩
 case round=>
  clear S0;obtain ⟨i,j,rfl,rfl,hi,hij,hj,hkx,ED,S1⟩:=hrel;by_cases hlt:i<j
  ·have hltz:decide ((i:Int)<(j:Int))=true:=by simp;omega
   go_wp2_with fail
   obtain ⟨h,hh⟩:∃h:Nat,h=(i+j) / 2:=⟨_,rfl⟩
   have hi1:i<=h:=zj;have hi2:h<j:=zj;have hz:((i:Int)+(j:Int)) / 2=(h:Int):=zj;rw [hz];clear hz hh;have ex:((m:Int)).toNat=m:=zj;have px:(0:Int)<=(m:Int):=zj;have bdx:(m:Int)<(d.size:Int):=zj;have rx:IntKind.i64.wrap ((m:Int))=(m:Int):=zu;have ey:((h:Int)).toNat=h:=zj;have py:(0:Int)<=(h:Int):=zj;have bdy:(h:Int)<(d.size:Int):=zj;have ry:IntKind.i64.wrap ((h:Int))=(h:Int):=zu;have lx:=S1.o.ld R zj P (m) zj;have ly:=S1.o.ld R zj P (h) zj;have hc:=S1.o.cmp CMP.o zj d[m]! d[h]!;have hl:=LT.o d[m]! d[h]!
   have SG:Aside (∀n os,SWK enc k w0 blk off d (grow (wr.drewN n) os)):=fun n os=>S1.o.grown n os
   generalize cf d[m]! d[h]! =z at hc hl;have HL:=Lib.hid hl;clear hl;simp only [Array.append_empty] at hc;by_cases hlv:z<0
   ·go_wp2_with fail;go_quiet_grown (first | (go_at_fn g;refine Calls.grown_of (hc _ _)));have S2:Aside (SWK enc k w0 blk off d (grow (wr.drewN nq) osq)):=SG.o nq osq
    have ED2:Aside ((a<i->tlt lt d[m]! d[i - 1]! =false)/\(h<m->tlt lt d[m]! d[h]! =true)):=⟨ED.o.1,fun _=>by rw [<-HL.o];exact decide_eq_true hlv⟩
    clear lx ly hc SG S1 ED
    generalize grow (wr.drewN nq) osq=w2 at S2 |-
    go_wp2;go_roundg (h - i)
    case measure=>omega
    case rel=>exact ⟨i,h,rfl,rfl,hi,hi1,zj,vB _,ED2,S2⟩
   go_wp2_with fail;go_quiet_grown (first | (go_at_fn g;refine Calls.grown_of (hc _ _)));have S2:Aside (SWK enc k w0 blk off d (grow (wr.drewN nq) osq)):=SG.o nq osq
   have ED2:Aside ((a<h+1->tlt lt d[m]! d[h+1 - 1]! =false)/\(j<m->tlt lt d[m]! d[j]! =true)):=⟨fun _=>by rw [ZH,<-HL.o];exact decide_eq_false zj,ED.o.2⟩
   clear lx ly hc SG S1 ED
   generalize grow (wr.drewN nq) osq=w2 at S2 |-
   have hd:(!decide (z<0))=true:=qU;go_wp2;go_roundg (j - (h+1))
   case measure=>omega
   case rel=>exact ⟨h+1,j,zw,rfl,zj,zj,hj,vB _,ED2,S2⟩
   rename_i hx;exact kq1
  have hltz:decide ((i:Int)<(j:Int))=false:=zq;obtain rfl:i=j:=zj;have EI:=ED;go_wp2;clear ED;go_loopg [17] (m - i) (fun kx s17 wv=>∃(t:Nat) (dk:Array (β×Nat)),s17= .int .i64 (t:Int)/\i<=t/\t<=m/\t - i<=kx/\dk.size=d.size/\Aside (Rot d dk t m (m+1))/\Aside (SWK enc k w0 blk off dk wv))
  case atStart=>exact ⟨m,d,rfl,hj,vB _,vB _,rfl,Rot.none d m m (m+1) zj zj (.inl rfl),S1⟩
  case round=>
   clear S1;obtain ⟨t,dk,rfl,ht,htm,hkx2,hds,RT,S1⟩:=hrel;by_cases hlt2:i<t
   ·obtain ⟨t',rfl⟩:∃t',t=t'+1:=⟨t - 1,zj⟩
    have hltz2:decide ((i:Int)<((t'+1:Nat):Int))=true:=zq;have hltz3:decide ((i:Int)<(t':Int)+1)=true:=zq;go_wp2_with fail;have ex:((t':Int)+1).toNat=t'+1:=zj;have px:(0:Int)<=(t':Int)+1:=zj;have bdx:(t':Int)+1<(d.size:Int):=zj;have rx:IntKind.i64.wrap ((t':Int)+1)=(t':Int)+1:=zu;have ey:((t':Int)).toNat=t':=zj;have py:(0:Int)<=(t':Int):=zj;have bdy:(t':Int)<(d.size:Int):=zj;have ry:IntKind.i64.wrap ((t':Int))=(t':Int):=zu;have S2:Aside (SWK enc k w0 blk off (swp dk (t'+1) (t')) ((wr.drew.setCells blk (off+(t'+1)*k) (enc dk[t']!)).setCells blk (off+(t')*k) (enc dk[t'+1]!))):=S1.o.swapped R (t'+1) (t') zj zj;have la:=S1.o.ld1 R zj P (t'+1) zj;have lb:=S1.o.ld1 R zj P (t') zj;have sa:=S1.o.st1 R zj P (t'+1) zj dk[t']!;have sb:=S1.o.st2 R zj P (t'+1) (t') zj zj dk[t']! dk[t'+1]!;have na:(enc dk[t'+1]!).length=k:=R.hk _;have nb:(enc dk[t']!).length=k:=R.hk _;generalize enc dk[t'+1]! =cI at S2 la sb na;generalize enc dk[t']! =cJ at S2 lb sa sb nb;clear S1;go_big_region_o;clear la lb sa sb
    generalize (wr.drew.setCells blk (off+(t'+1)*k) cJ).setCells blk (off+(t')*k) cI=w2 at S2 |-
    go_wp2;go_roundg (t' - i)
    case measure=>omega
    case rel=>exact ⟨t',swp dk (t'+1) t',by first | rfl | go_num | (congr 1;omega),zj,zj,vB _,by rw [swp_size];exact hds,RT.o.down zj zj,S2⟩
   have hltz2:decide ((i:Int)<(t:Int))=false:=zq;go_wp2;(try simp only [Exit.inBlock,Exit.then]);refine bodyPost_ret (results_none rfl _ _ _) rfl ?_;have ht2:t=i:=zj
   have RT2:Rot d dk i m (m+1):=by rw [<-ht2];exact RT.o
   have h1:=H1.o;subst h1;exact ⟨rfl,dk,⟨permIn_mono d dk _ _ _ _ hi zg hb RT2.perm,Runs.last V.swo HR.o hi hj (fun h=>EI.o.1 h) (fun h=>EI.o.2 h) RT2⟩,S1.o⟩
end
section
open Go.Shelf Go.RowKit Go.Lib Go.Sort
theorem Runs.off {β:Type} [Inhabited β] {lt:β->β->Bool} {a c e b:Nat} {d d':Array (β×Nat)} (h:Runs lt c e b d) (hce:c<=e) (p:PermIn a c d d'):Runs lt c e b d' where
 one:=fun i j hi hij hj=>by rw [p.2.1 i (.inr hi),p.2.1 j (.inr zj)];exact h.one i j hi hij hj
 two:=fun i j hi hij hj=>by rw [p.2.1 i (.inr zj),p.2.1 j (.inr zj)];exact h.two i j hi hij hj
 tag:=fun x y hx hxe hy hyb=>by rw [p.2.1 x (.inr hx),p.2.1 y (.inr zj)];exact h.tag x y hx hxe hy hyb
theorem MH {β:Type} [Inhabited β] {lt:β->β->Bool} {enc:β×Nat->List Value} {cf:β×Nat->β×Nat->Int} {off:Nat} {d0:Array (β×Nat)} (V:KQ P lt k enc cf g w0 blk off d0) (cap a m b:Nat) (d:Array (β×Nat)) (w:World)
  (hs:d0.size=d.size) (S:SWK enc k w0 blk off d w) (hr:Runs lt a m b d) (ham:a<m) (hmb:m<b) (hb:b<=d.size) (hsz:d.size<4611686018427387904) (_h0:m≠a+1) (_h1:b≠m+1)
  (IH:∀a' m' b' d' w',b' - a'<b - a->d0.size=d'.size->SWK enc k w0 blk off d' w'->Runs lt a' m' b' d'->a'<m'->m'<b'->b'<=d'.size->d'.size<4611686018427387904->eN P lt k enc g w0 blk off cap a' m' b' d' w') (hmid:(a+b) / 2<m):
  eN P lt k enc g w0 blk off cap a m b d w:=by
 unfold eN;have L:=V.ty;have mixed:=L.mixed;have t0:=L.t0;have a0:=L.a0;have z0:=L.z0;have v0:=L.v0;have t3:=L.t3;have a3:=L.a3;have z3:=L.z3;have v3:=L.v3;have t4:=L.t4;have a4:=L.a4;have z4:=L.z4;have v4:=L.v4;have tS:=L.tS;have aS:=L.aS;have zS:=L.zS;have vS:=L.vS;have tC:=L.tC;have aC:=L.aC;have zC:=L.zC;have vC:=L.vC;have tU:=L.tU;have aU:=L.aU;have zU:=L.zU;have vU:=L.vU;have aE:=L.aE;have zE:=L.zE;have eR:∀args w,(callFunc 307 args).run P w= .ok (.enter 307 args) w:=enters_of V.fR zo rfl;have eM:∀args w,(callFunc 257 args).run P w= .ok (.enter 257 args) w:=enters_of V.fM zo rfl;have R:=V.row;have eg:=V.eg;have CMP:Aside (CmpLays P g #[] enc k cf blk off d0.size w0):=V.cmp;have LT:Aside (∀x y,decide (cf x y<0)=tlt lt x y):=V.less;have S0:Aside (SWK enc k w0 blk off d w):=S;have HR:Aside (Runs lt a m b d):=hr;have IH0:Aside (∀a' m' b' d' w',b' - a'<b - a->d0.size=d'.size->SWK enc k w0 blk off d' w'->Runs lt a' m' b' d'->a'<m'->m'<b'->b'<=d'.size->d'.size<4611686018427387904->eN P lt k enc g w0 blk off cap a' m' b' d' w'):=IH;clear S hr IH;have q0:((m:Int) - (a:Int)==1)=false:=zq;have q1:((b:Int) - (m:Int)==1)=false:=zq;clear _h0 _h1
 obtain ⟨mid,hmi⟩:∃mid:Nat,mid=(a+b) / 2:=⟨_,rfl⟩
 rw [<-hmi] at hmid;have hm1:a<mid:=zj;have hm2:mid<b:=zj;have hm3:a+b<=2*mid+1:=zj;have hm4:2*mid<=a+b:=zj;have q2:decide ((mid:Int)<(m:Int))=true:=zq;have hz:((a:Int)+(b:Int)) / 2=(mid:Int):=zj;have HZ:=Lib.hid hz
 obtain ⟨pp,hpp⟩:∃pp:Nat,pp=mid+m - 1:=⟨_,rfl⟩
 have hp1:pp+1<=mid+m:=zj;have hp2:mid+m<=pp+1:=zj;have HP:=Lib.hid (show (mid:Int)+(m:Int) - 1=(pp:Int) by omega);clear hz hmi hpp;go_enter V.fM,ntmps257;go_upto_region 25 with fail;rw [HZ.o];clear HZ;go_wp2;rw [HP.o];clear HP;clear q0 q1 q2;go_loopg [20,21] (mid - (mid+m - b)) (fun kx s20 s21 wr=>∃(i j:Nat),s20= .int .i64 (i:Int)/\s21= .int .i64 (j:Int)/\mid+m - b<=i/\i<=j/\j<=mid/\j - i<=kx/\Aside ((mid+m - b<i->tlt lt d[mid+m - i]! d[i - 1]! =false)/\(j<mid->tlt lt d[mid+m - 1 - j]! d[j]! =true))/\Aside (SWK enc k w0 blk off d wr))
 case atStart=>exact ⟨mid+m - b,mid,ye,rfl,vB _,zj,vB _,vB _,⟨fun h=>zj,fun h=>zj⟩,S0⟩
 case round=>
  clear S0;obtain ⟨i,j,rfl,rfl,hi,hij,hj,hkx,ED,S1⟩:=hrel;by_cases hlt:i<j
  ·have hltz:decide ((i:Int)<(j:Int))=true:=by simp;omega
   go_wp2_with fail
   obtain ⟨h,hh⟩:∃h:Nat,h=(i+j) / 2:=⟨_,rfl⟩
   have hi1:i<=h:=zj;have hi2:h<j:=zj;have hz:((i:Int)+(j:Int)) / 2=(h:Int):=zj
   obtain ⟨q,hq⟩:∃q:Nat,q=mid+m - 1 - h:=⟨_,rfl⟩
   have hq1:q+h+1<=mid+m:=zj;have hq2:mid+m<=q+h+1:=zj;have HQ:=Lib.hid (show (pp:Int)=(q:Int)+(h:Int) by omega);have HQN:=Lib.hid hq;rw [hz,HQ.o];clear hz hh hq;have ex:((q:Int)).toNat=q:=zj;have px:(0:Int)<=(q:Int):=zj;have bdx:(q:Int)<(d.size:Int):=zj;have rx:IntKind.i64.wrap ((q:Int))=(q:Int):=zu;have ey:((h:Int)).toNat=h:=zj;have py:(0:Int)<=(h:Int):=zj;have bdy:(h:Int)<(d.size:Int):=zj;have ry:IntKind.i64.wrap ((h:Int))=(h:Int):=zu;have lx:=S1.o.ld R zj P (q) zj;have ly:=S1.o.ld R zj P (h) zj;have hc:=S1.o.cmp CMP.o zj d[q]! d[h]!;have hl:=LT.o d[q]! d[h]!
   have SG:Aside (∀n os,SWK enc k w0 blk off d (grow (wr.drewN n) os)):=fun n os=>S1.o.grown n os
   generalize cf d[q]! d[h]! =z at hc hl;have HL:=Lib.hid hl;clear hl;simp only [Array.append_empty] at hc;by_cases hlv:z<0
   ·go_wp2_with fail;go_quiet_grown (first | (go_at_fn g;refine Calls.grown_of (hc _ _)));have S2:Aside (SWK enc k w0 blk off d (grow (wr.drewN nq) osq)):=SG.o nq osq
    have ED2:Aside ((mid+m - b<i->tlt lt d[mid+m - i]! d[i - 1]! =false)/\(h<mid->tlt lt d[mid+m - 1 - h]! d[h]! =true)):=⟨ED.o.1,fun _=>jk⟩
    clear lx ly hc SG S1 ED
    generalize grow (wr.drewN nq) osq=w2 at S2 |-
    rw [<-HQ.o];clear HQ HQN;go_wp2;go_roundg (h - i)
    case measure=>omega
    case rel=>exact ⟨i,h,rfl,rfl,hi,hi1,zj,vB _,ED2,S2⟩
   go_wp2_with fail;go_quiet_grown (first | (go_at_fn g;refine Calls.grown_of (hc _ _)));have S2:Aside (SWK enc k w0 blk off d (grow (wr.drewN nq) osq)):=SG.o nq osq
   have ED2:Aside ((mid+m - b<h+1->tlt lt d[mid+m - (h+1)]! d[h+1 - 1]! =false)/\(j<mid->tlt lt d[mid+m - 1 - j]! d[j]! =true)):=⟨fun _=>by rw [ZH,show mid+m - (h+1)=mid+m - 1 - h by omega,<-HQN.o,<-HL.o];exact decide_eq_false zj,ED.o.2⟩
   clear lx ly hc SG S1 ED
   generalize grow (wr.drewN nq) osq=w2 at S2 |-
   have hd:(!decide (z<0))=true:=qU;rw [<-HQ.o];clear HQ HQN;go_wp2;go_roundg (j - (h+1))
   case measure=>omega
   case rel=>exact ⟨h+1,j,zw,rfl,zj,zj,hj,vB _,ED2,S2⟩
   rename_i hx;exact kq1
  have hltz:decide ((i:Int)<(j:Int))=false:=zq;obtain rfl:i=j:=zj
  obtain ⟨e,hee⟩:∃e:Nat,e=mid+m - i:=⟨_,rfl⟩
  have he1:i+e=mid+m:=zj
  have hlo:a<i->e<b->tlt lt d[e]! d[i - 1]! =false:=fun x y=>by rw [hee];exact ED.o.1 zj
  have hhi:i<m->m<e->tlt lt d[e - 1]! d[i]! =true:=fun x y=>qK
  have HLO:Aside (a<i->e<b->tlt lt d[e]! d[i - 1]! =false):=hlo;have HHI:Aside (i<m->m<e->tlt lt d[e - 1]! d[i]! =true):=hhi;have hze:(mid:Int)+(m:Int) - (i:Int)=(e:Int):=zj;have HZE:=Lib.hid hze;clear hlo hhi hze hee ED;go_upto_region 39 with fail;rw [HZE.o];clear HZE;by_cases hrot:i<mid
  ·skip;have b0:decide ((i:Int)<(m:Int))=true:=zq;have b1:decide ((m:Int)<(e:Int))=true:=zq;go_wp2_with fail;clear b0 b1;refine (mz k L V.fS V.fR enc blk off cap i m e d0 d w0 wr _ R hs S1.o zj zj zj zj).mono ?_;rintro ex w1 ⟨rfl,d1,RT,S_1⟩;have hzd1:d1.size=d.size:=RT.perm.1;have S2:Aside (SWK enc k w0 blk off d1 w1):=S_1;clear S_1 S1
   have CUT:Aside (Runs lt a i mid d1/\Runs lt mid e b d1/\∀p q,a<=p->p<mid->mid<=q->q<b->slt lt d1[q]! d1[p]! =false):=by
    exact kd5
   have PD1:Aside (PermIn a b d d1):=permIn_mono d d1 _ _ _ _ zj zj hb RT.perm;clear RT HLO HHI;by_cases hse:a<i
   ·skip;have b0:decide ((a:Int)<(i:Int))=true:=zq;have b1:decide ((i:Int)<(mid:Int))=true:=zq;go_wp2_with fail;clear b0 b1;have C:=IH0.o a i mid d1 w1 zj zj S2.o CUT.o.1 zj zj zj zj;unfold eN at C;rw [hzd1] at C;refine C.mono ?_;clear C;rintro ex w2 ⟨rfl,d2,⟨PMd2,SOd2⟩,S_d2⟩
    have hzd2:d2.size=d.size:=by rw [PMd2.1,hzd1]
    have Sd2:Aside (SWK enc k w0 blk off d2 w2):=S_d2
    have Qd2:Aside (PermIn a mid d1 d2/\SortedIn (slt lt) a mid d2):=⟨PMd2,SOd2⟩
    clear PMd2 SOd2 S_d2;clear S2;by_cases hth:e<b
    ·exact ka9
    skip;have b0:decide ((mid:Int)<(e:Int))=true:=zq;have b1:decide ((e:Int)<(b:Int))=false:=zq;exact kc7
   skip;have b0:decide ((a:Int)<(i:Int))=false:=zq
   have Qd1:Aside (PermIn a mid d1 d1/\SortedIn (slt lt) a mid d1):=⟨permIn_refl _ _ _,Runs.sorted CUT.o.1 zj⟩
   by_cases hth:e<b
   ·exfalso;omega
   skip;have b0:decide ((mid:Int)<(e:Int))=true:=zq;have b1:decide ((e:Int)<(b:Int))=false:=zq;exact kb1
  skip;have b0:decide ((i:Int)<(m:Int))=true:=zq;have b1:decide ((m:Int)<(e:Int))=false:=zq
  obtain ⟨d1,w1,hd1,hw1⟩:∃d1 w1,d1=d/\w1=wr:=⟨_,_,rfl,rfl⟩
  have RT:Rot d d1 i m e:=xu;have hzd1:d1.size=d.size:=RT.perm.1
  have S2:Aside (SWK enc k w0 blk off d1 w1):=by rw [hd1,hw1];exact S1
  rw [<-hw1];clear hd1 hw1 S1
  have CUT:Aside (Runs lt a i mid d1/\Runs lt mid e b d1/\∀p q,a<=p->p<mid->mid<=q->q<b->slt lt d1[q]! d1[p]! =false):=by
   exact kd5
  have PD1:Aside (PermIn a b d d1):=permIn_mono d d1 _ _ _ _ zj zj hb RT.perm;clear RT HLO HHI;have b0:decide ((a:Int)<(i:Int))=true:=zq;have b1:decide ((i:Int)<(mid:Int))=false:=zq
  have Qd1:Aside (PermIn a mid d1 d1/\SortedIn (slt lt) a mid d1):=⟨permIn_refl _ _ _,Runs.sorted CUT.o.1 zj⟩
  by_cases hth:e<b
  ·exact kb0
  exfalso;omega
end
section
open Go.RowKit
structure But (pb:Nat) (w w':World):Prop where
 os:w'.os=w.os
 tape:w'.tape=w.tape
 output:w'.output=w.output
 size:w.heap.size<=w'.heap.size
 block:∀k,k<w.heap.size->k≠pb->w'.heap[k]? =w.heap[k]?
theorem But.of_below (h:Below w.heap.size w w'):But pb w w':=⟨h.os,h.tape,h.output,h.size,fun k hk _=>h.block k hk⟩
theorem But.later (h:But pb w w1) (hb:Below w1.heap.size w1 w'):But pb w w':=
 ⟨hb.os.trans h.os,hb.tape.trans h.tape,hb.output.trans h.output,vI h.size hb.size,fun k hk hn=>(hb.block k (vV hk h.size)).trans (h.block k hk hn)⟩
theorem But.setCell {pb o:Nat} {w w1:World} (h:But pb w w1) (v:Value):But pb w (w1.setCell ⟨pb,o,none⟩ v):=by
 have hb:Below 0 w1 (w1.setCell ⟨pb,o,none⟩ v):=(vG 0 w1).setCell (vM _) v;exact ⟨hb.os.trans h.os,hb.tape.trans h.tape,hb.output.trans h.output,vI h.size hb.size,fun k hk hn=>(Below.heap_setCell w1 ⟨pb,o,none⟩ v k hn).trans (h.block k hk hn)⟩
theorem Mk (b:Int) (w:World) (h3:0<=b) (h4:b<4):
  Calls prog 65 #[.int .i64 b] w fun e w'=>e= .returned (.tuple #[.pointer (some ⟨w.heap.size,0,none⟩),.nilIface])/\w'=w.alloc (.cells #[.int .i64 0,.int .i64 b] 108):=by
 go_enter func65,ntmps65;go_wp2;go_ret2;exact kl3
structure Clk (pb:Nat) (T b:Int) (w:World):Prop where
 t:w.cell? ⟨pb,0,none⟩=some (.int .i64 T)
 b:w.cell? ⟨pb,1,none⟩=some (.int .i64 b)
 f:w.frozen? ⟨pb,0,none⟩=false
theorem Clk.lt (h:Clk pb T b w):pb<w.heap.size:=vK w ⟨pb,0,none⟩ h.t
theorem Clk.later (h:Clk pb T b w) (hb:Below w.heap.size w w'):Clk pb T b w':=
 ⟨cell_later hb h.t,cell_later hb h.b,(hb.frozen (p:=⟨pb,0,none⟩) h.lt).trans h.f⟩
theorem Clk.set (h:Clk pb T b w) (T':Int):Clk pb T' b (w.setCell ⟨pb,0,none⟩ (.int .i64 T')):=
 ⟨World.cell?_setCell_same _ _ _ h.t,(World.cell?_setCell_other _ _ _ _ zt).trans h.b,by rw [World.frozen?_setCell];exact h.f⟩
theorem Dc (pb:Nat) (T c:Int) (w:World) (eb:Value) (hg:w.cell? ⟨2,0,none⟩=some eb) (hC:Clk pb T c w) (hT:1073741824<=T):
  Calls prog 359 #[.pointer (some ⟨pb,0,none⟩)] w fun e w'=>e= .returned (.tuple #[.agg #[.int .i64 0,.int .i64 0],eb])/\Below w.heap.size w w':=by
 obtain ⟨k0,k1,kf⟩:=hC;have hz:2<w.heap.size:=vK w ⟨2,0,none⟩ hg;have hp:pb<w.heap.size:=vK w ⟨pb,0,none⟩ k0;go_enter func359,ntmps359;go_wp2;go_region
 all_goals try go_wp2
 exact bodyPost_ret (v:=.tuple #[.agg #[.int .i64 0,.int .i64 0],eb]) jX rfl ⟨rfl,(zh _ _).drew⟩
theorem KJ (pb:Nat) (T c:Int) (w:World) (hC:Clk pb T c w) (h0:0<=T) (hT:T<1073741824):
  Calls prog 359 #[.pointer (some ⟨pb,0,none⟩)] w fun e w'=>e= .returned (.tuple #[.agg #[.int .i64 (T+1),.int .i64 c],.nilIface])/\But pb w w'/\Clk pb (T+1) c w':=by
 obtain ⟨k0,k1,kf⟩:=hC;have hp:pb<w.heap.size:=vK w ⟨pb,0,none⟩ k0;go_enter func359,ntmps359;go_wp2
 exact bodyPost_ret (v:=.tuple #[.agg #[.int .i64 (T+1),.int .i64 c],.nilIface]) jX rfl
  ⟨rfl,((But.of_below (vG _ _)).setCell _).later (zh _ _),(Clk.set (T:=T) ⟨k0,k1,kf⟩ (T+1)).later (zh _ _)⟩
