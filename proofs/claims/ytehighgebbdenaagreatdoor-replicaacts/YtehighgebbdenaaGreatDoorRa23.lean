import Derived.Test.YtehighgebbdenaaGreatDoorRa16
import Derived.Test.YtehighgebbdenaaGreatDoorRa21
import Derived.Test.YtehighgebbdenaaGreatDoorRa22
import Derived.Shelf.SlicesE.Clone
import Derived.Lib.OwnBridge
set_option linter.unusedVariables false
set_option maxRecDepth 100000
set_option maxHeartbeats 64000000
namespace Go.Proofs.YtehighgebbdenaaGreatDoor
open Go.Proofs.Tryz
variable {d d' d0:Array (OpX×Nat)} {T by_:Int} {A xs ys:List OpX} {B bc blk br bt bx g i k:Nat} {kv kv':Nat→Value} {P:Program} {R:Rws} {w w' w0:World}
section
open Go.Shelf Go.RowKit Go.Lib Go.Sort
theorem KR {β:Type} [Inhabited β] {lt:β->β->Bool} {enc:β×Nat->List Value} {cf:β×Nat->β×Nat->Int} {off:Nat} {d0:Array (β×Nat)} (V:Id P lt k enc cf g w0 blk off d0) (cap a m b:Nat) (d:Array (β×Nat)) (w:World)
  (hs:d0.size=d.size) (S:SWK enc k w0 blk off d w) (hr:Runs lt a m b d) (ham:a<m) (hmb:m<b) (hb:b<=d.size) (hsz:d.size<4611686018427387904) (_h0:m≠a+1) (_h1:b≠m+1)
  (IH:∀a' m' b' d' w',b' - a'<b - a->d0.size=d'.size->SWK enc k w0 blk off d' w'->Runs lt a' m' b' d'->a'<m'->m'<b'->b'<=d'.size->d'.size<4611686018427387904->eK P lt k enc g w0 blk off cap a' m' b' d' w') (hmid:m<=(a+b) / 2):
  eK P lt k enc g w0 blk off cap a m b d w:=by
 unfold eK;have L:=V.ty;have mixed:=L.mixed;have t0:=L.t0;have a0:=L.a0;have z0:=L.z0;have v0:=L.v0;have t3:=L.t3;have a3:=L.a3;have z3:=L.z3;have v3:=L.v3;have t4:=L.t4;have a4:=L.a4;have z4:=L.z4;have v4:=L.v4;have tS:=L.tS;have aS:=L.aS;have zS:=L.zS;have vS:=L.vS;have tC:=L.tC;have aC:=L.aC;have zC:=L.zC;have vC:=L.vC;have tU:=L.tU;have aU:=L.aU;have zU:=L.zU;have vU:=L.vU;have aE:=L.aE;have zE:=L.zE;have eR:∀args w,(callFunc 281 args).run P w= .ok (.enter 281 args) w:=enters_of V.fR zq rfl;have eM:∀args w,(callFunc 226 args).run P w= .ok (.enter 226 args) w:=enters_of V.fM zq rfl;have R:=V.row;have eg:=V.eg;have CMP:Aside (CmpLays P g #[] enc k cf blk off d0.size w0):=V.cmp;have LT:Aside (∀x y,decide (cf x y<0)=tlt lt x y):=V.less;have S0:Aside (SWK enc k w0 blk off d w):=S;have HR:Aside (Runs lt a m b d):=hr;have IH0:Aside (∀a' m' b' d' w',b' - a'<b - a->d0.size=d'.size->SWK enc k w0 blk off d' w'->Runs lt a' m' b' d'->a'<m'->m'<b'->b'<=d'.size->d'.size<4611686018427387904->eK P lt k enc g w0 blk off cap a' m' b' d' w'):=IH;clear S hr IH;have q0:((m:Int) - (a:Int)==1)=false:=zr;have q1:((b:Int) - (m:Int)==1)=false:=zr;clear _h0 _h1
 obtain ⟨mid,hmi⟩:∃mid:Nat,mid=(a+b) / 2:=⟨_,rfl⟩
 rw [<-hmi] at hmid;have hm1:a<mid:=zo;have hm2:mid<b:=zo;have hm3:a+b<=2*mid+1:=zo;have hm4:2*mid<=a+b:=zo;have q2:decide ((mid:Int)<(m:Int))=false:=zr;have hz:((a:Int)+(b:Int)) / 2=(mid:Int):=zo;have HZ:=Lib.hid hz
 obtain ⟨pp,hpp⟩:∃pp:Nat,pp=mid+m - 1:=⟨_,rfl⟩
 have hp1:pp+1<=mid+m:=zo;have hp2:mid+m<=pp+1:=zo;have HP:=Lib.hid (show (mid:Int)+(m:Int) - 1=(pp:Int) by omega);clear hz hmi hpp;go_enter V.fM,ntmps226;go_upto_region 25 with fail;rw [HZ.o];clear HZ;go_wp2;rw [HP.o];clear HP;rw [decide_eq_false (show ¬mid<m by omega)];clear q0 q1 q2;go_loopg [20,21] (m - (a)) (fun kx s20 s21 wr=>∃(i j:Nat),s20= .int .i64 (i:Int)/\s21= .int .i64 (j:Int)/\a<=i/\i<=j/\j<=m/\j - i<=kx/\Aside ((a<i->tlt lt d[mid+m - i]! d[i - 1]! =false)/\(j<m->tlt lt d[mid+m - 1 - j]! d[j]! =true))/\Aside (SWK enc k w0 blk off d wr))
 case atStart=>exact ⟨a,m,yj,rfl,vM _,zo,vM _,vM _,⟨fun h=>zo,fun h=>zo⟩,S0⟩
 case round=>
  clear S0;obtain ⟨i,j,rfl,rfl,hi,hij,hj,hkx,ED,S1⟩:=hrel;by_cases hlt:i<j
  ·have hltz:decide ((i:Int)<(j:Int))=true:=by simp;omega
   go_wp2_with fail
   obtain ⟨h,hh⟩:∃h:Nat,h=(i+j) / 2:=⟨_,rfl⟩
   have hi1:i<=h:=zo;have hi2:h<j:=zo;have hz:((i:Int)+(j:Int)) / 2=(h:Int):=zo
   obtain ⟨q,hq⟩:∃q:Nat,q=mid+m - 1 - h:=⟨_,rfl⟩
   have hq1:q+h+1<=mid+m:=zo;have hq2:mid+m<=q+h+1:=zo;have HQ:=Lib.hid (show (pp:Int)=(q:Int)+(h:Int) by omega);have HQN:=Lib.hid hq;rw [hz,HQ.o];clear hz hh hq;have ex:((q:Int)).toNat=q:=zo;have px:(0:Int)<=(q:Int):=zo;have bdx:(q:Int)<(d.size:Int):=zo;have rx:IntKind.i64.wrap ((q:Int))=(q:Int):=zB;have ey:((h:Int)).toNat=h:=zo;have py:(0:Int)<=(h:Int):=zo;have bdy:(h:Int)<(d.size:Int):=zo;have ry:IntKind.i64.wrap ((h:Int))=(h:Int):=zB;have lx:=S1.o.ld R zo P (q) zo;have ly:=S1.o.ld R zo P (h) zo;have hc:=S1.o.cmp CMP.o zo d[q]! d[h]!;have hl:=LT.o d[q]! d[h]!
   have SG:Aside (∀n os,SWK enc k w0 blk off d (grow (wr.drewN n) os)):=fun n os=>S1.o.grown n os
   generalize cf d[q]! d[h]! =z at hc hl;have HL:=Lib.hid hl;clear hl;simp only [Array.append_empty] at hc;by_cases hlv:z<0
   ·go_wp2_with fail;go_quiet_grown (first | (go_at_fn g;refine Calls.grown_of (hc _ _)));have S2:Aside (SWK enc k w0 blk off d (grow (wr.drewN nq) osq)):=SG.o nq osq
    have ED2:Aside ((a<i->tlt lt d[mid+m - i]! d[i - 1]! =false)/\(h<m->tlt lt d[mid+m - 1 - h]! d[h]! =true)):=⟨ED.o.1,fun _=>jl⟩
    clear lx ly hc SG S1 ED
    generalize grow (wr.drewN nq) osq=w2 at S2 |-
    rw [<-HQ.o];clear HQ HQN;go_wp2;go_roundg (h - i)
    case measure=>omega
    case rel=>exact ⟨i,h,rfl,rfl,hi,hi1,zo,vM _,ED2,S2⟩
   go_wp2_with fail;go_quiet_grown (first | (go_at_fn g;refine Calls.grown_of (hc _ _)));have S2:Aside (SWK enc k w0 blk off d (grow (wr.drewN nq) osq)):=SG.o nq osq
   have ED2:Aside ((a<h+1->tlt lt d[mid+m - (h+1)]! d[h+1 - 1]! =false)/\(j<m->tlt lt d[mid+m - 1 - j]! d[j]! =true)):=⟨fun _=>by rw [ZU,show mid+m - (h+1)=mid+m - 1 - h by omega,<-HQN.o,<-HL.o];exact decide_eq_false zo,ED.o.2⟩
   clear lx ly hc SG S1 ED
   generalize grow (wr.drewN nq) osq=w2 at S2 |-
   have hd:(!decide (z<0))=true:=qY;rw [<-HQ.o];clear HQ HQN;go_wp2;go_roundg (j - (h+1))
   case measure=>omega
   case rel=>exact ⟨h+1,j,zD,rfl,zo,zo,hj,vM _,ED2,S2⟩
   rename_i hx;exact ks5
  have hltz:decide ((i:Int)<(j:Int))=false:=zr;obtain rfl:i=j:=zo
  obtain ⟨e,hee⟩:∃e:Nat,e=mid+m - i:=⟨_,rfl⟩
  have he1:i+e=mid+m:=zo
  have hlo:a<i->e<b->tlt lt d[e]! d[i - 1]! =false:=fun x y=>by rw [hee];exact ED.o.1 zo
  have hhi:i<m->m<e->tlt lt d[e - 1]! d[i]! =true:=fun x y=>qO
  have HLO:Aside (a<i->e<b->tlt lt d[e]! d[i - 1]! =false):=hlo;have HHI:Aside (i<m->m<e->tlt lt d[e - 1]! d[i]! =true):=hhi;have hze:(mid:Int)+(m:Int) - (i:Int)=(e:Int):=zo;have HZE:=Lib.hid hze;clear hlo hhi hze hee ED;go_upto_region 39 with fail;rw [HZE.o];clear HZE;by_cases hrot:i<m
  ·skip;have b0:decide ((i:Int)<(m:Int))=true:=zr;have b1:decide ((m:Int)<(e:Int))=true:=zr;go_wp2_with fail;clear b0 b1;refine (lA k L V.fS V.fR enc blk off cap i m e d0 d w0 wr _ R hs S1.o zo zo zo zo).mono ?_;rintro ex w1 ⟨rfl,d1,RT,S_1⟩;have hzd1:d1.size=d.size:=RT.perm.1;have S2:Aside (SWK enc k w0 blk off d1 w1):=S_1;clear S_1 S1
   have CUT:Aside (Runs lt a i mid d1/\Runs lt mid e b d1/\∀p q,a<=p->p<mid->mid<=q->q<b->slt lt d1[q]! d1[p]! =false):=by
    exact kd9
   have PD1:Aside (PermIn a b d d1):=permIn_mono d d1 _ _ _ _ zo zo hb RT.perm;clear RT HLO HHI;by_cases hse:a<i
   ·skip;have b0:decide ((a:Int)<(i:Int))=true:=zr;have b1:decide ((i:Int)<(mid:Int))=true:=zr;go_wp2_with fail;clear b0 b1;have C:=IH0.o a i mid d1 w1 zo zo S2.o CUT.o.1 zo zo zo zo;unfold eK at C;rw [hzd1] at C;refine C.mono ?_;clear C;rintro ex w2 ⟨rfl,d2,⟨PMd2,SOd2⟩,S_d2⟩
    have hzd2:d2.size=d.size:=by rw [PMd2.1,hzd1]
    have Sd2:Aside (SWK enc k w0 blk off d2 w2):=S_d2
    have Qd2:Aside (PermIn a mid d1 d2/\SortedIn (slt lt) a mid d2):=⟨PMd2,SOd2⟩
    clear PMd2 SOd2 S_d2;clear S2;by_cases hth:e<b
    ·exact ka9
    exfalso;omega
   skip;have b0:decide ((a:Int)<(i:Int))=false:=zr
   have Qd1:Aside (PermIn a mid d1 d1/\SortedIn (slt lt) a mid d1):=⟨permIn_refl _ _ _,Runs.sorted CUT.o.1 zo⟩
   by_cases hth:e<b
   ·exact kb1
   skip;have b0:decide ((mid:Int)<(e:Int))=true:=zr;have b1:decide ((e:Int)<(b:Int))=false:=zr;exact kb3
  skip;have b0:decide ((i:Int)<(m:Int))=false:=zr
  obtain ⟨d1,w1,hd1,hw1⟩:∃d1 w1,d1=d/\w1=wr:=⟨_,_,rfl,rfl⟩
  have RT:Rot d d1 i m e:=xA;have hzd1:d1.size=d.size:=RT.perm.1
  have S2:Aside (SWK enc k w0 blk off d1 w1):=by rw [hd1,hw1];exact S1
  rw [<-hw1];clear hd1 hw1 S1
  have CUT:Aside (Runs lt a i mid d1/\Runs lt mid e b d1/\∀p q,a<=p->p<mid->mid<=q->q<b->slt lt d1[q]! d1[p]! =false):=by
   exact kd9
  have PD1:Aside (PermIn a b d d1):=permIn_mono d d1 _ _ _ _ zo zo hb RT.perm;clear RT HLO HHI;by_cases hse:i<mid
  ·skip;have b0:decide ((a:Int)<(i:Int))=true:=zr;have b1:decide ((i:Int)<(mid:Int))=true:=zr;go_wp2_with fail;clear b0 b1;have C:=IH0.o a i mid d1 w1 zo zo S2.o CUT.o.1 zo zo zo zo;unfold eK at C;rw [hzd1] at C;refine C.mono ?_;clear C;rintro ex w2 ⟨rfl,d2,⟨PMd2,SOd2⟩,S_d2⟩
   have hzd2:d2.size=d.size:=by rw [PMd2.1,hzd1]
   have Sd2:Aside (SWK enc k w0 blk off d2 w2):=S_d2
   have Qd2:Aside (PermIn a mid d1 d2/\SortedIn (slt lt) a mid d2):=⟨PMd2,SOd2⟩
   clear PMd2 SOd2 S_d2;clear S2;have b0:decide ((mid:Int)<(e:Int))=false:=zr;exact kd1
  skip;have b0:decide ((a:Int)<(i:Int))=true:=zr;have b1:decide ((i:Int)<(mid:Int))=false:=zr
  have Qd1:Aside (PermIn a mid d1 d1/\SortedIn (slt lt) a mid d1):=⟨permIn_refl _ _ _,Runs.sorted CUT.o.1 zo⟩
  have b0:decide ((mid:Int)<(e:Int))=false:=zr;exact kb3
end
section
open Go.Shelf Go.RowKit Go.Lib Go.Sort
theorem sd {P:Program} {β:Type} [Inhabited β] {lt:β->β->Bool} {k:Nat} {enc:β×Nat->List Value} {cf:β×Nat->β×Nat->Int} {g:Nat} {w0:World} {blk off:Nat} {d0:Array (β×Nat)} (V:Id P lt k enc cf g w0 blk off d0) (cap:Nat):∀(n a m b:Nat) (d:Array (β×Nat)) (w:World),
  b - a<=n->d0.size=d.size->SWK enc k w0 blk off d w->Runs lt a m b d->a<m->m<b->b<=d.size->d.size<4611686018427387904->eK P lt k enc g w0 blk off cap a m b d w
 | 0,a,m,b,d,w=>fun hn _ _ _ h1 h2 _ _=>absurd hn zo
 | n+1,a,m,b,d,w=>fun hn hs S hr h1 h2 hb hsz=>by
  have IH:∀a' m' b' d' w',b' - a'<b - a->d0.size=d'.size->SWK enc k w0 blk off d' w'->Runs lt a' m' b' d'->a'<m'->m'<b'->b'<=d'.size->d'.size<4611686018427387904->eK P lt k enc g w0 blk off cap a' m' b' d' w':=fun a' m' b' d' w' hl=>sd V cap n a' m' b' d' w' zo
  by_cases c1:m=a+1
  ·exact Er V cap a m b d w hs S hr h1 h2 hb hsz c1
  by_cases c2:b=m+1
  ·exact Fp V cap a m b d w hs S hr h1 h2 hb hsz c1 c2
  by_cases c3:(a+b) / 2<m
  ·exact KB V cap a m b d w hs S hr h1 h2 hb hsz c1 c2 IH c3
  exact KR V cap a m b d w hs S hr h1 h2 hb hsz c1 c2 IH zo
end
section
open Go.Shelf Go.RowKit Go.Lib Go.Sort
def BA (P:Program) {β:Type} [Inhabited β] (lt:β->β->Bool) (k:Nat) (enc:β×Nat->List Value) (g:Nat) (w0:World) (blk off cap a b:Nat) (d:Array (β×Nat)) (w:World):Prop:=
 Calls P 225 #[.slice (some ⟨blk,off,none⟩) d.size cap,.int .i64 a,.int .i64 b,.func (.func g) #[] #[]] w fun e w'=>e= .returned (.tuple #[])/\∃d',(PermIn a b d d'/\SortedIn (slt lt) a b d')/\SWK enc k w0 blk off d' w'
theorem tz {β:Type} [Inhabited β] {lt:β->β->Bool} {enc:β×Nat->List Value} {cf:β×Nat->β×Nat->Int} {off:Nat} {d0:Array (β×Nat)} (V:Id P lt k enc cf g w0 blk off d0) (cap:Nat) (d:Array (β×Nat)) (w:World)
  (hF:P.funcs[(185:Nat)]? =some f185)
  (eI:∀args w,(callFunc 225 args).run P w= .ok (.enter 225 args) w)
  (INS:∀a b d w,d0.size=d.size->SWK enc k w0 blk off d w->a<=b->b<=d.size->d.size<4611686018427387904->(∀p q,a<=p->p<q->q<b->d[p]!.2<d[q]!.2)->BA P lt k enc g w0 blk off cap a b d w)
  (hs:d0.size=d.size) (S:SWK enc k w0 blk off d w) (ht:∀p,p<d.size->d[p]!.2=p) (hsz:d.size<1152921504606846976):
  Calls P 185 #[.slice (some ⟨blk,off,none⟩) d.size cap,.int .i64 d.size,.func (.func g) #[] #[]] w fun e w'=>e= .returned (.tuple #[])/\∃d',(PermIn 0 d.size d d'/\SortedIn (slt lt) 0 d.size d')/\SWK enc k w0 blk off d' w':=by
 have L:=V.ty;have mixed:=L.mixed;have t0:=L.t0;have a0:=L.a0;have z0:=L.z0;have v0:=L.v0;have t3:=L.t3;have a3:=L.a3;have z3:=L.z3;have v3:=L.v3;have t4:=L.t4;have a4:=L.a4;have z4:=L.z4;have v4:=L.v4;have tS:=L.tS;have aS:=L.aS;have zS:=L.zS;have vS:=L.vS;have tC:=L.tC;have aC:=L.aC;have zC:=L.zC;have vC:=L.vC;have tU:=L.tU;have aU:=L.aU;have zU:=L.zU;have vU:=L.vU;have aE:=L.aE;have zE:=L.zE;have eM:∀args w,(callFunc 226 args).run P w= .ok (.enter 226 args) w:=enters_of V.fM zq rfl;have I0:Aside (∀a b d w,d0.size=d.size->SWK enc k w0 blk off d w->a<=b->b<=d.size->d.size<4611686018427387904->(∀p q,a<=p->p<q->q<b->d[p]!.2<d[q]!.2)->BA P lt k enc g w0 blk off cap a b d w):=INS;have S0:Aside (SWK enc k w0 blk off d w):=S;have T0:Aside (∀p,p<d.size->d[p]!.2=p):=ht;clear S ht INS;go_enter hF,ntmps185;go_wp2;go_loopg [7,8] d.size (fun kx s7 s8 wr=>∃(c a:Nat) (dk:Array (β×Nat)),s7= .int .i64 (a:Int)/\s8= .int .i64 ((a:Int)+20)/\a<=d.size/\d.size - a<=kx/\dk.size=d.size/\Aside (a=c*20)/\Aside (Blocks lt 20 a d.size dk)/\Aside (∀p,a<=p->p<d.size->dk[p]!.2=p)/\Aside (PermIn 0 d.size d dk)/\Aside (SWK enc k w0 blk off dk wr))
 case atStart=>exact ⟨0,0,d,rfl,yj,vV _,vM _,rfl,(by omega:(0:Nat)=0*20),⟨fun p hp c=>by rw [T0.o p hp],fun i j _ hj=>zo⟩,fun p _ hp=>T0.o p hp,permIn_refl _ _ _,S0⟩
 case round=>
  clear S0 T0;obtain ⟨c,a,dk,rfl,rfl,han,hkx,hdk,HA,BL,TG,PM,S1⟩:=hrel;by_cases hlt:a+20<=d.size
  ·have q1:decide ((a:Int)+20<=(d.size:Int))=true:=by simp;omega
   go_wp2_with fail;clear q1;have c1:(a:Int)+20=((a+20:Nat):Int):=zo;have C:=I0.o a (a+20) dk wr zo S1.o zo zo zo (fun p q hp hpq hq=>xh);unfold BA at C;rw [hdk,<-c1] at C;clear c1;refine C.mono ?_;clear C;rintro ex w1 ⟨rfl,d1,⟨PM1,SO1⟩,S_1⟩;have S2:Aside (SWK enc k w0 blk off d1 w1):=S_1
   have hd1:d1.size=d.size:=by rw [PM1.1,hdk]
   have BL2:Aside (Blocks lt 20 (a+20) d.size d1):=Blocks.step BL.o hdk.symm HA.o hlt (.inl rfl) PM1 SO1
   have TG2:Aside (∀p,a+20<=p->p<d.size->d1[p]!.2=p):=fun p hp hpn=>by rw [PM1.2.1 p (.inr hp)];exact TG.o p zo hpn
   have PM2:Aside (PermIn 0 d.size d d1):=permIn_trans _ _ _ _ _ PM.o (permIn_mono dk d1 _ _ _ _ (vV _) hlt zo PM1)
   have HA2:Aside (a+20=(c+1)*20):=by have:=HA.o;show _=_;omega
   clear S_1 PM1 SO1 BL TG PM S1 HA;go_wp2;go_roundg (d.size - (a+20))
   case measure=>omega
   case rel=>exact ⟨c+1,a+20,d1,zD,by first | rfl | go_num | (congr 1;omega),hlt,vM _,hd1,HA2,BL2,TG2,PM2,S2⟩
  have q1:decide ((a:Int)+20<=(d.size:Int))=false:=zr;go_wp2_with fail;clear q1;have C:=I0.o a d.size dk wr zo S1.o zo zo zo (fun p q hp hpq hq=>xh);unfold BA at C;rw [hdk] at C;refine C.mono ?_;clear C;rintro ex w1 ⟨rfl,d1,⟨PM1,SO1⟩,S_1⟩;have S2:Aside (SWK enc k w0 blk off d1 w1):=S_1
  have hd1:d1.size=d.size:=by rw [PM1.1,hdk]
  have BL2:Aside (Blocks lt 20 d.size d.size d1):=Blocks.step BL.o hdk.symm HA.o zg (.inr ⟨rfl,zo⟩) PM1 SO1;have PM2:Aside (PermIn 0 d.size d d1):=permIn_trans _ _ _ _ _ PM.o (permIn_mono dk d1 _ _ _ _ (vV _) zg zo PM1);clear S_1 PM1 SO1 BL TG PM S1 HA hkx hlt;go_wp2;go_loopg [6] d.size (fun kx s6 wr=>∃(B:Nat) (dk:Array (β×Nat)),s6= .int .i64 (B:Int)/\20<=B/\d.size - B<=kx/\dk.size=d.size/\Aside (Blocks lt B d.size d.size dk)/\Aside (PermIn 0 d.size d dk)/\Aside (SWK enc k w0 blk off dk wr))
  case atStart=>exact ⟨20,d1,rfl,vM _,zo,hd1,BL2,PM2,S2⟩
  case round=>
   clear S2 BL2 PM2 hd1;obtain ⟨B,dk2,rfl,hB,hkx,hdk2,BL,PM,S1⟩:=hrel;by_cases hBn:B<d.size
   ·have q1:decide ((B:Int)<(d.size:Int))=true:=by simp;omega
    have HF:Aside (Half lt B 0 d.size dk2):=BL.o.half;go_wp2;clear q1 BL;go_loopg [7,8] d.size (fun kx s7 s8 wr=>∃(c a:Nat) (dk:Array (β×Nat)),s7= .int .i64 (a:Int)/\s8= .int .i64 ((a:Int)+2*(B:Int))/\a<=d.size/\d.size - a<=kx/\dk.size=d.size/\Aside (a=c*(2*B))/\Aside (Half lt B a d.size dk)/\Aside (PermIn 0 d.size d dk)/\Aside (SWK enc k w0 blk off dk wr))
    case atStart=>exact ⟨0,0,dk2,rfl,yj,vV _,vM _,hdk2,(by show 0=_;rw [Nat.zero_mul]),HF,PM,S1⟩
    case round=>
     clear S1 PM HF hdk2;obtain ⟨c,a,dk3,rfl,rfl,han,hkx3,hdk3,HA,HF,PM,S1⟩:=hrel;by_cases hlt:a+2*B<=d.size
     ·have q1:decide ((a:Int)+2*(B:Int)<=(d.size:Int))=true:=by simp;omega
      go_wp2_with fail;clear q1;have c1:(a:Int)+(B:Int)=((a+B:Nat):Int):=zo;have c2:(a:Int)+2*(B:Int)=((a+2*B:Nat):Int):=zo;have C:=sd V cap _ a (a+B) (a+2*B) dk3 wr zg zo S1.o (HF.o.runs HA.o rfl zo zo hlt) zo zo zo zo;unfold eK at C;rw [hdk3,<-c1,<-c2] at C;clear c1 c2;refine C.mono ?_;clear C;rintro ex w1 ⟨rfl,d1,⟨PM1,SO1⟩,S_1⟩;have S2:Aside (SWK enc k w0 blk off d1 w1):=S_1
      have hd1:d1.size=d.size:=by rw [PM1.1,hdk3]
      have HF2:Aside (Half lt B (a+2*B) d.size d1):=Half.step HF.o hdk3.symm HA.o zo hlt (.inl rfl) PM1 SO1;have PM2:Aside (PermIn 0 d.size d d1):=permIn_trans _ _ _ _ _ PM.o (permIn_mono dk3 d1 _ _ _ _ (vV _) hlt zo PM1)
      have HA2:Aside (a+2*B=(c+1)*(2*B)):=by show _=_;rw [ZL,<-HA.o];omega
      clear S_1 PM1 SO1 HF PM S1 HA;go_wp2;go_roundg (d.size - (a+2*B))
      case measure=>omega
      case rel=>exact ⟨c+1,a+2*B,d1,yj,yj,hlt,vM _,hd1,HA2,HF2,PM2,S2⟩
     have q1:decide ((a:Int)+2*(B:Int)<=(d.size:Int))=false:=zr;by_cases hmn:a+B<d.size
     ·have q2:decide ((a:Int)+(B:Int)<(d.size:Int))=true:=by simp;omega
      go_wp2_with fail;clear q1 q2;have c1:(a:Int)+(B:Int)=((a+B:Nat):Int):=zo;have C:=sd V cap _ a (a+B) d.size dk3 wr zg zo S1.o (HF.o.runs HA.o rfl zo zo zg) zo zo zo zo;unfold eK at C;rw [hdk3,<-c1] at C;clear c1;refine C.mono ?_;clear C;rintro ex w1 ⟨rfl,d1,⟨PM1,SO1⟩,S_1⟩;have S2:Aside (SWK enc k w0 blk off d1 w1):=S_1
      have hd1:d1.size=d.size:=by rw [PM1.1,hdk3]
      have BL2:Aside (Blocks lt (2*B) d.size d.size d1):=(Half.step HF.o hdk3.symm HA.o zo zg (.inr ⟨rfl,zo⟩) PM1 SO1).end_all;have PM2:Aside (PermIn 0 d.size d d1):=permIn_trans _ _ _ _ _ PM.o (permIn_mono dk3 d1 _ _ _ _ (vV _) zg zo PM1);clear S_1 PM1 SO1 HF PM S1 HA;go_wp2;go_roundg (d.size - 2*B)
      case measure=>omega
      case rel=>exact ⟨2*B,d1,yj,zo,vM _,hd1,BL2,PM2,S2⟩
     have q2:decide ((a:Int)+(B:Int)<(d.size:Int))=false:=zr;have BL2:Aside (Blocks lt (2*B) d.size d.size dk3):=HF.o.end_ HA.o zo;clear HF HA;go_wp2;go_roundg (d.size - 2*B)
     case measure=>omega
     case rel=>exact ⟨2*B,dk3,yj,zo,vM _,hdk3,BL2,PM,S1⟩
   have q1:decide ((B:Int)<(d.size:Int))=false:=zr;go_wp2;go_end0;exact ⟨rfl,dk2,⟨PM.o,BL.o.all zo⟩,S1.o⟩
end
section
open Go.Shelf Go.RowKit Go.Lib Go.Sort
def Kv:Ren:=⟨fun | 20=>225 | n=>n,fun | 0=>0 | 3=>3 | 4=>4 | 22=>32 | 24=>38 | 25=>210 | n=>n,fun n=>n⟩
theorem FA:SlLaysF0.n20 prog Kv where
 mixed:=zq
 f20:=⟨ "slices.insertionSortCmpFunc[concordat/api.Op]",zq,func225.trans (congrArg some zq)⟩
 t0:=underlying0
 a0:=isAgg0
 z0:=sizeOf0
 v0:=zeroValue0
 t3:=underlying3
 a3:=isAgg3
 z3:=sizeOf3
 v3:=zeroValue3
 t4:=underlying4
 a4:=isAgg4
 z4:=sizeOf4
 v4:=zeroValue4
 t22:=underlying32
 a22:=isAgg32
 z22:=sizeOf32
 v22:=zeroValue32
 t25:=underlying210
 a25:=isAgg210
 z25:=sizeOf210
 v25:=zeroValue210
theorem KJ {off:Nat} (R:RowK lW 8 w0 blk off d0) (cap a b:Nat) (d:Array (OpX×Nat)) (w:World) (hs:d0.size=d.size) (S:SWK lW 8 w0 blk off d w) (hab:a<=b) (hb:b<=d.size) (hsz:d.size<4611686018427387904) (ht:∀p q,a<=p->p<q->q<b->d[p]!.2<d[q]!.2):
  BA prog ltX 8 lW 121 w0 blk off cap a b d w:=by
 have I:=Ap tG d a b hab hb ht;rw [<-Cy] at I;unfold BA;refine (AnyQ.insertionSortCmpFunc FA 8 isAgg38 sizeOf38 lW R.hk R.h1 IQ 121 #[] blk off cap a b d w He (AW blk off d.size w) (S.holds R.hblk R.hH hs.symm) (S.lt R.hblk) hab hb hsz).mono ?_;rintro e w' ⟨rfl,n,os,rfl⟩;exact ⟨rfl,_,I,S.on R.hblk n _ os I.1.1⟩
theorem Dk {off:Nat} (R:RowK lW 8 w0 blk off d0):Id prog ltX 8 lW IQ 121 w0 blk off d0:=
 ⟨wd,func307,func281,func226,R,Ef,tG,He,AW blk off d0.size w0⟩
theorem gE (w:World) (blk off cap:Nat) (d:Array (OpX×Nat)) (R:RowK lW 8 w blk off d) (ht:∀p,p<d.size->d[p]!.2=p) (hsz:d.size<1152921504606846976):
  Calls prog 120 #[.slice (some ⟨blk,off,none⟩) d.size cap,.func (.func 121) #[] #[]] w fun e w'=>e= .returned (.tuple #[])/\∃d',(PermIn 0 d.size d d'/\SortedIn (slt ltX) 0 d.size d')/\SWK lW 8 w blk off d' w':=by
 have eS:∀args w,(callFunc 185 args).run prog w= .ok (.enter 185 args) w:=enters_of func185 zq rfl;have eI:∀args w,(callFunc 225 args).run prog w= .ok (.enter 225 args) w:=enters_of func225 zq rfl;have C:=tz (Dk R) cap d w func185 eI (KJ R cap) rfl (SWK.start R.hH) ht hsz;have CA:Aside _:=C;clear C eI ht;go_enter func120,ntmps120;go_wp2_with fail;refine Calls.mono CA.o ?_;rintro e w' ⟨rfl,d',hd,S⟩;have S2:Aside (SWK lW 8 w blk off d' w'):=S;have H2:Aside (PermIn 0 d.size d d'/\SortedIn (slt ltX) 0 d.size d'):=hd;clear S hd CA;go_wp2;go_end0;exact ⟨rfl,d',H2.o,S2.o⟩
end
section
open Go.Shelf Go.RowKit Go.Lib Go.Sort
def Gb:Ren:=⟨fun | 41=>119 | n=>n,fun | 4=>4 | 22=>32 | 23=>38 | n=>n,fun n=>n⟩
theorem mj:SlLaysE0.n41 prog Gb where
 mixed:=zq
 f41:=⟨ "slices.Clone[[]concordat/api.Op,concordat/api.Op]",zq,func119.trans (congrArg some zq)⟩
 t4:=underlying4
 a4:=isAgg4
 z4:=sizeOf4
 v4:=zeroValue4
 t22:=underlying32
 a22:=isAgg32
 z22:=sizeOf32
 v22:=zeroValue32
theorem mi (w:World) (b off c:Nat) (xs:List OpX) (hn:xs.length<=1000) (hc:∀j u,(cellsOf xs)[j]? =some u->w.cell? ⟨b,off+j,none⟩=some u):
  Calls prog 119 #[.slice (some ⟨b,off,none⟩) xs.length c] w fun e w'=>∃v',e= .returned v'/\w'.ownsRow w.heap.size 38 8 v' xs.length (cellsOf xs)/\v'≠ .slice none 0 0/\Below w.heap.size w w':=by
 obtain ⟨i0,hi,hz0,hz1,hz2⟩:=info_parts dX;exact AnyE.slices_Clone mj i0 _ 8 80 hi hz0 hz1 hz2 rfl zo sizeOf38 b off xs.length c (cellsOf xs) w (aH xs) zH zo hc (bH xs)
theorem pu (w:World):Calls prog 119 #[.slice none 0 0] w fun e w'=>e= .returned (.slice none 0 0)/\w'=w:=
 AnyE.slices_Clone_nil mj 0 0 w
def cj (xs:List OpX):Array (OpX×Nat):=xs.zipIdx.toArray
theorem bQ (xs:List OpX):(cj xs).size=xs.length:=by simp [cj]
theorem rY (xs:List OpX) (i:Nat) (hi:i<xs.length):(cj xs)[i]! =(xs[i]!,i):=by
 rw [getElem!_pos _ i (by rw [bQ];exact hi),getElem!_pos xs i hi];simp [cj]
theorem Ha {base n cap:Nat} (hn:n=xs.length) (h:w.ownsRow base 38 8 (.slice (some ⟨g,0,none⟩) n cap) n (cellsOf xs)):RowK lW 8 w g 0 (cj xs) where
 hk:=Gd
 h1:=fP
 hblk:=(h.lt g rfl).2
 hH:=fun j hj=>by
  rw [size_flatK,bQ] at hj;have h1:j / 8<xs.length:=zo;have h2:j / 8*8+j % 8=j:=zo;refine ⟨?_,qd⟩;rw [vY,h.cellAt j zo,get_flatK _ _ _ _ (by rw [bQ];exact hj),rY xs _ h1];have:=bO xs (j / 8) (j % 8) h1 zo;rw [h2] at this;exact this
end
section
open Go.Shelf Go.RowKit Go.Lib Go.Sort
theorem below_grow {os:Array Obj} (h:Below B w0 w) (hB:B<=w.heap.size):Below B w0 (grow w os):=
 ⟨h.os,h.tape,h.output,by rw [Go.Sort.size_grow];exact uf h.size (Nat.le_add_right _ _),fun k hk=>by
  rw [<-h.block k hk]
  simp only [grow]
  rw [Array.getElem?_append_left zo]⟩
theorem fh (h:Below B w0 w) (hg:B<=g) (hB:B<=w.heap.size) (S:SWK lW 8 w g 0 d w'):Below B w0 w':=by
 obtain ⟨n,os,rfl⟩:=S;unfold sortWorldK putRowK;exact below_grow (below_putRow h hg) (by show B<=(putRow id _ g 0 _).heap.size;simpa [putRow,mapBlock,Sort.ahead] using hB)
theorem ru (R:RowK lW 8 w g 0 d) (hs:d'.size=d.size) (S:SWK lW 8 w g 0 d' w') (j:Nat) (u:Value) (hj:(cellsOf (d'.toList.map Prod.fst))[j]? =some u):w'.cell? ⟨g,0+j,none⟩=some u:=by
 have H:=S.holds R.hblk R.hH hs;have hl:j<(cellsOf (d'.toList.map Prod.fst)).length:=(vL.1 hj).1;rw [aH,uz,uw] at hl;have h1:j / 8<d'.size:=zo;have h2:j / 8*8+j % 8=j:=zo;have c:=bO (d'.toList.map Prod.fst) (j / 8) (j % 8) jh zo;rw [h2,hj] at c;have H1:=(H j qV).1;rw [get_flatK _ _ _ _ zo] at H1
 have e:lW d'[j / 8]! =au (d'.toList.map Prod.fst)[j / 8]! :=by
  rw [getElem!_pos d' (j / 8) h1,getElem!_pos (d'.toList.map Prod.fst) (j / 8) jh];simp [lW]
 rw [H1,c,<-e];rfl
def bW (xs ys:List OpX):Prop:=∃d':Array (OpX×Nat),(PermIn 0 xs.length (cj xs) d'/\SortedIn (slt ltX) 0 xs.length d')/\ys=d'.toList.map Prod.fst
theorem IK (fv:Value) (w:World):Calls prog 225 #[.slice none 0 0,.int .i64 0,.int .i64 0,fv] w fun e w'=>e= .returned (.tuple #[])/\w'=w:=by
 go_enter func225,ntmps225;go_wp2;refine wp_loop_rounds 1 ?_;rw [rounds_succ];go_wp2;go_end0;exact km8
theorem BG (g:Nat) (w:World):Calls prog 185 #[.slice none 0 0,.int .i64 0,.func (.func g) #[] #[]] w fun e w'=>e= .returned (.tuple #[])/\w'=w:=by
 go_enter func185,ntmps185;go_wp2;refine wp_loop_rounds 1 ?_;rw [rounds_succ];go_wp2_with fail;refine (IK _ _).mono ?_;rintro e w' ⟨rfl,rfl⟩;go_wp2;refine wp_loop_rounds 1 ?_;rw [rounds_succ];go_wp2;go_end0;exact km8
theorem gC (g:Nat) (w:World):Calls prog 120 #[.slice none 0 0,.func (.func g) #[] #[]] w fun e w'=>e= .returned (.tuple #[])/\w'=w:=by
 go_enter func120,ntmps120;go_wp2_with fail;refine (BG _ _).mono ?_;rintro e w' ⟨rfl,rfl⟩;go_wp2;go_end0;exact km8
theorem nP (w:World) (v:Value) (xs:List OpX) (h:OpsAt w v xs) (hn:xs.length<=1000):
  Calls prog 53 #[v] w fun e w'=>∃v' ys,e= .returned v'/\OpsAt w' v' ys/\bW xs ys/\Below w.heap.size w w'/\∀g,v'.ownBlock=some g->w.heap.size<=g:=by
 rcases h with ⟨rfl,rfl⟩ | ⟨blk,off,cap,rfl,hc⟩
 ·go_enter func53,ntmps53;go_wp2_with fail;refine (pu _).mono ?_;rintro e w' ⟨rfl,rfl⟩;go_wp2_with fail;refine (gC _ _).mono ?_;rintro e w1 ⟨rfl,rfl⟩;go_wp2;go_ret;exact ⟨_,[],rfl,.inl ⟨rfl,rfl⟩,⟨#[],⟨permIn_refl _ _ _,fun i j _ _ hj=>absurd hj zv⟩,rfl⟩,vP _ _,fun g hg=>by cases hg⟩
 have HC:Aside (∀j u,(cellsOf xs)[j]? =some u->w.cell? ⟨blk,off+j,none⟩=some u):=hc;clear hc;go_enter func53,ntmps53;go_wp2_with fail;refine (mi w blk off cap xs hn HC.o).mono ?_;clear HC;rintro e w1 ⟨v1,rfl,hown,hnil,hb⟩
 obtain ⟨g,c1,rfl,hg⟩:∃g c1,v1= .slice (some ⟨g,0,none⟩) xs.length c1/\w.heap.size<=g:=by
  rcases hown.2 with ⟨h1,_⟩ | ⟨g,c1,cur,h1,h2,_⟩
  ·exact absurd h1 hnil
  exact ⟨g,c1,h1,h2⟩
 have R0:Aside (RowK lW 8 w1 g 0 (cj xs)):=Ha rfl hown;have HB:Aside (Below w.heap.size w w1):=hb;clear hown hnil hb;go_wp2_with fail;have C:=gE w1 g 0 c1 (cj xs) R0.o (fun p hp=>xP) js;rw [bQ] at C;refine C.mono ?_;clear C;rintro e w2 ⟨rfl,d',hd,S⟩
 have hl:d'.size=xs.length:=by rw [hd.1.1,bQ]
 have hl2:(d'.toList.map Prod.fst).length=xs.length:=jq
 have F:Aside (OpsAt w2 (.slice (some ⟨g,0,none⟩) xs.length c1) (d'.toList.map Prod.fst)/\bW xs (d'.toList.map Prod.fst)/\Below w.heap.size w w2):=
  ⟨.inr ⟨g,0,c1,by rw [hl2],fun j u hj=>ru R0.o jD S j u hj⟩,⟨d',hd,rfl⟩,fh HB.o hg HB.o.size S⟩
 clear hd S R0 HB hl hl2;go_wp2;go_ret;exact ⟨_,_,rfl,F.o.1,F.o.2.1,F.o.2.2,fun g' hg'=>by cases hg';exact hg⟩
end
section
open Go.Shelf Go.RowKit Go.Lib Go.Sort
theorem sV (h:PermIn 0 d.size d d'):d.toList.Perm d'.toList:=by
 have h2:=h.2.2;have e:d'.size=d.size:=h.1
 have e1:d'.toList.take d.size=d'.toList:=by rw [<-e,<-uw,Zu]
 have e2:d.toList.take d.size=d.toList:=by rw [<-uw,Zu]
 first
  | simpa using h2
  | (simp at h2;rw [e1] at h2;exact h2)
  | (simp at h2;rw [e1] at h2;exact h2.symm)
end
section
open Go.RowKit Go.Lib Go.Sort
theorem cr (h:bW xs ys):ys.Perm xs/\ys.Pairwise (fun a b=>¬CLt (stO b) (stO a)):=by
 obtain ⟨d',⟨hp,hs⟩,rfl⟩:=h;have hsz:(cj xs).size=xs.length:=bQ xs
 have hp':PermIn 0 (cj xs).size (cj xs) d':=by rw [hsz];exact hp
 have hd:d'.size=xs.length:=by have:=hp.1;rw [this,hsz]
 have hperm:=sV hp'
 have hfst:(cj xs).toList.map Prod.fst=xs:=by
  unfold cj;simp
 refine ⟨?_,?_⟩
 ·have:=hperm.map Prod.fst;rw [hfst] at this;exact this.symm
 have hl:=tJ d' (by rw [hd];exact hs);rw [ZA];refine hl.imp (fun {a b} q=> ?_);have:=(slt_false.1 q).1;unfold ltX at this;have e:=mG (stO b.1) (stO a.1);intro hc;have h2:bL b.1.1 b.1.2.1 a.1.1 a.1.2.1=true:=e.trans (decide_eq_true hc);rw [h2] at this
 cases this
theorem iq (hs:ys.Pairwise (fun a b=>¬CLt (stO b) (stO a))) (hn:ys.Pairwise (fun a b=>stO a≠stO b)):ys.Pairwise (fun a b=>CLt (stO a) (stO b)):=
 (hs.and hn).imp (fun {a b} h=>by
  obtain ⟨h1,h2⟩:=h
  unfold CLt at*
  rcases ha:stO a with ⟨a1,a2⟩
  rcases hb:stO b with ⟨b1,b2⟩
  rw [ha,hb] at h1 h2
  dsimp only at*
  have h3:¬(a1=b1/\a2=b2):=fun e=>h2 (by rw [e.1,e.2])
  omega)
def Lf (v:Value):Option Addr:=match v with
 | .slice a _ _=>a
 | _=>none
def LU (v:Value):Nat:=match v with
 | .slice _ _ c=>c
 | _=>0
theorem DM {c:Nat->Nat} (h:RowsAt w c kv R) (hi:i<4):kv i=kvs (fun j=>Lf (kv j)) (fun j=>LU (kv j)) R i:=by
 obtain ⟨a,cp,e⟩:=fD (h i hi).1
 show kv i= .slice (Lf (kv i)) (R i).length (LU (kv i))
 rw [e];rfl
theorem RowsAt.congr {c:Nat->Nat} (h:RowsAt w c kv R) (e:∀i,i<4->kv i=kv' i):RowsAt w c kv' R:=fun i hi=>by rw [<-e i hi];exact h i hi
theorem RepCell.congr (h:RepCell w br T by_ kv bt bx bc) (e:∀i,i<4->kv i=kv' i):RepCell w br T by_ kv' bt bx bc:=by
 unfold RepCell at*;rw [<-e 0 zo,<-e 1 zo,<-e 2 zo,<-e 3 zo];exact h
theorem RepMid.norm {c:Nat->Nat} (h:RepMid w c br T by_ kv bt bx bc R A):∃ao cap,RepMid w c br T by_ (kvs ao cap R) bt bx bc R A:=
 ⟨_,_,h.cell.congr (fun i hi=>DM h.rows hi),h.hue,h.rows.congr (fun i hi=>DM h.rows hi),h.tree,h.text,h.marks,h.time⟩
structure RepOwn (B:Nat) (w:World) (c:Nat->Nat) (br:Nat) (by_:Int) (R:Rws):Prop where
 rep:RepAt w c br by_ R
 low:∀k,c k≠0->B<=k
 high:∀k,w.heap.size<=k->c k=0
theorem RepOwn.later {B:Nat} {w w':World} {c:Nat->Nat} {br:Nat} {by_:Int} {R:Rws} (h:RepOwn B w c br by_ R) (hb:Below w.heap.size w w'):RepOwn B w' c br by_ R:=⟨h.rep.later hb,h.low,fun k hk=>h.high k (uf hb.size hk)⟩
theorem Jo (R:Rws) (hi:i<4) (o:OpX):(aR (upR R i (R i++ [o]))).Perm (aR R++ [o]):=by
 have sw:∀(a b:List OpX),(a++ [o]++b).Perm (a++b++ [o]):=fun a b=>by
  rw [ux,ux];exact (Zw (l₁:=[o]) (l₂:=b)).append_left a
 unfold aR upR;have h4:i=0\/i=1\/i=2\/i=3:=zo
 rcases h4 with rfl | rfl | rfl | rfl
 ·simpa using sw (R 0) (R 1++(R 2++R 3))
 ·simpa using sw (R 0++R 1) (R 2++R 3)
 ·simpa using sw (R 0++(R 1++R 2)) (R 3)
 simp
theorem lp:∀(F:List OpX) (R:Rws) (z:Bool) (R':Rws) (z':Bool),(∀x∈F,an x=0)->dK R z F=some (R',z')->(aR R').Perm (aR R++F)
 | [],R,z,R',z',_,h=>by
  rw [dK] at h
  cases h
  rw [Zi]
 | o::t,R,z,R',z',ho,h=>by
  obtain ⟨i,hi,hb,hbn⟩:=rp (ho o uv);rw [dK,hbn] at h;split at h
  ·have ih:=lp t _ _ R' z' (fun x hx=>ho x (ul _ hx)) h;refine ih.trans ?_;have:=(Jo R hi o).append_right t;rwa [ux] at this
  cases h
theorem rf (h:RowsN R) (hm:∀x∈ys,x∈aR R) (hp:ys.Pairwise (fun x y=>¬(byO x=byO y/\ar x=ar y))):ys.Pairwise (fun a b=>stO a≠stO b):=
 hp.imp_of_mem (fun {a b} ha hb q e=>q (by rw [h.stamp (hm a ha) (hm b hb) e];exact ⟨rfl,rfl⟩))
theorem RepMid.recolor {c c':Nat->Nat} (h:RepMid w c br T by_ kv bt bx bc R A) (e:∀k,k<w.heap.size->c' k=c k):RepMid w c' br T by_ kv bt bx bc R A:=h.kept (fun i _=>⟨fun _ _ _=>rfl,e⟩)
def rQ (w w':World) (c c2:Nat->Nat):Nat->Nat:=fun k=>if k<w.heap.size then c k else if k<w'.heap.size then c2 k else 0
theorem wU {c c2:Nat->Nat} (hh:∀k,k<w.heap.size->c2 k=c k) (hk:k<w'.heap.size):rQ w w' c c2 k=c2 k:=by
 unfold rQ;by_cases q:k<w.heap.size
 ·rw [if_pos q,hh k q]
 rw [if_neg q,if_pos hk]
theorem DJ {c c2:Nat->Nat} (hm:RepMid w' c2 br T by_ kv bt bx bc R A) (hp:A.Perm (aR R)) (hK:RowsK R) (hb:0<=by_/\by_<4) (hk:Keeps (fun k=>c k≠0) w w') (hh:∀k,k<w.heap.size->c2 k=c k) (hB:∀k,c k≠0->B<=k) (hBw:B<=w.heap.size):∃c',Acts w c w' c'/\RepOwn B w' c' br by_ R:=by
 refine ⟨rQ w w' c c2,⟨hk,fun k q=>if_pos q⟩,⟨_,_,_,_,_,_,hm.recolor (fun k q=>wU hh q),hp,hK,hb⟩,fun k q=> ?_,fun k q=> ?_⟩
 ·unfold rQ at q;by_cases e:k<w.heap.size
  ·rw [if_pos e] at q;exact hB k q
  omega
 have:=hk.size;unfold rQ;rw [if_neg zo,if_neg zo]
