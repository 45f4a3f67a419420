import Derived.Test.YtfkekfibjnjcnaaGreatDoorMZ06
import Derived.Test.YtfkekfibjnjcnaaGreatDoorMZ11
import Derived.Shelf.SlicesE.Clone
import Derived.Lib.OwnBridge
set_option linter.unusedSimpArgs false
set_option linter.unusedVariables false
set_option maxRecDepth 100000
set_option maxHeartbeats 64000000
namespace Go.Proofs.YtfkekfibjnjcnaaGreatDoor
open Go.Proofs.Tryz
variable {d d' d0:Array (OpX×Nat)} {B blk g k n:Nat} {P:Program} {w w' w0:World}
section
open Go.Shelf Go.RowKit Go.Lib Go.Sort
theorem sym_lo {β:Type} [Inhabited β] {lt:β->β->Bool} {enc:β×Nat->List Value} {cf:β×Nat->β×Nat->Int} {off:Nat} {d0:Array (β×Nat)} (V:SEnv P lt k enc cf g w0 blk off d0) (cap a m b:Nat) (d:Array (β×Nat)) (w:World)
  (hs:d0.size=d.size) (S:SWK enc k w0 blk off d w) (hr:Runs lt a m b d) (ham:a<m) (hmb:m<b) (hb:b<=d.size) (hsz:d.size<4611686018427387904) (_h0:m≠a+1) (_h1:b≠m+1)
  (IH:∀a' m' b' d' w',b' - a'<b - a->d0.size=d'.size->SWK enc k w0 blk off d' w'->Runs lt a' m' b' d'->a'<m'->m'<b'->b'<=d'.size->d'.size<4611686018427387904->SymOk P lt k enc g w0 blk off cap a' m' b' d' w') (hmid:m<=(a+b) / 2):
  SymOk P lt k enc g w0 blk off cap a m b d w:=by
 unfold SymOk
 have L:=V.ty
 have mixed:=L.mixed;have t0:=L.t0;have a0:=L.a0;have z0:=L.z0;have v0:=L.v0;have t3:=L.t3;have a3:=L.a3;have z3:=L.z3;have v3:=L.v3;have t4:=L.t4;have a4:=L.a4;have z4:=L.z4;have v4:=L.v4;have tS:=L.tS;have aS:=L.aS;have zS:=L.zS;have vS:=L.vS;have tC:=L.tC;have aC:=L.aC;have zC:=L.zC;have vC:=L.vC;have tU:=L.tU;have aU:=L.aU;have zU:=L.zU;have vU:=L.vU;have aE:=L.aE;have zE:=L.zE
 have eR:∀args w,(callFunc 222 args).run P w= .ok (.enter 222 args) w:=enters_of V.fR zk rfl
 have eM:∀args w,(callFunc 173 args).run P w= .ok (.enter 173 args) w:=enters_of V.fM zk rfl
 have R:=V.row
 have eg:=V.eg
 have CMP:Aside (CmpLays P g #[] enc k cf blk off d0.size w0):=V.cmp
 have LT:Aside (∀x y,decide (cf x y<0)=tlt lt x y):=V.less
 have S0:Aside (SWK enc k w0 blk off d w):=S
 have HR:Aside (Runs lt a m b d):=hr
 have IH0:Aside (∀a' m' b' d' w',b' - a'<b - a->d0.size=d'.size->SWK enc k w0 blk off d' w'->Runs lt a' m' b' d'->a'<m'->m'<b'->b'<=d'.size->d'.size<4611686018427387904->SymOk P lt k enc g w0 blk off cap a' m' b' d' w'):=IH
 clear S hr IH
 have q0:((m:Int) - (a:Int)==1)=false:=zl
 have q1:((b:Int) - (m:Int)==1)=false:=zl
 clear _h0 _h1
 obtain ⟨mid,hmi⟩:∃mid:Nat,mid=(a+b) / 2:=⟨_,rfl⟩
 rw [<-hmi] at hmid
 have hm1:a<mid:=zj
 have hm2:mid<b:=zj
 have hm3:a+b<=2*mid+1:=zj
 have hm4:2*mid<=a+b:=zj
 have q2:decide ((mid:Int)<(m:Int))=false:=zl
 have hz:((a:Int)+(b:Int)) / 2=(mid:Int):=zj
 have HZ:=Lib.hid hz
 obtain ⟨pp,hpp⟩:∃pp:Nat,pp=mid+m - 1:=⟨_,rfl⟩
 have hp1:pp+1<=mid+m:=zj
 have hp2:mid+m<=pp+1:=zj
 have HP:=Lib.hid (show (mid:Int)+(m:Int) - 1=(pp:Int) by omega)
 clear hz hmi hpp
 go_enter V.fM,ntmps173
 go_upto_region 25 with fail
 rw [HZ.o]
 clear HZ
 go_wp2
 rw [HP.o]
 clear HP
 rw [decide_eq_false (show ¬mid<m by omega)]
 clear q0 q1 q2
 go_loopg [20,21] (m - (a)) (fun kx s20 s21 wr=>∃(i j:Nat),s20= .int .i64 (i:Int)/\s21= .int .i64 (j:Int)/\a<=i/\i<=j/\j<=m/\j - i<=kx/\Aside ((a<i->tlt lt d[mid+m - i]! d[i - 1]! =false)/\(j<m->tlt lt d[mid+m - 1 - j]! d[j]! =true))/\Aside (SWK enc k w0 blk off d wr))
 case atStart=>exact ⟨a,m,zZ,rfl,vm _,zj,vm _,vm _,⟨fun h=>zj,fun h=>zj⟩,S0⟩
 case round=>
  clear S0
  obtain ⟨i,j,rfl,rfl,hi,hij,hj,hkx,ED,S1⟩:=hrel
  by_cases hlt:i<j
  ·have hltz:decide ((i:Int)<(j:Int))=true:=by simp;omega
   go_wp2_with fail
   obtain ⟨h,hh⟩:∃h:Nat,h=(i+j) / 2:=⟨_,rfl⟩
   have hi1:i<=h:=zj
   have hi2:h<j:=zj
   have hz:((i:Int)+(j:Int)) / 2=(h:Int):=zj
   obtain ⟨q,hq⟩:∃q:Nat,q=mid+m - 1 - h:=⟨_,rfl⟩
   have hq1:q+h+1<=mid+m:=zj
   have hq2:mid+m<=q+h+1:=zj
   have HQ:=Lib.hid (show (pp:Int)=(q:Int)+(h:Int) by omega)
   have HQN:=Lib.hid hq
   rw [hz,HQ.o]
   clear hz hh hq
   have ex:((q:Int)).toNat=q:=zj
   have px:(0:Int)<=(q:Int):=zj
   have bdx:(q:Int)<(d.size:Int):=zj
   have rx:IntKind.i64.wrap ((q:Int))=(q:Int):=zv
   have ey:((h:Int)).toNat=h:=zj
   have py:(0:Int)<=(h:Int):=zj
   have bdy:(h:Int)<(d.size:Int):=zj
   have ry:IntKind.i64.wrap ((h:Int))=(h:Int):=zv
   have lx:=S1.o.ld R zj P (q) zj
   have ly:=S1.o.ld R zj P (h) zj
   have hc:=S1.o.cmp CMP.o zj d[q]! d[h]!
   have hl:=LT.o d[q]! d[h]!
   have SG:Aside (∀n os,SWK enc k w0 blk off d (grow (wr.drewN n) os)):=fun n os=>S1.o.grown n os
   generalize cf d[q]! d[h]! =z at hc hl
   have HL:=Lib.hid hl
   clear hl
   simp only [Array.append_empty] at hc
   by_cases hlv:z<0
   ·go_wp2_with fail
    go_quiet_grown (first | (go_at_fn g;refine Calls.grown_of (hc _ _)))
    have S2:Aside (SWK enc k w0 blk off d (grow (wr.drewN nq) osq)):=SG.o nq osq
    have ED2:Aside ((a<i->tlt lt d[mid+m - i]! d[i - 1]! =false)/\(h<m->tlt lt d[mid+m - 1 - h]! d[h]! =true)):=⟨ED.o.1,fun _=>xZ⟩
    clear lx ly hc SG S1 ED
    generalize grow (wr.drewN nq) osq=w2 at S2 |-
    rw [<-HQ.o]
    clear HQ HQN
    go_wp2
    go_roundg (h - i)
    case measure=>omega
    case rel=>exact ⟨i,h,rfl,rfl,hi,hi1,zj,vm _,ED2,S2⟩
   go_wp2_with fail
   go_quiet_grown (first | (go_at_fn g;refine Calls.grown_of (hc _ _)))
   have S2:Aside (SWK enc k w0 blk off d (grow (wr.drewN nq) osq)):=SG.o nq osq
   have ED2:Aside ((a<h+1->tlt lt d[mid+m - (h+1)]! d[h+1 - 1]! =false)/\(j<m->tlt lt d[mid+m - 1 - j]! d[j]! =true)):=⟨fun _=>by rw [Nat.add_sub_cancel,show mid+m - (h+1)=mid+m - 1 - h by omega,<-HQN.o,<-HL.o];exact decide_eq_false zj,ED.o.2⟩
   clear lx ly hc SG S1 ED
   generalize grow (wr.drewN nq) osq=w2 at S2 |-
   have hd:(!decide (z<0))=true:=qG
   rw [<-HQ.o]
   clear HQ HQN
   go_wp2
   go_roundg (j - (h+1))
   case measure=>omega
   case rel=>exact ⟨h+1,j,zL,rfl,zj,zj,hj,vm _,ED2,S2⟩
   rename_i hx
   exact Bool.noConfusion (hd.symm.trans hx)
  have hltz:decide ((i:Int)<(j:Int))=false:=zl
  obtain rfl:i=j:=zj
  obtain ⟨e,hee⟩:∃e:Nat,e=mid+m - i:=⟨_,rfl⟩
  have he1:i+e=mid+m:=zj
  have hlo:a<i->e<b->tlt lt d[e]! d[i - 1]! =false:=fun x y=>by rw [hee];exact ED.o.1 zj
  have hhi:i<m->m<e->tlt lt d[e - 1]! d[i]! =true:=fun x y=>qw
  have HLO:Aside (a<i->e<b->tlt lt d[e]! d[i - 1]! =false):=hlo
  have HHI:Aside (i<m->m<e->tlt lt d[e - 1]! d[i]! =true):=hhi
  have hze:(mid:Int)+(m:Int) - (i:Int)=(e:Int):=zj
  have HZE:=Lib.hid hze
  clear hlo hhi hze hee ED
  go_upto_region 39 with fail
  rw [HZE.o]
  clear HZE
  by_cases hrot:i<m
  ·skip
   have b0:decide ((i:Int)<(m:Int))=true:=zl
   have b1:decide ((m:Int)<(e:Int))=true:=zl
   go_wp2_with fail
   clear b0 b1
   refine (rotate_open k L V.fS V.fR enc blk off cap i m e d0 d w0 wr _ R hs S1.o zj zj zj zj).mono ?_
   rintro ex w1 ⟨rfl,d1,RT,S_1⟩
   have hzd1:d1.size=d.size:=RT.perm.1
   have S2:Aside (SWK enc k w0 blk off d1 w1):=S_1
   clear S_1 S1
   have CUT:Aside (Runs lt a i mid d1/\Runs lt mid e b d1/\∀p q,a<=p->p<mid->mid<=q->q<b->slt lt d1[q]! d1[p]! =false):=by
    have X:=Runs.cut V.swo HR.o zj zj zj zj HLO.o HHI.o RT
    rw [show i+(e - m)=mid by omega] at X
    exact X
   have PD1:Aside (PermIn a b d d1):=permIn_mono d d1 _ _ _ _ zj zj hb RT.perm
   clear RT HLO HHI
   by_cases hse:a<i
   ·skip
    have b0:decide ((a:Int)<(i:Int))=true:=zl
    have b1:decide ((i:Int)<(mid:Int))=true:=zl
    go_wp2_with fail
    clear b0 b1
    have C:=IH0.o a i mid d1 w1 zj zj S2.o CUT.o.1 zj zj zj zj
    unfold SymOk at C
    rw [hzd1] at C
    refine C.mono ?_
    clear C
    rintro ex w2 ⟨rfl,d2,⟨PMd2,SOd2⟩,S_d2⟩
    have hzd2:d2.size=d.size:=by rw [PMd2.1,hzd1]
    have Sd2:Aside (SWK enc k w0 blk off d2 w2):=S_d2
    have Qd2:Aside (PermIn a mid d1 d2/\SortedIn (slt lt) a mid d2):=⟨PMd2,SOd2⟩
    clear PMd2 SOd2 S_d2
    clear S2
    by_cases hth:e<b
    ·skip
     have b0:decide ((mid:Int)<(e:Int))=true:=zl
     have b1:decide ((e:Int)<(b:Int))=true:=zl
     have RU:Runs lt mid e b d2:=CUT.o.2.1.off zj Qd2.o.1
     have RUA:Aside (Runs lt mid e b d2):=RU
     clear RU
     go_wp2_with fail
     clear b0 b1
     have C:=IH0.o mid e b d2 w2 zj zj Sd2.o RUA.o zj zj zj zj
     unfold SymOk at C
     rw [hzd2] at C
     refine C.mono ?_
     clear C
     rintro ex w3 ⟨rfl,d3,⟨PMd3,SOd3⟩,S_d3⟩
     have hzd3:d3.size=d.size:=by rw [PMd3.1,hzd2]
     have Sd3:Aside (SWK enc k w0 blk off d3 w3):=S_d3
     have Qd3:Aside (PermIn mid b d2 d3/\SortedIn (slt lt) mid b d3):=⟨PMd3,SOd3⟩
     clear PMd3 SOd3 S_d3
     clear Sd2
     go_wp2
     go_end0
     have PP:=sorted_parts (lt:=lt) (a:=a) (c:=mid) (b:=b) zj zj zj CUT.o.2.2 Qd2.o.1 Qd2.o.2 Qd3.o.1 Qd3.o.2
     exact ⟨rfl,_,⟨permIn_trans _ _ _ _ _ PD1.o PP.1,PP.2⟩,Sd3.o⟩
    exfalso;omega
   skip
   have b0:decide ((a:Int)<(i:Int))=false:=zl
   have Qd1:Aside (PermIn a mid d1 d1/\SortedIn (slt lt) a mid d1):=⟨permIn_refl _ _ _,Runs.sorted CUT.o.1 zj⟩
   by_cases hth:e<b
   ·skip
    have b0:decide ((mid:Int)<(e:Int))=true:=zl
    have b1:decide ((e:Int)<(b:Int))=true:=zl
    have RU:Runs lt mid e b d1:=CUT.o.2.1.off zj Qd1.o.1
    have RUA:Aside (Runs lt mid e b d1):=RU
    clear RU
    go_wp2_with fail
    clear b0 b1
    have C:=IH0.o mid e b d1 w1 zj zj S2.o RUA.o zj zj zj zj
    unfold SymOk at C
    rw [hzd1] at C
    refine C.mono ?_
    clear C
    rintro ex w3 ⟨rfl,d3,⟨PMd3,SOd3⟩,S_d3⟩
    have hzd3:d3.size=d.size:=by rw [PMd3.1,hzd1]
    have Sd3:Aside (SWK enc k w0 blk off d3 w3):=S_d3
    have Qd3:Aside (PermIn mid b d1 d3/\SortedIn (slt lt) mid b d3):=⟨PMd3,SOd3⟩
    clear PMd3 SOd3 S_d3
    clear S2
    go_wp2
    go_end0
    have PP:=sorted_parts (lt:=lt) (a:=a) (c:=mid) (b:=b) zj zj zj CUT.o.2.2 Qd1.o.1 Qd1.o.2 Qd3.o.1 Qd3.o.2
    exact ⟨rfl,_,⟨permIn_trans _ _ _ _ _ PD1.o PP.1,PP.2⟩,Sd3.o⟩
   skip
   have b0:decide ((mid:Int)<(e:Int))=true:=zl
   have b1:decide ((e:Int)<(b:Int))=false:=zl
   have RU:Runs lt mid e b d1:=CUT.o.2.1.off zj Qd1.o.1
   have RUA:Aside (Runs lt mid e b d1):=RU
   clear RU
   go_wp2
   go_end0
   have Qd3:Aside (PermIn mid b d1 d1/\SortedIn (slt lt) mid b d1):=⟨permIn_refl _ _ _,Runs.sorted RUA.o zj⟩
   have Sd3:=S2
   have PP:=sorted_parts (lt:=lt) (a:=a) (c:=mid) (b:=b) zj zj zj CUT.o.2.2 Qd1.o.1 Qd1.o.2 Qd3.o.1 Qd3.o.2
   exact ⟨rfl,_,⟨permIn_trans _ _ _ _ _ PD1.o PP.1,PP.2⟩,Sd3.o⟩
  skip
  have b0:decide ((i:Int)<(m:Int))=false:=zl
  obtain ⟨d1,w1,hd1,hw1⟩:∃d1 w1,d1=d/\w1=wr:=⟨_,_,rfl,rfl⟩
  have RT:Rot d d1 i m e:=xc
  have hzd1:d1.size=d.size:=RT.perm.1
  have S2:Aside (SWK enc k w0 blk off d1 w1):=by rw [hd1,hw1];exact S1
  rw [<-hw1]
  clear hd1 hw1 S1
  have CUT:Aside (Runs lt a i mid d1/\Runs lt mid e b d1/\∀p q,a<=p->p<mid->mid<=q->q<b->slt lt d1[q]! d1[p]! =false):=by
   have X:=Runs.cut V.swo HR.o zj zj zj zj HLO.o HHI.o RT
   rw [show i+(e - m)=mid by omega] at X
   exact X
  have PD1:Aside (PermIn a b d d1):=permIn_mono d d1 _ _ _ _ zj zj hb RT.perm
  clear RT HLO HHI
  by_cases hse:i<mid
  ·skip
   have b0:decide ((a:Int)<(i:Int))=true:=zl
   have b1:decide ((i:Int)<(mid:Int))=true:=zl
   go_wp2_with fail
   clear b0 b1
   have C:=IH0.o a i mid d1 w1 zj zj S2.o CUT.o.1 zj zj zj zj
   unfold SymOk at C
   rw [hzd1] at C
   refine C.mono ?_
   clear C
   rintro ex w2 ⟨rfl,d2,⟨PMd2,SOd2⟩,S_d2⟩
   have hzd2:d2.size=d.size:=by rw [PMd2.1,hzd1]
   have Sd2:Aside (SWK enc k w0 blk off d2 w2):=S_d2
   have Qd2:Aside (PermIn a mid d1 d2/\SortedIn (slt lt) a mid d2):=⟨PMd2,SOd2⟩
   clear PMd2 SOd2 S_d2
   clear S2
   have b0:decide ((mid:Int)<(e:Int))=false:=zl
   have RU:Runs lt mid e b d2:=CUT.o.2.1.off zj Qd2.o.1
   have RUA:Aside (Runs lt mid e b d2):=RU
   clear RU
   go_wp2
   go_end0
   have Qd3:Aside (PermIn mid b d2 d2/\SortedIn (slt lt) mid b d2):=⟨permIn_refl _ _ _,Runs.sorted RUA.o zj⟩
   have Sd3:=Sd2
   have PP:=sorted_parts (lt:=lt) (a:=a) (c:=mid) (b:=b) zj zj zj CUT.o.2.2 Qd2.o.1 Qd2.o.2 Qd3.o.1 Qd3.o.2
   exact ⟨rfl,_,⟨permIn_trans _ _ _ _ _ PD1.o PP.1,PP.2⟩,Sd3.o⟩
  skip
  have b0:decide ((a:Int)<(i:Int))=true:=zl
  have b1:decide ((i:Int)<(mid:Int))=false:=zl
  have Qd1:Aside (PermIn a mid d1 d1/\SortedIn (slt lt) a mid d1):=⟨permIn_refl _ _ _,Runs.sorted CUT.o.1 zj⟩
  have b0:decide ((mid:Int)<(e:Int))=false:=zl
  have RU:Runs lt mid e b d1:=CUT.o.2.1.off zj Qd1.o.1
  have RUA:Aside (Runs lt mid e b d1):=RU
  clear RU
  go_wp2
  go_end0
  have Qd3:Aside (PermIn mid b d1 d1/\SortedIn (slt lt) mid b d1):=⟨permIn_refl _ _ _,Runs.sorted RUA.o zj⟩
  have Sd3:=S2
  have PP:=sorted_parts (lt:=lt) (a:=a) (c:=mid) (b:=b) zj zj zj CUT.o.2.2 Qd1.o.1 Qd1.o.2 Qd3.o.1 Qd3.o.2
  exact ⟨rfl,_,⟨permIn_trans _ _ _ _ _ PD1.o PP.1,PP.2⟩,Sd3.o⟩
end
section
open Go.Shelf Go.RowKit Go.Lib Go.Sort
theorem sym_all {P:Program} {β:Type} [Inhabited β] {lt:β->β->Bool} {k:Nat} {enc:β×Nat->List Value} {cf:β×Nat->β×Nat->Int} {g:Nat} {w0:World} {blk off:Nat} {d0:Array (β×Nat)} (V:SEnv P lt k enc cf g w0 blk off d0) (cap:Nat):∀(n a m b:Nat) (d:Array (β×Nat)) (w:World),
  b - a<=n->d0.size=d.size->SWK enc k w0 blk off d w->Runs lt a m b d->a<m->m<b->b<=d.size->d.size<4611686018427387904->SymOk P lt k enc g w0 blk off cap a m b d w
 | 0,a,m,b,d,w=>fun hn _ _ _ h1 h2 _ _=>absurd hn zj
 | n+1,a,m,b,d,w=>fun hn hs S hr h1 h2 hb hsz=>by
  have IH:∀a' m' b' d' w',b' - a'<b - a->d0.size=d'.size->SWK enc k w0 blk off d' w'->Runs lt a' m' b' d'->a'<m'->m'<b'->b'<=d'.size->d'.size<4611686018427387904->SymOk P lt k enc g w0 blk off cap a' m' b' d' w':=fun a' m' b' d' w' hl=>sym_all V cap n a' m' b' d' w' zj
  by_cases c1:m=a+1
  ·exact sym_first V cap a m b d w hs S hr h1 h2 hb hsz c1
  by_cases c2:b=m+1
  ·exact sym_last V cap a m b d w hs S hr h1 h2 hb hsz c1 c2
  by_cases c3:(a+b) / 2<m
  ·exact sym_hi V cap a m b d w hs S hr h1 h2 hb hsz c1 c2 IH c3
  exact sym_lo V cap a m b d w hs S hr h1 h2 hb hsz c1 c2 IH zj
end
section
open Go.Shelf Go.RowKit Go.Lib Go.Sort
def InsOk (P:Program) {β:Type} [Inhabited β] (lt:β->β->Bool) (k:Nat) (enc:β×Nat->List Value) (g:Nat) (w0:World) (blk off cap a b:Nat) (d:Array (β×Nat)) (w:World):Prop:=
 Calls P 172 #[.slice (some ⟨blk,off,none⟩) d.size cap,.int .i64 a,.int .i64 b,.func (.func g) #[] #[]] w fun e w'=>e= .returned (.tuple #[])/\∃d',(PermIn a b d d'/\SortedIn (slt lt) a b d')/\SWK enc k w0 blk off d' w'
theorem stable_open {β:Type} [Inhabited β] {lt:β->β->Bool} {enc:β×Nat->List Value} {cf:β×Nat->β×Nat->Int} {off:Nat} {d0:Array (β×Nat)} (V:SEnv P lt k enc cf g w0 blk off d0) (cap:Nat) (d:Array (β×Nat)) (w:World)
  (hF:P.funcs[(121:Nat)]? =some f121)
  (eI:∀args w,(callFunc 172 args).run P w= .ok (.enter 172 args) w)
  (INS:∀a b d w,d0.size=d.size->SWK enc k w0 blk off d w->a<=b->b<=d.size->d.size<4611686018427387904->(∀p q,a<=p->p<q->q<b->d[p]!.2<d[q]!.2)->InsOk P lt k enc g w0 blk off cap a b d w)
  (hs:d0.size=d.size) (S:SWK enc k w0 blk off d w) (ht:∀p,p<d.size->d[p]!.2=p) (hsz:d.size<1152921504606846976):
  Calls P 121 #[.slice (some ⟨blk,off,none⟩) d.size cap,.int .i64 d.size,.func (.func g) #[] #[]] w fun e w'=>e= .returned (.tuple #[])/\∃d',(PermIn 0 d.size d d'/\SortedIn (slt lt) 0 d.size d')/\SWK enc k w0 blk off d' w':=by
 have L:=V.ty
 have mixed:=L.mixed;have t0:=L.t0;have a0:=L.a0;have z0:=L.z0;have v0:=L.v0;have t3:=L.t3;have a3:=L.a3;have z3:=L.z3;have v3:=L.v3;have t4:=L.t4;have a4:=L.a4;have z4:=L.z4;have v4:=L.v4;have tS:=L.tS;have aS:=L.aS;have zS:=L.zS;have vS:=L.vS;have tC:=L.tC;have aC:=L.aC;have zC:=L.zC;have vC:=L.vC;have tU:=L.tU;have aU:=L.aU;have zU:=L.zU;have vU:=L.vU;have aE:=L.aE;have zE:=L.zE
 have eM:∀args w,(callFunc 173 args).run P w= .ok (.enter 173 args) w:=enters_of V.fM zk rfl
 have I0:Aside (∀a b d w,d0.size=d.size->SWK enc k w0 blk off d w->a<=b->b<=d.size->d.size<4611686018427387904->(∀p q,a<=p->p<q->q<b->d[p]!.2<d[q]!.2)->InsOk P lt k enc g w0 blk off cap a b d w):=INS
 have S0:Aside (SWK enc k w0 blk off d w):=S
 have T0:Aside (∀p,p<d.size->d[p]!.2=p):=ht
 clear S ht INS
 go_enter hF,ntmps121
 go_wp2
 go_loopg [7,8] d.size (fun kx s7 s8 wr=>∃(c a:Nat) (dk:Array (β×Nat)),s7= .int .i64 (a:Int)/\s8= .int .i64 ((a:Int)+20)/\a<=d.size/\d.size - a<=kx/\dk.size=d.size/\Aside (a=c*20)/\Aside (Blocks lt 20 a d.size dk)/\Aside (∀p,a<=p->p<d.size->dk[p]!.2=p)/\Aside (PermIn 0 d.size d dk)/\Aside (SWK enc k w0 blk off dk wr))
 case atStart=>exact ⟨0,0,d,rfl,zZ,vD _,vm _,rfl,(by omega:(0:Nat)=0*20),⟨fun p hp c=>by rw [T0.o p hp],fun i j _ hj=>zj⟩,fun p _ hp=>T0.o p hp,permIn_refl _ _ _,S0⟩
 case round=>
  clear S0 T0
  obtain ⟨c,a,dk,rfl,rfl,han,hkx,hdk,HA,BL,TG,PM,S1⟩:=hrel
  by_cases hlt:a+20<=d.size
  ·have q1:decide ((a:Int)+20<=(d.size:Int))=true:=by simp;omega
   go_wp2_with fail
   clear q1
   have c1:(a:Int)+20=((a+20:Nat):Int):=zj
   have C:=I0.o a (a+20) dk wr zj S1.o zj zj zj (fun p q hp hpq hq=>qQ)
   unfold InsOk at C
   rw [hdk,<-c1] at C
   clear c1
   refine C.mono ?_
   clear C
   rintro ex w1 ⟨rfl,d1,⟨PM1,SO1⟩,S_1⟩
   have S2:Aside (SWK enc k w0 blk off d1 w1):=S_1
   have hd1:d1.size=d.size:=by rw [PM1.1,hdk]
   have BL2:Aside (Blocks lt 20 (a+20) d.size d1):=Blocks.step BL.o hdk.symm HA.o hlt (.inl rfl) PM1 SO1
   have TG2:Aside (∀p,a+20<=p->p<d.size->d1[p]!.2=p):=fun p hp hpn=>by rw [PM1.2.1 p (.inr hp)];exact TG.o p zj hpn
   have PM2:Aside (PermIn 0 d.size d d1):=permIn_trans _ _ _ _ _ PM.o (permIn_mono dk d1 _ _ _ _ (vD _) hlt zj PM1)
   have HA2:Aside (a+20=(c+1)*20):=by have:=HA.o;show _=_;omega
   clear S_1 PM1 SO1 BL TG PM S1 HA
   go_wp2
   go_roundg (d.size - (a+20))
   case measure=>omega
   case rel=>exact ⟨c+1,a+20,d1,zL,by first | rfl | go_num | (congr 1;omega),hlt,vm _,hd1,HA2,BL2,TG2,PM2,S2⟩
  have q1:decide ((a:Int)+20<=(d.size:Int))=false:=zl
  go_wp2_with fail
  clear q1
  have C:=I0.o a d.size dk wr zj S1.o zj zj zj (fun p q hp hpq hq=>qQ)
  unfold InsOk at C
  rw [hdk] at C
  refine C.mono ?_
  clear C
  rintro ex w1 ⟨rfl,d1,⟨PM1,SO1⟩,S_1⟩
  have S2:Aside (SWK enc k w0 blk off d1 w1):=S_1
  have hd1:d1.size=d.size:=by rw [PM1.1,hdk]
  have BL2:Aside (Blocks lt 20 d.size d.size d1):=Blocks.step BL.o hdk.symm HA.o zg (.inr ⟨rfl,zj⟩) PM1 SO1
  have PM2:Aside (PermIn 0 d.size d d1):=permIn_trans _ _ _ _ _ PM.o (permIn_mono dk d1 _ _ _ _ (vD _) zg zj PM1)
  clear S_1 PM1 SO1 BL TG PM S1 HA hkx hlt
  go_wp2
  go_loopg [6] d.size (fun kx s6 wr=>∃(B:Nat) (dk:Array (β×Nat)),s6= .int .i64 (B:Int)/\20<=B/\d.size - B<=kx/\dk.size=d.size/\Aside (Blocks lt B d.size d.size dk)/\Aside (PermIn 0 d.size d dk)/\Aside (SWK enc k w0 blk off dk wr))
  case atStart=>exact ⟨20,d1,rfl,vm _,zj,hd1,BL2,PM2,S2⟩
  case round=>
   clear S2 BL2 PM2 hd1
   obtain ⟨B,dk2,rfl,hB,hkx,hdk2,BL,PM,S1⟩:=hrel
   by_cases hBn:B<d.size
   ·have q1:decide ((B:Int)<(d.size:Int))=true:=by simp;omega
    have HF:Aside (Half lt B 0 d.size dk2):=BL.o.half
    go_wp2
    clear q1 BL
    go_loopg [7,8] d.size (fun kx s7 s8 wr=>∃(c a:Nat) (dk:Array (β×Nat)),s7= .int .i64 (a:Int)/\s8= .int .i64 ((a:Int)+2*(B:Int))/\a<=d.size/\d.size - a<=kx/\dk.size=d.size/\Aside (a=c*(2*B))/\Aside (Half lt B a d.size dk)/\Aside (PermIn 0 d.size d dk)/\Aside (SWK enc k w0 blk off dk wr))
    case atStart=>exact ⟨0,0,dk2,rfl,zZ,vD _,vm _,hdk2,(by show 0=_;rw [Nat.zero_mul]),HF,PM,S1⟩
    case round=>
     clear S1 PM HF hdk2
     obtain ⟨c,a,dk3,rfl,rfl,han,hkx3,hdk3,HA,HF,PM,S1⟩:=hrel
     by_cases hlt:a+2*B<=d.size
     ·have q1:decide ((a:Int)+2*(B:Int)<=(d.size:Int))=true:=by simp;omega
      go_wp2_with fail
      clear q1
      have c1:(a:Int)+(B:Int)=((a+B:Nat):Int):=zj
      have c2:(a:Int)+2*(B:Int)=((a+2*B:Nat):Int):=zj
      have C:=sym_all V cap _ a (a+B) (a+2*B) dk3 wr zg zj S1.o (HF.o.runs HA.o rfl zj zj hlt) zj zj zj zj
      unfold SymOk at C
      rw [hdk3,<-c1,<-c2] at C
      clear c1 c2
      refine C.mono ?_
      clear C
      rintro ex w1 ⟨rfl,d1,⟨PM1,SO1⟩,S_1⟩
      have S2:Aside (SWK enc k w0 blk off d1 w1):=S_1
      have hd1:d1.size=d.size:=by rw [PM1.1,hdk3]
      have HF2:Aside (Half lt B (a+2*B) d.size d1):=Half.step HF.o hdk3.symm HA.o zj hlt (.inl rfl) PM1 SO1
      have PM2:Aside (PermIn 0 d.size d d1):=permIn_trans _ _ _ _ _ PM.o (permIn_mono dk3 d1 _ _ _ _ (vD _) hlt zj PM1)
      have HA2:Aside (a+2*B=(c+1)*(2*B)):=by show _=_;rw [Zb,<-HA.o];omega
      clear S_1 PM1 SO1 HF PM S1 HA
      go_wp2
      go_roundg (d.size - (a+2*B))
      case measure=>omega
      case rel=>exact ⟨c+1,a+2*B,d1,zZ,zZ,hlt,vm _,hd1,HA2,HF2,PM2,S2⟩
     have q1:decide ((a:Int)+2*(B:Int)<=(d.size:Int))=false:=zl
     by_cases hmn:a+B<d.size
     ·have q2:decide ((a:Int)+(B:Int)<(d.size:Int))=true:=by simp;omega
      go_wp2_with fail
      clear q1 q2
      have c1:(a:Int)+(B:Int)=((a+B:Nat):Int):=zj
      have C:=sym_all V cap _ a (a+B) d.size dk3 wr zg zj S1.o (HF.o.runs HA.o rfl zj zj zg) zj zj zj zj
      unfold SymOk at C
      rw [hdk3,<-c1] at C
      clear c1
      refine C.mono ?_
      clear C
      rintro ex w1 ⟨rfl,d1,⟨PM1,SO1⟩,S_1⟩
      have S2:Aside (SWK enc k w0 blk off d1 w1):=S_1
      have hd1:d1.size=d.size:=by rw [PM1.1,hdk3]
      have BL2:Aside (Blocks lt (2*B) d.size d.size d1):=(Half.step HF.o hdk3.symm HA.o zj zg (.inr ⟨rfl,zj⟩) PM1 SO1).end_all
      have PM2:Aside (PermIn 0 d.size d d1):=permIn_trans _ _ _ _ _ PM.o (permIn_mono dk3 d1 _ _ _ _ (vD _) zg zj PM1)
      clear S_1 PM1 SO1 HF PM S1 HA
      go_wp2
      go_roundg (d.size - 2*B)
      case measure=>omega
      case rel=>exact ⟨2*B,d1,zZ,zj,vm _,hd1,BL2,PM2,S2⟩
     have q2:decide ((a:Int)+(B:Int)<(d.size:Int))=false:=zl
     have BL2:Aside (Blocks lt (2*B) d.size d.size dk3):=HF.o.end_ HA.o zj
     clear HF HA
     go_wp2
     go_roundg (d.size - 2*B)
     case measure=>omega
     case rel=>exact ⟨2*B,dk3,zZ,zj,vm _,hdk3,BL2,PM,S1⟩
   have q1:decide ((B:Int)<(d.size:Int))=false:=zl
   go_wp2
   go_end0
   exact ⟨rfl,dk2,⟨PM.o,BL.o.all zj⟩,S1.o⟩
end
section
open Go.Shelf Go.RowKit Go.Lib Go.Sort
def insRen:Ren:=⟨fun | 20=>172 | n=>n,fun | 0=>0 | 3=>3 | 4=>4 | 22=>48 | 24=>41 | 25=>163 | n=>n,fun n=>n⟩
theorem ins_lays:SlLaysF0.n20 prog insRen where
 mixed:=zk
 f20:=⟨ "slices.insertionSortCmpFunc[concordat/api.Op]",zk,func172.trans (congrArg some zk)⟩
 t0:=underlying0
 a0:=isAgg0
 z0:=sizeOf0
 v0:=zeroValue0
 t3:=underlying3
 a3:=isAgg3
 z3:=sizeOf3
 v3:=zeroValue3
 t4:=underlying4
 a4:=isAgg4
 z4:=sizeOf4
 v4:=zeroValue4
 t22:=underlying48
 a22:=isAgg48
 z22:=sizeOf48
 v22:=zeroValue48
 t25:=underlying163
 a25:=isAgg163
 z25:=sizeOf163
 v25:=zeroValue163
theorem ins_ok {off:Nat} (R:RowK encT 8 w0 blk off d0) (cap a b:Nat) (d:Array (OpX×Nat)) (w:World) (hs:d0.size=d.size) (S:SWK encT 8 w0 blk off d w) (hab:a<=b) (hb:b<=d.size) (hsz:d.size<4611686018427387904) (ht:∀p q,a<=p->p<q->q<b->d[p]!.2<d[q]!.2):
  InsOk prog ltX 8 encT 86 w0 blk off cap a b d w:=by
 have I:=ins_stable ltX_swo d a b hab hb ht
 rw [<-ltOf_cmpX] at I
 unfold InsOk
 refine (AnyQ.insertionSortCmpFunc ins_lays 8 isAgg41 sizeOf41 encT R.hk R.h1 cmpX 86 #[] blk off cap a b d w eg_cmp (cmp_lays blk off d.size w) (S.holds R.hblk R.hH hs.symm) (S.lt R.hblk) hab hb hsz).mono ?_
 rintro e w' ⟨rfl,n,os,rfl⟩
 exact ⟨rfl,_,I,S.on R.hblk n _ os I.1.1⟩
theorem senv_here {off:Nat} (R:RowK encT 8 w0 blk off d0):SEnv prog ltX 8 encT cmpX 86 w0 blk off d0:=
 ⟨sty_here,func254,func222,func173,R,cmpX_lt,ltX_swo,eg_cmp,cmp_lays blk off d0.size w0⟩
theorem sortStable_any (w:World) (blk off cap:Nat) (d:Array (OpX×Nat)) (R:RowK encT 8 w blk off d) (ht:∀p,p<d.size->d[p]!.2=p) (hsz:d.size<1152921504606846976):
  Calls prog 85 #[.slice (some ⟨blk,off,none⟩) d.size cap,.func (.func 86) #[] #[]] w fun e w'=>e= .returned (.tuple #[])/\∃d',(PermIn 0 d.size d d'/\SortedIn (slt ltX) 0 d.size d')/\SWK encT 8 w blk off d' w':=by
 have eS:∀args w,(callFunc 121 args).run prog w= .ok (.enter 121 args) w:=enters_of func121 zk rfl
 have eI:∀args w,(callFunc 172 args).run prog w= .ok (.enter 172 args) w:=enters_of func172 zk rfl
 have C:=stable_open (senv_here R) cap d w func121 eI (ins_ok R cap) rfl (SWK.start R.hH) ht hsz
 have CA:Aside _:=C
 clear C eI ht
 go_enter func85,ntmps85
 go_wp2_with fail
 refine Calls.mono CA.o ?_
 rintro e w' ⟨rfl,d',hd,S⟩
 have S2:Aside (SWK encT 8 w blk off d' w'):=S
 have H2:Aside (PermIn 0 d.size d d'/\SortedIn (slt ltX) 0 d.size d'):=hd
 clear S hd CA
 go_wp2
 go_end0
 exact ⟨rfl,d',H2.o,S2.o⟩
end
section
open Go.Shelf Go.RowKit Go.Lib Go.Sort
def cloneRen:Ren:=⟨fun | 41=>33 | n=>n,fun | 4=>4 | 22=>48 | 23=>41 | n=>n,fun n=>n⟩
theorem clone_lays:SlLaysE0.n41 prog cloneRen where
 mixed:=zk
 f41:=⟨ "slices.Clone[[]concordat/api.Op,concordat/api.Op]",zk,func33.trans (congrArg some zk)⟩
 t4:=underlying4
 a4:=isAgg4
 z4:=sizeOf4
 v4:=zeroValue4
 t22:=underlying48
 a22:=isAgg48
 z22:=sizeOf48
 v22:=zeroValue48
theorem clone_some (w:World) (b off c:Nat) (xs:List OpX) (hn:xs.length<=1000) (hc:∀j u,(cellsOf xs)[j]? =some u->w.cell? ⟨b,off+j,none⟩=some u):
  Calls prog 33 #[.slice (some ⟨b,off,none⟩) xs.length c] w fun e w'=>∃v',e= .returned v'/\w'.ownsRow w.heap.size 41 8 v' xs.length (cellsOf xs)/\v'≠ .slice none 0 0/\Below w.heap.size w w':=by
 obtain ⟨i0,hi,hz0,hz1,hz2⟩:=info_parts infoOp
 exact AnyE.slices_Clone clone_lays i0 _ 8 80 hi hz0 hz1 hz2 rfl zj sizeOf41 b off xs.length c (cellsOf xs) w (cellsOf_len xs) zw zj hc (cellsOf_one xs)
theorem clone_nil (w:World):Calls prog 33 #[.slice none 0 0] w fun e w'=>e= .returned (.slice none 0 0)/\w'=w:=
 AnyE.slices_Clone_nil clone_lays 0 0 w
def tagged (xs:List OpX):Array (OpX×Nat):=xs.zipIdx.toArray
theorem tagged_size (xs:List OpX):(tagged xs).size=xs.length:=by simp [tagged]
theorem tagged_at (xs:List OpX) (i:Nat) (hi:i<xs.length):(tagged xs)[i]! =(xs[i]!,i):=by
 rw [getElem!_pos _ i (by rw [tagged_size];exact hi),getElem!_pos xs i hi]
 simp [tagged]
theorem row_of {base cap:Nat} {xs:List OpX} (hn:n=xs.length) (h:w.ownsRow base 41 8 (.slice (some ⟨g,0,none⟩) n cap) n (cellsOf xs)):RowK encT 8 w g 0 (tagged xs) where
 hk:=encT_len
 h1:=encT_one
 hblk:=(h.lt g rfl).2
 hH:=fun j hj=>by
  rw [size_flatK,tagged_size] at hj
  have h1:j / 8<xs.length:=zj
  have h2:j / 8*8+j % 8=j:=zj
  refine ⟨?_,yQ⟩
  rw [vO,h.cellAt j zj,get_flatK _ _ _ _ (by rw [tagged_size];exact hj),tagged_at xs _ h1]
  have:=cellsOf_get xs (j / 8) (j % 8) h1 zj
  rw [h2] at this
  exact this
end
section
open Go.Shelf Go.RowKit Go.Lib Go.Sort
theorem below_grow {os:Array Obj} (h:Below B w0 w) (hB:B<=w.heap.size):Below B w0 (grow w os):=
 ⟨h.os,h.tape,h.output,by rw [Go.Sort.size_grow];exact vr h.size (Nat.le_add_right _ _),fun k hk=>by
  rw [<-h.block k hk]
  simp only [grow]
  rw [Zv zj]⟩
theorem below_sorted (h:Below B w0 w) (hg:B<=g) (hB:B<=w.heap.size) (S:SWK encT 8 w g 0 d w'):Below B w0 w':=by
 obtain ⟨n,os,rfl⟩:=S
 unfold sortWorldK putRowK
 exact below_grow (below_putRow h hg) (by show B<=(putRow id _ g 0 _).heap.size;simpa [putRow,mapBlock,Sort.ahead] using hB)
theorem sorted_at (R:RowK encT 8 w g 0 d) (hs:d'.size=d.size) (S:SWK encT 8 w g 0 d' w') (j:Nat) (u:Value) (hj:(cellsOf (d'.toList.map Prod.fst))[j]? =some u):w'.cell? ⟨g,0+j,none⟩=some u:=by
 have H:=S.holds R.hblk R.hH hs
 have hl:j<(cellsOf (d'.toList.map Prod.fst)).length:=(vi.1 hj).1
 rw [cellsOf_len,ue,uk] at hl
 have h1:j / 8<d'.size:=zj
 have h2:j / 8*8+j % 8=j:=zj
 have c:=cellsOf_get (d'.toList.map Prod.fst) (j / 8) (j % 8) xS zj
 rw [h2,hj] at c
 have H1:=(H j qB).1
 rw [get_flatK _ _ _ _ zj] at H1
 have e:encT d'[j / 8]! =encX (d'.toList.map Prod.fst)[j / 8]! :=by
  rw [getElem!_pos d' (j / 8) h1,getElem!_pos (d'.toList.map Prod.fst) (j / 8) xS]
  simp [encT]
 rw [H1,c,<-e]
 rfl
def StableOf (xs ys:List OpX):Prop:=∃d':Array (OpX×Nat),(PermIn 0 xs.length (tagged xs) d'/\SortedIn (slt ltX) 0 xs.length d')/\ys=d'.toList.map Prod.fst
theorem ins_nil (fv:Value) (w:World):Calls prog 172 #[.slice none 0 0,.int .i64 0,.int .i64 0,fv] w fun e w'=>e= .returned (.tuple #[])/\w'=w:=by
 go_enter func172,ntmps172
 go_wp2
 refine wp_loop_rounds 1 ?_
 rw [rounds_succ]
 go_wp2
 go_end0
 exact ⟨rfl,rfl⟩
theorem stable_nil (g:Nat) (w:World):Calls prog 121 #[.slice none 0 0,.int .i64 0,.func (.func g) #[] #[]] w fun e w'=>e= .returned (.tuple #[])/\w'=w:=by
 go_enter func121,ntmps121
 go_wp2
 refine wp_loop_rounds 1 ?_
 rw [rounds_succ]
 go_wp2_with fail
 refine (ins_nil _ _).mono ?_
 rintro e w' ⟨rfl,rfl⟩
 go_wp2
 refine wp_loop_rounds 1 ?_
 rw [rounds_succ]
 go_wp2
 go_end0
 exact ⟨rfl,rfl⟩
theorem sortStable_nil (g:Nat) (w:World):Calls prog 85 #[.slice none 0 0,.func (.func g) #[] #[]] w fun e w'=>e= .returned (.tuple #[])/\w'=w:=by
 go_enter func85,ntmps85
 go_wp2_with fail
 refine (stable_nil _ _).mono ?_
 rintro e w' ⟨rfl,rfl⟩
 go_wp2
 go_end0
 exact ⟨rfl,rfl⟩
theorem opSort_new (w:World) (v:Value) (xs:List OpX) (h:OpsAt w v xs) (hn:xs.length<=1000):
  Calls prog 53 #[v] w fun e w'=>∃v' ys,e= .returned v'/\OpsAt w' v' ys/\StableOf xs ys/\Below w.heap.size w w'/\∀g,v'.ownBlock=some g->w.heap.size<=g:=by
 rcases h with ⟨rfl,rfl⟩ | ⟨blk,off,cap,rfl,hc⟩
 ·go_enter func53,ntmps53
  go_wp2_with fail
  refine (clone_nil _).mono ?_
  rintro e w' ⟨rfl,rfl⟩
  go_wp2_with fail
  refine (sortStable_nil _ _).mono ?_
  rintro e w1 ⟨rfl,rfl⟩
  go_wp2
  go_ret
  exact ⟨_,[],rfl,.inl ⟨rfl,rfl⟩,⟨#[],⟨permIn_refl _ _ _,fun i j _ _ hj=>absurd hj zm⟩,rfl⟩,vu _ _,fun g hg=>qr⟩
 have HC:Aside (∀j u,(cellsOf xs)[j]? =some u->w.cell? ⟨blk,off+j,none⟩=some u):=hc
 clear hc
 go_enter func53,ntmps53
 go_wp2_with fail
 refine (clone_some w blk off cap xs hn HC.o).mono ?_
 clear HC
 rintro e w1 ⟨v1,rfl,hown,hnil,hb⟩
 obtain ⟨g,c1,rfl,hg⟩:∃g c1,v1= .slice (some ⟨g,0,none⟩) xs.length c1/\w.heap.size<=g:=by
  rcases hown.2 with ⟨h1,_⟩ | ⟨g,c1,cur,h1,h2,_⟩
  ·exact absurd h1 hnil
  exact ⟨g,c1,h1,h2⟩
 have R0:Aside (RowK encT 8 w1 g 0 (tagged xs)):=row_of rfl hown
 have HB:Aside (Below w.heap.size w w1):=hb
 clear hown hnil hb
 go_wp2_with fail
 have C:=sortStable_any w1 g 0 c1 (tagged xs) R0.o (fun p hp=>xC) (by rw [tagged_size];omega)
 rw [tagged_size] at C
 refine C.mono ?_
 clear C
 rintro e w2 ⟨rfl,d',hd,S⟩
 have hl:d'.size=xs.length:=by rw [hd.1.1,tagged_size]
 have hl2:(d'.toList.map Prod.fst).length=xs.length:=je
 have F:Aside (OpsAt w2 (.slice (some ⟨g,0,none⟩) xs.length c1) (d'.toList.map Prod.fst)/\StableOf xs (d'.toList.map Prod.fst)/\Below w.heap.size w w2):=
  ⟨.inr ⟨g,0,c1,by rw [hl2],fun j u hj=>sorted_at R0.o js S j u hj⟩,⟨d',hd,rfl⟩,below_sorted HB.o hg HB.o.size S⟩
 clear hd S R0 HB hl hl2
 go_wp2
 go_ret
 exact ⟨_,_,rfl,F.o.1,F.o.2.1,F.o.2.2,fun g' hg'=>by cases hg';exact hg⟩
end
section
open Go.Shelf Go.RowKit Go.Lib Go.Sort
theorem permIn_list (h:PermIn 0 d.size d d'):d.toList.Perm d'.toList:=by
 have h2:=h.2.2
 have e:d'.size=d.size:=h.1
 have e1:d'.toList.take d.size=d'.toList:=by rw [<-e,<-uk,uR]
 have e2:d.toList.take d.size=d.toList:=by rw [<-uk,uR]
 first
  | simpa using h2
  | (simp at h2;rw [e1] at h2;exact h2)
  | (simp at h2;rw [e1] at h2;exact h2.symm)
end
section
open Go.RowKit
theorem infoByte:(prog.info? 5).map (fun i=>(i.zero,i.size,i.bytes))=some (some (.int .u8 0),1,1):=zk
def bytesV (l:List UInt8):List Value:=l.map fun c=>.int .u8 (c.toNat:Int)
theorem hexIdx (x:Int) (w:World) (h0:0<=x) (h1:x<16):(Instr.index 9 (.string ⟨#[48,49,50,51,52,53,54,55,56,57,97,98,99,100,101,102]⟩) (.int .u8 x)).run prog w= .ok (.int .u8 ((hexd x.toNat).toNat:Int)) w:=by
 rcases (show x=0\/x=1\/x=2\/x=3\/x=4\/x=5\/x=6\/x=7\/x=8\/x=9\/x=10\/x=11\/x=12\/x=13\/x=14\/x=15 by omega) with rfl | rfl | rfl | rfl | rfl | rfl | rfl | rfl | rfl | rfl | rfl | rfl | rfl | rfl | rfl | rfl
 all_goals kernel_rfl
theorem and15:∀c:Fin 256,bits .and .u8 (c.1:Int) 15=((c.1 % 16:Nat):Int):=yu
theorem or16:∀x y:Fin 16,bits .or .i64 ((16*x.1:Nat):Int) (y.1:Int)=((16*x.1+y.1:Nat):Int):=yu
theorem idxHigh (c:UInt8) (w:World):(Instr.index 9 (.string ⟨#[48,49,50,51,52,53,54,55,56,57,97,98,99,100,101,102]⟩) (.int .u8 ((c.toNat:Int) / 16))).run prog w= .ok (.int .u8 ((hexd (c.toNat / 16)).toNat:Int)) w:=by
 have:=c.toNat_lt
 have e:=hexIdx ((c.toNat:Int) / 16) w zj zj
 rw [show ((c.toNat:Int) / 16).toNat=c.toNat / 16 by omega] at e
 exact e
theorem idxLow (c:UInt8) (w:World):(Instr.index 9 (.string ⟨#[48,49,50,51,52,53,54,55,56,57,97,98,99,100,101,102]⟩) (.int .u8 (bits .and .u8 (c.toNat:Int) 15))).run prog w= .ok (.int .u8 ((hexd (c.toNat % 16)).toNat:Int)) w:=by
 have:=c.toNat_lt
 have e:=hexIdx ((c.toNat % 16:Nat):Int) w zj zj
 have e2:=and15 ⟨c.toNat,this⟩
 simp only at e2
 rw [e2]
 exact e
theorem bytesV_append (a b:List UInt8):bytesV (a++b)=bytesV a++bytesV b:=ju
theorem conv_own {base:Nat} {v:Value} {l:List UInt8} (h:w.ownsRow base 5 1 v n (bytesV l)) (hl:l.length=n):
  Sem.run prog (convert 123 9 v) w= .ok (.string ⟨l.toArray⟩) w:=by
 rcases Nat.eq_zero_or_pos n with h0 | h0
 ·have hl0:l= []:=vM.1 zj
  subst hl0
  rcases h.2 with ⟨hv,_⟩ | ⟨g,cap,cur,hv,_⟩
  ·subst hv
   exact run_convert_bytes_nil w _ _ underlying123 underlying5 0 0 _ underlying9
  subst hv
  subst h0
  exact run_convert_bytes_back w _ _ _ _ _ [] underlying123 underlying5 underlying9 (fun j hj=>by simp at hj)
 obtain ⟨g,cap,rfl,-,-⟩:=h.form h0
 have hc:=h.cells (g:=g) rfl
 subst hl
 refine run_convert_bytes_back w _ _ _ _ _ l underlying123 underlying5 underlying9 (fun j hj=> ?_)
 refine hc j _ ?_
 simp [bytesV,vj hj]
theorem hex_step (s:ByteArray) (k:Nat) (h:k<s.size) (done R:List UInt8) (hd:done++hexL (s.data.toList.drop k)=R):(done++ [hexd (s[k].toNat / 16),hexd (s[k].toNat % 16)])++hexL (s.data.toList.drop (k+1))=R:=by
 rw [byteAt s k h] at hd
 simpa [hexL] using hd
theorem hexText_any (s:ByteArray) (w:World) (hs:s.size<=1000000):
  Calls prog 137 #[.string s] w fun e w'=>e= .returned (.string ⟨(hexL s.data.toList).toArray⟩)/\Below w.heap.size w w':=by
 obtain ⟨i0,hi,hz0,hz1,hz2⟩:=info_parts infoByte
 generalize hR:hexL s.data.toList=R
 have HR:=Lib.hid hR
 clear hR
 go_enter func137,ntmps137
 go_wp2_with (at_make;refine wpList_make_own _ rfl _ _ 123 rfl w.heap.size 5 i0 (.int .u8 0) 1 underlying123 hi hz0 hz1 .i64 .i64 _ (2*s.size) rfl rfl zj (by rw [hz2];omega) yM zg ?_;intro w0 hown0 hgrow0)
 go_loopw [3,11] (fun v i wr=>∃(k n:Nat) (done:List UInt8),k<=s.size/\n=2*k/\done.length=n/\i= .int .i64 (k:Nat)/\wr.ownsRow w.heap.size 5 1 v n (bytesV done)/\Below w.heap.size w wr/\Hid (done++hexL (s.data.toList.drop k)=R)) (fun _ i _=>s.size - (intOf i).toNat)
 case atStart=>exact ⟨0,0,[],vD _,rfl,rfl,rfl,hown0,(vu _ _).grown hgrow0 zg (fun k hk=>by simp at hk),Lib.hid qj⟩
 case round=>
  obtain ⟨k,n,done,hk,rfl,hdl,rfl,hown,hB,HD⟩:=hrel
  clear hown0 hgrow0
  by_cases hlt:k<s.size
  ·have hdt:decide ((k:Int)<(s.size:Int))=true:=by simp;omega
   have HE:=Lib.hid (hex_step s k hlt done R HD.o)
   have HL:=Lib.hid hdl
   have x1:=idxHigh s[k]
   have x2:=idxLow s[k]
   have hzB:=hB.size
   clear HD
   generalize hc1:hexd (s[k].toNat / 16)=c1 at x1 HE
   generalize hc2:hexd (s[k].toNat % 16)=c2 at x2 HE
   clear hc1 hc2
   go_wp2_with fail
   go_region_held3 (fun _=>True) (trivial)
    ((refine step_append_lies _ zu _ _ _ zu w.heap.size 5 i0 _ 1 1 underlying123 hi hz0 hz1 hz2 rfl zj _ (2*k) (bytesV done) zu ((hown.alloc _).drew) ⟨wr.heap.size,0,none⟩ 2 2 [.int .u8 (c1.toNat:Int),.int .u8 (c2.toNat:Int)] zu zu (uF (cs:= #[.int .u8 (c1.toNat:Int),.int .u8 (c2.toNat:Int)]) (t:=5) (fr:=(0,0)) (heap_alloc_new wr _)) qI zj yM zj zl (wr.heap.size+1) zm ?_;intro gg cap w1 hown1 hgrow hat hlt1))
   all_goals go_wp2
   all_goals
    refine ⟨⟨k+1,2*(k+1),done++ [c1,c2],zj,rfl,by have:=HL.o;simp;omega,zL,by rw [bytesV_append];exact hown1,(hB.alloc hB.size _).drew.grown hgrow zl (fun k hk=>(hown.lt k hk).1),HE⟩,?_⟩
    simp [intOf]
    omega
  have hdl':decide ((k:Int)<(s.size:Int))=false:=zl
  have HE:Hid (R=done):=Lib.hid (by have:=HD.o;rw [show k=s.size by omega,dropEnd] at this;simpa [hexL] using this.symm)
  have hcv:=conv_own hown hdl
  go_wp2
  go_ret
  exact ⟨by rw [HE.o];rfl,hB⟩
def hexI (c:UInt8):Int:=match hexV c with
 | none=> -1
 | some x=>(x:Int)
theorem hexI_all:∀c:Fin 256,Lib.indexByte [48,49,50,51,52,53,54,55,56,57,97,98,99,100,101,102] (UInt8.ofNat c.1)=hexI (UInt8.ofNat c.1):=yu
theorem idx_hex (c:UInt8) (w:World):Calls prog 283 #[.string ⟨#[48,49,50,51,52,53,54,55,56,57,97,98,99,100,101,102]⟩,.int .u8 (c.toNat:Int)] w fun e w'=>e= .returned (.int .i64 (hexI c))/\w'=w:=by
 have h:=Tryz.strings_IndexByte ⟨#[48,49,50,51,52,53,54,55,56,57,97,98,99,100,101,102]⟩ (c.toNat:Int) w
 have e:=hexI_all ⟨c.toNat,c.toNat_lt⟩
 simp only [UInt8.ofNat_toNat] at e
 have e2:((c.toNat:Int).toNat).toUInt8=c:=zm
 rw [e2] at h
 have e3:(⟨#[48,49,50,51,52,53,54,55,56,57,97,98,99,100,101,102]⟩:ByteArray).data.toList= [48,49,50,51,52,53,54,55,56,57,97,98,99,100,101,102]:=rfl
 rw [e3,e] at h
 exact h
theorem idx_is (c:UInt8) (z:Int) (w:World) (hz:hexI c=z):Calls prog 283 #[.string ⟨#[48,49,50,51,52,53,54,55,56,57,97,98,99,100,101,102]⟩,.int .u8 (c.toNat:Int)] w fun e w'=>e= .returned (.int .i64 z)/\w'=w:=by rw [<-hz];exact idx_hex c w
theorem drop_two (s:ByteArray) (k:Nat) (h:k+1<s.size):s.data.toList.drop k=s[k]::s[k+1]::s.data.toList.drop (k+2):=by
 rw [byteAt s k zj,byteAt s (k+1) h]
theorem or_byte (x y:Nat) (hx:x<16) (hy:y<16):bits .or .i64 ((x:Int)*16) (y:Int)=((16*x+y:Nat):Int):=by
 have:=or16 ⟨x,hx⟩ ⟨y,hy⟩
 simp only at this
 rw [show ((16*x:Nat):Int)=(x:Int)*16 by omega] at this
 exact this
theorem below_draws {v:World} (h:Below B w v) (n:Nat):Below B w (v.drewN n):=h.trans ⟨rfl,rfl,rfl,vm _,fun _ _=>rfl⟩
theorem readHex_even (s:ByteArray) (w:World) (hs:s.size<=1000000) (h2:s.size % 2=0):
  Calls prog 272 #[.string s] w fun e w'=>e= .returned (.tuple #[.string ⟨((unhexL s.data.toList).getD []).toArray⟩,.bool (unhexL s.data.toList).isSome])/\Below w.heap.size w w':=by
 obtain ⟨i0,hi,hz0,hz1,hz2⟩:=info_parts infoByte
 generalize hR:unhexL s.data.toList=R
 have HR:=Lib.hid hR
 clear hR
 have e2:((s.size:Int) % 2 !=0)=false:=zl
 go_enter func272,ntmps272
 go_wp2_with (at_make;refine wpList_make_own _ rfl _ _ 123 rfl w.heap.size 5 i0 (.int .u8 0) 1 underlying123 hi hz0 hz1 .i64 .i64 _ (s.size / 2) rfl rfl zj (by rw [hz2];omega) yM zg ?_;intro w0 hown0 hgrow0)
 clear e2
 go_loopw [4,5] (fun v i wr=>∃(k n:Nat) (done:List UInt8),k<=s.size/\k=2*n/\done.length=n/\i= .int .i64 (k:Nat)/\wr.ownsRow w.heap.size 5 1 v n (bytesV done)/\Below w.heap.size w wr/\Hid ((unhexL (s.data.toList.drop k)).map (done++ ·)=R)) (fun _ i _=>s.size - (intOf i).toNat)
 case atStart=>exact ⟨0,0,[],vD _,rfl,rfl,rfl,hown0,(vu _ _).grown hgrow0 zg (fun k hk=>by simp at hk),Lib.hid (by rw [<-HR.o];simp)⟩
 case round=>
  obtain ⟨k,n,done,hk,hkn,hdl,rfl,hown,hB,HD⟩:=hrel
  have HK:=Lib.hid hkn
  have HL:=Lib.hid hdl
  clear hown0 hgrow0 HR hdl
  by_cases hlt:k<s.size
  ·have hlt1:k+1<s.size:=by omega
   clear hkn
   have hdt:decide ((k:Int)<(s.size:Int))=true:=zl
   have ea:IntKind.i64.wrap ((k:Int)+1)=(k:Int)+1:=zv
   have eb:(0:Int)<=(k:Int)+1:=zj
   have ec:(k:Int)+1<(s.size:Int):=zj
   have ed:((k:Int)+1).toNat=k+1:=zj
   have HU:Hid ((unhexL (s[k]::s[k+1]::s.data.toList.drop (k+2))).map (done++ ·)=R):=Lib.hid (by rw [<-drop_two s k hlt1];exact HD.o)
   clear HD
   cases hx:hexV s[k] with
   | none=>
    have HE:Hid (R=none):=Lib.hid (by have:=HU.o;simp only [unhexL,hx,Option.map_none] at this;exact this.symm)
    have z1:hexI s[k]= -1:=by unfold hexI;rw [hx]
    obtain ⟨y,hy⟩:∃y,hexI s[k+1]=y:=⟨_,rfl⟩
    have HX:=Lib.hid hx
    have HZ:=Lib.hid (And.intro z1 hy)
    clear hx z1 hy
    go_wp2_with fail
    go_quiet (first | (go_at_call 283;first | exact Calls.quiet_of_same (idx_is _ _ _ HZ.o.1) | exact Calls.quiet_of_same (idx_is _ _ _ HZ.o.2)))
    go_wp2
    go_ret2
    exact ⟨by rw [HE.o];rfl,below_draws hB _⟩
   | some x=>
    have hx16:=hexV_lt _ _ hx
    have z1:hexI s[k]=(x:Int):=by unfold hexI;rw [hx]
    cases hy:hexV s[k+1] with
    | none=>
     have HE:Hid (R=none):=Lib.hid (by have:=HU.o;simp only [unhexL,hx,hy,Option.map_none] at this;exact this.symm)
     have z2:hexI s[k+1]= -1:=by unfold hexI;rw [hy]
     have HZ:=Lib.hid (And.intro z1 z2)
     clear hx hy z1 z2
     go_wp2_with fail
     go_quiet (first | (go_at_call 283;first | exact Calls.quiet_of_same (idx_is _ _ _ HZ.o.1) | exact Calls.quiet_of_same (idx_is _ _ _ HZ.o.2)))
     go_wp2
     go_ret2
     exact ⟨by rw [HE.o];rfl,below_draws hB _⟩
    | some y=>
     have hy16:=hexV_lt _ _ hy
     have z2:hexI s[k+1]=(y:Int):=by unfold hexI;rw [hy]
     have HE:Hid ((unhexL (s.data.toList.drop (k+2))).map ((done++ [UInt8.ofNat (16*x+y)])++ ·)=R):=Lib.hid (by
      have:=HU.o
      simp only [unhexL,hx,hy,Option.map_map] at this
      rw [<-this]
      congr 1
      funext l
      simp)
     have HZ:=Lib.hid (And.intro z1 z2)
     have hor:=or_byte x y hx16 hy16
     obtain ⟨c,hc⟩:∃c:UInt8,UInt8.ofNat (16*x+y)=c:=⟨_,rfl⟩
     have hcn:((16*x+y:Nat):Int)=(c.toNat:Int):=by rw [<-hc];simp;omega
     rw [hcn] at hor
     rw [hc] at HE
     have hc256:=c.toNat_lt
     clear hx hy z1 z2 HU hc hcn
     go_wp2_with fail
     go_quiet (first | (go_at_call 283;first | exact Calls.quiet_of_same (idx_is _ _ _ HZ.o.1) | exact Calls.quiet_of_same (idx_is _ _ _ HZ.o.2)))
     have hownq:(wr.drewN nq).ownsRow w.heap.size 5 1 _ n (bytesV done):=hown
     have hBq:=below_draws hB nq
     generalize wr.drewN nq=wq at hownq hBq |-
     clear hown hB
     have hzB:=hBq.size
     have hn5:n<=500000:=xB
     go_wp2_with (at_builtin;refine wpList_append_own _ rfl _ _ 123 rfl w.heap.size 5 i0 (.int .u8 0) 1 1 underlying123 hi hz0 hz1 hz2 rfl zt _ _ _ rfl (hownq.alloc _) _ 1 1 [.int .u8 (c.toNat:Int)] rfl rfl (cell_one_new _ _ _) (by intro u hu;simp at hu;subst hu;rfl) yM zj zl ?_;intro v' w5 hown5 hgrow5 _)
     refine ⟨⟨k+2,n+1,done++ [c],zj,xB,by have:=HL.o;simp;omega,zL,by rw [bytesV_append];exact hown5,(hBq.alloc hzB _).grown hgrow5 zl (fun k hk=>(hownq.lt k hk).1),HE⟩,?_⟩
     simp [intOf]
     omega
  have hdt:decide ((k:Int)<(s.size:Int))=false:=zl
  have HE:Hid (R=some done):=Lib.hid (by have:=HD.o;rw [show k=s.size by omega,dropEnd] at this;simpa [unhexL] using this.symm)
  have hcv:=conv_own hown HL.o
  go_wp2
  go_ret2
  exact ⟨by rw [HE.o];rfl,hB⟩
theorem readHex_any (s:ByteArray) (w:World) (hs:s.size<=1000000):
  Calls prog 272 #[.string s] w fun e w'=>e= .returned (.tuple #[.string ⟨((unhexL s.data.toList).getD []).toArray⟩,.bool (unhexL s.data.toList).isSome])/\Below w.heap.size w w':=by
 by_cases h2:s.size % 2=0
 ·exact readHex_even s w hs h2
 have e2:((s.size:Int) % 2 !=0)=true:=zl
 rw [unhex_odd s.data.toList.length s.data.toList rfl zl]
 go_enter func272,ntmps272
 go_wp2
 go_ret2
 exact ⟨rfl,vu _ _⟩
