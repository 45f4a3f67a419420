import Derived.Test.YtpdbnnimdkfajaaGreatDoorVS16
set_option linter.unusedSimpArgs false
set_option linter.unusedVariables false
set_option maxRecDepth 100000
set_option maxHeartbeats 64000000
namespace Go.Proofs.YtpdbnnimdkfajaaGreatDoor
section
open Go.Shelf Go.RowKit Go.Lib Go.Sort
theorem sym_lo {P:Program} {β:Type} [Inhabited β] {lt:β->β->Bool} {k:Nat} {enc:β×Nat->List Value} {cf:β×Nat->β×Nat->Int} {g:Nat} {w0:World} {blk off:Nat} {d0:Array (β×Nat)} (V:SEnv P lt k enc cf g w0 blk off d0) (cap a m b:Nat) (d:Array (β×Nat)) (w:World)
  (hs:d0.size=d.size) (S:SWK enc k w0 blk off d w) (hr:Runs lt a m b d) (ham:a<m) (hmb:m<b) (hb:b<=d.size) (hsz:d.size<4611686018427387904) (_h0:m≠a+1) (_h1:b≠m+1)
  (IH:∀a' m' b' d' w',b' - a'<b - a->d0.size=d'.size->SWK enc k w0 blk off d' w'->Runs lt a' m' b' d'->a'<m'->m'<b'->b'<=d'.size->d'.size<4611686018427387904->SymOk P lt k enc g w0 blk off cap a' m' b' d' w') (hmid:m<=(a+b) / 2):
  SymOk P lt k enc g w0 blk off cap a m b d w:=by
 unfold SymOk
 have L:=V.ty
 have mixed:=L.mixed;have t0:=L.t0;have a0:=L.a0;have z0:=L.z0;have v0:=L.v0;have t3:=L.t3;have a3:=L.a3;have z3:=L.z3;have v3:=L.v3;have t4:=L.t4;have a4:=L.a4;have z4:=L.z4;have v4:=L.v4;have tS:=L.tS;have aS:=L.aS;have zS:=L.zS;have vS:=L.vS;have tC:=L.tC;have aC:=L.aC;have zC:=L.zC;have vC:=L.vC;have tU:=L.tU;have aU:=L.aU;have zU:=L.zU;have vU:=L.vU;have aE:=L.aE;have zE:=L.zE
 have eR:∀args w,(callFunc 281 args).run P w= .ok (.enter 281 args) w:=enters_of V.fR zj rfl
 have eM:∀args w,(callFunc 226 args).run P w= .ok (.enter 226 args) w:=enters_of V.fM zj rfl
 have R:=V.row
 have eg:=V.eg
 have CMP:Aside (CmpLays P g #[] enc k cf blk off d0.size w0):=V.cmp
 have LT:Aside (∀x y,decide (cf x y<0)=tlt lt x y):=V.less
 have S0:Aside (SWK enc k w0 blk off d w):=S
 have HR:Aside (Runs lt a m b d):=hr
 have IH0:Aside (∀a' m' b' d' w',b' - a'<b - a->d0.size=d'.size->SWK enc k w0 blk off d' w'->Runs lt a' m' b' d'->a'<m'->m'<b'->b'<=d'.size->d'.size<4611686018427387904->SymOk P lt k enc g w0 blk off cap a' m' b' d' w'):=IH
 clear S hr IH
 have q0:((m:Int) - (a:Int)==1)=false:=zk
 have q1:((b:Int) - (m:Int)==1)=false:=zk
 clear _h0 _h1
 obtain ⟨mid,hmi⟩:∃mid:Nat,mid=(a+b) / 2:=⟨_,rfl⟩
 rw [<-hmi] at hmid
 have hm1:a<mid:=zi
 have hm2:mid<b:=zi
 have hm3:a+b<=2*mid+1:=zi
 have hm4:2*mid<=a+b:=zi
 have q2:decide ((mid:Int)<(m:Int))=false:=zk
 have hz:((a:Int)+(b:Int)) / 2=(mid:Int):=zi
 have HZ:=Lib.hid hz
 obtain ⟨pp,hpp⟩:∃pp:Nat,pp=mid+m - 1:=⟨_,rfl⟩
 have hp1:pp+1<=mid+m:=zi
 have hp2:mid+m<=pp+1:=zi
 have HP:=Lib.hid (show (mid:Int)+(m:Int) - 1=(pp:Int) by omega)
 clear hz hmi hpp
 go_enter V.fM,Tryz.ntmps226
 go_upto_region 25 with fail
 rw [HZ.o]
 clear HZ
 go_wp2
 rw [HP.o]
 clear HP
 rw [decide_eq_false (show ¬mid<m by omega)]
 clear q0 q1 q2
 go_loopg [20,21] (m - (a)) (fun kx s20 s21 wr=>∃(i j:Nat),s20= .int .i64 (i:Int)/\s21= .int .i64 (j:Int)/\a<=i/\i<=j/\j<=m/\j - i<=kx/\Aside ((a<i->tlt lt d[mid+m - i]! d[i - 1]! =false)/\(j<m->tlt lt d[mid+m - 1 - j]! d[j]! =true))/\Aside (SWK enc k w0 blk off d wr))
 case atStart=>exact ⟨a,m,zQ,rfl,jj _,zi,jj _,jj _,⟨fun h=>zi,fun h=>zi⟩,S0⟩
 case round=>
  clear S0
  obtain ⟨i,j,rfl,rfl,hi,hij,hj,hkx,ED,S1⟩:=hrel
  by_cases hlt:i<j
  ·have hltz:decide ((i:Int)<(j:Int))=true:=by simp;omega
   go_wp2_with fail
   obtain ⟨h,hh⟩:∃h:Nat,h=(i+j) / 2:=⟨_,rfl⟩
   have hi1:i<=h:=zi
   have hi2:h<j:=zi
   have hz:((i:Int)+(j:Int)) / 2=(h:Int):=zi
   obtain ⟨q,hq⟩:∃q:Nat,q=mid+m - 1 - h:=⟨_,rfl⟩
   have hq1:q+h+1<=mid+m:=zi
   have hq2:mid+m<=q+h+1:=zi
   have HQ:=Lib.hid (show (pp:Int)=(q:Int)+(h:Int) by omega)
   have HQN:=Lib.hid hq
   rw [hz,HQ.o]
   clear hz hh hq
   have ex:((q:Int)).toNat=q:=zi
   have px:(0:Int)<=(q:Int):=zi
   have bdx:(q:Int)<(d.size:Int):=zi
   have rx:IntKind.i64.wrap ((q:Int))=(q:Int):=zq
   have ey:((h:Int)).toNat=h:=zi
   have py:(0:Int)<=(h:Int):=zi
   have bdy:(h:Int)<(d.size:Int):=zi
   have ry:IntKind.i64.wrap ((h:Int))=(h:Int):=zq
   have lx:=S1.o.ld R zi P (q) zi
   have ly:=S1.o.ld R zi P (h) zi
   have hc:=S1.o.cmp CMP.o zi d[q]! d[h]!
   have hl:=LT.o d[q]! d[h]!
   have SG:Aside (∀n os,SWK enc k w0 blk off d (grow (wr.drewN n) os)):=fun n os=>S1.o.grown n os
   generalize cf d[q]! d[h]! =z at hc hl
   have HL:=Lib.hid hl
   clear hl
   simp only [Array.append_empty] at hc
   by_cases hlv:z<0
   ·go_wp2_with fail
    go_quiet_grown (first | (go_at_fn g;refine Calls.grown_of (hc _ _)))
    have S2:Aside (SWK enc k w0 blk off d (grow (wr.drewN nq) osq)):=SG.o nq osq
    have ED2:Aside ((a<i->tlt lt d[mid+m - i]! d[i - 1]! =false)/\(h<m->tlt lt d[mid+m - 1 - h]! d[h]! =true)):=⟨ED.o.1,fun _=>xo⟩
    clear lx ly hc SG S1 ED
    generalize grow (wr.drewN nq) osq=w2 at S2 |-
    rw [<-HQ.o]
    clear HQ HQN
    go_wp2
    go_roundg (h - i)
    case measure=>omega
    case rel=>exact ⟨i,h,rfl,rfl,hi,hi1,zi,jj _,ED2,S2⟩
   go_wp2_with fail
   go_quiet_grown (first | (go_at_fn g;refine Calls.grown_of (hc _ _)))
   have S2:Aside (SWK enc k w0 blk off d (grow (wr.drewN nq) osq)):=SG.o nq osq
   have ED2:Aside ((a<h+1->tlt lt d[mid+m - (h+1)]! d[h+1 - 1]! =false)/\(j<m->tlt lt d[mid+m - 1 - j]! d[j]! =true)):=⟨fun _=>by rw [um,show mid+m - (h+1)=mid+m - 1 - h by omega,<-HQN.o,<-HL.o];exact decide_eq_false zi,ED.o.2⟩
   clear lx ly hc SG S1 ED
   generalize grow (wr.drewN nq) osq=w2 at S2 |-
   have hd:(!decide (z<0))=true:=qj
   rw [<-HQ.o]
   clear HQ HQN
   go_wp2
   go_roundg (j - (h+1))
   case measure=>omega
   case rel=>exact ⟨h+1,j,zw,rfl,zi,zi,hj,jj _,ED2,S2⟩
   rename_i hx
   exact Bool.noConfusion (hd.symm.trans hx)
  have hltz:decide ((i:Int)<(j:Int))=false:=zk
  obtain rfl:i=j:=zi
  obtain ⟨e,hee⟩:∃e:Nat,e=mid+m - i:=⟨_,rfl⟩
  have he1:i+e=mid+m:=zi
  have hlo:a<i->e<b->tlt lt d[e]! d[i - 1]! =false:=fun x y=>by rw [hee];exact ED.o.1 zi
  have hhi:i<m->m<e->tlt lt d[e - 1]! d[i]! =true:=fun x y=>yU
  have HLO:Aside (a<i->e<b->tlt lt d[e]! d[i - 1]! =false):=hlo
  have HHI:Aside (i<m->m<e->tlt lt d[e - 1]! d[i]! =true):=hhi
  have hze:(mid:Int)+(m:Int) - (i:Int)=(e:Int):=zi
  have HZE:=Lib.hid hze
  clear hlo hhi hze hee ED
  go_upto_region 39 with fail
  rw [HZE.o]
  clear HZE
  by_cases hrot:i<m
  ·skip
   have b0:decide ((i:Int)<(m:Int))=true:=zk
   have b1:decide ((m:Int)<(e:Int))=true:=zk
   go_wp2_with fail
   clear b0 b1
   refine (rotate_open k L V.fS V.fR enc blk off cap i m e d0 d w0 wr _ R hs S1.o zi zi zi zi).mono ?_
   rintro ex w1 ⟨rfl,d1,RT,S_1⟩
   have hzd1:d1.size=d.size:=RT.perm.1
   have S2:Aside (SWK enc k w0 blk off d1 w1):=S_1
   clear S_1 S1
   have CUT:Aside (Runs lt a i mid d1/\Runs lt mid e b d1/\∀p q,a<=p->p<mid->mid<=q->q<b->slt lt d1[q]! d1[p]! =false):=by
    have X:=Runs.cut V.swo HR.o zi zi zi zi HLO.o HHI.o RT
    rw [show i+(e - m)=mid by omega] at X
    exact X
   have PD1:Aside (PermIn a b d d1):=permIn_mono d d1 _ _ _ _ zi zi hb RT.perm
   clear RT HLO HHI
   by_cases hse:a<i
   ·skip
    have b0:decide ((a:Int)<(i:Int))=true:=zk
    have b1:decide ((i:Int)<(mid:Int))=true:=zk
    go_wp2_with fail
    clear b0 b1
    have C:=IH0.o a i mid d1 w1 zi zi S2.o CUT.o.1 zi zi zi zi
    unfold SymOk at C
    rw [hzd1] at C
    refine C.mono ?_
    clear C
    rintro ex w2 ⟨rfl,d2,⟨PMd2,SOd2⟩,S_d2⟩
    have hzd2:d2.size=d.size:=by rw [PMd2.1,hzd1]
    have Sd2:Aside (SWK enc k w0 blk off d2 w2):=S_d2
    have Qd2:Aside (PermIn a mid d1 d2/\SortedIn (slt lt) a mid d2):=⟨PMd2,SOd2⟩
    clear PMd2 SOd2 S_d2
    clear S2
    by_cases hth:e<b
    ·skip
     have b0:decide ((mid:Int)<(e:Int))=true:=zk
     have b1:decide ((e:Int)<(b:Int))=true:=zk
     have RU:Runs lt mid e b d2:=CUT.o.2.1.off zi Qd2.o.1
     have RUA:Aside (Runs lt mid e b d2):=RU
     clear RU
     go_wp2_with fail
     clear b0 b1
     have C:=IH0.o mid e b d2 w2 zi zi Sd2.o RUA.o zi zi zi zi
     unfold SymOk at C
     rw [hzd2] at C
     refine C.mono ?_
     clear C
     rintro ex w3 ⟨rfl,d3,⟨PMd3,SOd3⟩,S_d3⟩
     have hzd3:d3.size=d.size:=by rw [PMd3.1,hzd2]
     have Sd3:Aside (SWK enc k w0 blk off d3 w3):=S_d3
     have Qd3:Aside (PermIn mid b d2 d3/\SortedIn (slt lt) mid b d3):=⟨PMd3,SOd3⟩
     clear PMd3 SOd3 S_d3
     clear Sd2
     go_wp2
     go_end0
     have PP:=sorted_parts (lt:=lt) (a:=a) (c:=mid) (b:=b) zi zi zi CUT.o.2.2 Qd2.o.1 Qd2.o.2 Qd3.o.1 Qd3.o.2
     exact ⟨rfl,_,⟨permIn_trans _ _ _ _ _ PD1.o PP.1,PP.2⟩,Sd3.o⟩
    exfalso;omega
   skip
   have b0:decide ((a:Int)<(i:Int))=false:=zk
   have Qd1:Aside (PermIn a mid d1 d1/\SortedIn (slt lt) a mid d1):=⟨permIn_refl _ _ _,Runs.sorted CUT.o.1 zi⟩
   by_cases hth:e<b
   ·skip
    have b0:decide ((mid:Int)<(e:Int))=true:=zk
    have b1:decide ((e:Int)<(b:Int))=true:=zk
    have RU:Runs lt mid e b d1:=CUT.o.2.1.off zi Qd1.o.1
    have RUA:Aside (Runs lt mid e b d1):=RU
    clear RU
    go_wp2_with fail
    clear b0 b1
    have C:=IH0.o mid e b d1 w1 zi zi S2.o RUA.o zi zi zi zi
    unfold SymOk at C
    rw [hzd1] at C
    refine C.mono ?_
    clear C
    rintro ex w3 ⟨rfl,d3,⟨PMd3,SOd3⟩,S_d3⟩
    have hzd3:d3.size=d.size:=by rw [PMd3.1,hzd1]
    have Sd3:Aside (SWK enc k w0 blk off d3 w3):=S_d3
    have Qd3:Aside (PermIn mid b d1 d3/\SortedIn (slt lt) mid b d3):=⟨PMd3,SOd3⟩
    clear PMd3 SOd3 S_d3
    clear S2
    go_wp2
    go_end0
    have PP:=sorted_parts (lt:=lt) (a:=a) (c:=mid) (b:=b) zi zi zi CUT.o.2.2 Qd1.o.1 Qd1.o.2 Qd3.o.1 Qd3.o.2
    exact ⟨rfl,_,⟨permIn_trans _ _ _ _ _ PD1.o PP.1,PP.2⟩,Sd3.o⟩
   skip
   have b0:decide ((mid:Int)<(e:Int))=true:=zk
   have b1:decide ((e:Int)<(b:Int))=false:=zk
   have RU:Runs lt mid e b d1:=CUT.o.2.1.off zi Qd1.o.1
   have RUA:Aside (Runs lt mid e b d1):=RU
   clear RU
   go_wp2
   go_end0
   have Qd3:Aside (PermIn mid b d1 d1/\SortedIn (slt lt) mid b d1):=⟨permIn_refl _ _ _,Runs.sorted RUA.o zi⟩
   have Sd3:=S2
   have PP:=sorted_parts (lt:=lt) (a:=a) (c:=mid) (b:=b) zi zi zi CUT.o.2.2 Qd1.o.1 Qd1.o.2 Qd3.o.1 Qd3.o.2
   exact ⟨rfl,_,⟨permIn_trans _ _ _ _ _ PD1.o PP.1,PP.2⟩,Sd3.o⟩
  skip
  have b0:decide ((i:Int)<(m:Int))=false:=zk
  obtain ⟨d1,w1,hd1,hw1⟩:∃d1 w1,d1=d/\w1=wr:=⟨_,_,rfl,rfl⟩
  have RT:Rot d d1 i m e:=qH
  have hzd1:d1.size=d.size:=RT.perm.1
  have S2:Aside (SWK enc k w0 blk off d1 w1):=by rw [hd1,hw1];exact S1
  rw [<-hw1]
  clear hd1 hw1 S1
  have CUT:Aside (Runs lt a i mid d1/\Runs lt mid e b d1/\∀p q,a<=p->p<mid->mid<=q->q<b->slt lt d1[q]! d1[p]! =false):=by
   have X:=Runs.cut V.swo HR.o zi zi zi zi HLO.o HHI.o RT
   rw [show i+(e - m)=mid by omega] at X
   exact X
  have PD1:Aside (PermIn a b d d1):=permIn_mono d d1 _ _ _ _ zi zi hb RT.perm
  clear RT HLO HHI
  by_cases hse:i<mid
  ·skip
   have b0:decide ((a:Int)<(i:Int))=true:=zk
   have b1:decide ((i:Int)<(mid:Int))=true:=zk
   go_wp2_with fail
   clear b0 b1
   have C:=IH0.o a i mid d1 w1 zi zi S2.o CUT.o.1 zi zi zi zi
   unfold SymOk at C
   rw [hzd1] at C
   refine C.mono ?_
   clear C
   rintro ex w2 ⟨rfl,d2,⟨PMd2,SOd2⟩,S_d2⟩
   have hzd2:d2.size=d.size:=by rw [PMd2.1,hzd1]
   have Sd2:Aside (SWK enc k w0 blk off d2 w2):=S_d2
   have Qd2:Aside (PermIn a mid d1 d2/\SortedIn (slt lt) a mid d2):=⟨PMd2,SOd2⟩
   clear PMd2 SOd2 S_d2
   clear S2
   have b0:decide ((mid:Int)<(e:Int))=false:=zk
   have RU:Runs lt mid e b d2:=CUT.o.2.1.off zi Qd2.o.1
   have RUA:Aside (Runs lt mid e b d2):=RU
   clear RU
   go_wp2
   go_end0
   have Qd3:Aside (PermIn mid b d2 d2/\SortedIn (slt lt) mid b d2):=⟨permIn_refl _ _ _,Runs.sorted RUA.o zi⟩
   have Sd3:=Sd2
   have PP:=sorted_parts (lt:=lt) (a:=a) (c:=mid) (b:=b) zi zi zi CUT.o.2.2 Qd2.o.1 Qd2.o.2 Qd3.o.1 Qd3.o.2
   exact ⟨rfl,_,⟨permIn_trans _ _ _ _ _ PD1.o PP.1,PP.2⟩,Sd3.o⟩
  skip
  have b0:decide ((a:Int)<(i:Int))=true:=zk
  have b1:decide ((i:Int)<(mid:Int))=false:=zk
  have Qd1:Aside (PermIn a mid d1 d1/\SortedIn (slt lt) a mid d1):=⟨permIn_refl _ _ _,Runs.sorted CUT.o.1 zi⟩
  have b0:decide ((mid:Int)<(e:Int))=false:=zk
  have RU:Runs lt mid e b d1:=CUT.o.2.1.off zi Qd1.o.1
  have RUA:Aside (Runs lt mid e b d1):=RU
  clear RU
  go_wp2
  go_end0
  have Qd3:Aside (PermIn mid b d1 d1/\SortedIn (slt lt) mid b d1):=⟨permIn_refl _ _ _,Runs.sorted RUA.o zi⟩
  have Sd3:=S2
  have PP:=sorted_parts (lt:=lt) (a:=a) (c:=mid) (b:=b) zi zi zi CUT.o.2.2 Qd1.o.1 Qd1.o.2 Qd3.o.1 Qd3.o.2
  exact ⟨rfl,_,⟨permIn_trans _ _ _ _ _ PD1.o PP.1,PP.2⟩,Sd3.o⟩
