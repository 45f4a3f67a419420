import Derived.Test.YtebpcnkdhgnghaaGreatDoorPM17
import Derived.Test.YtebpcnkdhgnghaaGreatDoorPM18
import Derived.Test.YtebpcnkdhgnghaaGreatDoorPM19
set_option linter.unusedSimpArgs false
set_option linter.unusedVariables false
set_option maxRecDepth 100000
set_option maxHeartbeats 64000000
namespace Go.Proofs.YtebpcnkdhgnghaaGreatDoor
open Go.Proofs.Tryz
section
open Go.Shelf Go.RowKit Go.Lib Go.Sort
theorem oW (w:World) (blk off cap:Nat) (xs:List OpX) (hc:∀j u,(cellsOf xs)[j]? =some u->w.cell? ⟨blk,off+j,none⟩=some u) (hn:xs.length<=1000):
  Calls prog 29 #[.slice (some ⟨blk,off,none⟩) xs.length cap] w fun e w'=>∃v' ys,e= .returned v'/\OpsAt w' v' ys/\cY xs ys/\Below w.heap.size w w':=by
 obtain ⟨i0,hi,hz0,hz1,hz2⟩:=info_parts fw
 have HC:Aside (∀j u,(cellsOf xs)[j]? =some u->w.cell? ⟨blk,off+j,none⟩=some u):=hc
 clear hc
 go_enter func29,ntmps29
 go_wp2
 go_loopg [3,4] xs.length (fun kx s3 s4 wr=>∃(i:Nat) (ys:List OpX) (ov:Value),ov=s3/\s4= .int .i64 (i:Int)/\i<=xs.length/\xs.length - i<=kx/\Aside (InsOf xs i ys/\OutAt wr ov ys/\Below w.heap.size w wr))
 case atStart=>exact ⟨0,[],_,rfl,rfl,vM _,vB _,⟨InsOf.zero xs,.inl ⟨rfl,rfl⟩,vG _ _⟩⟩
 case round=>
  obtain ⟨i,ys,ov,rfl,rfl,hix,hkx,A⟩:=hrel
  by_cases hlt:i<xs.length
  ·have hltz:decide ((i:Int)<(xs.length:Int))=true:=by simp;omega
   have ex:((i:Int)).toNat=i:=zj
   have px:(0:Int)<=(i:Int):=zj
   have bx:(i:Int)<(xs.length:Int):=zj
   obtain ⟨u,hu⟩:=zc wr
   subst hu
   obtain ⟨⟨t,b,m,kd,node,other,name,value⟩,hx⟩:∃x,xs[i]! =x:=⟨_,rfl⟩
   have HX:=Lib.hid hx
   have E8:Aside (Eight u blk (off+i*8) t b m kd node other name value):=iB (fun j v hj=>aT A.o.2.2 (HC.o j v hj)) i hlt hx
   clear hx
   have HL:Aside (ys.length=i):=A.o.1.len zj
   rcases A.o.2.1 with ⟨rfl,rfl⟩ | ⟨g,o,c,rfl,hcap,hg⟩
   ·go_wp2
    go_loopg [5] 1 (fun ky s5 wr=>s5= .int .i64 0/\ky=ky/\Aside (Below u.heap.size u wr))
    case atStart=>exact ⟨rfl,rfl,vG _ _⟩
    case round=>
     obtain ⟨rfl,-,Wr⟩:=hrel
     have B0:Below u.heap.size u wr:=Wr.o
     go_wp2_with fail
     refine wp_region_quiet_grown zo zo ?_
     repeat (go_big_quiet_step (fail))
     refine wpQuiet_nil ?_
     intro _ hw'
     obtain ⟨⟨nq,osq⟩,hw''⟩:=hw'
     change _=grow (wr.drewN nq) osq at hw''
     subst hw''
     have W0:Aside (Below u.heap.size u (grow (wr.drewN nq) osq)):=B0.trans ((aJ ⟨nq,osq,rfl⟩).mono B0.size)
     generalize grow (wr.drewN nq) osq=u1 at W0 |-
     clear B0 Wr
     obtain ⟨f0,f1,f2,f3,f4,f5,f6,f7⟩:=E8.o.later W0.o
     go_wp2_with (at_builtin;refine wpList_append_own _ rfl _ _ 25 rfl u.heap.size 61 i0 _ 8 80 underlying25 hi hz0 hz1 hz2 rfl zj _ _ _ rfl (uf (u1.alloc _) _ _ _) ⟨u1.heap.size,0,none⟩ 1 1 [.int .i64 t,.int .i64 b,.int .i64 m,.int .u8 (kd:Int),.int .i64 node,.int .i64 other,.string name,.string value] rfl ?qb1 ?qb2 ?qb3 ?qb4 ?qb5 ?qb6 ?_)
     case qb1=>rfl
     case qb2=>exact eF u1 _ rfl
     case qb3=>exact fL ((t,b,m,kd,node,other,name,value),0)
     case qb4=>simp only [maxLen];omega
     case qb5=>omega
     case qb6=>have:=W0.o.size;simp;omega
     intro v2 u2 hown hgrow hnil
     clear f0 f1 f2 f3 f4 f5 f6 f7
     have W2:Aside (Below u.heap.size u u2):=(W0.o.alloc W0.o.size _).grown hgrow (by have:=W0.o.size;simp;omega) zN
     have O2:Aside (u2.ownsRow u.heap.size 61 8 v2 1 (bq (t,b,m,kd,node,other,name,value))):=hown
     clear hown hgrow hnil W0
     have R3:Aside (InsOf xs (i+1) [xs[i]!]/\OutAt u2 v2 [xs[i]!]/\Below w.heap.size w u2):=by
      refine ⟨?_,?_,?_⟩
      ·exact kk7
      ·rw [HX.o]
       exact no O2.o rfl xA
      exact zi A.o.2.2 W2.o
     obtain ⟨g2,c2,rfl,hc2⟩:∃g2 c2,v2= .slice (some ⟨g2,0,none⟩) 1 c2/\1<=c2:=by
      rcases O2.o.2 with ⟨_,h⟩ | ⟨g2,c2,_,h,_,_,hr,_⟩
      ·exact absurd h zj
      exact ⟨g2,c2,h,hr⟩
     clear O2 W2
     go_wp2
     go_roundg (xs.length - (i+1))
     case measure=>omega
     case rel=>exact ⟨i+1,_,_,rfl,zw,zj,vB _,R3⟩
   have HG0:Aside (∀j v,(cellsOf ys)[j]? =some v->u.cell? ⟨g,o+j,none⟩=some v):=hg
   clear hg
   have hyl:ys.length<=1000:=by rw [HL.o];omega
   go_wp2
   go_loopg [5] ys.length (fun ky s5 wr=>∃(k:Nat),s5= .int .i64 (k:Int)/\k<=ys.length/\k<=ky/\Aside ((∀p,k<=p->p<ys.length->ltX xs[i]! ys[p]! =true)/\Below u.heap.size u wr))
   case atStart=>exact ⟨ys.length,rfl,vB _,vB _,⟨fun p h1 h2=>zj,vG _ _⟩⟩
   case round=>
    obtain ⟨k,rfl,hk,hky,K0⟩:=hrel
    rcases Zs k with hk0 | hk0
    ·subst hk0
     go_wp2_with fail
     refine wp_region_quiet_grown zo zo ?_
     repeat (go_big_quiet_step (fail))
     refine wpQuiet_nil ?_
     intro _ hw'
     obtain ⟨⟨nq,osq⟩,hw''⟩:=hw'
     change _=grow (wr.drewN nq) osq at hw''
     subst hw''
     have K:Aside ((∀p,0<=p->p<ys.length->ltX xs[i]! ys[p]! =true)/\Below u.heap.size u (grow (wr.drewN nq) osq)):=⟨K0.o.1,K0.o.2.trans ((aJ ⟨nq,osq,rfl⟩).mono K0.o.2.size)⟩
     clear K0
     generalize grow (wr.drewN nq) osq=u0 at K |-
     obtain ⟨uo,huo⟩:=zc u
     subst huo
     obtain ⟨u,hu⟩:=zc u0
     subst hu
     have E8o:=E8
     clear E8
     have E8:Aside (Eight u blk (off+i*8) t b m kd node other name value):=E8o.o.later K.o.2
     have HG:Aside (∀j v,(cellsOf ys)[j]? =some v->u.cell? ⟨g,o+j,none⟩=some v):=fun j v hj=>aT K.o.2 (HG0.o j v hj)
     clear E8o HG0
     have dk0:(0:Int)<=(0:Int):=zj
     have dk1:(0:Int)<=(c:Int):=zj
     have dk2:(0:Int)<=(ys.length:Int):=zj
     have ek:((0:Int)).toNat=0:=zj
     have hkl:(ys.take (0)).length=0:=yw
     have hdl:(ys.drop (0)).length=ys.length - (0):=ur
     have HK:Aside ((ys.take (0)).length=0/\(ys.drop (0)).length=ys.length - (0)):=⟨hkl,hdl⟩
     clear hkl hdl
     go_wp2_with (at_builtin;refine wpList_append_own _ rfl _ _ 25 rfl u.heap.size 61 i0 _ 8 80 underlying25 hi hz0 hz1 hz2 rfl zj _ _ _ rfl (uf u _ _ _) ⟨g,o,none⟩ (0) c (cellsOf (ys.take (0))) rfl ?qa1 ?qa2 ?qa3 ?qa4 ?qa5 ?qa6 ?_)
     case qa1=>rw [aD,HK.o.1]
     case qa2=>exact gY (0) HG.o
     case qa3=>exact bJ _
     case qa4=>rw [vQ];simp only [maxLen];omega
     case qa5=>rw [vQ];omega
     case qa6=>exact vB _
     intro v1 u1 hown hgrow hnil
     clear hnil
     have B1:Below u.heap.size u u1:=(vG _ u).grown hgrow zg zN
     have hown1:u1.ownsRow u.heap.size 61 8 v1 (0) (cellsOf (ys.take (0))):=qv
     have O1:Aside (u1.ownsRow u.heap.size 61 8 v1 (0) (cellsOf (ys.take (0)))):=hown1
     have W1:Aside (Below u.heap.size u u1):=B1
     obtain ⟨f0,f1,f2,f3,f4,f5,f6,f7⟩:=E8.o.later B1
     clear hown hown1 hgrow B1
     go_wp2_with (at_builtin;refine wpList_append_own _ rfl _ _ 25 rfl u.heap.size 61 i0 _ 8 80 underlying25 hi hz0 hz1 hz2 rfl zj _ _ _ rfl (O1.o.alloc _) ⟨u1.heap.size,0,none⟩ 1 1 [.int .i64 t,.int .i64 b,.int .i64 m,.int .u8 (kd:Int),.int .i64 node,.int .i64 other,.string name,.string value] rfl ?qb1 ?qb2 ?qb3 ?qb4 ?qb5 ?qb6 ?_)
     case qb1=>rfl
     case qb2=>exact eF u1 _ rfl
     case qb3=>exact fL ((t,b,m,kd,node,other,name,value),0)
     case qb4=>simp only [maxLen];omega
     case qb5=>omega
     case qb6=>have:=W1.o.size;simp;omega
     intro v2 u2 hown hgrow hnil
     clear hnil f0 f1 f2 f3 f4 f5 f6 f7
     have W2:Aside (Below u.heap.size u u2):=(W1.o.alloc W1.o.size _).grown hgrow ql (fun k hk=>(O1.o.lt k hk).1)
     have O2:Aside (u2.ownsRow u.heap.size 61 8 v2 (0+1) (cellsOf (ys.take (0))++bq (t,b,m,kd,node,other,name,value))):=hown
     clear hown hgrow O1 W1
     go_wp2_with (at_builtin;refine wpList_append_own _ rfl _ _ 25 rfl u.heap.size 61 i0 _ 8 80 underlying25 hi hz0 hz1 hz2 rfl zj _ _ _ rfl O2.o ⟨g,o+(0)*8,none⟩ (ys.length - (0)) (c - (0)) (cellsOf (ys.drop (0))) rfl ?qd1 ?qd2 ?qd3 ?qd4 ?qd5 ?qd6 ?_)
     case qd1=>rw [aD,HK.o.2]
     case qd2=>exact gJ (0) zj (fun j v hj=>aT W2.o (HG.o j v hj))
     case qd3=>exact bJ _
     case qd4=>simp only [maxLen];omega
     case qd5=>omega
     case qd6=>exact W2.o.size
     intro v3 u3 hown hgrow hnil
     clear hnil
     have R3:Aside (InsOf xs (i+1) (ys.take (0)++xs[i]! ::ys.drop (0))/\OutAt u3 v3 (ys.take (0)++xs[i]! ::ys.drop (0))/\Below w.heap.size w u3):=by
      refine ⟨A.o.1.next hlt zj ?_ ?_,?_,?_⟩
      ·intro h0
       omega
      ·exact K.o.1
      ·exact kd0
      exact ke6
     clear hown hgrow O2 W2 HK
     go_wp2
     go_roundg (xs.length - (i+1))
     case measure=>omega
     case rel=>exact ⟨i+1,_,_,rfl,zw,zj,vB _,R3⟩
    obtain ⟨q,hkq⟩:∃q,k=q+1:=⟨k - 1,zj⟩
    obtain ⟨s0,s1⟩:=AM (fun j v hj=>aT K0.o.2 (HG0.o j v hj)) q zj
    obtain ⟨t',b',hy1,hy2⟩:∃t' b',(ys[q]!).1=t'/\(ys[q]!).2.1=b':=⟨_,_,rfl,rfl⟩
    rw [hy1] at s0
    rw [hy2] at s1
    have f0:=cN (E8.o.later K0.o.2).c0
    have f1:=cN (E8.o.later K0.o.2).c1
    have r0:=cN s0
    have r1:=cN s1
    have eq1:((k:Int) - 1)=(q:Int):=zj
    have hqy:q<ys.length:=zj
    have HKQ:=Lib.hid hkq
    clear hkq
    have ezz:((q:Int)).toNat=q:=zj
    have pz:(0:Int)<=(q:Int):=zj
    have bz:(q:Int)<(ys.length:Int):=zj
    have hgt:decide ((0:Int)<(k:Int))=true:=decide_eq_true zj
    clear s0 s1
    cases hz:ltX xs[i]! ys[q]! with
    | true=>
     have hz':bM t b t' b'=true:=yO
     have HZ:=Lib.hid hz'
     have K1:Aside (∀p,q<=p->p<ys.length->ltX xs[i]! ys[p]! =true):=fun p h1 h2=>by
      rcases Nat.eq_or_lt_of_le h1 with e | e
      ·rw [<-e];exact hz
      exact K0.o.1 p (by rw [HKQ.o];omega) h2
     clear hz hz' hy1 hy2
     go_wp2_with fail
     refine wp_region_quiet_grown zo zo ?_
     repeat (go_big_quiet_step (first | (go_at_call 27;refine Calls.grown_of (fj _ _ _ _ true _ HZ.o))))
     refine wpQuiet_nil ?_
     intro _ hw'
     obtain ⟨⟨nq,osq⟩,hw''⟩:=hw'
     change _=grow (wr.drewN nq) osq at hw''
     subst hw''
     have K:Aside ((∀p,q<=p->p<ys.length->ltX xs[i]! ys[p]! =true)/\Below u.heap.size u (grow (wr.drewN nq) osq)):=⟨K1.o,K0.o.2.trans ((aJ ⟨nq,osq,rfl⟩).mono K0.o.2.size)⟩
     clear K0 K1 f0 f1 r0 r1
     generalize grow (wr.drewN nq) osq=u0 at K |-
     go_wp2
     go_roundg q
     case measure=>rw [HKQ.o] at hky;omega
     case rel=>exact ⟨q,zw,zj,vB _,K⟩
    | false=>
     have hz':bM t b t' b'=false:=yO
     have HZ:=Lib.hid hz'
     have HF:=Lib.hid hz
     clear hz hz' hy1 hy2
     go_wp2_with fail
     refine wp_region_quiet_grown zo zo ?_
     repeat (go_big_quiet_step (first | (go_at_call 27;refine Calls.grown_of (fj _ _ _ _ false _ HZ.o))))
     refine wpQuiet_nil ?_
     intro _ hw'
     obtain ⟨⟨nq,osq⟩,hw''⟩:=hw'
     change _=grow (wr.drewN nq) osq at hw''
     subst hw''
     have K:Aside ((∀p,k<=p->p<ys.length->ltX xs[i]! ys[p]! =true)/\Below u.heap.size u (grow (wr.drewN nq) osq)):=⟨K0.o.1,K0.o.2.trans ((aJ ⟨nq,osq,rfl⟩).mono K0.o.2.size)⟩
     clear K0 f0 f1 r0 r1 eq1 ezz pz bz hgt hqy
     generalize grow (wr.drewN nq) osq=u0 at K |-
     obtain ⟨uo,huo⟩:=zc u
     subst huo
     obtain ⟨u,hu⟩:=zc u0
     subst hu
     have E8o:=E8
     clear E8
     have E8:Aside (Eight u blk (off+i*8) t b m kd node other name value):=E8o.o.later K.o.2
     have HG:Aside (∀j v,(cellsOf ys)[j]? =some v->u.cell? ⟨g,o+j,none⟩=some v):=fun j v hj=>aT K.o.2 (HG0.o j v hj)
     clear E8o HG0
     have dk0:(0:Int)<=(k:Int):=zj
     have dk1:(k:Int)<=(c:Int):=zj
     have dk2:(k:Int)<=(ys.length:Int):=zj
     have ek:((k:Int)).toNat=k:=zj
     have hkl:(ys.take (k)).length=k:=yw
     have hdl:(ys.drop (k)).length=ys.length - (k):=ur
     have HK:Aside ((ys.take (k)).length=k/\(ys.drop (k)).length=ys.length - (k)):=⟨hkl,hdl⟩
     clear hkl hdl
     go_wp2_with (at_builtin;refine wpList_append_own _ rfl _ _ 25 rfl u.heap.size 61 i0 _ 8 80 underlying25 hi hz0 hz1 hz2 rfl zj _ _ _ rfl (uf u _ _ _) ⟨g,o,none⟩ (k) c (cellsOf (ys.take (k))) rfl ?qa1 ?qa2 ?qa3 ?qa4 ?qa5 ?qa6 ?_)
     case qa1=>rw [aD,HK.o.1]
     case qa2=>exact gY (k) HG.o
     case qa3=>exact bJ _
     case qa4=>rw [vQ];simp only [maxLen];omega
     case qa5=>rw [vQ];omega
     case qa6=>exact vB _
     intro v1 u1 hown hgrow hnil
     clear hnil
     have B1:Below u.heap.size u u1:=(vG _ u).grown hgrow zg zN
     have hown1:u1.ownsRow u.heap.size 61 8 v1 (k) (cellsOf (ys.take (k))):=qv
     have O1:Aside (u1.ownsRow u.heap.size 61 8 v1 (k) (cellsOf (ys.take (k)))):=hown1
     have W1:Aside (Below u.heap.size u u1):=B1
     obtain ⟨f0,f1,f2,f3,f4,f5,f6,f7⟩:=E8.o.later B1
     clear hown hown1 hgrow B1
     go_wp2_with (at_builtin;refine wpList_append_own _ rfl _ _ 25 rfl u.heap.size 61 i0 _ 8 80 underlying25 hi hz0 hz1 hz2 rfl zj _ _ _ rfl (O1.o.alloc _) ⟨u1.heap.size,0,none⟩ 1 1 [.int .i64 t,.int .i64 b,.int .i64 m,.int .u8 (kd:Int),.int .i64 node,.int .i64 other,.string name,.string value] rfl ?qb1 ?qb2 ?qb3 ?qb4 ?qb5 ?qb6 ?_)
     case qb1=>rfl
     case qb2=>exact eF u1 _ rfl
     case qb3=>exact fL ((t,b,m,kd,node,other,name,value),0)
     case qb4=>simp only [maxLen];omega
     case qb5=>omega
     case qb6=>have:=W1.o.size;simp;omega
     intro v2 u2 hown hgrow hnil
     clear hnil f0 f1 f2 f3 f4 f5 f6 f7
     have W2:Aside (Below u.heap.size u u2):=(W1.o.alloc W1.o.size _).grown hgrow ql (fun k hk=>(O1.o.lt k hk).1)
     have O2:Aside (u2.ownsRow u.heap.size 61 8 v2 (k+1) (cellsOf (ys.take (k))++bq (t,b,m,kd,node,other,name,value))):=hown
     clear hown hgrow O1 W1
     by_cases hkc:k=c
     ·subst hkc
      go_wp2_with (at_builtin;refine wpList_append_own _ rfl _ _ 25 rfl u.heap.size 61 i0 _ 8 80 underlying25 hi hz0 hz1 hz2 rfl zj _ _ _ rfl O2.o ⟨g,o,none⟩ 0 0 [] rfl ?qd1 ?qd2 ?qd3 ?qd4 ?qd5 ?qd6 ?_)
      case qd1=>rfl
      case qd2=>intro j v hj;simp at hj
      case qd3=>intro v hv;cases hv
      case qd4=>simp only [maxLen];omega
      case qd5=>omega
      case qd6=>exact W2.o.size
      intro v3 u3 hown hgrow hnil
      clear hnil
      have R3:Aside (InsOf xs (i+1) (ys.take (k)++xs[i]! ::ys.drop (k))/\OutAt u3 v3 (ys.take (k)++xs[i]! ::ys.drop (k))/\Below w.heap.size w u3):=by
       refine ⟨A.o.1.next hlt zj ?_ ?_,?_,?_⟩
       ·exact ki0
       ·exact K.o.1
       ·exact kg3
       exact ke6
      clear hown hgrow O2 W2 HK
      go_wp2
      go_roundg (xs.length - (i+1))
      case measure=>omega
      case rel=>exact ⟨i+1,_,_,rfl,zw,zj,vB _,R3⟩
     have hne:¬c=k:=fun h=>hkc h.symm
     go_wp2_with (at_builtin;refine wpList_append_own _ rfl _ _ 25 rfl u.heap.size 61 i0 _ 8 80 underlying25 hi hz0 hz1 hz2 rfl zj _ _ _ rfl O2.o ⟨g,o+(k)*8,none⟩ (ys.length - (k)) (c - (k)) (cellsOf (ys.drop (k))) rfl ?qd1 ?qd2 ?qd3 ?qd4 ?qd5 ?qd6 ?_)
     case qd1=>rw [aD,HK.o.2]
     case qd2=>exact gJ (k) zj (fun j v hj=>aT W2.o (HG.o j v hj))
     case qd3=>exact bJ _
     case qd4=>simp only [maxLen];omega
     case qd5=>omega
     case qd6=>exact W2.o.size
     intro v3 u3 hown hgrow hnil
     clear hnil
     have R3:Aside (InsOf xs (i+1) (ys.take (k)++xs[i]! ::ys.drop (k))/\OutAt u3 v3 (ys.take (k)++xs[i]! ::ys.drop (k))/\Below w.heap.size w u3):=by
      refine ⟨A.o.1.next hlt zj ?_ ?_,?_,?_⟩
      ·exact ki0
      ·exact K.o.1
      ·exact kd0
      exact ke6
     clear hown hgrow O2 W2 HK
     go_wp2
     go_roundg (xs.length - (i+1))
     case measure=>omega
     case rel=>exact ⟨i+1,_,_,rfl,zw,zj,vB _,R3⟩
  have hltz:decide ((i:Int)<(xs.length:Int))=false:=zq
  have R:Aside (OpsAt wr ov ys/\cY xs ys/\Below w.heap.size w wr):=by
   exact ko3
  clear A
  go_wp2
  go_ret
  exact ⟨_,ys,rfl,R.o⟩
theorem kN (w:World) (v:Value) (xs:List OpX) (h:OpsAt w v xs) (hn:xs.length<=1000):
  Calls prog 29 #[v] w fun e w'=>∃v' ys,e= .returned v'/\OpsAt w' v' ys/\cY xs ys/\Below w.heap.size w w':=by
 rcases h with ⟨rfl,rfl⟩ | ⟨blk,off,cap,rfl,hc⟩
 ·refine (iZ none 0 w).mono ?_
  rintro e w' ⟨rfl,rfl⟩
  exact ⟨_,[],rfl,.inl ⟨rfl,rfl⟩,(InsOf.zero []).all,vG _ _⟩
 exact oW w blk off cap xs hc hn
end
section
open Go.Shelf Go.RowKit Go.Lib Go.Sort
def JE (w:World) (v:Value):Prop:=∀g o n c,v= .slice (some ⟨g,o,none⟩) n c->w.heap.size<=g
theorem DM {w:World} {base n k:Nat} {e:TypeId} {v:Value} {cs:List Value} (h:w.ownsRow base e k v n cs) {g o m c:Nat} (hv:v= .slice (some ⟨g,o,none⟩) m c):base<=g:=by
 rcases h.2 with ⟨h1,_⟩ | ⟨g',cap,cur,h1,h2,_⟩
 ·rw [hv] at h1;cases h1
 rw [hv] at h1;cases h1;exact h2
theorem mj (w:World) (blk off cap:Nat) (xs:List OpX) (hc:∀j u,(cellsOf xs)[j]? =some u->w.cell? ⟨blk,off+j,none⟩=some u) (hn:xs.length<=1000):
  Calls prog 29 #[.slice (some ⟨blk,off,none⟩) xs.length cap] w fun e w'=>∃v' ys,e= .returned v'/\OpsAt w' v' ys/\cY xs ys/\Below w.heap.size w w'/\JE w v':=by
 obtain ⟨i0,hi,hz0,hz1,hz2⟩:=info_parts fw
 have HC:Aside (∀j u,(cellsOf xs)[j]? =some u->w.cell? ⟨blk,off+j,none⟩=some u):=hc
 clear hc
 go_enter func29,ntmps29
 go_wp2
 go_loopg [3,4] xs.length (fun kx s3 s4 wr=>∃(i:Nat) (ys:List OpX) (ov:Value),ov=s3/\s4= .int .i64 (i:Int)/\i<=xs.length/\xs.length - i<=kx/\Aside (InsOf xs i ys/\OutAt wr ov ys/\(Below w.heap.size w wr/\JE w ov)))
 case atStart=>exact ⟨0,[],_,rfl,rfl,vM _,vB _,⟨InsOf.zero xs,.inl ⟨rfl,rfl⟩,vG _ _,fun g o n c e=>yE⟩⟩
 case round=>
  obtain ⟨i,ys,ov,rfl,rfl,hix,hkx,A⟩:=hrel
  by_cases hlt:i<xs.length
  ·have hltz:decide ((i:Int)<(xs.length:Int))=true:=by simp;omega
   have ex:((i:Int)).toNat=i:=zj
   have px:(0:Int)<=(i:Int):=zj
   have bx:(i:Int)<(xs.length:Int):=zj
   obtain ⟨u,hu⟩:=zc wr
   subst hu
   obtain ⟨⟨t,b,m,kd,node,other,name,value⟩,hx⟩:∃x,xs[i]! =x:=⟨_,rfl⟩
   have HX:=Lib.hid hx
   have E8:Aside (Eight u blk (off+i*8) t b m kd node other name value):=iB (fun j v hj=>aT A.o.2.2.1 (HC.o j v hj)) i hlt hx
   clear hx
   have HL:Aside (ys.length=i):=A.o.1.len zj
   rcases A.o.2.1 with ⟨rfl,rfl⟩ | ⟨g,o,c,rfl,hcap,hg⟩
   ·go_wp2
    go_loopg [5] 1 (fun ky s5 wr=>s5= .int .i64 0/\ky=ky/\Aside (Below u.heap.size u wr))
    case atStart=>exact ⟨rfl,rfl,vG _ _⟩
    case round=>
     obtain ⟨rfl,-,Wr⟩:=hrel
     have B0:Below u.heap.size u wr:=Wr.o
     go_wp2_with fail
     refine wp_region_quiet_grown zo zo ?_
     repeat (go_big_quiet_step (fail))
     refine wpQuiet_nil ?_
     intro _ hw'
     obtain ⟨⟨nq,osq⟩,hw''⟩:=hw'
     change _=grow (wr.drewN nq) osq at hw''
     subst hw''
     have W0:Aside (Below u.heap.size u (grow (wr.drewN nq) osq)):=B0.trans ((aJ ⟨nq,osq,rfl⟩).mono B0.size)
     generalize grow (wr.drewN nq) osq=u1 at W0 |-
     clear B0 Wr
     obtain ⟨f0,f1,f2,f3,f4,f5,f6,f7⟩:=E8.o.later W0.o
     go_wp2_with (at_builtin;refine wpList_append_own _ rfl _ _ 25 rfl u.heap.size 61 i0 _ 8 80 underlying25 hi hz0 hz1 hz2 rfl zj _ _ _ rfl (uf (u1.alloc _) _ _ _) ⟨u1.heap.size,0,none⟩ 1 1 [.int .i64 t,.int .i64 b,.int .i64 m,.int .u8 (kd:Int),.int .i64 node,.int .i64 other,.string name,.string value] rfl ?qb1 ?qb2 ?qb3 ?qb4 ?qb5 ?qb6 ?_)
     case qb1=>rfl
     case qb2=>exact eF u1 _ rfl
     case qb3=>exact fL ((t,b,m,kd,node,other,name,value),0)
     case qb4=>simp only [maxLen];omega
     case qb5=>omega
     case qb6=>have:=W0.o.size;simp;omega
     intro v2 u2 hown hgrow hnil
     clear f0 f1 f2 f3 f4 f5 f6 f7
     have W2:Aside (Below u.heap.size u u2):=(W0.o.alloc W0.o.size _).grown hgrow (by have:=W0.o.size;simp;omega) zN
     have O2:Aside (u2.ownsRow u.heap.size 61 8 v2 1 (bq (t,b,m,kd,node,other,name,value))):=hown
     clear hown hgrow hnil W0
     have R3:Aside (InsOf xs (i+1) [xs[i]!]/\OutAt u2 v2 [xs[i]!]/\(Below w.heap.size w u2/\JE w v2)):=by
      refine ⟨?_,?_,?_⟩
      ·exact kk7
      ·rw [HX.o]
       exact no O2.o rfl xA
      exact ⟨zi A.o.2.2.1 W2.o,fun g o n c e=>by have:=DM O2.o e;have:=A.o.2.2.1.size;omega⟩
     obtain ⟨g2,c2,rfl,hc2⟩:∃g2 c2,v2= .slice (some ⟨g2,0,none⟩) 1 c2/\1<=c2:=by
      rcases O2.o.2 with ⟨_,h⟩ | ⟨g2,c2,_,h,_,_,hr,_⟩
      ·exact absurd h zj
      exact ⟨g2,c2,h,hr⟩
     clear O2 W2
     go_wp2
     go_roundg (xs.length - (i+1))
     case measure=>omega
     case rel=>exact ⟨i+1,_,_,rfl,zw,zj,vB _,R3⟩
   have HG0:Aside (∀j v,(cellsOf ys)[j]? =some v->u.cell? ⟨g,o+j,none⟩=some v):=hg
   clear hg
   have hyl:ys.length<=1000:=by rw [HL.o];omega
   go_wp2
   go_loopg [5] ys.length (fun ky s5 wr=>∃(k:Nat),s5= .int .i64 (k:Int)/\k<=ys.length/\k<=ky/\Aside ((∀p,k<=p->p<ys.length->ltX xs[i]! ys[p]! =true)/\Below u.heap.size u wr))
   case atStart=>exact ⟨ys.length,rfl,vB _,vB _,⟨fun p h1 h2=>zj,vG _ _⟩⟩
   case round=>
    obtain ⟨k,rfl,hk,hky,K0⟩:=hrel
    rcases Zs k with hk0 | hk0
    ·subst hk0
     go_wp2_with fail
     refine wp_region_quiet_grown zo zo ?_
     repeat (go_big_quiet_step (fail))
     refine wpQuiet_nil ?_
     intro _ hw'
     obtain ⟨⟨nq,osq⟩,hw''⟩:=hw'
     change _=grow (wr.drewN nq) osq at hw''
     subst hw''
     have K:Aside ((∀p,0<=p->p<ys.length->ltX xs[i]! ys[p]! =true)/\Below u.heap.size u (grow (wr.drewN nq) osq)):=⟨K0.o.1,K0.o.2.trans ((aJ ⟨nq,osq,rfl⟩).mono K0.o.2.size)⟩
     clear K0
     generalize grow (wr.drewN nq) osq=u0 at K |-
     obtain ⟨uo,huo⟩:=zc u
     subst huo
     obtain ⟨u,hu⟩:=zc u0
     subst hu
     have E8o:=E8
     clear E8
     have E8:Aside (Eight u blk (off+i*8) t b m kd node other name value):=E8o.o.later K.o.2
     have HG:Aside (∀j v,(cellsOf ys)[j]? =some v->u.cell? ⟨g,o+j,none⟩=some v):=fun j v hj=>aT K.o.2 (HG0.o j v hj)
     clear E8o HG0
     have dk0:(0:Int)<=(0:Int):=zj
     have dk1:(0:Int)<=(c:Int):=zj
     have dk2:(0:Int)<=(ys.length:Int):=zj
     have ek:((0:Int)).toNat=0:=zj
     have hkl:(ys.take (0)).length=0:=yw
     have hdl:(ys.drop (0)).length=ys.length - (0):=ur
     have HK:Aside ((ys.take (0)).length=0/\(ys.drop (0)).length=ys.length - (0)):=⟨hkl,hdl⟩
     clear hkl hdl
     go_wp2_with (at_builtin;refine wpList_append_own _ rfl _ _ 25 rfl u.heap.size 61 i0 _ 8 80 underlying25 hi hz0 hz1 hz2 rfl zj _ _ _ rfl (uf u _ _ _) ⟨g,o,none⟩ (0) c (cellsOf (ys.take (0))) rfl ?qa1 ?qa2 ?qa3 ?qa4 ?qa5 ?qa6 ?_)
     case qa1=>rw [aD,HK.o.1]
     case qa2=>exact gY (0) HG.o
     case qa3=>exact bJ _
     case qa4=>rw [vQ];simp only [maxLen];omega
     case qa5=>rw [vQ];omega
     case qa6=>exact vB _
     intro v1 u1 hown hgrow hnil
     clear hnil
     have B1:Below u.heap.size u u1:=(vG _ u).grown hgrow zg zN
     have hown1:u1.ownsRow u.heap.size 61 8 v1 (0) (cellsOf (ys.take (0))):=qv
     have O1:Aside (u1.ownsRow u.heap.size 61 8 v1 (0) (cellsOf (ys.take (0)))):=hown1
     have W1:Aside (Below u.heap.size u u1):=B1
     obtain ⟨f0,f1,f2,f3,f4,f5,f6,f7⟩:=E8.o.later B1
     clear hown hown1 hgrow B1
     go_wp2_with (at_builtin;refine wpList_append_own _ rfl _ _ 25 rfl u.heap.size 61 i0 _ 8 80 underlying25 hi hz0 hz1 hz2 rfl zj _ _ _ rfl (O1.o.alloc _) ⟨u1.heap.size,0,none⟩ 1 1 [.int .i64 t,.int .i64 b,.int .i64 m,.int .u8 (kd:Int),.int .i64 node,.int .i64 other,.string name,.string value] rfl ?qb1 ?qb2 ?qb3 ?qb4 ?qb5 ?qb6 ?_)
     case qb1=>rfl
     case qb2=>exact eF u1 _ rfl
     case qb3=>exact fL ((t,b,m,kd,node,other,name,value),0)
     case qb4=>simp only [maxLen];omega
     case qb5=>omega
     case qb6=>have:=W1.o.size;simp;omega
     intro v2 u2 hown hgrow hnil
     clear hnil f0 f1 f2 f3 f4 f5 f6 f7
     have W2:Aside (Below u.heap.size u u2):=(W1.o.alloc W1.o.size _).grown hgrow ql (fun k hk=>(O1.o.lt k hk).1)
     have O2:Aside (u2.ownsRow u.heap.size 61 8 v2 (0+1) (cellsOf (ys.take (0))++bq (t,b,m,kd,node,other,name,value))):=hown
     clear hown hgrow O1 W1
     go_wp2_with (at_builtin;refine wpList_append_own _ rfl _ _ 25 rfl u.heap.size 61 i0 _ 8 80 underlying25 hi hz0 hz1 hz2 rfl zj _ _ _ rfl O2.o ⟨g,o+(0)*8,none⟩ (ys.length - (0)) (c - (0)) (cellsOf (ys.drop (0))) rfl ?qd1 ?qd2 ?qd3 ?qd4 ?qd5 ?qd6 ?_)
     case qd1=>rw [aD,HK.o.2]
     case qd2=>exact gJ (0) zj (fun j v hj=>aT W2.o (HG.o j v hj))
     case qd3=>exact bJ _
     case qd4=>simp only [maxLen];omega
     case qd5=>omega
     case qd6=>exact W2.o.size
     intro v3 u3 hown hgrow hnil
     clear hnil
     have R3:Aside (InsOf xs (i+1) (ys.take (0)++xs[i]! ::ys.drop (0))/\OutAt u3 v3 (ys.take (0)++xs[i]! ::ys.drop (0))/\(Below w.heap.size w u3/\JE w v3)):=by
      refine ⟨A.o.1.next hlt zj ?_ ?_,?_,?_⟩
      ·intro h0
       omega
      ·exact K.o.1
      ·exact kd0
      exact kd2
     clear hown hgrow O2 W2 HK
     go_wp2
     go_roundg (xs.length - (i+1))
     case measure=>omega
     case rel=>exact ⟨i+1,_,_,rfl,zw,zj,vB _,R3⟩
    obtain ⟨q,hkq⟩:∃q,k=q+1:=⟨k - 1,zj⟩
    obtain ⟨s0,s1⟩:=AM (fun j v hj=>aT K0.o.2 (HG0.o j v hj)) q zj
    obtain ⟨t',b',hy1,hy2⟩:∃t' b',(ys[q]!).1=t'/\(ys[q]!).2.1=b':=⟨_,_,rfl,rfl⟩
    rw [hy1] at s0
    rw [hy2] at s1
    have f0:=cN (E8.o.later K0.o.2).c0
    have f1:=cN (E8.o.later K0.o.2).c1
    have r0:=cN s0
    have r1:=cN s1
    have eq1:((k:Int) - 1)=(q:Int):=zj
    have hqy:q<ys.length:=zj
    have HKQ:=Lib.hid hkq
    clear hkq
    have ezz:((q:Int)).toNat=q:=zj
    have pz:(0:Int)<=(q:Int):=zj
    have bz:(q:Int)<(ys.length:Int):=zj
    have hgt:decide ((0:Int)<(k:Int))=true:=decide_eq_true zj
    clear s0 s1
    cases hz:ltX xs[i]! ys[q]! with
    | true=>
     have hz':bM t b t' b'=true:=yO
     have HZ:=Lib.hid hz'
     have K1:Aside (∀p,q<=p->p<ys.length->ltX xs[i]! ys[p]! =true):=fun p h1 h2=>by
      rcases Nat.eq_or_lt_of_le h1 with e | e
      ·rw [<-e];exact hz
      exact K0.o.1 p (by rw [HKQ.o];omega) h2
     clear hz hz' hy1 hy2
     go_wp2_with fail
     refine wp_region_quiet_grown zo zo ?_
     repeat (go_big_quiet_step (first | (go_at_call 27;refine Calls.grown_of (fj _ _ _ _ true _ HZ.o))))
     refine wpQuiet_nil ?_
     intro _ hw'
     obtain ⟨⟨nq,osq⟩,hw''⟩:=hw'
     change _=grow (wr.drewN nq) osq at hw''
     subst hw''
     have K:Aside ((∀p,q<=p->p<ys.length->ltX xs[i]! ys[p]! =true)/\Below u.heap.size u (grow (wr.drewN nq) osq)):=⟨K1.o,K0.o.2.trans ((aJ ⟨nq,osq,rfl⟩).mono K0.o.2.size)⟩
     clear K0 K1 f0 f1 r0 r1
     generalize grow (wr.drewN nq) osq=u0 at K |-
     go_wp2
     go_roundg q
     case measure=>rw [HKQ.o] at hky;omega
     case rel=>exact ⟨q,zw,zj,vB _,K⟩
    | false=>
     have hz':bM t b t' b'=false:=yO
     have HZ:=Lib.hid hz'
     have HF:=Lib.hid hz
     clear hz hz' hy1 hy2
     go_wp2_with fail
     refine wp_region_quiet_grown zo zo ?_
     repeat (go_big_quiet_step (first | (go_at_call 27;refine Calls.grown_of (fj _ _ _ _ false _ HZ.o))))
     refine wpQuiet_nil ?_
     intro _ hw'
     obtain ⟨⟨nq,osq⟩,hw''⟩:=hw'
     change _=grow (wr.drewN nq) osq at hw''
     subst hw''
     have K:Aside ((∀p,k<=p->p<ys.length->ltX xs[i]! ys[p]! =true)/\Below u.heap.size u (grow (wr.drewN nq) osq)):=⟨K0.o.1,K0.o.2.trans ((aJ ⟨nq,osq,rfl⟩).mono K0.o.2.size)⟩
     clear K0 f0 f1 r0 r1 eq1 ezz pz bz hgt hqy
     generalize grow (wr.drewN nq) osq=u0 at K |-
     obtain ⟨uo,huo⟩:=zc u
     subst huo
     obtain ⟨u,hu⟩:=zc u0
     subst hu
     have E8o:=E8
     clear E8
     have E8:Aside (Eight u blk (off+i*8) t b m kd node other name value):=E8o.o.later K.o.2
     have HG:Aside (∀j v,(cellsOf ys)[j]? =some v->u.cell? ⟨g,o+j,none⟩=some v):=fun j v hj=>aT K.o.2 (HG0.o j v hj)
     clear E8o HG0
     have dk0:(0:Int)<=(k:Int):=zj
     have dk1:(k:Int)<=(c:Int):=zj
     have dk2:(k:Int)<=(ys.length:Int):=zj
     have ek:((k:Int)).toNat=k:=zj
     have hkl:(ys.take (k)).length=k:=yw
     have hdl:(ys.drop (k)).length=ys.length - (k):=ur
     have HK:Aside ((ys.take (k)).length=k/\(ys.drop (k)).length=ys.length - (k)):=⟨hkl,hdl⟩
     clear hkl hdl
     go_wp2_with (at_builtin;refine wpList_append_own _ rfl _ _ 25 rfl u.heap.size 61 i0 _ 8 80 underlying25 hi hz0 hz1 hz2 rfl zj _ _ _ rfl (uf u _ _ _) ⟨g,o,none⟩ (k) c (cellsOf (ys.take (k))) rfl ?qa1 ?qa2 ?qa3 ?qa4 ?qa5 ?qa6 ?_)
     case qa1=>rw [aD,HK.o.1]
     case qa2=>exact gY (k) HG.o
     case qa3=>exact bJ _
     case qa4=>rw [vQ];simp only [maxLen];omega
     case qa5=>rw [vQ];omega
     case qa6=>exact vB _
     intro v1 u1 hown hgrow hnil
     clear hnil
     have B1:Below u.heap.size u u1:=(vG _ u).grown hgrow zg zN
     have hown1:u1.ownsRow u.heap.size 61 8 v1 (k) (cellsOf (ys.take (k))):=qv
     have O1:Aside (u1.ownsRow u.heap.size 61 8 v1 (k) (cellsOf (ys.take (k)))):=hown1
     have W1:Aside (Below u.heap.size u u1):=B1
     obtain ⟨f0,f1,f2,f3,f4,f5,f6,f7⟩:=E8.o.later B1
     clear hown hown1 hgrow B1
     go_wp2_with (at_builtin;refine wpList_append_own _ rfl _ _ 25 rfl u.heap.size 61 i0 _ 8 80 underlying25 hi hz0 hz1 hz2 rfl zj _ _ _ rfl (O1.o.alloc _) ⟨u1.heap.size,0,none⟩ 1 1 [.int .i64 t,.int .i64 b,.int .i64 m,.int .u8 (kd:Int),.int .i64 node,.int .i64 other,.string name,.string value] rfl ?qb1 ?qb2 ?qb3 ?qb4 ?qb5 ?qb6 ?_)
     case qb1=>rfl
     case qb2=>exact eF u1 _ rfl
     case qb3=>exact fL ((t,b,m,kd,node,other,name,value),0)
     case qb4=>simp only [maxLen];omega
     case qb5=>omega
     case qb6=>have:=W1.o.size;simp;omega
     intro v2 u2 hown hgrow hnil
     clear hnil f0 f1 f2 f3 f4 f5 f6 f7
     have W2:Aside (Below u.heap.size u u2):=(W1.o.alloc W1.o.size _).grown hgrow ql (fun k hk=>(O1.o.lt k hk).1)
     have O2:Aside (u2.ownsRow u.heap.size 61 8 v2 (k+1) (cellsOf (ys.take (k))++bq (t,b,m,kd,node,other,name,value))):=hown
     clear hown hgrow O1 W1
     by_cases hkc:k=c
     ·subst hkc
      go_wp2_with (at_builtin;refine wpList_append_own _ rfl _ _ 25 rfl u.heap.size 61 i0 _ 8 80 underlying25 hi hz0 hz1 hz2 rfl zj _ _ _ rfl O2.o ⟨g,o,none⟩ 0 0 [] rfl ?qd1 ?qd2 ?qd3 ?qd4 ?qd5 ?qd6 ?_)
      case qd1=>rfl
      case qd2=>intro j v hj;simp at hj
      case qd3=>intro v hv;cases hv
      case qd4=>simp only [maxLen];omega
      case qd5=>omega
      case qd6=>exact W2.o.size
      intro v3 u3 hown hgrow hnil
      clear hnil
      have R3:Aside (InsOf xs (i+1) (ys.take (k)++xs[i]! ::ys.drop (k))/\OutAt u3 v3 (ys.take (k)++xs[i]! ::ys.drop (k))/\(Below w.heap.size w u3/\JE w v3)):=by
       refine ⟨A.o.1.next hlt zj ?_ ?_,?_,?_⟩
       ·exact ki0
       ·exact K.o.1
       ·exact kg3
       exact kd2
      clear hown hgrow O2 W2 HK
      go_wp2
      go_roundg (xs.length - (i+1))
      case measure=>omega
      case rel=>exact ⟨i+1,_,_,rfl,zw,zj,vB _,R3⟩
     have hne:¬c=k:=fun h=>hkc h.symm
     go_wp2_with (at_builtin;refine wpList_append_own _ rfl _ _ 25 rfl u.heap.size 61 i0 _ 8 80 underlying25 hi hz0 hz1 hz2 rfl zj _ _ _ rfl O2.o ⟨g,o+(k)*8,none⟩ (ys.length - (k)) (c - (k)) (cellsOf (ys.drop (k))) rfl ?qd1 ?qd2 ?qd3 ?qd4 ?qd5 ?qd6 ?_)
     case qd1=>rw [aD,HK.o.2]
     case qd2=>exact gJ (k) zj (fun j v hj=>aT W2.o (HG.o j v hj))
     case qd3=>exact bJ _
     case qd4=>simp only [maxLen];omega
     case qd5=>omega
     case qd6=>exact W2.o.size
     intro v3 u3 hown hgrow hnil
     clear hnil
     have R3:Aside (InsOf xs (i+1) (ys.take (k)++xs[i]! ::ys.drop (k))/\OutAt u3 v3 (ys.take (k)++xs[i]! ::ys.drop (k))/\(Below w.heap.size w u3/\JE w v3)):=by
      refine ⟨A.o.1.next hlt zj ?_ ?_,?_,?_⟩
      ·exact ki0
      ·exact K.o.1
      ·exact kd0
      exact kd2
     clear hown hgrow O2 W2 HK
     go_wp2
     go_roundg (xs.length - (i+1))
     case measure=>omega
     case rel=>exact ⟨i+1,_,_,rfl,zw,zj,vB _,R3⟩
  have hltz:decide ((i:Int)<(xs.length:Int))=false:=zq
  have R:Aside (OpsAt wr ov ys/\cY xs ys/\Below w.heap.size w wr/\JE w ov):=by
   exact ko3
  clear A
  go_wp2
  go_ret
  exact ⟨_,ys,rfl,R.o⟩
theorem oh (w:World) (v:Value) (xs:List OpX) (h:OpsAt w v xs) (hn:xs.length<=1000):
  Calls prog 29 #[v] w fun e w'=>∃v' ys,e= .returned v'/\OpsAt w' v' ys/\cY xs ys/\Below w.heap.size w w'/\JE w v':=by
 rcases h with ⟨rfl,rfl⟩ | ⟨blk,off,cap,rfl,hc⟩
 ·refine (iZ none 0 w).mono ?_
  rintro e w' ⟨rfl,rfl⟩
  exact ⟨_,[],rfl,.inl ⟨rfl,rfl⟩,(InsOf.zero []).all,vG _ _,fun g o n c e=>yE⟩
 exact mj w blk off cap xs hc hn
end
section
open Go.RowKit Go.Lib Go.Sort
def DeB (w:World):Prop:=w.cell? ⟨16,15,none⟩=some (.int .u8 4)
theorem DeB.later {w w':World} (h:DeB w) (hb:Below w.heap.size w w'):DeB w':=by
 unfold DeB at*
 rw [uc (a:=⟨16,15,none⟩) (hb.block _ (vK w ⟨16,15,none⟩ h))]
 exact h
theorem Gy (v:Nat) (w:World) (hv:v<4294967296) (hz:DeB w):
  Calls prog 343 #[.int .u64 (v:Int),.int .i64 16] w fun e w'=>∃k,(1<=k/\k<=8/\v<16^k)/\e= .returned (.string ⟨(ia k v).toArray⟩)/\Below w.heap.size w w':=by
 have h:=No v w hv hz
 clear hz
 go_enter func343,ntmps343
 exact kg7
theorem GH (v:Nat) (w:World) (hv:v<4294967296) (hz:DeB w):
  Calls prog 321 #[.int .u64 (v:Int),.int .i64 16] w fun e w'=>∃k,(1<=k/\k<=8/\v<16^k)/\e= .returned (.string ⟨(ia k v).toArray⟩)/\Below w.heap.size w w':=by
 have h:=Gy v w hv hz
 clear hz
 go_enter func321,ntmps321
 exact kg7
theorem gB:∀n,Lib.repeatL [48] n=List.replicate n 48
 | 0=>rfl
 | n+1=>by
  show [48]++Lib.repeatL [48] n=_
  rw [gB n]
  rfl
theorem sE (s:ByteArray) (w:World) (hs:s.size<=1000000) (hz:DeB w):
  Calls prog 272 #[.string s] w fun e w'=>e= .returned (.string ⟨(ia 8 (rL s.data.toList)).toArray⟩)/\Below w.heap.size w w':=by
 have hsum:=KB s w hs
 obtain ⟨v,hv⟩:∃v:Nat,Aside (v=rL s.data.toList):=⟨_,rfl⟩
 rw [<-hv.o] at hsum |-
 have hv32:v<4294967296:=by rw [hv.o];exact JV _
 have hcv:IntKind.u64.wrap (v:Int)=(v:Int):=by rw [IntKind.wrap_u64];omega
 have hf:=GH v w hv32 hz
 clear hz
 go_enter func272,ntmps272
 go_wp2_with fail
 refine hsum.mono ?_
 clear hsum
 rintro e w1 ⟨rfl,rfl⟩
 go_wp2_with fail
 refine hf.mono ?_
 clear hf
 rintro e w2 ⟨k,hk,rfl,hb⟩
 obtain ⟨D,hD⟩:∃D:ByteArray,Aside (D=⟨(ia k v).toArray⟩):=⟨_,rfl⟩
 rw [<-hD.o]
 have hDs:D.size=k:=jM
 obtain ⟨m,hm⟩:∃m:Nat,m+k=8:=⟨8 - k,zj⟩
 have hw:IntKind.i64.wrap (8 - (D.size:Int))=(m:Int):=by rw [IntKind.wrap_i64,hDs];omega
 have hr:=Tryz.strings_Repeat ⟨#[48]⟩ m w2 zj (by show 1*m<=_;omega)
 obtain ⟨E,hE,hEs,ha⟩:=bD ⟨(Lib.repeatL [48] m).toArray⟩ D (by rw [hDs,gB];simp [ByteArray.size];omega)
 have HE:Aside (E=⟨(ia 8 v).toArray⟩):=by
  apply DB
  rw [hE,hD.o,<-hm,wd m k v hk.2.2,gB]
 have H:Aside (Below w1.heap.size w1 w2):=hb
 obtain ⟨Z,hZ⟩:∃Z:ByteArray,Aside (Z=⟨(Lib.repeatL [48] m).toArray⟩):=⟨_,rfl⟩
 have hr2:Calls prog 323 #[.string ⟨#[48]⟩,.int .i64 (m:Int)] w2 fun e w'=>e= .returned (.string Z)/\Below w2.heap.size w2 w':=by rw [hZ.o];exact hr
 rw [<-hZ.o] at ha
 clear hE hEs hk hDs hb hr
 go_wp2_with fail
 refine hr2.mono ?_
 clear hr2
 rintro e w3 ⟨rfl,hb3⟩
 have H3:Aside (Below w1.heap.size w1 w3):=zi H.o hb3
 clear hb3
 go_wp2
 go_ret
 exact ⟨by rw [HE.o];rfl,H3.o⟩
theorem Ck (s:ByteArray) (w:World) (hs:s.size<=1000000) (hz:DeB w):
  Calls prog 216 #[.string s] w fun e w'=>∃r:ByteArray,r.data.toList=dP s.data.toList/\e= .returned (.string r)/\Below w.heap.size w w':=by
 have hst:=sE s w hs hz
 obtain ⟨D,hD⟩:∃D:ByteArray,Aside (D=⟨(ia 8 (rL s.data.toList)).toArray⟩):=⟨_,rfl⟩
 rw [<-hD.o] at hst
 have hDs:D.size=8:=jM
 obtain ⟨E1,h1,h1s,a1⟩:=bD s ⟨#[35]⟩ (by show s.size+1<=_;omega)
 have hE1s:E1.size=s.size+1:=h1s
 obtain ⟨E2,h2,h2s,a2⟩:=bD E1 D zj
 obtain ⟨E3,h3,h3s,a3⟩:=bD E2 ⟨#[10]⟩ (by show E2.size+1<=_;omega)
 have HE:Aside (E3.data.toList=dP s.data.toList):=by
  show _=_
  rw [h3,h2,h1,hD.o]
  unfold dP
  simp
 clear h1 h2 h3 h1s h2s h3s hE1s hDs hz
 go_enter func216,ntmps216
 go_wp2_with fail
 refine hst.mono ?_
 clear hst
 rintro e w1 ⟨rfl,hb⟩
 have H:Aside (Below w.heap.size w w1):=hb
 clear hb
 go_wp2
 go_ret
 exact ⟨E3,HE.o,rfl,H.o⟩
end
section
open Go.RowKit Go.Lib Go.Sort Go.Maps
theorem pV (kd n k:Nat) (xs:List Int) (x y:Int) (g o cap:Nat) (w:World) (hkd:kd=0) (hk:k<9223372036854775808) (hl:xs.length<9223372036854775808) (hx:xs[k % xs.length]? =some x) (hy:xs[k / 8 % xs.length]? =some y) (hr:NumsAt w g o xs):
  Calls prog 157 #[.agg #[.int .i64 (kd:Int),.int .i64 (n:Int),.int .i64 (k:Int)],.slice (some ⟨g,o,none⟩) xs.length cap] w fun e w'=>e= .returned (bT (dN kd k x y))/\Below w.heap.size w w':=by
 have HKD:Aside (kd=0):=hkd
 clear hkd
 obtain ⟨SB,hSB⟩:=ze w.heap.size
 obtain ⟨U,hU⟩:=ze ((w.alloc (.cells #[.int .i64 (kd:Int),.int .i64 (n:Int),.int .i64 (k:Int)] 170)).alloc (.cells #[.int .i64 0,.int .i64 0,.int .i64 0,.int .u8 0,.int .i64 0,.int .i64 0,.string ⟨#[]⟩,.string ⟨#[]⟩] 61))
 have hbU:Below w.heap.size w U:=jF
 have BU:StpBlk U SB kd n k:=by rw [hU.o,hSB.o];exact (vP _ _ _ zt).trans (heap_alloc_new w _)
 have ZU:OpBlk U (SB+1) aR:=by
  rw [hU.o,hSB.o]
  have:=OpBlk.new (w.alloc (.cells #[.int .i64 (kd:Int),.int .i64 (n:Int),.int .i64 (k:Int)] 170)) aR
  exact kd4
 have hrU:=hr.later hbU
 have hlen:0<xs.length:=by
  have:=(vA.1 hx).1
  omega
 have cx:=hrU _ _ hx
 have cy:=hrU _ _ hy
 obtain ⟨i1,hi1⟩:=zc (k % xs.length)
 obtain ⟨k8,hk8⟩:=zc (k / 8)
 have l1:i1<xs.length:=by rw [hi1];exact Nat.mod_lt _ hlen
 rw [<-hk8] at cy
 obtain ⟨i2,hi2⟩:=zc (k8 % xs.length)
 have l2:i2<xs.length:=by rw [hi2];exact Nat.mod_lt _ hlen
 have t1:Int.tmod (k:Int) (xs.length:Int)=(i1:Int):=by rw [hi1];exact Fh k _
 have t2:Int.tdiv (k:Int) 8=(k8:Int):=by rw [hk8];exact Lq k 8
 have t3:Int.tmod (k8:Int) (xs.length:Int)=(i2:Int):=by rw [hi2];exact Fh k8 _
 rw [<-hi1] at cx
 rw [<-hi2] at cy
 have k8l:k8<9223372036854775808:=zj
 have w8:IntKind.i64.wrap (k8:Int)=(k8:Int):=zu
 have n0:((xs.length:Int)==0)=false:=yc
 have n0d:decide ((xs.length:Int)=0)=false:=zR
 have w1:((i1:Int)).toNat=i1:=zj
 have p1:(0:Int)<=(i1:Int):=zj
 have b1:(i1:Int)<(xs.length:Int):=zj
 have w2:((i2:Int)).toNat=i2:=zj
 have p2:(0:Int)<=(i2:Int):=zj
 have b2:(i2:Int)<(xs.length:Int):=zj
 have t4:Int.tmod (k:Int) 4=((k % 4:Nat):Int):=Fh k 4
 have HU:Aside (U=(w.alloc (.cells #[.int .i64 (kd:Int),.int .i64 (n:Int),.int .i64 (k:Int)] 170)).alloc (.cells #[.int .i64 0,.int .i64 0,.int .i64 0,.int .u8 0,.int .i64 0,.int .i64 0,.string ⟨#[]⟩,.string ⟨#[]⟩] 61)/\SB=w.heap.size/\Below w.heap.size w U/\StpBlk U SB kd n k/\OpBlk U (SB+1) aR):=⟨hU.o,hSB.o,hbU,BU,ZU⟩
 obtain ⟨s0,s1,s2⟩:=BU.cells
 obtain ⟨z0,z1,z2,z3,z4,z5,z6,z7,zf⟩:=ZU.cells
 unfold aR at z0 z1 z2 z3 z4 z5 z6 z7
 dsimp only at z0 z1 z2 z3 z4 z5 z6 z7
 clear hi1 hi2 hk8 hrU hr hx hy hbU BU ZU hU hSB
 obtain ⟨L,hL⟩:=zc xs.length
 rw [<-hL] at hl hlen l1 l2 t1 t3 n0 n0d b1 b2
 rw [<-hL]
 clear hL
 have m0:L≠0:=zj
 have m1:(L:Int)≠0:=zj
 have m2:¬(L=0):=m0
 go_enter func157,ntmps157
 go_upto_region 1 with fail
 rw [<-HU.o.1,<-HU.o.2.1]
 go_quiet (fail)
 have hkd:=HKD.o
 subst hkd
 have d0:((0:Nat):Int)=0:=rfl
 rw [d0] at s0
 go_wp2_with fail
 refine (Hd (k % 4) zj _).mono ?_
 rintro e w9 ⟨rfl,rfl⟩
 obtain ⟨lt,hlt⟩:=ze (UInt8.ofNat (97+k % 4))
 rw [<-hlt.o]
 go_wp2
 (try simp only [Exit.inBlock,Exit.then])
 refine bodyPost_ret (v:=.agg #[.int .i64 0,.int .i64 0,.int .i64 0,.int .u8 109,.int .i64 0,.int .i64 x,.string ⟨#[lt]⟩,.string ⟨#[]⟩]) ?_ rfl ?_
 ·rw [Dn rfl]
  go_simp
  try rfl
 refine ⟨by simp [bT,dN,ltr,hlt.o],?_⟩
 exact aH (b:=SB+1) (Go.below_drewN HU.o.2.2.1 _) qh 0 [.int .i64 0,.int .i64 0,.int .i64 0,.int .u8 109,.int .i64 0,.int .i64 x,.string ⟨#[lt]⟩,.string ⟨#[]⟩]
