import Derived.Test.YtpdbnnimdkfajaaGreatDoorVS27
set_option linter.unusedSimpArgs false
set_option linter.unusedVariables false
set_option maxRecDepth 100000
set_option maxHeartbeats 64000000
namespace Go.Proofs.YtpdbnnimdkfajaaGreatDoor
open Go.Proofs.Tryz
section
open Go.Shelf Go.RowKit Go.Lib Go.Sort
theorem sortedOf_some (w:World) (blk off cap:Nat) (xs:List OpX) (hc:∀j u,(cellsOf xs)[j]? =some u->w.cell? ⟨blk,off+j,none⟩=some u) (hn:xs.length<=1000):
  Calls prog 59 #[.slice (some ⟨blk,off,none⟩) xs.length cap] w fun e w'=>∃v' ys,e= .returned v'/\OpsAt w' v' ys/\StableOf xs ys/\Below w.heap.size w w':=by
 obtain ⟨i0,hi,hz0,hz1,hz2⟩:=info_parts infoOp
 have HC:Aside (∀j u,(cellsOf xs)[j]? =some u->w.cell? ⟨blk,off+j,none⟩=some u):=hc
 clear hc
 go_enter func59,ntmps59
 go_wp2
 go_loopg [3,4] xs.length (fun kx s3 s4 wr=>∃(i:Nat) (ys:List OpX) (ov:Value),ov=s3/\s4= .int .i64 (i:Int)/\i<=xs.length/\xs.length - i<=kx/\Aside (InsOf xs i ys/\OutAt wr ov ys/\Below w.heap.size w wr))
 case atStart=>exact ⟨0,[],_,rfl,rfl,js _,jj _,⟨InsOf.zero xs,.inl ⟨rfl,rfl⟩,jo _ _⟩⟩
 case round=>
  obtain ⟨i,ys,ov,rfl,rfl,hix,hkx,A⟩:=hrel
  by_cases hlt:i<xs.length
  ·have hltz:decide ((i:Int)<(xs.length:Int))=true:=by simp;omega
   have ex:((i:Int)).toNat=i:=zi
   have px:(0:Int)<=(i:Int):=zi
   have bx:(i:Int)<(xs.length:Int):=zi
   obtain ⟨u,hu⟩:=za wr
   subst hu
   obtain ⟨⟨t,b,m,kd,node,other,name,value⟩,hx⟩:∃x,xs[i]! =x:=⟨_,rfl⟩
   have HX:=Lib.hid hx
   have E8:Aside (Eight u blk (off+i*8) t b m kd node other name value):=eight_at (fun j v hj=>cellKept A.o.2.2 (HC.o j v hj)) i hlt hx
   clear hx
   have HL:Aside (ys.length=i):=A.o.1.len zi
   rcases A.o.2.1 with ⟨rfl,rfl⟩ | ⟨g,o,c,rfl,hcap,hg⟩
   ·go_wp2
    go_loopg [5] 1 (fun ky s5 wr=>s5= .int .i64 0/\ky=ky/\Aside (Below u.heap.size u wr))
    case atStart=>exact ⟨rfl,rfl,jo _ _⟩
    case round=>
     obtain ⟨rfl,-,Wr⟩:=hrel
     have B0:Below u.heap.size u wr:=Wr.o
     go_wp2_with fail
     refine wp_region_quiet_grown zj zj ?_
     repeat (go_big_quiet_step (fail))
     refine wpQuiet_nil ?_
     intro _ hw'
     obtain ⟨⟨nq,osq⟩,hw''⟩:=hw'
     change _=grow (wr.drewN nq) osq at hw''
     subst hw''
     have W0:Aside (Below u.heap.size u (grow (wr.drewN nq) osq)):=B0.trans ((below_grows ⟨nq,osq,rfl⟩).mono B0.size)
     generalize grow (wr.drewN nq) osq=u1 at W0 |-
     clear B0 Wr
     obtain ⟨f0,f1,f2,f3,f4,f5,f6,f7⟩:=E8.o.later W0.o
     go_wp2_with (at_builtin;refine wpList_append_own _ rfl _ _ 32 rfl u.heap.size 38 i0 _ 8 80 underlying32 hi hz0 hz1 hz2 rfl zi _ _ _ rfl (jQ (u1.alloc _) _ _ _) ⟨u1.heap.size,0,none⟩ 1 1 [.int .i64 t,.int .i64 b,.int .i64 m,.int .u8 (kd:Int),.int .i64 node,.int .i64 other,.string name,.string value] rfl ?qb1 ?qb2 ?qb3 ?qb4 ?qb5 ?qb6 ?_)
     case qb1=>rfl
     case qb2=>exact lit_cells u1 _ rfl
     case qb3=>exact encT_one ((t,b,m,kd,node,other,name,value),0)
     case qb4=>simp only [maxLen];omega
     case qb5=>omega
     case qb6=>have:=W0.o.size;simp;omega
     intro v2 u2 hown hgrow hnil
     clear f0 f1 f2 f3 f4 f5 f6 f7
     have W2:Aside (Below u.heap.size u u2):=(W0.o.alloc W0.o.size _).grown hgrow (by have:=W0.o.size;simp;omega) zL
     have O2:Aside (u2.ownsRow u.heap.size 38 8 v2 1 (encX (t,b,m,kd,node,other,name,value))):=hown
     clear hown hgrow hnil W0
     have R3:Aside (InsOf xs (i+1) [xs[i]!]/\OutAt u2 v2 [xs[i]!]/\Below w.heap.size w u2):=by
      refine ⟨?_,?_,?_⟩
      ·have:=A.o.1.next (k:=0) hlt (js _) (fun h=>zi) (fun p _ h=>yw)
       simpa using this
      ·rw [HX.o]
       exact ownsOut O2.o rfl (by simp [cellsOf])
      exact zh A.o.2.2 W2.o
     obtain ⟨g2,c2,rfl,hc2⟩:∃g2 c2,v2= .slice (some ⟨g2,0,none⟩) 1 c2/\1<=c2:=by
      rcases O2.o.2 with ⟨_,h⟩ | ⟨g2,c2,_,h,_,_,hr,_⟩
      ·exact absurd h zi
      exact ⟨g2,c2,h,hr⟩
     clear O2 W2
     go_wp2
     go_roundg (xs.length - (i+1))
     case measure=>omega
     case rel=>exact ⟨i+1,_,_,rfl,zw,zi,jj _,R3⟩
   have HG0:Aside (∀j v,(cellsOf ys)[j]? =some v->u.cell? ⟨g,o+j,none⟩=some v):=hg
   clear hg
   have hyl:ys.length<=1000:=by rw [HL.o];omega
   go_wp2
   go_loopg [5] ys.length (fun ky s5 wr=>∃(k:Nat),s5= .int .i64 (k:Int)/\k<=ys.length/\k<=ky/\Aside ((∀p,k<=p->p<ys.length->ltX xs[i]! ys[p]! =true)/\Below u.heap.size u wr))
   case atStart=>exact ⟨ys.length,rfl,jj _,jj _,⟨fun p h1 h2=>zi,jo _ _⟩⟩
   case round=>
    obtain ⟨k,rfl,hk,hky,K0⟩:=hrel
    rcases ul k with hk0 | hk0
    ·subst hk0
     go_wp2_with fail
     refine wp_region_quiet_grown zj zj ?_
     repeat (go_big_quiet_step (fail))
     refine wpQuiet_nil ?_
     intro _ hw'
     obtain ⟨⟨nq,osq⟩,hw''⟩:=hw'
     change _=grow (wr.drewN nq) osq at hw''
     subst hw''
     have K:Aside ((∀p,0<=p->p<ys.length->ltX xs[i]! ys[p]! =true)/\Below u.heap.size u (grow (wr.drewN nq) osq)):=⟨K0.o.1,K0.o.2.trans ((below_grows ⟨nq,osq,rfl⟩).mono K0.o.2.size)⟩
     clear K0
     generalize grow (wr.drewN nq) osq=u0 at K |-
     obtain ⟨uo,huo⟩:=za u
     subst huo
     obtain ⟨u,hu⟩:=za u0
     subst hu
     have E8o:=E8
     clear E8
     have E8:Aside (Eight u blk (off+i*8) t b m kd node other name value):=E8o.o.later K.o.2
     have HG:Aside (∀j v,(cellsOf ys)[j]? =some v->u.cell? ⟨g,o+j,none⟩=some v):=fun j v hj=>cellKept K.o.2 (HG0.o j v hj)
     clear E8o HG0
     have dk0:(0:Int)<=(0:Int):=zi
     have dk1:(0:Int)<=(c:Int):=zi
     have dk2:(0:Int)<=(ys.length:Int):=zi
     have ek:((0:Int)).toNat=0:=zi
     have hkl:(ys.take (0)).length=0:=yr
     have hdl:(ys.drop (0)).length=ys.length - (0):=jT
     have HK:Aside ((ys.take (0)).length=0/\(ys.drop (0)).length=ys.length - (0)):=⟨hkl,hdl⟩
     clear hkl hdl
     go_wp2_with (at_builtin;refine wpList_append_own _ rfl _ _ 32 rfl u.heap.size 38 i0 _ 8 80 underlying32 hi hz0 hz1 hz2 rfl zi _ _ _ rfl (jQ u _ _ _) ⟨g,o,none⟩ (0) c (cellsOf (ys.take (0))) rfl ?qa1 ?qa2 ?qa3 ?qa4 ?qa5 ?qa6 ?_)
     case qa1=>rw [cellsOf_len,HK.o.1]
     case qa2=>exact take_cells (0) HG.o
     case qa3=>exact cellsOf_one _
     case qa4=>rw [jt];simp only [maxLen];omega
     case qa5=>rw [jt];omega
     case qa6=>exact jj _
     intro v1 u1 hown hgrow hnil
     clear hnil
     have B1:Below u.heap.size u u1:=(jo _ u).grown hgrow ze zL
     have hown1:u1.ownsRow u.heap.size 38 8 v1 (0) (cellsOf (ys.take (0))):=qr
     have O1:Aside (u1.ownsRow u.heap.size 38 8 v1 (0) (cellsOf (ys.take (0)))):=hown1
     have W1:Aside (Below u.heap.size u u1):=B1
     obtain ⟨f0,f1,f2,f3,f4,f5,f6,f7⟩:=E8.o.later B1
     clear hown hown1 hgrow B1
     go_wp2_with (at_builtin;refine wpList_append_own _ rfl _ _ 32 rfl u.heap.size 38 i0 _ 8 80 underlying32 hi hz0 hz1 hz2 rfl zi _ _ _ rfl (O1.o.alloc _) ⟨u1.heap.size,0,none⟩ 1 1 [.int .i64 t,.int .i64 b,.int .i64 m,.int .u8 (kd:Int),.int .i64 node,.int .i64 other,.string name,.string value] rfl ?qb1 ?qb2 ?qb3 ?qb4 ?qb5 ?qb6 ?_)
     case qb1=>rfl
     case qb2=>exact lit_cells u1 _ rfl
     case qb3=>exact encT_one ((t,b,m,kd,node,other,name,value),0)
     case qb4=>simp only [maxLen];omega
     case qb5=>omega
     case qb6=>have:=W1.o.size;simp;omega
     intro v2 u2 hown hgrow hnil
     clear hnil f0 f1 f2 f3 f4 f5 f6 f7
     have W2:Aside (Below u.heap.size u u2):=(W1.o.alloc W1.o.size _).grown hgrow (by have:=W1.o.size;simp;omega) (fun k hk=>(O1.o.lt k hk).1)
     have O2:Aside (u2.ownsRow u.heap.size 38 8 v2 (0+1) (cellsOf (ys.take (0))++encX (t,b,m,kd,node,other,name,value))):=hown
     clear hown hgrow O1 W1
     go_wp2_with (at_builtin;refine wpList_append_own _ rfl _ _ 32 rfl u.heap.size 38 i0 _ 8 80 underlying32 hi hz0 hz1 hz2 rfl zi _ _ _ rfl O2.o ⟨g,o+(0)*8,none⟩ (ys.length - (0)) (c - (0)) (cellsOf (ys.drop (0))) rfl ?qd1 ?qd2 ?qd3 ?qd4 ?qd5 ?qd6 ?_)
     case qd1=>rw [cellsOf_len,HK.o.2]
     case qd2=>exact drop_cells (0) zi (fun j v hj=>cellKept W2.o (HG.o j v hj))
     case qd3=>exact cellsOf_one _
     case qd4=>simp only [maxLen];omega
     case qd5=>omega
     case qd6=>exact W2.o.size
     intro v3 u3 hown hgrow hnil
     clear hnil
     have R3:Aside (InsOf xs (i+1) (ys.take (0)++xs[i]! ::ys.drop (0))/\OutAt u3 v3 (ys.take (0)++xs[i]! ::ys.drop (0))/\Below w.heap.size w u3):=by
      refine ⟨A.o.1.next hlt zi ?_ ?_,?_,?_⟩
      ·intro h0
       omega
      ·exact K.o.1
      ·rw [HX.o]
       exact ownsOut hown yl xi
      have Bu:=zh A.o.2.2 K.o.2
      exact Bu.trans ((W2.o.grown hgrow W2.o.size (fun k hk=>(O2.o.lt k hk).1)).mono Bu.size)
     clear hown hgrow O2 W2 HK
     go_wp2
     go_roundg (xs.length - (i+1))
     case measure=>omega
     case rel=>exact ⟨i+1,_,_,rfl,zw,zi,jj _,R3⟩
    obtain ⟨q,hkq⟩:∃q,k=q+1:=⟨k - 1,zi⟩
    obtain ⟨s0,s1⟩:=stamp_at (fun j v hj=>cellKept K0.o.2 (HG0.o j v hj)) q zi
    obtain ⟨t',b',hy1,hy2⟩:∃t' b',(ys[q]!).1=t'/\(ys[q]!).2.1=b':=⟨_,_,rfl,rfl⟩
    rw [hy1] at s0
    rw [hy2] at s1
    have f0:=cell_grows (E8.o.later K0.o.2).c0
    have f1:=cell_grows (E8.o.later K0.o.2).c1
    have r0:=cell_grows s0
    have r1:=cell_grows s1
    have eq1:((k:Int) - 1)=(q:Int):=zi
    have hqy:q<ys.length:=zi
    have HKQ:=Lib.hid hkq
    clear hkq
    have ezz:((q:Int)).toNat=q:=zi
    have pz:(0:Int)<=(q:Int):=zi
    have bz:(q:Int)<(ys.length:Int):=zi
    have hgt:decide ((0:Int)<(k:Int))=true:=decide_eq_true zi
    clear s0 s1
    cases hz:ltX xs[i]! ys[q]! with
    | true=>
     have hz':lessB t b t' b'=true:=xT
     have HZ:=Lib.hid hz'
     have K1:Aside (∀p,q<=p->p<ys.length->ltX xs[i]! ys[p]! =true):=fun p h1 h2=>by
      rcases Nat.eq_or_lt_of_le h1 with e | e
      ·rw [<-e];exact hz
      exact K0.o.1 p (by rw [HKQ.o];omega) h2
     clear hz hz' hy1 hy2
     go_wp2_with fail
     refine wp_region_quiet_grown zj zj ?_
     repeat (go_big_quiet_step (first | (go_at_call 57;refine Calls.grown_of (isLess_is _ _ _ _ true _ HZ.o))))
     refine wpQuiet_nil ?_
     intro _ hw'
     obtain ⟨⟨nq,osq⟩,hw''⟩:=hw'
     change _=grow (wr.drewN nq) osq at hw''
     subst hw''
     have K:Aside ((∀p,q<=p->p<ys.length->ltX xs[i]! ys[p]! =true)/\Below u.heap.size u (grow (wr.drewN nq) osq)):=⟨K1.o,K0.o.2.trans ((below_grows ⟨nq,osq,rfl⟩).mono K0.o.2.size)⟩
     clear K0 K1 f0 f1 r0 r1
     generalize grow (wr.drewN nq) osq=u0 at K |-
     go_wp2
     go_roundg q
     case measure=>rw [HKQ.o] at hky;omega
     case rel=>exact ⟨q,zw,zi,jj _,K⟩
    | false=>
     have hz':lessB t b t' b'=false:=xT
     have HZ:=Lib.hid hz'
     have HF:=Lib.hid hz
     clear hz hz' hy1 hy2
     go_wp2_with fail
     refine wp_region_quiet_grown zj zj ?_
     repeat (go_big_quiet_step (first | (go_at_call 57;refine Calls.grown_of (isLess_is _ _ _ _ false _ HZ.o))))
     refine wpQuiet_nil ?_
     intro _ hw'
     obtain ⟨⟨nq,osq⟩,hw''⟩:=hw'
     change _=grow (wr.drewN nq) osq at hw''
     subst hw''
     have K:Aside ((∀p,k<=p->p<ys.length->ltX xs[i]! ys[p]! =true)/\Below u.heap.size u (grow (wr.drewN nq) osq)):=⟨K0.o.1,K0.o.2.trans ((below_grows ⟨nq,osq,rfl⟩).mono K0.o.2.size)⟩
     clear K0 f0 f1 r0 r1 eq1 ezz pz bz hgt hqy
     generalize grow (wr.drewN nq) osq=u0 at K |-
     obtain ⟨uo,huo⟩:=za u
     subst huo
     obtain ⟨u,hu⟩:=za u0
     subst hu
     have E8o:=E8
     clear E8
     have E8:Aside (Eight u blk (off+i*8) t b m kd node other name value):=E8o.o.later K.o.2
     have HG:Aside (∀j v,(cellsOf ys)[j]? =some v->u.cell? ⟨g,o+j,none⟩=some v):=fun j v hj=>cellKept K.o.2 (HG0.o j v hj)
     clear E8o HG0
     have dk0:(0:Int)<=(k:Int):=zi
     have dk1:(k:Int)<=(c:Int):=zi
     have dk2:(k:Int)<=(ys.length:Int):=zi
     have ek:((k:Int)).toNat=k:=zi
     have hkl:(ys.take (k)).length=k:=yr
     have hdl:(ys.drop (k)).length=ys.length - (k):=jT
     have HK:Aside ((ys.take (k)).length=k/\(ys.drop (k)).length=ys.length - (k)):=⟨hkl,hdl⟩
     clear hkl hdl
     go_wp2_with (at_builtin;refine wpList_append_own _ rfl _ _ 32 rfl u.heap.size 38 i0 _ 8 80 underlying32 hi hz0 hz1 hz2 rfl zi _ _ _ rfl (jQ u _ _ _) ⟨g,o,none⟩ (k) c (cellsOf (ys.take (k))) rfl ?qa1 ?qa2 ?qa3 ?qa4 ?qa5 ?qa6 ?_)
     case qa1=>rw [cellsOf_len,HK.o.1]
     case qa2=>exact take_cells (k) HG.o
     case qa3=>exact cellsOf_one _
     case qa4=>rw [jt];simp only [maxLen];omega
     case qa5=>rw [jt];omega
     case qa6=>exact jj _
     intro v1 u1 hown hgrow hnil
     clear hnil
     have B1:Below u.heap.size u u1:=(jo _ u).grown hgrow ze zL
     have hown1:u1.ownsRow u.heap.size 38 8 v1 (k) (cellsOf (ys.take (k))):=qr
     have O1:Aside (u1.ownsRow u.heap.size 38 8 v1 (k) (cellsOf (ys.take (k)))):=hown1
     have W1:Aside (Below u.heap.size u u1):=B1
     obtain ⟨f0,f1,f2,f3,f4,f5,f6,f7⟩:=E8.o.later B1
     clear hown hown1 hgrow B1
     go_wp2_with (at_builtin;refine wpList_append_own _ rfl _ _ 32 rfl u.heap.size 38 i0 _ 8 80 underlying32 hi hz0 hz1 hz2 rfl zi _ _ _ rfl (O1.o.alloc _) ⟨u1.heap.size,0,none⟩ 1 1 [.int .i64 t,.int .i64 b,.int .i64 m,.int .u8 (kd:Int),.int .i64 node,.int .i64 other,.string name,.string value] rfl ?qb1 ?qb2 ?qb3 ?qb4 ?qb5 ?qb6 ?_)
     case qb1=>rfl
     case qb2=>exact lit_cells u1 _ rfl
     case qb3=>exact encT_one ((t,b,m,kd,node,other,name,value),0)
     case qb4=>simp only [maxLen];omega
     case qb5=>omega
     case qb6=>have:=W1.o.size;simp;omega
     intro v2 u2 hown hgrow hnil
     clear hnil f0 f1 f2 f3 f4 f5 f6 f7
     have W2:Aside (Below u.heap.size u u2):=(W1.o.alloc W1.o.size _).grown hgrow (by have:=W1.o.size;simp;omega) (fun k hk=>(O1.o.lt k hk).1)
     have O2:Aside (u2.ownsRow u.heap.size 38 8 v2 (k+1) (cellsOf (ys.take (k))++encX (t,b,m,kd,node,other,name,value))):=hown
     clear hown hgrow O1 W1
     by_cases hkc:k=c
     ·subst hkc
      go_wp2_with (at_builtin;refine wpList_append_own _ rfl _ _ 32 rfl u.heap.size 38 i0 _ 8 80 underlying32 hi hz0 hz1 hz2 rfl zi _ _ _ rfl O2.o ⟨g,o,none⟩ 0 0 [] rfl ?qd1 ?qd2 ?qd3 ?qd4 ?qd5 ?qd6 ?_)
      case qd1=>rfl
      case qd2=>intro j v hj;simp at hj
      case qd3=>intro v hv;cases hv
      case qd4=>simp only [maxLen];omega
      case qd5=>omega
      case qd6=>exact W2.o.size
      intro v3 u3 hown hgrow hnil
      clear hnil
      have R3:Aside (InsOf xs (i+1) (ys.take (k)++xs[i]! ::ys.drop (k))/\OutAt u3 v3 (ys.take (k)++xs[i]! ::ys.drop (k))/\Below w.heap.size w u3):=by
       refine ⟨A.o.1.next hlt zi ?_ ?_,?_,?_⟩
       ·intro h0
        rw [HKQ.o,um];exact HF.o
       ·exact K.o.1
       ·rw [HX.o]
        have hdrop:ys.drop k= []:=uG zi
        exact ownsOut hown yl (by rw [<-cellsOf_ins,hdrop];simp [cellsOf])
       have Bu:=zh A.o.2.2 K.o.2
       exact Bu.trans ((W2.o.grown hgrow W2.o.size (fun k hk=>(O2.o.lt k hk).1)).mono Bu.size)
      clear hown hgrow O2 W2 HK
      go_wp2
      go_roundg (xs.length - (i+1))
      case measure=>omega
      case rel=>exact ⟨i+1,_,_,rfl,zw,zi,jj _,R3⟩
     have hne:¬c=k:=fun h=>hkc h.symm
     go_wp2_with (at_builtin;refine wpList_append_own _ rfl _ _ 32 rfl u.heap.size 38 i0 _ 8 80 underlying32 hi hz0 hz1 hz2 rfl zi _ _ _ rfl O2.o ⟨g,o+(k)*8,none⟩ (ys.length - (k)) (c - (k)) (cellsOf (ys.drop (k))) rfl ?qd1 ?qd2 ?qd3 ?qd4 ?qd5 ?qd6 ?_)
     case qd1=>rw [cellsOf_len,HK.o.2]
     case qd2=>exact drop_cells (k) zi (fun j v hj=>cellKept W2.o (HG.o j v hj))
     case qd3=>exact cellsOf_one _
     case qd4=>simp only [maxLen];omega
     case qd5=>omega
     case qd6=>exact W2.o.size
     intro v3 u3 hown hgrow hnil
     clear hnil
     have R3:Aside (InsOf xs (i+1) (ys.take (k)++xs[i]! ::ys.drop (k))/\OutAt u3 v3 (ys.take (k)++xs[i]! ::ys.drop (k))/\Below w.heap.size w u3):=by
      refine ⟨A.o.1.next hlt zi ?_ ?_,?_,?_⟩
      ·intro h0
       rw [HKQ.o,um];exact HF.o
      ·exact K.o.1
      ·rw [HX.o]
       exact ownsOut hown yl xi
      have Bu:=zh A.o.2.2 K.o.2
      exact Bu.trans ((W2.o.grown hgrow W2.o.size (fun k hk=>(O2.o.lt k hk).1)).mono Bu.size)
     clear hown hgrow O2 W2 HK
     go_wp2
     go_roundg (xs.length - (i+1))
     case measure=>omega
     case rel=>exact ⟨i+1,_,_,rfl,zw,zi,jj _,R3⟩
  have hltz:decide ((i:Int)<(xs.length:Int))=false:=zk
  have R:Aside (OpsAt wr ov ys/\StableOf xs ys/\Below w.heap.size w wr):=by
   obtain rfl:i=xs.length:=zi
   exact ⟨A.o.2.1.ops,A.o.1.all,A.o.2.2⟩
  clear A
  go_wp2
  go_ret
  exact ⟨_,ys,rfl,R.o⟩
theorem sortedOf_any (w:World) (v:Value) (xs:List OpX) (h:OpsAt w v xs) (hn:xs.length<=1000):
  Calls prog 59 #[v] w fun e w'=>∃v' ys,e= .returned v'/\OpsAt w' v' ys/\StableOf xs ys/\Below w.heap.size w w':=by
 rcases h with ⟨rfl,rfl⟩ | ⟨blk,off,cap,rfl,hc⟩
 ·refine (sortedOf_zero none 0 w).mono ?_
  rintro e w' ⟨rfl,rfl⟩
  exact ⟨_,[],rfl,.inl ⟨rfl,rfl⟩,(InsOf.zero []).all,jo _ _⟩
 exact sortedOf_some w blk off cap xs hc hn
