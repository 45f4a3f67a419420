import Derived.Test.YtehighgebbdenaaGreatDoorRa26
import Derived.Test.YtehighgebbdenaaGreatDoorRa34
import Derived.Test.YtehighgebbdenaaGreatDoorRa37
import Derived.Test.YtehighgebbdenaaGreatDoorRa38
set_option linter.unusedVariables false
set_option linter.unusedSimpArgs false
set_option maxRecDepth 100000
set_option maxHeartbeats 64000000
namespace Go.Proofs.YtehighgebbdenaaGreatDoor
open Go.Proofs.Tryz
variable {zi:Bool} {v:ByteArray} {e:Ending} {n nd xd xo:Int} {b:Int×Bool} {M:List Ltr} {ms:List Mov} {A S xs:List OpX} {qs:List Plc} {cd:Nat} {ad:Nat→Addr} {x y:OpX} {a a':OpX×Nat} {w w':World}
section
open Go.RowKit Go.Lib Go.Sort Go.Maps
open scoped Classical
theorem Gy {v:Value} (h:OpsAt w v xs):∃ao cap,v= .slice ao xs.length cap/\OpsIn w ao xs:=by
 rcases h with ⟨rfl,rfl⟩ | ⟨blk,off,cap,rfl,hc⟩
 ·exact kp2
 exact ⟨some ⟨blk,off,none⟩,cap,rfl,.inr ⟨blk,off,rfl,hc⟩⟩
theorem gP {ys:List OpX} (hw:WellK xs) (hnd:xs.Nodup) (hS:bW xs ys):(∀y∈ys,an y=0)/\(∀y∈ys,kdO y=109->FineP (FX y).2)/\(ai ys).Perm (ai xs)/\ax (ai ys):=by
 obtain ⟨hp,hs⟩:=cr hS
 have hok:∀y∈ys,an y=0:=fun y hy=>hw.ok y (hp.mem_iff.1 hy)
 have hne:ys.Pairwise (fun a b=>stO a≠stO b):=by
  have hnd':ys.Nodup:=hp.nodup_iff.2 hnd;rw [ud];intro i j hi hj hij e;have:=hw.stamp (hp.mem_iff.1 (uR hi)) (hp.mem_iff.1 (uR hj)) e;exact km4
 have hlt:=iq hs hne;refine ⟨hok,fun y hy hk=> ?_,hp.filterMap _,?_⟩
 ·exact km6
 unfold ax ai;rw [List.pairwise_filterMap];refine hlt.imp ?_;intro a b hab u hu v hv;by_cases ha:kdO a=109
 ·by_cases hb:kdO b=109
  ·exact kp6
  rw [gA hb] at hv
  cases hv
 rw [gA ha] at hu
 cases hu
theorem kJ (w:World) (v:Value) (xs:List OpX) (h:OpsAt w v xs) (hO:WellK xs) (hnd:xs.Nodup) (hn:xs.length<=200):
  Calls prog 35 #[v] w fun e w'=>∃v' qs ms,e= .returned v'/\ms.Perm (ai xs)/\ax ms/\IsPlaces (aN ms) qs/\qs.length<=200/\w'.ownsRow w.heap.size 95 3 v' qs.length (aA aM qs)/\Below w.heap.size w w':=by
 obtain ⟨i0,hi,hz0,hz1,hz2⟩:=info_parts KE
 have HO:Aside (WellK xs/\xs.Nodup):=⟨hO,hnd⟩
 have hS:=kI w v xs h zo;clear h hO hnd;go_enter func35,ntmps35;go_wp2_with fail;refine hS.mono ?_;clear hS;rintro e w1 ⟨v1,ys,rfl,hOps,hSort,hb1⟩;obtain ⟨ay,cy,rfl,hIn⟩:=Gy hOps
 have hy200:ys.length<=200:=by rw [(cr hSort).1.length_eq];exact hn
 have Y:Aside (OpsIn w1 ay ys/\(∀y∈ys,an y=0)/\(∀y∈ys,kdO y=109->FineP (FX y).2)/\(ai ys).Perm (ai xs)/\ax (ai ys)/\Below w.heap.size w w1):=⟨hIn,(gP HO.o.1 HO.o.2 hSort).1,(gP HO.o.1 HO.o.2 hSort).2.1,(gP HO.o.1 HO.o.2 hSort).2.2.1,(gP HO.o.1 HO.o.2 hSort).2.2.2,hb1⟩
 clear hOps hIn hSort hb1 HO;go_wp2;go_loopg [3,5] ys.length (fun kx s3 s5 wr=>∃(i:Nat) (qs:List Plc) (ov:Value),ov=s3/\s5= .int .i64 (i:Int)/\i<=ys.length/\ys.length - i<=kx/\Aside (St4 w1 ys i qs ov wr))
 case atStart=>exact ⟨0,[],_,rfl,rfl,vV _,vM _,⟨un _ _ _ _,⟨List.Pairwise.nil,fun p=>⟨fun h=>qu,fun h=>by simp [ai,aN,Bf,mq] at h⟩⟩,vV _,vP _ _⟩⟩
 case round=>
  obtain ⟨i,qs,ov,rfl,rfl,hix,hkx,A⟩:=hrel;obtain ⟨ag,cg,rfl⟩:=bI A.o.row;have hq200:qs.length<=200:=qv;by_cases hlt:i<ys.length
  ·have hltz:decide ((i:Int)<(ys.length:Int))=true:=by simp;omega
   have ex:((i:Int)).toNat=i:=zo;have px:(0:Int)<=(i:Int):=zo;have bx:(i:Int)<(ys.length:Int):=zo
   obtain ⟨blk,off,rfl,hc⟩:∃b off,ay=some ⟨b,off,none⟩/\∀j u,(cellsOf ys)[j]? =some u->w1.cell? ⟨b,off+j,none⟩=some u:=by
    rcases Y.o.1 with h0 | h1
    ·subst h0;simp at hlt
    exact h1
   obtain ⟨⟨t,b,m,kd,node,other,name,value⟩,hx⟩:∃x,ys[i]! =x:=⟨_,rfl⟩
   have hmem:ys[i]! ∈ys:=by rw [getElem!_pos ys i hlt];exact uR hlt
   by_cases hkd:kd=109
   case neg=>
    obtain ⟨f0,f1,f2,f3,f4,f5,f6,f7⟩:=iZ (fun j v hj=>aT A.o.below (hc j v hj)) i hlt hx
    have HK1:Aside (kdO ys[i]! ≠109):=by rw [hx];exact hkd
    have dk:((kd:Int)==109)=false:=zr;have dkn:(kd==109)=false:=zr;have dk2:((kd:Int) !=109)=true:=zr;clear hx hmem hc hkd;go_upto_region 7 with fail;obtain ⟨u,hu⟩:=zc (wr.alloc (.cells #[.int .i64 t,.int .i64 b,.int .i64 m,.int .u8 (kd:Int),.int .i64 node,.int .i64 other,.string name,.string value] 38))
    have B1:Below wr.heap.size wr u:=by rw [hu];exact zh wr _
    have R:Aside (St4 w1 ys (i+1) qs (.slice ag qs.length cg) u):=A.o.skip hlt HK1.o B1
    have O3:u.cell? ⟨wr.heap.size,3,none⟩=some (.int .u8 (kd:Int)):=by rw [hu];exact (OpBlk.new wr (t,b,m,kd,node,other,name,value)).cells.2.2.2.1
    rw [<-hu];clear hu f0 f1 f2 f3 f4 f5 f6 f7 B1 A;go_wp2;go_roundg (ys.length - (i+1))
    case measure=>omega
    case rel=>exact ⟨i+1,qs,_,rfl,zD,zo,vM _,R⟩
   subst hkd
   have HK1:Aside (kdO ys[i]! =109):=by show kdO ys[i]! =109;rw [hx]
   obtain ⟨f0,f1,f2,f3,f4,f5,f6,f7⟩:=iZ (fun j v hj=>aT A.o.below (hc j v hj)) i hlt hx;have f3':wr.cell? ⟨blk,off+i*8+3,none⟩=some (.int .u8 109):=f3
   have HM:Aside (FX ys[i]! =((t,b),(node,other,name))):=by show FX ys[i]! =_;rw [hx];rfl
   clear hx hmem f3 hc;go_upto_region 7 with fail;obtain ⟨u,hu⟩:=zc (wr.alloc (.cells #[.int .i64 t,.int .i64 b,.int .i64 m,.int .u8 109,.int .i64 node,.int .i64 other,.string name,.string value] 38))
   have O1:OpAt u wr.heap.size t b m 109 node other name value:=by rw [hu];exact OpAt.new wr t b m 109 node other name value 38
   have B1:Below wr.heap.size wr u:=by rw [hu];exact zh wr _
   rw [<-hu]
   obtain ⟨Bo,hBo⟩:∃Bo,Aside (wr.heap.size=Bo):=⟨_,rfl⟩
   rw [hBo.o] at O1 |-
   have U:Aside (St4 w1 ys i qs (.slice ag qs.length cg) u/\OpAt u Bo t b m 109 node other name value):=⟨A.o.later B1,O1⟩
   clear hu f0 f1 f2 f3' f4 f5 f6 f7 B1 O1 A;obtain ⟨g0,g1,g2,g3,g4,g5,g6,g7⟩:=U.o.2;have g3':u.cell? ⟨Bo,3,none⟩=some (.int .u8 109):=g3;clear g3 g0 g1 g2 g7;by_cases hno:node=other
   ·have dno:(node==other)=true:=by simp [hno]
    have R:Aside (St4 w1 ys (i+1) qs (.slice ag qs.length cg) u):=U.o.1.idle hlt HK1.o (vP _ _) (by rw [HM.o];exact .inl hno);clear hno;go_wp2;go_roundg (ys.length - (i+1))
    case measure=>omega
    case rel=>exact ⟨i+1,qs,_,rfl,zD,zo,vM _,R⟩
   have dno:(node==other)=false:=by simp [hno]
   have HNO:=Lib.hid hno;clear hno;have hI:=kM u ag cg qs _ other node (U.o.1.good Y.o.2.2.1) U.o.1.pls (nX U.o.1.row) zo
   cases hz:ki (aN (ai (ys.take i))) (qs.length+1) other node with
   | true=>
    rw [hz] at hI;have R:Aside (St4 w1 ys (i+1) qs (.slice ag qs.length cg) u):=U.o.1.idle hlt HK1.o (vP _ _) (by rw [HM.o];exact .inr ((kY (U.o.1.good Y.o.2.2.1) U.o.1.pls).2 hz));clear hz;go_wp2_with fail;refine hI.mono ?_;rintro e u1 ⟨rfl,hu1⟩;subst hu1;go_wp2;go_roundg (ys.length - (i+1))
    case measure=>omega
    case rel=>exact ⟨i+1,qs,_,rfl,zD,zo,vM _,R⟩
   | false=>
    rw [hz] at hI
    have ID:Aside (aN (ai (ys.take (i+1)))=upd (aN (ai (ys.take i))) node (some (node,other,name))):=by
     show aN (ai (ys.take (i+1)))=_
     rw [pP hlt HK1.o,HM.o]
     exact fu (by
      rintro (h | h)
      ·exact HNO.o h
      ·rw [(kY (U.o.1.good Y.o.2.2.1) U.o.1.pls).1 h] at hz;cases hz)
    clear hz;go_wp2_with fail;refine hI.mono ?_;rintro e u1 ⟨rfl,hu1⟩;subst hu1;clear hI;go_upto_region 10 with fail;obtain ⟨ua,hua⟩:=zc (u1.alloc (.cells #[.int .i64 node,.int .i64 other,.string name] 95))
    have B2:Below u1.heap.size u1 ua:=by rw [hua];exact zh u1 _
    have q0:ua.cell? ⟨u1.heap.size,0,none⟩=some (.int .i64 node):=by rw [hua];exact (Ei u1 node other name).1
    have q1:ua.cell? ⟨u1.heap.size,1,none⟩=some (.int .i64 other):=by rw [hua];exact (Ei u1 node other name).2.1
    have q2:ua.cell? ⟨u1.heap.size,2,none⟩=some (.string name):=by rw [hua];exact (Ei u1 node other name).2.2
    have k4:=aT B2 g4;rw [<-hua]
    obtain ⟨Bp,hBp⟩:∃Bp,Aside (u1.heap.size=Bp):=⟨_,rfl⟩
    rw [hBp.o] at q0 q1 q2 |-
    have V:Aside (St4 w1 ys i qs (.slice ag qs.length cg) ua):=U.o.1.later B2;clear hua B2 g4 g5 g6 g3' U;have hP:=gh ua ag cg qs node (nX V.o.row) zo
    cases hk:rg qs node with
    | some k=>
     have e1:tH qs node=(k:Int):=by unfold tH;rw [hk]
     rw [e1] at hP;obtain ⟨⟨pc,pq,pn⟩,hpk,-⟩:=fA hk;have hkl:k<qs.length:=(vL.1 hpk).1;obtain ⟨g,rfl⟩:=wy V.o.row zo;obtain ⟨g',hg',y0,y1,y2⟩:=(nX V.o.row).three hpk
     cases hg'
     have z0:=V.o.row.frozenAt (k*3);have z1:=V.o.row.frozenAt (k*3+1);have z2:=V.o.row.frozenAt (k*3+2);have R:=V.o.set (other:=other) (name:=name) hk ID.o;have ek:((k:Int)).toNat=k:=zo;have pk:(0:Int)<=(k:Int):=zo;have bk:(k:Int)<(qs.length:Int):=zo;have dk:decide ((0:Int)<=(k:Int))=true:=zv;have RR:Aside _:=R;clear R hk e1 hpk;go_wp2_with fail;refine hP.mono ?_;rintro e u2 ⟨rfl,hu2⟩;subst hu2;go_wp2;go_roundg (ys.length - (i+1))
     case measure=>omega
     case rel=>exact ⟨i+1,_,_,rfl,zD,zo,vM _,RR⟩
    | none=>
     have e1:tH qs node= -1:=by unfold tH;rw [hk]
     rw [e1] at hP;have HK:=Lib.hid hk;clear hk e1;go_wp2_with fail;refine hP.mono ?_;rintro e u2 ⟨rfl,hu2⟩;subst hu2;clear hP
     have Q:Aside (u2.cell? ⟨Bo,4,none⟩=some (.int .i64 node)/\u2.cell? ⟨Bp,0,none⟩=some (.int .i64 node)/\u2.cell? ⟨Bp,1,none⟩=some (.int .i64 other)/\u2.cell? ⟨Bp,2,none⟩=some (.string name)):=⟨k4,q0,q1,q2⟩
     go_wp2;clear k4 q0 q1 q2;go_loopg [8] qs.length (fun ky s8 wr=>∃(k:Nat),s8= .int .i64 (k:Int)/\k<=qs.length/\qs.length - k<=ky/\Aside ((∀j,j<k->(qs[j]!).1<node)/\Below u2.heap.size u2 wr))
     case atStart=>exact ⟨0,rfl,vV _,vM _,⟨fun j hj=>absurd hj (Nat.not_lt_zero _),vP _ _⟩⟩
     case round=>
      obtain ⟨k,rfl,hkq,hky,K⟩:=hrel;go_upto_region 14 with fail;go_cut [68] (fun s68 wx=>∃z:Bool,s68= .bool z/\Aside ((z=true↔k<qs.length/\(qs[k]!).1<node)/\Below u2.heap.size u2 wx))
      case first=>
       by_cases hkl:k<qs.length
       ·have hkz:decide ((k:Int)<(qs.length:Int))=true:=by simp;omega
        have ek:((k:Int)).toNat=k:=zo;have pk:(0:Int)<=(k:Int):=zo;have bk:(k:Int)<(qs.length:Int):=zo
        obtain ⟨⟨pc,pq,pn⟩,hpk⟩:∃p:Plc,qs[k]? =some p:=⟨_,vN hkl⟩
        obtain ⟨g,rfl⟩:=wy V.o.row zo;obtain ⟨g',hg',y0,-,-⟩:=(nX (V.o.later K.o.2).row).three hpk
        cases hg'
        have hpc:Aside ((qs[k]!).1=pc):=by
         have:=(vL.1 hpk).2
         show (qs[k]!).1=pc
         rw [getElem!_pos qs k hkl,this]
        have k4:=aT K.o.2 Q.o.1;clear hpk;by_cases hl:pc<node
        ·have dl:decide (pc<node)=true:=decide_eq_true hl;go_quiet (fail);go_wp2;go_meet;exact ⟨true,rfl,⟨fun _=>⟨hkl,by rw [hpc.o];exact hl⟩,fun _=>rfl⟩,below_drewN K.o.2 _⟩
        have dl:decide (pc<node)=false:=decide_eq_false hl;go_quiet (fail);go_wp2;go_meet;exact ⟨false,rfl,⟨fun h=>qF,fun h=>by have:=h.2;rw [hpc.o] at this;omega⟩,below_drewN K.o.2 _⟩
       have hkz:decide ((k:Int)<(qs.length:Int))=false:=zr;go_quiet (fail);go_wp2;go_meet;exact ⟨false,rfl,⟨fun h=>qF,fun h=>absurd h.1 hkl⟩,below_drewN K.o.2 _⟩
      obtain ⟨z,rfl,Z⟩:=hcut
      cases z with
      | true=>
       have Z1:Aside ((k<qs.length/\(qs[k]!).1<node)/\Below u2.heap.size u2 wc):=⟨Z.o.1.1 rfl,Z.o.2⟩
       have hkl:=Z1.o.1.1;clear Z;go_wp2;go_roundg (qs.length - (k+1))
       case measure=>omega
       case rel=>
        refine ⟨k+1,zD,zo,vM _,⟨fun j hj=> ?_,Z1.o.2⟩⟩
        rcases uJ j k with h | h
        ·exact K.o.1 j h
        obtain rfl:j=k:=zo;exact Z1.o.1.2
      | false=>
       have Z0:Aside ((k<qs.length->¬(qs[k]!).1<node)/\Below u2.heap.size u2 wc):=⟨fun h1 h2=>(by have:=Z.o.1.2 ⟨h1,h2⟩;cases this),Z.o.2⟩
       have VV:Aside (St4 w1 ys i qs (.slice ag qs.length cg) wc/\∀j,j<k->(qs[j]!).1<node):=⟨V.o.later Z0.o.2,K.o.1⟩
       have QQ:Aside (wc.cell? ⟨Bp,0,none⟩=some (.int .i64 node)/\wc.cell? ⟨Bp,1,none⟩=some (.int .i64 other)/\wc.cell? ⟨Bp,2,none⟩=some (.string name)):=⟨aT Z0.o.2 Q.o.2.1,aT Z0.o.2 Q.o.2.2.1,aT Z0.o.2 Q.o.2.2.2⟩
       clear Z K V Q
       have LY:Aside (∀(v':Value) (w':World),w'.ownsRow wc.heap.size 95 3 v' (k+1+(qs.length - k)) (aA aM (qs.take k)++aM (node,other,name)++aA aM (qs.drop k))->Below wc.heap.size wc w'->St4 w1 ys (i+1) (qs.take k++(node,other,name)::qs.drop k) v' w'):=fun v' w' h1 h2=>
        VV.o.1.lay HK.o ID.o hkq VV.o.2 Z0.o.1 (rN h1 VV.o.1.below.size) (zj VV.o.1.below h2)
       clear Z0
       rcases VV.o.1.row.2 with ⟨hv,h0⟩ | ⟨g,cap',cur,hv,_,_,hcap,_⟩
       ·obtain rfl:qs= []:=uh.1 h0;simp only [Value.slice.injEq] at hv;obtain ⟨rfl,-,rfl⟩:=hv
        obtain rfl:k=0:=by simpa using hkq
        obtain ⟨q0,q1,q2⟩:=QQ.o;go_wp2_with (at_builtin;refine wpList_append_own _ rfl _ _ 91 rfl wc.heap.size 95 i0 _ 3 32 underlying91 hi hz0 hz1 hz2 rfl zo _ _ _ rfl (un (wc.alloc _) _ _ _) ⟨wc.heap.size,0,none⟩ 1 1 [.int .i64 node,.int .i64 other,.string name] rfl ?qb1 ?qb2 ?qb3 ?qb4 ?qb5 ?qb6 ?_)
        case qb1=>rfl
        case qb2=>exact Da wc (node,other,name)
        case qb3=>exact dD (node,other,name)
        case qb4=>simp only [maxLen];omega
        case qb5=>omega
        case qb6=>simp
        intro v2 u3 hown hgrow hnil;clear q0 q1 q2 hnil;have W2:Below wc.heap.size wc u3:=(zh wc _).grown hgrow zv zN;have R3:Aside (St4 w1 ys (i+1) [(node,other,name)] v2 u3):=LY.o v2 u3 (by simpa [aA,aM] using hown) W2
        obtain ⟨g2,c2,rfl,hc2⟩:∃g2 c2,v2= .slice (some ⟨g2,0,none⟩) 1 c2/\1<=c2:=by
         rcases hown.2 with ⟨_,h⟩ | ⟨g2,c2,_,h,_,_,hr,_⟩
         ·exact absurd h zo
         exact ⟨g2,c2,h,hr⟩
        clear hown hgrow W2 LY;go_wp2;go_roundg (ys.length - (i+1))
        case measure=>omega
        case rel=>exact ⟨i+1,_,_,rfl,zD,zo,vM _,R3⟩
       simp only [Value.slice.injEq] at hv;obtain ⟨rfl,-,rfl⟩:=hv
       have HG:Aside (∀j v,(aA aM qs)[j]? =some v->wc.cell? ⟨g,j,none⟩=some v):=fun j v hj=>by
        have hl:j<(aA aM qs).length:=(vL.1 hj).1;rw [bR (k:=3) (fun _=>rfl)] at hl;rw [VV.o.1.row.cellAt j hl,hj]
       have dk0:(0:Int)<=(k:Int):=zo;have dk1:(k:Int)<=(cg:Int):=zo;have dk2:(k:Int)<=(qs.length:Int):=zo;have ek:((k:Int)).toNat=k:=zo
       have HKL:Aside ((qs.take k).length=k/\(qs.drop k).length=qs.length - k):=⟨by rw [ug];omega,uy⟩
       go_wp2_with (at_builtin;refine wpList_append_own _ rfl _ _ 91 rfl wc.heap.size 95 i0 _ 3 32 underlying91 hi hz0 hz1 hz2 rfl zo _ _ _ rfl (un wc _ _ _) ⟨g,0,none⟩ k cg (aA aM (qs.take k)) rfl ?qa1 ?qa2 ?qa3 ?qa4 ?qa5 ?qa6 ?_)
       case qa1=>rw [bR (k:=3) (fun _=>rfl),HKL.o.1]
       case qa2=>exact lI k HG.o
       case qa3=>exact gO dD _
       case qa4=>rw [vY];simp only [maxLen];omega
       case qa5=>rw [vY];omega
       case qa6=>exact vM _
       intro v2 u3 hown hgrow hnil;clear hnil;have B1:Below wc.heap.size wc u3:=(vP _ wc).grown hgrow zg zN
       have O1:Aside (u3.ownsRow wc.heap.size 95 3 v2 k (aA aM (qs.take k))/\Below wc.heap.size wc u3):=⟨qy,B1⟩
       have q0:=aT B1 QQ.o.1;have q1:=aT B1 QQ.o.2.1;have q2:=aT B1 QQ.o.2.2;clear hown hgrow B1;go_wp2_with (at_builtin;refine wpList_append_own _ rfl _ _ 91 rfl wc.heap.size 95 i0 _ 3 32 underlying91 hi hz0 hz1 hz2 rfl zo _ _ _ rfl (O1.o.1.alloc _) ⟨u3.heap.size,0,none⟩ 1 1 [.int .i64 node,.int .i64 other,.string name] rfl ?qb1 ?qb2 ?qb3 ?qb4 ?qb5 ?qb6 ?_)
       case qb1=>rfl
       case qb2=>exact Da u3 (node,other,name)
       case qb3=>exact dD (node,other,name)
       case qb4=>simp only [maxLen];omega
       case qb5=>omega
       case qb6=>have:=O1.o.2.size;simp;omega
       intro v3 u4 hown hgrow hnil;clear hnil q0 q1 q2;have B2:Below wc.heap.size wc u4:=(O1.o.2.alloc O1.o.2.size _).grown hgrow (by have:=O1.o.2.size;simp;omega) (fun k hk=>(O1.o.1.lt k hk).1)
       have O2:Aside (u4.ownsRow wc.heap.size 95 3 v3 (k+1) (aA aM (qs.take k)++aM (node,other,name))/\Below wc.heap.size wc u4):=⟨hown,B2⟩
       clear hown hgrow B2 O1;by_cases hkc:k=cg
       ·subst hkc;go_wp2_with (at_builtin;refine wpList_append_own _ rfl _ _ 91 rfl wc.heap.size 95 i0 _ 3 32 underlying91 hi hz0 hz1 hz2 rfl zo _ _ _ rfl O2.o.1 ⟨g,0,none⟩ 0 0 [] rfl ?qd1 ?qd2 ?qd3 ?qd4 ?qd5 ?qd6 ?_)
        case qd1=>rfl
        case qd2=>intro j v hj;simp at hj
        case qd3=>intro v hv;cases hv
        case qd4=>simp only [maxLen];omega
        case qd5=>omega
        case qd6=>exact O2.o.2.size
        intro v4 u5 hown hgrow hnil;clear hnil
        have R3:Aside (St4 w1 ys (i+1) (qs.take k++(node,other,name)::qs.drop k) v4 u5):=LY.o v4 u5 (by
         have hdrop:qs.drop k= []:=Yd zo
         have hl0:qs.length - k=0:=zo
         rw [hdrop,hl0,Gn,Zi]
         exact hown) (O2.o.2.grown hgrow O2.o.2.size (fun k hk=>(O2.o.1.lt k hk).1))
        clear hown hgrow O2 LY;go_wp2;go_roundg (ys.length - (i+1))
        case measure=>omega
        case rel=>exact ⟨i+1,_,_,rfl,zD,zo,vM _,R3⟩
       have hne:¬cg=k:=fun h=>hkc h.symm
       go_wp2_with (at_builtin;refine wpList_append_own _ rfl _ _ 91 rfl wc.heap.size 95 i0 _ 3 32 underlying91 hi hz0 hz1 hz2 rfl zo _ _ _ rfl O2.o.1 ⟨g,k*3,none⟩ (qs.length - k) (cg - k) (aA aM (qs.drop k)) rfl ?qd1 ?qd2 ?qd3 ?qd4 ?qd5 ?qd6 ?_)
       case qd1=>rw [bR (k:=3) (fun _=>rfl),HKL.o.2]
       case qd2=>exact mW k zo (fun j v hj=>aT O2.o.2 (HG.o j v hj))
       case qd3=>exact gO dD _
       case qd4=>simp only [maxLen];omega
       case qd5=>omega
       case qd6=>exact O2.o.2.size
       intro v4 u5 hown hgrow hnil;clear hnil;have R3:Aside (St4 w1 ys (i+1) (qs.take k++(node,other,name)::qs.drop k) v4 u5):=LY.o v4 u5 (by rw [ux];exact hown) (O2.o.2.grown hgrow O2.o.2.size (fun k hk=>(O2.o.1.lt k hk).1));clear hown hgrow O2 LY;go_wp2;go_roundg (ys.length - (i+1))
       case measure=>omega
       case rel=>exact ⟨i+1,_,_,rfl,zD,zo,vM _,R3⟩
  have hltz:decide ((i:Int)<(ys.length:Int))=false:=zr
  have R:Aside ((ai ys).Perm (ai xs)/\ax (ai ys)/\IsPlaces (aN (ai ys)) qs/\qs.length<=200/\wr.ownsRow w.heap.size 95 3 (.slice ag qs.length cg) qs.length (aA aM qs)/\Below w.heap.size w wr):=by
   obtain rfl:i=ys.length:=zo;have h1:=A.o.pls;rw [Zu] at h1;exact ⟨Y.o.2.2.2.1,Y.o.2.2.2.2.1,h1,hq200,rN A.o.row Y.o.2.2.2.2.2.size,zj Y.o.2.2.2.2.2 A.o.below⟩
  clear A;go_wp2;go_ret;exact ⟨_,qs,_,rfl,R.o⟩
end
section
open Go Go.RowKit Go.Lib Go.Sort Go.Maps
open scoped Classical
def MkOut (ad:Nat->Addr) (w:World) (Q:OpX->Nat->Prop) (e:Ending) (w':World):Prop:=∃(y:OpX) (cd:Nat),e= .returned (.tuple #[aD y,eV ad cd])/\Aside (Below w.heap.size w w'/\Q y cd)
def AnsC (ok:Bool) (cyc:Prop) (x:OpX) (a:OpX×Nat):Prop:=(ok=false/\a=(aV,6))\/(ok=true/\dJ x≠0/\a=(aV,dJ x))\/(ok=true/\dJ x=0/\cyc/\a=(aV,10))\/(ok=true/\dJ x=0/\¬cyc/\a=(x,0))
theorem AnsC.one {ok:Bool} {cyc:Prop} (h:AnsC ok cyc x a) (h':AnsC ok cyc x a'):a=a':=by
 rcases h with ⟨h1,rfl⟩ | ⟨h1,h2,rfl⟩ | ⟨h1,h2,h3,rfl⟩ | ⟨h1,h2,h3,rfl⟩<;>rcases h' with ⟨k1,rfl⟩ | ⟨k1,k2,rfl⟩ | ⟨k1,k2,k3,rfl⟩ | ⟨k1,k2,k3,rfl⟩
 all_goals first
  | rfl
  | exact absurd (h1.symm.trans k1) zu
  | exact absurd k2 h2
  | exact absurd h2 k2
  | exact absurd k3 h3
  | exact absurd h3 k3
def chO (v:ByteArray):UInt8:=v.data.toList.headD 0
def EraseAt (A:List OpX) (nd n:Int) (a:Int×Bool):Prop:=(¬KnownN A nd->a=(0,false))/\(KnownN A nd->∃L,LineIs A nd L/\a=atL n L)
def MkIs (A:List OpX) (T:Int) (i n:Nat) (x:OpX) (a:OpX×Nat):Prop:=
 (kdO x=109/\aL x=0/\a=fY (kP A (aJ x)) (bN T i n 109 0 (aJ x) x.2.2.2.2.2.2.1 ⟨#[]⟩))\/
 (kdO x=109/\aL x≠0/\∃ms,ms.Perm (ai A)/\ax ms/\AnsC (bT A (aL x) &&kP A (aJ x)) (aJ x=aL x\/Ins (aN ms) (aJ x) (aL x)) (bN T i n 109 (aL x) (aJ x) x.2.2.2.2.2.2.1 ⟨#[]⟩) a)\/
 (kdO x=105/\∃b:Int×Bool,WriteAt A (aL x) (aJ x) b/\a=fY b.2 (bN T i n 105 (aL x) b.1 ⟨#[]⟩ ⟨#[chO x.2.2.2.2.2.2.2]⟩))\/
 (kdO x=100/\∃b:Int×Bool,EraseAt A (aL x) (aJ x) b/\a=fY b.2 (bN T i n 100 (aL x) b.1 ⟨#[]⟩ ⟨#[]⟩))\/
 (kdO x≠109/\kdO x≠105/\kdO x≠100/\a=fY (bT A (aL x)) (bN T i n 115 (aL x) 0 x.2.2.2.2.2.2.1 x.2.2.2.2.2.2.2))
theorem gB (h:A.Perm S) (nd:Int):bT A nd=bT S nd:=by
 have:=df h nd;rw [<-knownB_iff,<-knownB_iff] at this;exact Yi.2 this
theorem rj (h:A.Perm S) (nd:Int):kP A nd=kP S nd:=by unfold kP;rw [gB h]
theorem WriteAt.perm {A S:List OpX} {nd n:Int} {a:Int×Bool} (w:WriteAt A nd n a) (h:A.Perm S):WriteAt S nd n a:=by
 have hk:=df h nd
 rcases w with ⟨q1,q2,q3⟩ | ⟨q1,q2,q3⟩
 ·exact .inl ⟨q1,q2,q3.trans hk⟩
 refine .inr ⟨q1,fun k=>q2 (fun q=>k (hk.1 q)),fun k=> ?_⟩;obtain ⟨L,hL,e⟩:=q3 (hk.2 k);exact ⟨L,hL.perm h,e⟩
theorem EraseAt.perm {A S:List OpX} {nd n:Int} {a:Int×Bool} (w:EraseAt A nd n a) (h:A.Perm S):EraseAt S nd n a:=by
 have hk:=df h nd;refine ⟨fun k=>w.1 (fun q=>k (hk.1 q)),fun k=> ?_⟩;obtain ⟨L,hL,e⟩:=w.2 (hk.2 k);exact ⟨L,hL.perm h,e⟩
theorem WriteAt.one {a:Int×Bool} (h:WriteAt A nd n a) (k:WriteAt A nd n b):a=b:=by
 rcases h with ⟨q1,q2,q3⟩ | ⟨q1,q2,q3⟩<;>rcases k with ⟨r1,r2,r3⟩ | ⟨r1,r2,r3⟩
 ·exact Prod.ext (by rw [q2,r2]) (Yi.2 (q3.trans r3.symm))
 ·exact absurd q1 r1
 ·exact absurd r1 q1
 by_cases hk:KnownN A nd
 ·obtain ⟨L,hL,e⟩:=q3 hk;obtain ⟨M,hM,e'⟩:=r3 hk;rw [e,e',hL.unique hM]
 rw [q2 hk,r2 hk]
theorem EraseAt.one {a:Int×Bool} (h:EraseAt A nd n a) (k:EraseAt A nd n b):a=b:=by
 by_cases hk:KnownN A nd
 ·obtain ⟨L,hL,e⟩:=h.2 hk;obtain ⟨M,hM,e'⟩:=k.2 hk;rw [e,e',hL.unique hM]
 rw [h.1 hk,k.1 hk]
theorem sL {ms':List Mov} (h:ax ms) (h':ax ms') (e:ms.Perm ms'):ms=ms':=by
 unfold ax at h h';refine List.Perm.eq_of_pairwise ?_ h h' e;intro a b _ _ h1 h2;exact absurd (iL h1 h2) nO
theorem MkIs.perm {A S:List OpX} {T:Int} {i n:Nat} {x:OpX} {a:OpX×Nat} (h:MkIs A T i n x a) (e:A.Perm S):MkIs S T i n x a:=by
 rcases h with ⟨q1,q2,q3⟩ | ⟨q1,q2,ms,q3,q4,q5⟩ | ⟨q1,b,q2,q3⟩ | ⟨q1,b,q2,q3⟩ | ⟨q1,q2,q3,q4⟩
 ·exact .inl ⟨q1,q2,by rw [<-rj e];exact q3⟩
 ·exact .inr (.inl ⟨q1,q2,ms,q3.trans (e.filterMap _),q4,by rw [<-rj e,<-gB e];exact q5⟩)
 ·exact .inr (.inr (.inl ⟨q1,b,q2.perm e,q3⟩))
 ·exact .inr (.inr (.inr (.inl ⟨q1,b,q2.perm e,q3⟩)))
 exact .inr (.inr (.inr (.inr ⟨q1,q2,q3,by rw [<-gB e];exact q4⟩)))
theorem MkIs.one {A:List OpX} {T:Int} {i n:Nat} {x:OpX} {a a':OpX×Nat} (h:MkIs A T i n x a) (k:MkIs A T i n x a'):a=a':=by
 rcases h with ⟨q1,q2,q3⟩ | ⟨q1,q2,ms,q3,q4,q5⟩ | ⟨q1,b,q2,q3⟩ | ⟨q1,b,q2,q3⟩ | ⟨q1,q2,q3,q4⟩<;>rcases k with ⟨r1,r2,r3⟩ | ⟨r1,r2,ns,r3,r4,r5⟩ | ⟨r1,c,r2,r3⟩ | ⟨r1,c,r2,r3⟩ | ⟨r1,r2,r3,r4⟩
 all_goals first
  | exact q3.trans r3.symm
  | exact absurd q2 r2
  | exact absurd r2 q2
  | (have e:=sL q4 r4 (q3.trans r3.symm);subst e;exact q5.one r5)
  | (have e:=q2.one r2;subst e;exact q3.trans r3.symm)
  | exact q4.trans r4.symm
  | exact absurd q1 r1
  | exact absurd r1 q1
  | (exfalso;omega)
theorem kk {ok:Prop} {okB:Bool} (h:lP ad w ok x e w') (hb:okB=true↔ok):MkOut ad w (fun y cd=>(y,cd)=fY okB x) e w':=by
 rcases h with ⟨h1,h2,h3⟩ | ⟨h1,h2,h3⟩
 ·have e1:=hb.2 h1;subst e1;refine ⟨_,_,h2,h3,?_⟩;unfold fY;rw [if_neg zu];by_cases he:dJ x=0
  ·rw [if_pos he,if_pos he,he]
  rw [if_neg he,if_neg he]
 have e1:okB=false:=by
  cases okB with
  | false=>rfl
  | true=>exact absurd (hb.1 rfl) h1
 subst e1;exact ⟨_,_,h2,h3,rfl⟩
theorem MkOut.imp {P Q:OpX->Nat->Prop} (h:MkOut ad w P e w') (k:∀y cd,P y cd->Q y cd):MkOut ad w Q e w':=by
 obtain ⟨y,cd,e1,e2⟩:=h;exact ⟨y,cd,e1,e2.o.1,k y cd e2.o.2⟩
theorem AR (h:v.size=0):chO v=0:=by
 unfold chO
 have:v.data.toList= []:=by
  have h2:v.data.size=0:=h;exact uh.1 (by simpa using h2)
 rw [this];rfl
theorem Fx (v:ByteArray) (h:v.size≠0):∀w:World,(Instr.index 9 (.string v) (.int .i64 0)).run prog w= .ok (.int .u8 ((chO v).toNat:Int)) w:=by
 intro w;have hv:0<v.size:=zo;have hv':(0:Int)<(v.size:Int):=zo
 have e:chO v=v[0]:=by
  unfold chO;have h2:0<v.data.size:=hv
  have h3:v.data.toList[0]? =some v[0]:=by
   rw [Yk,Zx h2];rfl
  cases hh:v.data.toList with
  | nil=>rw [hh] at h3;cases h3
  | cons a t=>rw [hh] at h3;simp at h3;rw [<-h3];rfl
 rw [e];go_simp
section
variable {B:Nat} {ad:Nat→Addr} (w:World) (c:Nat→Nat) (br:Nat) (i:Nat) (R:Rws) (T:Int)
theorem Kd (into:Int) (name:ByteArray) (h:RepOwn B w c br (i:Int) R) (hE:EnvT B ad w) (hi:i<4) (hT:du (aR R) T) (hm:T<=1073741824) (hn:(aR R).length<=140) (hs1:name.size<=1000000) (h2: -9223372036854775808<=into) (h3:into<=9223372036854775807):
  Calls prog 43 #[.pointer (some ⟨br,0,none⟩),.int .i64 into,.string name] w (MkOut ad w (fun y cd=>(y,cd)=fY (kP (aR R) into) (bN T i (R i).length 109 0 into name ⟨#[]⟩))):=by
 obtain ⟨T',kv,bt,bx,bc,A,hm',hp,ht⟩:=h.rep.time;obtain rfl:T'=T:=bJ ht hT;obtain ⟨ao,cap,hM⟩:=hm'.norm
 exact (wB w c br T' i ao cap bt bx bc R into name hM.cell hM.rows h.wellK hE.env hi ht.2.2 hm hn hs1 h2 h3).mono fun e w' q=>kk q plcB_iff
theorem Km (nd:Int) (name value:ByteArray) (h:RepOwn B w c br (i:Int) R) (hE:EnvT B ad w) (hi:i<4) (hT:du (aR R) T) (hm:T<=1073741824) (hn:(aR R).length<=140) (hs1:name.size<=1000000) (hs2:value.size<=1000000) (h2: -9223372036854775808<=nd) (h3:nd<=9223372036854775807):
  Calls prog 68 #[.pointer (some ⟨br,0,none⟩),.int .i64 nd,.string name,.string value] w (MkOut ad w (fun y cd=>(y,cd)=fY (bT (aR R) nd) (bN T i (R i).length 115 nd 0 name value))):=by
 obtain ⟨T',kv,bt,bx,bc,A,hm',hp,ht⟩:=h.rep.time;obtain rfl:T'=T:=bJ ht hT;obtain ⟨ao,cap,hM⟩:=hm'.norm
 exact (Ga w c br T' i ao cap bt bx bc R nd name value hM.cell hM.rows h.wellK hE.env hi ht.2.2 hm hn hs1 hs2 h2 h3).mono fun e w' q=>kk q knownB_iff
theorem JY (nd n:Int) (h:RepOwn B w c br (i:Int) R) (hE:EnvT B ad w) (hi:i<4) (hT:du (aR R) T) (hm:T<=1073741824) (hn:(aR R).length<=140) (h2: -9223372036854775808<=nd) (h3:nd<=9223372036854775807) (h4: -9223372036854775808<=n) (h5:n<=9223372036854775807):
  Calls prog 67 #[.pointer (some ⟨br,0,none⟩),.int .i64 nd,.int .i64 n] w (MkOut ad w (fun y cd=>∃b:Int×Bool,EraseAt (aR R) nd n b/\(y,cd)=fY b.2 (bN T i (R i).length 100 nd b.1 ⟨#[]⟩ ⟨#[]⟩))):=by
 obtain ⟨T',kv,bt,bx,bc,A,hm',hp,ht⟩:=h.rep.time;obtain rfl:T'=T:=bJ ht hT;obtain ⟨ao,cap,hM⟩:=hm'.norm
 refine (DQ w c br T' i ao cap bt bx bc R A nd n hM.cell hM.text hp hE.env hi ht.2.2 hm hn h2 h3 h4 h5).mono fun e w' q=> ?_
 obtain ⟨a,⟨a1,a2⟩,q⟩:=q;exact (kk (okB:=a.2) q Iff.rfl).imp (fun y cd hy=>⟨a,EraseAt.perm ⟨a1,a2⟩ hp,hy⟩)
theorem JT (nd n:Int) (ch:UInt8) (h:RepOwn B w c br (i:Int) R) (hE:EnvT B ad w) (hi:i<4) (hT:du (aR R) T) (hm:T<=1073741824) (hn:(aR R).length<=140) (h2: -9223372036854775808<=nd) (h3:nd<=9223372036854775807) (h4: -9223372036854775808<=n) (h5:n<=9223372036854775807):
  Calls prog 66 #[.pointer (some ⟨br,0,none⟩),.int .i64 nd,.int .i64 n,.int .u8 (ch.toNat:Int)] w (MkOut ad w (fun y cd=>∃b:Int×Bool,WriteAt (aR R) nd n b/\(y,cd)=fY b.2 (bN T i (R i).length 105 nd b.1 ⟨#[]⟩ ⟨#[ch]⟩))):=by
 obtain ⟨T',kv,bt,bx,bc,A,hm',hp,ht⟩:=h.rep.time;obtain rfl:T'=T:=bJ ht hT;obtain ⟨ao,cap,hM⟩:=hm'.norm
 refine (Ds w c br T' i ao cap bt bx bc R A nd n ch hM.cell hM.rows hM.text hp h.wellK hE.env hi ht.2.2 hm hn h2 h3 h4 h5).mono fun e w' q=> ?_
 obtain ⟨a,hw,q⟩:=q;exact (kk (okB:=a.2) q Iff.rfl).imp (fun y cd hy=>⟨a,hw.perm hp,hy⟩)
theorem KZ (nd into:Int) (name:ByteArray) (h:RepOwn B w c br (i:Int) R) (hE:EnvT B ad w) (hcy:Aside (Cyc ad)) (hi:i<4) (hT:du (aR R) T) (hm:T<=1073741824) (hn:(aR R).length<=140) (hs1:name.size<=1000000) (h2: -9223372036854775808<=nd) (h3:nd<=9223372036854775807) (h4: -9223372036854775808<=into) (h5:into<=9223372036854775807):
  Calls prog 65 #[.pointer (some ⟨br,0,none⟩),.int .i64 nd,.int .i64 into,.string name] w (MkOut ad w (fun y cd=>∃ms,ms.Perm (ai (aR R))/\ax ms/\AnsC (bT (aR R) nd &&kP (aR R) into) (into=nd\/Ins (aN ms) into nd) (bN T i (R i).length 109 nd into name ⟨#[]⟩) (y,cd))):=by
 obtain ⟨T',kv,bt,bx,bc,A,hm',hp,ht⟩:=h.rep.time;obtain rfl:T'=T:=bJ ht hT;obtain ⟨ao,cap,hM⟩:=hm'.norm;obtain ⟨bm,tv,ms,hTA,hms,-⟩:=hM.tree;obtain ⟨nm,hnm,hMap⟩:=hTA.map;have t0:=hTA.cell.c0
 refine (Ch w c br T' i ao cap bt bx bc bm nm (aN ms) R nd into name hM.cell hM.rows t0 hMap hTA.good h.wellK hE.env hcy hi ht.2.2 hm hn hs1 h2 h3 h4 h5).mono fun e w' q=> ?_
 obtain ⟨hb,q⟩:=q
 have hok:(bT (aR R) nd &&kP (aR R) into)=true↔KnownN (aR R) nd/\(into=0\/into=1\/KnownN (aR R) into):=by
  rw [uB,knownB_iff,plcB_iff]
 have hno:¬(KnownN (aR R) nd/\(into=0\/into=1\/KnownN (aR R) into))->(bT (aR R) nd &&kP (aR R) into)=false:=fun k=>by
  cases hz:(bT (aR R) nd &&kP (aR R) into) with
  | false=>rfl
  | true=>exact absurd (hok.1 hz) k
 have hpm:=hms.trans (hp.filterMap _)
 rcases q with ⟨ok,q⟩ | ⟨ok,he,q⟩ | ⟨ok,he,cy,q⟩ | ⟨ok,he,cy,q⟩
 ·exact ⟨aV,6,q,hb,ms,hpm,hTA.by_,.inl ⟨hno ok,rfl⟩⟩
 ·exact ⟨aV,_,q,hb,ms,hpm,hTA.by_,.inr (.inl ⟨hok.2 ok,he,rfl⟩)⟩
 ·exact ⟨aV,10,q,hb,ms,hpm,hTA.by_,.inr (.inr (.inl ⟨hok.2 ok,he,cy,rfl⟩))⟩
 exact ⟨_,0,q,hb,ms,hpm,hTA.by_,.inr (.inr (.inr ⟨hok.2 ok,he,cy,rfl⟩))⟩
end
end
section
open Go Go.RowKit Go.Lib Go.Sort Go.Maps
open scoped Classical
structure MkF (w:World) (S0:Nat) (x:OpX) (W:World):Prop where
 x:OpBlk W S0 x
 z:OpBlk W (S0+1) aV
 b:Below w.heap.size w W
theorem MkF.later {w:World} {S0:Nat} {x:OpX} {W W':World} (h:MkF w S0 x W) (hb:Below W.heap.size W W'):MkF w S0 x W':=⟨h.x.later hb,h.z.later hb,zj h.b hb⟩
theorem mH (hok:∀x∈S,an x=0) (h:ms.Perm (ai S)):gr (aN ms):=fq fun m hm=>by
 obtain ⟨y,hy,he⟩:=Zv.1 (h.mem_iff.1 hm);by_cases hk:kdO y=109
 ·rw [lw hk] at he
  cases he
  exact km6
 rw [gA hk] at he
 cases he
theorem cD (h:S.Pairwise (fun a b=>CLt (stO a) (stO b))):ax (ai S):=by
 unfold ax ai;rw [List.pairwise_filterMap];refine h.imp ?_;intro a b hab u hu v hv;by_cases ha:kdO a=109
 ·by_cases hb:kdO b=109
  ·exact kp6
  rw [gA hb] at hv
  cases hv
 rw [gA ha] at hu
 cases hu
theorem gY {ok:Bool} (h:(y,cd)=fY ok x) (hc:cd=0):ok=true/\dJ x=0/\y=x:=by
 unfold fY at h;split at h
 ·cases h;cases hc
 rename_i q;split at h
 ·rename_i r
  cases h
  exact ⟨by cases ok;exact absurd rfl q;rfl,r,rfl⟩
 rename_i r
 cases h
 exact absurd hc r
theorem Kl {ok:Bool} {P:List Mov->Prop} (hs:ax (ai S)) (h:a=fY ok x) (hc:a.2≠0):∃ms,ms.Perm (ai S)/\ax ms/\AnsC ok (P ms) x a:=by
 refine ⟨ai S,List.Perm.refl _,hs,?_⟩;unfold fY at h;split at h
 ·rename_i q;exact .inl ⟨q,h⟩
 rename_i q;split at h
 ·rw [h] at hc;exact absurd rfl hc
 rename_i r;exact .inr (.inl ⟨by cases ok;exact absurd rfl q;rfl,r,h⟩)
theorem IG {ok:Bool} (hs:ax (ai S)) (h:(y,cd)=fY ok x) (hc:cd=0) (e:xo=xd):∃ms,ms.Perm (ai S)/\ax ms/\AnsC ok (xo=xd\/Ins (aN ms) xo xd) x (aV,10):=
 ⟨ai S,List.Perm.refl _,hs,.inr (.inr (.inl ⟨(gY h hc).1,(gY h hc).2.1,.inl e,rfl⟩))⟩
theorem Ly {ok:Bool} (hp:ms.Perm (ai S)/\ax ms/\IsPlaces (aN ms) qs) (h:(y,cd)=fY ok x) (hc:cd=0) (e:Ins (aN ms) xo xd):∃ms,ms.Perm (ai S)/\ax ms/\AnsC ok (xo=xd\/Ins (aN ms) xo xd) x (aV,10):=
 ⟨ms,hp.1,hp.2.1,.inr (.inr (.inl ⟨(gY h hc).1,(gY h hc).2.1,.inr e,rfl⟩))⟩
theorem Lt {ok:Bool} (hp:ms.Perm (ai S)/\ax ms/\IsPlaces (aN ms) qs) (h:(y,cd)=fY ok x) (hc:cd=0) (e:xo≠xd) (e2:¬Ins (aN ms) xo xd):∃ms,ms.Perm (ai S)/\ax ms/\AnsC ok (xo=xd\/Ins (aN ms) xo xd) x (y,cd):=by
 obtain ⟨h1,h2,h3⟩:=gY h hc;subst h3;subst hc;exact ⟨ms,hp.1,hp.2.1,.inr (.inr (.inr ⟨h1,h2,fun q=>q.elim e e2,rfl⟩))⟩
def AD (z:Bool) (M:List Ltr) (n:Int):Int:=if z=true then (((aK M)[n.toNat]?).map (·.1)).getD 0 else 0
theorem Hz (hL:LineIs S xd (M.map fX)) (hz:zi=(bT S xd &&(decide (0<=xo) &&decide (xo<=((aK M).length:Int))))):WriteAt S xd xo (AD (zi &&decide (0<xo)) M (xo - 1),zi):=by
 by_cases h0:xo=0
 ·subst h0;refine .inl ⟨rfl,?_,?_⟩
  ·unfold AD;rw [if_neg zv]
  show zi=true↔_
  rw [hz,<-knownB_iff];simp
 refine .inr ⟨h0,fun hk=> ?_,fun hk=>⟨_,hL,?_⟩⟩
 ·have e:zi=false:=by
   rw [hz]
   have:bT S xd=false:=by
    cases h:bT S xd with
    | false=>rfl
    | true=>exact absurd (knownB_iff.1 h) hk
   rw [this];rfl
  rw [e];rfl
 rw [knownB_iff.2 hk,Bool.true_and] at hz;unfold atL;rw [lG];by_cases h1:0<xo
 ·rw [if_pos zo];by_cases h2:xo<=((aK M).length:Int)
  ·have e:zi=true:=by rw [hz,decide_eq_true (by omega:0<=xo),decide_eq_true h2];rfl
   rw [e,decide_eq_true h1];unfold AD;rw [if_pos (show (true &&true)=true from rfl),vN (by omega:(xo - 1).toNat<(aK M).length)];rfl
  exact kl4
 have e:zi=false:=by rw [hz,decide_eq_false (by omega:¬0<=xo)];rfl
 rw [if_neg zo,e];unfold AD;rw [if_neg zv]
theorem FJ (hL:LineIs S xd (M.map fX)) (hz:zi=(bT S xd &&(decide (0<=xo) &&decide (xo<((aK M).length:Int))))):EraseAt S xd xo (AD zi M xo,zi):=by
 refine ⟨fun hk=> ?_,fun hk=>⟨_,hL,?_⟩⟩
 ·have e:zi=false:=by
   rw [hz]
   have:bT S xd=false:=by
    cases h:bT S xd with
    | false=>rfl
    | true=>exact absurd (knownB_iff.1 h) hk
   rw [this];rfl
  rw [e];rfl
 rw [knownB_iff.2 hk,Bool.true_and] at hz;unfold atL;rw [lG];by_cases h1:0<=xo
 ·rw [if_pos h1];by_cases h2:xo<((aK M).length:Int)
  ·have e:zi=true:=by rw [hz,decide_eq_true h1,decide_eq_true h2];rfl
   rw [e];unfold AD;rw [if_pos rfl,vN (by omega:xo.toNat<(aK M).length)];rfl
  exact kl4
 have e:zi=false:=by rw [hz,decide_eq_false h1];rfl
 rw [if_neg h1,e];unfold AD;rw [if_neg zv]
theorem Je (h:v.size≠0):v.extract 0 1=⟨#[chO v]⟩:=by
 apply gL;rw [Lib.extract_data];unfold chO
 have h2:0<v.data.size:=by show 0<v.size;omega
 cases hh:v.data.toList with
 | nil=>
  have h3:v.data.toList.length=0:=by rw [hh];rfl
  rw [uw] at h3;omega
 | cons a t=>simp
def MkO (w:World) (S:List OpX) (T:Int) (i n:Nat) (x:OpX) (e:Ending) (w':World):Prop:=∃a:OpX×Nat,e= .returned (.tuple #[aD a.1,.int .i64 (a.2:Int)])/\Below w.heap.size w w'/\MkIs S T i n x a
