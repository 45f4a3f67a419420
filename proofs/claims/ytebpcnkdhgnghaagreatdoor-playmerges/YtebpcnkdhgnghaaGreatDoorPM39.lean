import Derived.Test.YtebpcnkdhgnghaaGreatDoorPM35
import Derived.Test.YtebpcnkdhgnghaaGreatDoorPM38
set_option linter.unusedSimpArgs false
set_option linter.unusedVariables false
set_option maxRecDepth 100000
set_option maxHeartbeats 64000000
namespace Go.Proofs.YtebpcnkdhgnghaaGreatDoor
variable {out:ByteArray} {ls:List (List UInt8)} {S:List OpX} {i n:Nat} {x:OpX}
section
open Go Go.RowKit Go.Lib Go.Sort Go.Maps
open scoped Classical
def DZ (ls:List (List UInt8)):List UInt8:=ls.flatMap (fun l=>10::l)
theorem FA (ls:List (List UInt8)) (l:List UInt8):DZ (ls++ [l])=DZ ls++(10::l):=by simp [DZ]
theorem mQ:∀ {ls:List (List UInt8)},ls≠ []->DZ ls=10::Lib.join ls [10]
 | [],h=>absurd rfl h
 | [x],_=>by simp [DZ,Lib.join]
 | x::y::t,_=>by
  have:=mQ (ls:=y::t) zt
  have e:DZ (x::y::t)=10::(x++DZ (y::t)):=rfl
  rw [e,this]
  simp [Lib.join]
theorem Ie (h:DZ ls= []):ls= []:=by
 cases ls with
 | nil=>rfl
 | cons x t=>simp [DZ] at h
def bH (A:List OpX):List Int:=(A.filter (fun x=>decide (kdO x=109/\aM x=idO x))).map idO
theorem pf (hx:S[i]? =some x) (h:kdO x=109/\aM x=idO x):bH (S.take (i+1))=bH (S.take i)++ [idO x]:=by
 have hi:=(vA.1 hx).1
 unfold bH
 rw [uF hi,(vA.1 hx).2,Zt,un,List.filter_cons_of_pos (by exact decide_eq_true h)]
 rfl
theorem IT (hx:S[i]? =some x) (h:¬(kdO x=109/\aM x=idO x)):bH (S.take (i+1))=bH (S.take i):=by
 have hi:=(vA.1 hx).1
 unfold bH
 rw [uF hi,(vA.1 hx).2,Zt,un,List.filter_cons_of_neg yR]
 simp
def bZ (tf:Int->List UInt8) (A:List OpX):List (Int×List UInt8):=(bH A).map (fun nd=>(nd,tf nd))
theorem Is {tf:Int->List UInt8} (hok:∀x∈S,ai x=0) (hs:S.Pairwise (fun a b=>CLt (stO a) (stO b))) (htf:∀nd L,LineIs S nd L->tf nd=cu L) (hl:∀nd∈bH S,∃L,LineIs S nd L):IsTexts S (bZ tf S):=by
 refine ⟨?_,fun nd=> ?_,fun t ht=> ?_⟩
 ·unfold bZ bH
  rw [ZC,Zp]
  have h2:S.Pairwise (fun a b=>idO a<idO b):=by
   rw [ub] at hs |-
   intro i j hi hj hij
   exact sP (hok _ (uS hi)) (hok _ (uS hj)) (hs i j hi hj hij)
  exact (h2.filter _)
 ·unfold bZ bH KnownN
  rw [ZC,ZC]
  constructor
  ·intro h
   obtain ⟨x,hx,e⟩:=uh.1 h
   obtain ⟨h1,h2⟩:=Zn.1 hx
   have h2:=of_decide_eq_true h2
   have e:idO x=nd:=e
   exact ⟨x,h1,h2.1,by rw [h2.2,e],e⟩
  rintro ⟨x,hx,q1,q2,q3⟩
  exact uh.2 ⟨x,Zn.2 ⟨hx,decide_eq_true ⟨q1,by rw [q2,q3]⟩⟩,q3⟩
 unfold bZ at ht
 obtain ⟨nd,hnd,rfl⟩:=uh.1 ht
 obtain ⟨L,hL⟩:=hl nd hnd
 exact ⟨L,hL,htf nd L hL⟩
theorem nC (tf:Int->List UInt8) (hx:S[i]? =some x) (h:kdO x=109/\aM x=idO x):((bZ tf (S.take (i+1))).filter cB).map cq=((bZ tf (S.take i)).filter cB).map cq++(if tf (idO x)≠ [] then [cq (idO x,tf (idO x))] else []):=by
 unfold bZ
 rw [pf hx h,un,Zt,un]
 congr 1
 by_cases e:tf (idO x)= []
 ·rw [if_neg (by simp [e])]
  simp [cB,e]
 rw [if_pos e]
 simp [cB,e]
def OutIs (out:ByteArray) (ls:List (List UInt8)) (n:Nat):Prop:=out.data.toList=DZ ls/\out.size<=n*10000
theorem bE (n:Int) (h0:0<=n) (h1:n<2^62):(⟨(Lib.itoa n).toArray⟩:ByteArray).size<=100:=by
 show (Lib.itoa n).toArray.size<=100
 rw [uq]
 exact lR _ h0 h1
theorem OutIs.snoc {F:ByteArray} {l:List UInt8} (h:OutIs out ls n) (hF:F.data.toList=out.data.toList++(10::l)/\F.size<=out.size+10000):OutIs F (ls++ [l]) (n+1):=by
 obtain ⟨h1,h2⟩:=h
 obtain ⟨k1,k2⟩:=hF
 refine ⟨?_,?_⟩
 ·rw [k1,h1]
  exact (FA ls l).symm
 rw [Nat.succ_mul]
 exact vI k2 (Nat.add_le_add_right h2 _)
theorem OutIs.mono {k:Nat} (h:OutIs out ls n) (hk:n<=k):OutIs out ls k:=⟨h.1,vI h.2 (uC _ hk)⟩
theorem Bl {m:Nat} {by_:Int} {ao:Option Addr} {cap:Nat} (w:World) (h:MRp w m by_ ao cap S) (hsh:Shp ao cap) (hW:WellK S) (hst:S.Pairwise (fun a b=>CLt (stO a) (stO b))) (hn:S.length<=250):
  Calls Tryz.prog 13 #[.pointer (some ⟨m,0,none⟩)] w fun e w'=>∃s,e= .returned (.string s)/\Aside (StateIs S s.data.toList/\Below w.heap.size w w'):=by
 have hnd:S.Nodup:=hst.imp (fun {a b} q e=>by subst e;exact cZ q)
 have hpl:=rH w (.slice ao S.length cap) S (hsh.at h.ops) hW hnd zj
 obtain ⟨tf,htf⟩:=AI S
 obtain ⟨c0,c1,cf⟩:=h.c
 have H0:Aside (MRp w m by_ ao cap S/\WellK S/\Shp ao cap/\S.Nodup/\S.Pairwise (fun a b=>CLt (stO a) (stO b))):=⟨h,hW,hsh,hnd,hst⟩
 clear h hsh hW hst hnd
 go_enter Tryz.func13,Tryz.ntmps13
 go_wp2_with fail
 refine hpl.mono ?_
 clear hpl c0 c1 cf
 rintro e w1 ⟨v1,qs,ms,rfl,P1,P2,P3,P4,P5,P6⟩
 obtain ⟨qa,qc,rfl⟩:=cP P5
 have H1:Aside (ms.Perm (bO S)/\bQ ms/\IsPlaces (aO ms) qs/\PlsAt w1 (.slice qa qs.length qc) qs/\Below w.heap.size w w1/\gj (aO ms)):=⟨P1,P2,P3,sO P5,P6,EP H0.o.2.1.ok P1⟩
 have hql:qs.length<=250:=P4
 clear P1 P2 P3 P4 P5 P6
 go_wp2
 go_loopg [3,5] qs.length (fun kx s3 s5 wr=>∃(i:Nat) (out:ByteArray),s3= .string out/\s5= .int .i64 (i:Int)/\i<=qs.length/\qs.length - i<=kx/\Aside (OutIs out ((qs.take i).map bY) i/\Below w1.heap.size w1 wr))
 case atStart=>exact ⟨0,⟨#[]⟩,rfl,rfl,vM _,vB _,⟨rfl,vB _⟩,vG _ _⟩
 case round=>
  obtain ⟨i,out,rfl,rfl,hi,hix,A⟩:=hrel
  obtain ⟨u,hu⟩:=zc wr
  subst hu
  by_cases hlt:i<qs.length
  ·have d1:decide ((i:Int)<(qs.length:Int))=true:=by simp;omega
   have d1n:decide (i<qs.length)=true:=zq
   obtain ⟨⟨pc,pq,pn⟩,hx⟩:∃p,Aside (qs[i]? =some p):=⟨qs[i],vF hlt⟩
   have fp:FineP (pc,pq,pn):=by
    have:=(H1.o.2.2.1.mem (pc,pq,pn)).1 (vH hx.o)
    exact H1.o.2.2.2.2.2.fine _ _ this
   have fp0:0<=pc:=fp.lo
   have fp1:pc<2^62:=fp.hi
   have fp2:0<=pq:=fp.lo'
   have fp3:pq<2^62:=fp.hi'
   have fp4:pn.size<=60:=fp.sz
   clear fp
   obtain ⟨gq,e1,q0,q1,q2⟩:=(H1.o.2.2.2.1.later A.o.2).three hx.o
   subst e1
   have HS1:Aside (∀W,Below u.heap.size u W->(fun w':World=>w'.cell? ⟨gq,i*3,none⟩=some (.int .i64 pc)/\w'.cell? ⟨gq,i*3+1,none⟩=some (.int .i64 pq)/\w'.cell? ⟨gq,i*3+2,none⟩=some (.string pn)) W):=fun W hW=>⟨aT hW q0,aT hW q1,aT hW q2⟩
   have wi:((i:Int)).toNat=i:=zj
   have pi:(0:Int)<=(i:Int):=zj
   have bi:(i:Int)<(qs.length:Int):=zj
   have hos:out.size<=10000000:=jJ
   obtain ⟨F1,f1,g1,a1⟩:=bD out ⟨#[10]⟩ qj
   obtain ⟨F2,f2,g2,a2⟩:=bD F1 ⟨(Lib.itoa pc).toArray⟩ (by have:(⟨#[10]⟩:ByteArray).size=1:=rfl;have qpc:(⟨(Lib.itoa pc).toArray⟩:ByteArray).size<=100:=(bE pc fp0 fp1);omega)
   obtain ⟨F3,f3,g3,a3⟩:=bD F2 ⟨#[32,105,110,32]⟩ (by have:(⟨#[10]⟩:ByteArray).size=1:=rfl;have qpc:(⟨(Lib.itoa pc).toArray⟩:ByteArray).size<=100:=(bE pc fp0 fp1);have:(⟨#[32,105,110,32]⟩:ByteArray).size=4:=rfl;omega)
   obtain ⟨F4,f4,g4,a4⟩:=bD F3 ⟨(Lib.itoa pq).toArray⟩ (by have:(⟨#[10]⟩:ByteArray).size=1:=rfl;have qpc:(⟨(Lib.itoa pc).toArray⟩:ByteArray).size<=100:=(bE pc fp0 fp1);have:(⟨#[32,105,110,32]⟩:ByteArray).size=4:=rfl;have qpq:(⟨(Lib.itoa pq).toArray⟩:ByteArray).size<=100:=(bE pq fp2 fp3);omega)
   obtain ⟨F5,f5,g5,a5⟩:=bD F4 ⟨#[32]⟩ (by have:(⟨#[10]⟩:ByteArray).size=1:=rfl;have qpc:(⟨(Lib.itoa pc).toArray⟩:ByteArray).size<=100:=(bE pc fp0 fp1);have:(⟨#[32,105,110,32]⟩:ByteArray).size=4:=rfl;have qpq:(⟨(Lib.itoa pq).toArray⟩:ByteArray).size<=100:=(bE pq fp2 fp3);have:(⟨#[32]⟩:ByteArray).size=1:=rfl;omega)
   obtain ⟨F6,f6,g6,a6⟩:=bD F5 pn (by have:(⟨#[10]⟩:ByteArray).size=1:=rfl;have qpc:(⟨(Lib.itoa pc).toArray⟩:ByteArray).size<=100:=(bE pc fp0 fp1);have:(⟨#[32,105,110,32]⟩:ByteArray).size=4:=rfl;have qpq:(⟨(Lib.itoa pq).toArray⟩:ByteArray).size<=100:=(bE pq fp2 fp3);have:(⟨#[32]⟩:ByteArray).size=1:=rfl;have:=fp4;omega)
   have HFL:Aside (F6.data.toList=out.data.toList++(10::bY (pc,pq,pn))/\F6.size<=out.size+10000):=by
    refine ⟨?_,?_⟩
    ·exact kq0
    have:(⟨#[10]⟩:ByteArray).size=1:=rfl;have qpc:(⟨(Lib.itoa pc).toArray⟩:ByteArray).size<=100:=(bE pc fp0 fp1);have:(⟨#[32,105,110,32]⟩:ByteArray).size=4:=rfl;have qpq:(⟨(Lib.itoa pq).toArray⟩:ByteArray).size<=100:=(bE pq fp2 fp3);have:(⟨#[32]⟩:ByteArray).size=1:=rfl;have:=fp4;omega
   clear f1 g1 f2 g2 f3 g3 f4 g4 f5 g5 f6 g6
   go_upto_region 6 with fail
   clear q0 q1 q2
   refine aL (S:=(fun w'=>w'.cell? ⟨gq,i*3,none⟩=some (.int .i64 pc)/\w'.cell? ⟨gq,i*3+1,none⟩=some (.int .i64 pq)/\w'.cell? ⟨gq,i*3+2,none⟩=some (.string pn))) zo (HS1.o u.drew ((vG _ u).drew)) (fun hHeld=> ?_)
   refine tk 0 hHeld ?_
   refine tk 1 hHeld ?_
   refine tk 2 hHeld ?_
   refine tk 3 hHeld ?_
   refine tk 4 hHeld ?_
   refine tk 5 hHeld ?_
   refine tk 6 hHeld ?_ (hy:=Or.inl ⟨zv,yH⟩)
   refine tk 10 hHeld ?_
   refine tk 11 hHeld ?_
   refine tk 12 hHeld ?_
   refine tk 13 hHeld ?_
   refine tk 14 hHeld ?_ (hy:=Or.inl ⟨zv,yH⟩)
   refine tk 18 hHeld ?_
   refine tk 19 hHeld ?_
   refine tk 20 hHeld ?_
   refine tk 21 hHeld ?_
   refine tk 22 hHeld ?_ (hy:=Or.inl ⟨zv,yH⟩)
   refine aW (i:=7) zo rfl (fun K hK=> ?_)
   go_simp
   refine (fV pc u.drew (by have:=fp0;omega) (by have:=fp1;omega)).mono ?_
   rintro e w3 ⟨rfl,hb_w3⟩
   have B3:Below u.heap.size u w3:=((vG _ u).drew).trans hb_w3
   refine hK _ _ (HS1.o w3 B3) ?_
   clear hK K
   have HB3:Aside (Below u.heap.size u w3):=B3
   clear B3 hb_w3
   refine qn ?_
   refine tk 8 (HS1.o w3 HB3.o) ?_
   refine tk 9 (HS1.o w3 HB3.o) ?_
   refine aW (i:=15) zo rfl (fun K hK=> ?_)
   go_simp
   refine (fV pq w3 (by have:=fp2;omega) (by have:=fp3;omega)).mono ?_
   rintro e w4 ⟨rfl,hb_w4⟩
   have B4:Below u.heap.size u w4:=zi HB3.o hb_w4
   refine hK _ _ (HS1.o w4 B4) ?_
   clear hK K
   have HB4:Aside (Below u.heap.size u w4):=B4
   clear B4 hb_w4
   refine qn ?_
   refine tk 16 (HS1.o w4 HB4.o) ?_
   refine tk 17 (HS1.o w4 HB4.o) ?_
   refine tk 23 (HS1.o w4 HB4.o) ?_
   refine tk 24 (HS1.o w4 HB4.o) ?_
   refine wpAnyH_done zo ?_ _
   refine qn ?_
   have HN:Aside (OutIs F6 ((qs.take (i+1)).map bY) (i+1)/\Below w1.heap.size w1 w4):=⟨by rw [gi bY qs hx.o];exact A.o.1.snoc HFL.o,zi A.o.2 HB4.o⟩
   clear a1 a2 a3 a4 a5 a6 A
   go_wp2
   go_roundg (qs.length - (i+1))
   case measure=>omega
   case rel=>exact ⟨i+1,F6,rfl,zw,zj,vB _,HN.o⟩
  have d1:decide ((i:Int)<(qs.length:Int))=false:=zq
  have d1n:decide (i<qs.length)=false:=zq
  have H2:Aside (OutIs out (qs.map bY++((bZ tf (S.take 0)).filter cB).map cq) (250+0)/\(∀nd∈bH (S.take 0),∃L,LineIs S nd L)/\Below w.heap.size w u):=by
   have h1:=A.o.1
   rw [vT zj] at h1
   refine ⟨?_,fun nd hnd=>by simp [bH] at hnd,zi H1.o.2.2.2.2.1 A.o.2⟩
   have e:((bZ tf (S.take 0)).filter cB).map cq= []:=by simp [bZ,bH]
   rw [e,uQ]
   exact h1.mono zj
  clear A
  go_wp2
  go_loopg [3,6] S.length (fun kx s3 s6 wr=>∃(i:Nat) (out:ByteArray),s3= .string out/\s6= .int .i64 (i:Int)/\i<=S.length/\S.length - i<=kx/\Aside (OutIs out (qs.map bY++((bZ tf (S.take i)).filter cB).map cq) (250+i)/\(∀nd∈bH (S.take i),∃L,LineIs S nd L)/\Below w.heap.size w wr))
  case atStart=>exact ⟨0,out,rfl,rfl,vM _,vB _,H2.o⟩
  case round=>
   clear H2 hlt d1 d1n hi hix
   obtain ⟨i,out,rfl,rfl,hi,hix,A⟩:=hrel
   obtain ⟨u,hu⟩:=zc wr
   subst hu
   obtain ⟨c0,c1,cf⟩:=(H0.o.1.later A.o.2.2).c
   by_cases hlt:i<S.length
   ·have d1:decide ((i:Int)<(S.length:Int))=true:=by simp;omega
    have d1n:decide (i<S.length)=true:=zq
    obtain ⟨x,hx⟩:∃x,Aside (S[i]? =some x):=⟨S[i],vF hlt⟩
    have hex:=H0.o.2.1.ok x (vH hx.o)
    obtain ⟨b1,o1,e1,E1⟩:=(H0.o.1.later A.o.2.2).ops.one hx.o
    obtain ⟨xt,xb,xn,xk,xd,xo,xs,xv⟩:=x
    have hst:=ar hex
    have hid:=fC xt xb u hst.1 hst.2.1 hst.2.2.1 hst.2.2.2.1
    have hid0:0<=4*xt+xb:=by have a1:1<=xt:=hst.1;have a2:0<=xb:=hst.2.2.1;omega
    have hid1:4*xt+xb<2^62:=by have a1:xt<=1073741824:=hst.2.1;have a2:xb<4:=hst.2.2.2.1;omega
    clear hst hex
    dsimp only at E1
    subst e1
    have wi:((i:Int)).toNat=i:=zj
    have pi:(0:Int)<=(i:Int):=zj
    have bi:(i:Int)<(S.length:Int):=zj
    obtain ⟨q0,q1,q2,q3,q4,q5,q6,q7⟩:=E1
    go_wp2_with fail
    refine hid.mono ?_
    clear hid q0 q1 q2 q3 q4 q5 q6 q7 c0 c1 cf
    rintro e u1 ⟨rfl,hb1⟩
    have HB1:Aside (Below w.heap.size w u1):=zi A.o.2.2 hb1
    clear hb1
    obtain ⟨c0,c1,cf⟩:=(H0.o.1.later HB1.o).c
    obtain ⟨b2,o2,e2,E2⟩:=(H0.o.1.later HB1.o).ops.one hx.o
    cases e2
    dsimp only at E2
    obtain ⟨q0,q1,q2,q3,q4,q5,q6,q7⟩:=E2
    obtain ⟨id_,hidd⟩:=ze (4*xt+xb)
    rw [<-hidd.o] at hid0 hid1 |-
    have HID:Aside (idO (xt,xb,xn,xk,xd,xo,xs,xv)=id_):=by show idO _=id_;rw [hidd.o];show xt*4+xb=4*xt+xb;omega
    clear hidd
    by_cases hk:xk=109/\xd=id_
    ·have dk:((xk:Int)==109)=true:=by simp;omega
     have dkn:(xk==109)=true:=zq
     have dk2:((xk:Int) !=109)=false:=zq
     have dd:(xd==id_)=true:=by simp [hk.2]
     have dd2:(xd !=id_)=false:=by simp [hk.2]
     have HKX:Aside (kdO (xt,xb,xn,xk,xd,xo,xs,xv)=109/\aM (xt,xb,xn,xk,xd,xo,xs,xv)=idO (xt,xb,xn,xk,xd,xo,xs,xv)):=⟨hk.1,by rw [HID.o];exact hk.2⟩
     have htx:=FW u1 id_ (H0.o.1.later HB1.o) H0.o.2.2.1 H0.o.2.1 H0.o.2.2.2.1 zj
     clear hk
     go_wp2_with fail
     refine htx.mono ?_
     clear htx q0 q1 q2 q3 q4 q5 q6 q7 c0 c1 cf
     rintro e u2 ⟨sx,rfl,HTX⟩
     have HB2:Aside (Below w.heap.size w u2):=zi HB1.o HTX.o.2.2
     have HKN:Aside (∃L,LineIs S id_ L/\sx.data.toList=tf id_):=by
      have hkn:KnownN S id_:=⟨_,vH hx.o,HKX.o.1,by rw [HKX.o.2,HID.o],HID.o⟩
      rcases HTX.o.1 with ⟨q,_⟩ | ⟨_,L,hL,e⟩
      ·exact absurd hkn q
      exact ⟨L,hL,by rw [e,htf.o id_ L hL]⟩
     have HNL:Aside (∀nd∈bH (S.take (i+1)),∃L,LineIs S nd L):=by
      intro nd hnd
      rw [pf hx.o HKX.o] at hnd
      rcases vL.1 hnd with q | q
      ·exact A.o.2.1 nd q
      obtain rfl:nd=id_:=by rw [vR] at q;rw [q];exact HID.o
      obtain ⟨L,hL,_⟩:=HKN.o
      exact ⟨L,hL⟩
     by_cases hs0:sx.size=0
     ·have he:=iL hs0
      have HN:Aside (OutIs out (qs.map bY++((bZ tf (S.take (i+1))).filter cB).map cq) (250+(i+1))/\(∀nd∈bH (S.take (i+1)),∃L,LineIs S nd L)/\Below w.heap.size w u2):=by
       refine ⟨?_,HNL.o,HB2.o⟩
       obtain ⟨L,hL,e⟩:=HKN.o
       have e0:sx.data.toList= []:=vZ.1 (by rw [uv];exact hs0)
       rw [nC tf hx.o HKX.o,HID.o,if_neg (by rw [<-e,e0];simp),uQ]
       exact A.o.1.mono zj
      clear A hs0
      go_wp2
      go_roundg (S.length - (i+1))
      case measure=>omega
      case rel=>exact ⟨i+1,out,rfl,zw,zj,vB _,HN.o⟩
     have he:=mV hs0
     have hos:out.size<=10000000:=jJ
     obtain ⟨F1,f1,g1,a1⟩:=bD out ⟨#[10]⟩ qj
     obtain ⟨F2,f2,g2,a2⟩:=bD F1 ⟨(Lib.itoa id_).toArray⟩ (by have:(⟨#[10]⟩:ByteArray).size=1:=rfl;have qid_:(⟨(Lib.itoa id_).toArray⟩:ByteArray).size<=100:=(bE id_ hid0 hid1);omega)
     obtain ⟨F3,f3,g3,a3⟩:=bD F2 ⟨#[32,116,101,120,116,32]⟩ (by have:(⟨#[10]⟩:ByteArray).size=1:=rfl;have qid_:(⟨(Lib.itoa id_).toArray⟩:ByteArray).size<=100:=(bE id_ hid0 hid1);have:(⟨#[32,116,101,120,116,32]⟩:ByteArray).size=6:=rfl;omega)
     obtain ⟨F4,f4,g4,a4⟩:=bD F3 sx (by have:(⟨#[10]⟩:ByteArray).size=1:=rfl;have qid_:(⟨(Lib.itoa id_).toArray⟩:ByteArray).size<=100:=(bE id_ hid0 hid1);have:(⟨#[32,116,101,120,116,32]⟩:ByteArray).size=6:=rfl;have:=HTX.o.2.1;omega)
     have HFL:Aside (F4.data.toList=out.data.toList++(10::cq (id_,sx.data.toList))/\F4.size<=out.size+10000):=by
      refine ⟨?_,?_⟩
      ·rw [f4,f3,f2,f1]
       simp [bY,cq,gD,iS,Lib.join]
      have:(⟨#[10]⟩:ByteArray).size=1:=rfl;have qid_:(⟨(Lib.itoa id_).toArray⟩:ByteArray).size<=100:=(bE id_ hid0 hid1);have:(⟨#[32,116,101,120,116,32]⟩:ByteArray).size=6:=rfl;have:=HTX.o.2.1;omega
     clear f1 g1 f2 g2 f3 g3 f4 g4
     have HN0:Aside (OutIs F4 (qs.map bY++((bZ tf (S.take (i+1))).filter cB).map cq) (250+(i+1))):=by
      obtain ⟨L,hL,e⟩:=HKN.o
      rw [nC tf hx.o HKX.o,HID.o,if_pos (by rw [<-e];intro q;exact hs0 (by have:=congrArg List.length q;rw [uv] at this;exact this)),<-uj,<-e]
      exact A.o.1.snoc HFL.o
     have hdec:=fV id_ u2 zj zj
     clear hs0
     go_wp2_with fail
     refine hdec.mono ?_
     clear hdec
     rintro e u3 ⟨rfl,hb3⟩
     have HN:Aside (OutIs F4 (qs.map bY++((bZ tf (S.take (i+1))).filter cB).map cq) (250+(i+1))/\(∀nd∈bH (S.take (i+1)),∃L,LineIs S nd L)/\Below w.heap.size w u3):=⟨HN0.o,HNL.o,zi HB2.o hb3⟩
     clear hb3 A
     go_wp2
     go_roundg (S.length - (i+1))
     case measure=>omega
     case rel=>exact ⟨i+1,F4,rfl,zw,zj,vB _,HN.o⟩
    have HN:Aside (OutIs out (qs.map bY++((bZ tf (S.take (i+1))).filter cB).map cq) (250+(i+1))/\(∀nd∈bH (S.take (i+1)),∃L,LineIs S nd L)/\Below w.heap.size w u1):=by
     have hno:bH (S.take (i+1))=bH (S.take i):=IT hx.o (fun q=>hk ⟨q.1,by have:=q.2;rw [HID.o] at this;exact this⟩)
     refine ⟨?_,by rw [hno];exact A.o.2.1,HB1.o⟩
     have e:bZ tf (S.take (i+1))=bZ tf (S.take i):=by unfold bZ;rw [hno]
     rw [e]
     exact A.o.1.mono zj
    by_cases hk9:xk=109
    ·have dk:((xk:Int)==109)=true:=by simp;omega
     have dkn:(xk==109)=true:=zq
     have dk2:((xk:Int) !=109)=false:=zq
     have hne:xd≠id_:=fun q=>hk ⟨hk9,q⟩
     have dd:(xd==id_)=false:=by simp;exact hne
     have dd2:(xd !=id_)=true:=by simp;exact hne
     clear hk hk9 hne A
     go_wp2
     go_roundg (S.length - (i+1))
     case measure=>omega
     case rel=>exact ⟨i+1,out,rfl,zw,zj,vB _,HN.o⟩
    have dk:((xk:Int)==109)=false:=zq
    have dkn:(xk==109)=false:=zq
    have dk2:((xk:Int) !=109)=true:=zq
    clear hk hk9 A
    go_wp2
    go_roundg (S.length - (i+1))
    case measure=>omega
    case rel=>exact ⟨i+1,out,rfl,zw,zj,vB _,HN.o⟩
   have d1:decide ((i:Int)<(S.length:Int))=false:=zq
   have d1n:decide (i<S.length)=false:=zq
   have hmk:=CX u (H0.o.1.later A.o.2.2) H0.o.2.1.ok zj
   have H3:Aside (OutIs out (qs.map bY++((bZ tf S).filter cB).map cq) 500/\IsTexts S (bZ tf S)/\Below w.heap.size w u):=by
    have h1:=A.o.1
    have h2:=A.o.2.1
    rw [vT zj] at h1 h2
    exact ⟨h1.mono zj,Is H0.o.2.1.ok H0.o.2.2.2.2 htf.o h2,A.o.2.2⟩
   clear A
   go_wp2_with fail
   refine hmk.mono ?_
   clear hmk c0 c1 cf
   rintro e u1 ⟨pm,vm,L,base,rfl,HM⟩
   obtain ⟨la,lcap,rfl⟩:=fh HM.o.1.row
   have hLl:L.length<=250:=by have:=HM.o.2.2.1;omega
   go_wp2
   go_loopg [3,10] L.length (fun kx s3 s10 wr=>∃(i:Nat) (out:ByteArray),s3= .string out/\s10= .int .i64 (i:Int)/\i<=L.length/\L.length - i<=kx/\Aside (OutIs out ((qs.map bY++((bZ tf S).filter cB).map cq)++(shown (L.take i)).map gD) (500+i)/\Below u1.heap.size u1 wr))
   case atStart=>exact ⟨0,out,rfl,rfl,vM _,vB _,by simpa [shown] using H3.o.1,vG _ _⟩
   case round=>
    clear hlt d1 d1n hi hix
    have H3B:Aside (IsTexts S (bZ tf S)/\Below w.heap.size w u1):=⟨H3.o.2.1,zi H3.o.2.2 HM.o.2.2.2⟩
    clear H3
    obtain ⟨i,out,rfl,rfl,hi,hix,A⟩:=hrel
    obtain ⟨u,hu⟩:=zc wr
    subst hu
    have hMu:=HM.o.1.later A.o.2
    have m0:=hMu.c0
    by_cases hlt:i<L.length
    ·have d1:decide ((i:Int)<(L.length:Int))=true:=by simp;omega
     have d1n:decide (i<L.length)=true:=zq
     obtain ⟨⟨⟨ka,ks⟩,⟨kc,kt,kb⟩⟩,hx⟩:∃x,Aside (L[i]? =some x):=⟨L[i],vF hlt⟩
     obtain ⟨gb,go_,e1,q0,q1,q2,q3,q4⟩:=(sG (enc:=kw) (fun _=>rfl) hMu.row).mark hx.o
     subst e1
     have wi:((i:Int)).toNat=i:=zj
     have pi:(0:Int)<=(i:Int):=zj
     have bi:(i:Int)<(L.length:Int):=zj
     by_cases hs0:kc.size=0
     ·have he:=iL hs0
      have HN:Aside (OutIs out ((qs.map bY++((bZ tf S).filter cB).map cq)++(shown (L.take (i+1))).map gD) (500+(i+1))/\Below u1.heap.size u1 u):=by
       refine ⟨?_,A.o.2⟩
       rw [nQ hx.o,if_neg (by simp [hs0]),uQ]
       exact A.o.1.mono zj
      clear hs0 A hMu
      go_wp2
      go_roundg (L.length - (i+1))
      case measure=>omega
      case rel=>exact ⟨i+1,out,rfl,zw,zj,vB _,HN.o⟩
     have he:=mV hs0
     have hos:out.size<=10000000:=jJ
     have hm:0<=ka/\ka<2^40/\ks.size<=12/\kc.size<=12:=by
      have hmem:(ka,ks,kc)∈shown L:=by
       unfold shown
       refine uh.2 ⟨((ka,ks),(kc,kt,kb)),Zn.2 ⟨vH hx.o,?_⟩,rfl⟩
       exact decide_eq_true hs0
      exact wD HM.o.2.1.shown hmem
     obtain ⟨F1,f1,g1,a1⟩:=bD out ⟨#[10]⟩ qj
     obtain ⟨F2,f2,g2,a2⟩:=bD F1 ⟨(Lib.itoa ka).toArray⟩ (by have:(⟨#[10]⟩:ByteArray).size=1:=rfl;have qka:(⟨(Lib.itoa ka).toArray⟩:ByteArray).size<=100:=(bE ka hm.1 yL);omega)
     obtain ⟨F3,f3,g3,a3⟩:=bD F2 ⟨#[32,109,97,114,107,32]⟩ (by have:(⟨#[10]⟩:ByteArray).size=1:=rfl;have qka:(⟨(Lib.itoa ka).toArray⟩:ByteArray).size<=100:=(bE ka hm.1 yL);have:(⟨#[32,109,97,114,107,32]⟩:ByteArray).size=6:=rfl;omega)
     obtain ⟨F4,f4,g4,a4⟩:=bD F3 ks (by have:(⟨#[10]⟩:ByteArray).size=1:=rfl;have qka:(⟨(Lib.itoa ka).toArray⟩:ByteArray).size<=100:=(bE ka hm.1 yL);have:(⟨#[32,109,97,114,107,32]⟩:ByteArray).size=6:=rfl;have:=hm.2.2.1;omega)
     obtain ⟨F5,f5,g5,a5⟩:=bD F4 ⟨#[32]⟩ (by have:(⟨#[10]⟩:ByteArray).size=1:=rfl;have qka:(⟨(Lib.itoa ka).toArray⟩:ByteArray).size<=100:=(bE ka hm.1 yL);have:(⟨#[32,109,97,114,107,32]⟩:ByteArray).size=6:=rfl;have:=hm.2.2.1;have:(⟨#[32]⟩:ByteArray).size=1:=rfl;omega)
     obtain ⟨F6,f6,g6,a6⟩:=bD F5 kc (by have:(⟨#[10]⟩:ByteArray).size=1:=rfl;have qka:(⟨(Lib.itoa ka).toArray⟩:ByteArray).size<=100:=(bE ka hm.1 yL);have:(⟨#[32,109,97,114,107,32]⟩:ByteArray).size=6:=rfl;have:=hm.2.2.1;have:(⟨#[32]⟩:ByteArray).size=1:=rfl;have:=hm.2.2.2;omega)
     have HFL:Aside (F6.data.toList=out.data.toList++(10::gD (ka,ks,kc))/\F6.size<=out.size+10000):=by
      refine ⟨?_,?_⟩
      ·exact kq0
      have:(⟨#[10]⟩:ByteArray).size=1:=rfl;have qka:(⟨(Lib.itoa ka).toArray⟩:ByteArray).size<=100:=(bE ka hm.1 yL);have:(⟨#[32,109,97,114,107,32]⟩:ByteArray).size=6:=rfl;have:=hm.2.2.1;have:(⟨#[32]⟩:ByteArray).size=1:=rfl;have:=hm.2.2.2;omega
     clear f1 g1 f2 g2 f3 g3 f4 g4 f5 g5 f6 g6
     have HN0:Aside (OutIs F6 ((qs.map bY++((bZ tf S).filter cB).map cq)++(shown (L.take (i+1))).map gD) (500+(i+1))):=by
      rw [nQ hx.o,if_pos hs0,un,<-uj]
      exact A.o.1.snoc HFL.o
     have HS3:Aside (∀W,Below u.heap.size u W->(fun w':World=>w'.cell? ⟨pm,0,none⟩=some (.slice (some ⟨gb,go_,none⟩) L.length lcap)/\w'.cell? ⟨gb,go_+i*5,none⟩=some (.int .i64 ka)/\w'.cell? ⟨gb,go_+i*5+1,none⟩=some (.string ks)/\w'.cell? ⟨gb,go_+i*5+2,none⟩=some (.string kc)) W):=fun W hW=>⟨aT hW m0,aT hW q0,aT hW q1,aT hW q2⟩
     clear hs0 hMu
     go_upto_region 20 with fail
     clear q0 q1 q2 q3 q4 m0
     refine aL (S:=(fun w'=>w'.cell? ⟨pm,0,none⟩=some (.slice (some ⟨gb,go_,none⟩) L.length lcap)/\w'.cell? ⟨gb,go_+i*5,none⟩=some (.int .i64 ka)/\w'.cell? ⟨gb,go_+i*5+1,none⟩=some (.string ks)/\w'.cell? ⟨gb,go_+i*5+2,none⟩=some (.string kc))) zo (HS3.o u.drew ((vG _ u).drew)) (fun hHeld=> ?_)
     refine tk 0 hHeld ?_
     refine tk 1 hHeld ?_
     refine tk 2 hHeld ?_
     refine tk 3 hHeld ?_
     refine tk 4 hHeld ?_
     refine tk 5 hHeld ?_ (hy:=Or.inl ⟨zv,zK⟩)
     refine tk 6 hHeld ?_
     refine tk 7 hHeld ?_
     refine tk 8 hHeld ?_
     refine tk 9 hHeld ?_ (hy:=Or.inl ⟨zv,zK⟩)
     refine tk 13 hHeld ?_
     refine tk 14 hHeld ?_
     refine tk 15 hHeld ?_
     refine tk 16 hHeld ?_ (hy:=Or.inl ⟨zv,zK⟩)
     refine tk 17 hHeld ?_
     refine tk 18 hHeld ?_
     refine tk 19 hHeld ?_
     refine tk 20 hHeld ?_ (hy:=Or.inl ⟨zv,zK⟩)
     refine tk 23 hHeld ?_
     refine tk 24 hHeld ?_
     refine tk 25 hHeld ?_
     refine tk 26 hHeld ?_ (hy:=Or.inl ⟨zv,zK⟩)
     refine tk 27 hHeld ?_
     refine tk 28 hHeld ?_
     refine tk 29 hHeld ?_
     refine tk 30 hHeld ?_ (hy:=Or.inl ⟨zv,zK⟩)
     refine aW (i:=10) zo rfl (fun K hK=> ?_)
     go_simp
     refine (fV ka u.drew (by have:=hm.1;omega) yL).mono ?_
     rintro e w3 ⟨rfl,hb_w3⟩
     have B3:Below u.heap.size u w3:=((vG _ u).drew).trans hb_w3
     refine hK _ _ (HS3.o w3 B3) ?_
     clear hK K
     have HB3:Aside (Below u.heap.size u w3):=B3
     clear B3 hb_w3
     refine qn ?_
     refine tk 11 (HS3.o w3 HB3.o) ?_
     refine tk 12 (HS3.o w3 HB3.o) ?_
     refine tk 21 (HS3.o w3 HB3.o) ?_
     refine tk 22 (HS3.o w3 HB3.o) ?_
     refine tk 31 (HS3.o w3 HB3.o) ?_
     refine tk 32 (HS3.o w3 HB3.o) ?_
     refine wpAnyH_done zo ?_ _
     refine qn ?_
     have HN:Aside (OutIs F6 ((qs.map bY++((bZ tf S).filter cB).map cq)++(shown (L.take (i+1))).map gD) (500+(i+1))/\Below u1.heap.size u1 w3):=⟨HN0.o,zi A.o.2 HB3.o⟩
     clear a1 a2 a3 a4 a5 a6 A HN0
     go_wp2
     go_roundg (L.length - (i+1))
     case measure=>omega
     case rel=>exact ⟨i+1,F6,rfl,zw,zj,vB _,HN.o⟩
    have d1:decide ((i:Int)<(L.length:Int))=false:=zq
    have d1n:decide (i<L.length)=false:=zq
    obtain ⟨ls,hls⟩:=ze (FO qs (bZ tf S) (shown L))
    have HO:Aside (out.data.toList=DZ ls/\Below w.heap.size w u):=by
     have h1:=A.o.1.1
     rw [vT zj] at h1
     refine ⟨?_,zi H3B.o.2 A.o.2⟩
     rw [hls.o]
     exact h1
    have HSI:Aside (∀s,s=Lib.join ls [10]->StateIs S s):=fun s e=>⟨ms,qs,bZ tf S,S,shown L,H1.o.1,H1.o.2.1,H1.o.2.2.1,H3B.o.1,List.Perm.refl _,HM.o.2.1.shown,by rw [e,hls.o]⟩
    clear A hMu
    by_cases hs0:out.size=0
    ·have he:=iL hs0
     have HF:Aside (StateIs S (⟨#[]⟩:ByteArray).data.toList):=by
      refine HSI.o _ ?_
      have e0:out.data.toList= []:=vZ.1 (by rw [uv];exact hs0)
      rw [HO.o.1] at e0
      rw [Ie e0]
      rfl
     clear hs0
     go_wp2
     go_ret
     exact ⟨⟨#[]⟩,rfl,HF.o,HO.o.2⟩
    have he:=mV hs0
    have hb1:1<=out.size:=zj
    have hb2:(1:Int)<=(out.size:Int):=zj
    have HF:Aside (StateIs S (out.extract 1 out.size).data.toList):=by
     refine HSI.o _ ?_
     have hne:ls≠ []:=fun q=>by
      rw [q] at HO
      have:=congrArg List.length HO.o.1
      rw [uv] at this
      exact hs0 this
     rw [Lib.extract_data,HO.o.1,mQ hne]
     have hl:(DZ ls).length=out.size:=by rw [<-HO.o.1,uv];rfl
     rw [mQ hne] at hl
     rw [List.drop_one,List.tail_cons,vT]
     rw [ud] at hl
     omega
    clear hs0
    go_wp2
    go_ret
    exact ⟨_,rfl,HF.o,HO.o.2⟩
