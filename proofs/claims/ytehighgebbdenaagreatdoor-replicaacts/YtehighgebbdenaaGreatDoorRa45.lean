import Derived.Test.YtehighgebbdenaaGreatDoorRa44
set_option linter.unusedVariables false
set_option linter.unusedSimpArgs false
set_option maxRecDepth 100000
set_option maxHeartbeats 64000000
namespace Go.Proofs.YtehighgebbdenaaGreatDoor
variable {out:ByteArray} {ls:List (List UInt8)} {S:List OpX} {i n:Nat} {x:OpX}
section
open Go Go.RowKit Go.Lib Go.Sort Go.Maps
open scoped Classical
def CK (ls:List (List UInt8)):List UInt8:=ls.flatMap (fun l=>10::l)
theorem Ee (ls:List (List UInt8)) (l:List UInt8):CK (ls++ [l])=CK ls++(10::l):=by simp [CK]
theorem lz:∀ {ls:List (List UInt8)},ls≠ []->CK ls=10::Lib.join ls [10]
 | [],h=>absurd rfl h
 | [x],_=>by simp [CK,Lib.join]
 | x::y::t,_=>by
  have:=lz (ls:=y::t) zv;have e:CK (x::y::t)=10::(x++CK (y::t)):=rfl;rw [e,this];simp [Lib.join]
theorem Fm (h:CK ls= []):ls= []:=by
 cases ls with
 | nil=>rfl
 | cons x t=>simp [CK] at h
def bA (A:List OpX):List Int:=(A.filter (fun x=>decide (kdO x=109/\aL x=idO x))).map idO
theorem pQ (hx:S[i]? =some x) (h:kdO x=109/\aL x=idO x):bA (S.take (i+1))=bA (S.take i)++ [idO x]:=by
 have hi:=(vL.1 hx).1;unfold bA;rw [uK hi,(vL.1 hx).2,Za,uI,List.filter_cons_of_pos (by exact decide_eq_true h)];rfl
theorem GK (hx:S[i]? =some x) (h:¬(kdO x=109/\aL x=idO x)):bA (S.take (i+1))=bA (S.take i):=by
 have hi:=(vL.1 hx).1;unfold bA;rw [uK hi,(vL.1 hx).2,Za,uI,List.filter_cons_of_neg qz];simp
def bY (tf:Int->List UInt8) (A:List OpX):List (Int×List UInt8):=(bA A).map (fun nd=>(nd,tf nd))
theorem Fn {tf:Int->List UInt8} (hok:∀x∈S,an x=0) (hs:S.Pairwise (fun a b=>CLt (stO a) (stO b))) (htf:∀nd L,LineIs S nd L->tf nd=co L) (hl:∀nd∈bA S,∃L,LineIs S nd L):IsTexts S (bY tf S):=by
 refine ⟨?_,fun nd=> ?_,fun t ht=> ?_⟩
 ·unfold bY bA;rw [ZT,ZA]
  have h2:S.Pairwise (fun a b=>idO a<idO b):=by
   rw [ud] at hs |-
   intro i j hi hj hij;exact pV (hok _ (uR hi)) (hok _ (uR hj)) (hs i j hi hj hij)
  exact (h2.filter _)
 ·unfold bY bA KnownN;rw [ZT,ZT];constructor
  ·intro h;obtain ⟨x,hx,e⟩:=ut.1 h;obtain ⟨h1,h2⟩:=Zy.1 hx;have h2:=of_decide_eq_true h2;have e:idO x=nd:=e;exact ⟨x,h1,h2.1,by rw [h2.2,e],e⟩
  rintro ⟨x,hx,q1,q2,q3⟩;exact ut.2 ⟨x,Zy.2 ⟨hx,decide_eq_true ⟨q1,by rw [q2,q3]⟩⟩,q3⟩
 unfold bY at ht;obtain ⟨nd,hnd,rfl⟩:=ut.1 ht;obtain ⟨L,hL⟩:=hl nd hnd;exact ⟨L,hL,htf nd L hL⟩
theorem nN (tf:Int->List UInt8) (hx:S[i]? =some x) (h:kdO x=109/\aL x=idO x):((bY tf (S.take (i+1))).filter cL).map cu=((bY tf (S.take i)).filter cL).map cu++(if tf (idO x)≠ [] then [cu (idO x,tf (idO x))] else []):=by
 unfold bY;rw [pQ hx h,uI,Za,uI];congr 1;by_cases e:tf (idO x)= []
 ·rw [if_neg (by simp [e])];simp [cL,e]
 rw [if_pos e];simp [cL,e]
def OutIs (out:ByteArray) (ls:List (List UInt8)) (n:Nat):Prop:=out.data.toList=CK ls/\out.size<=n*10000
theorem bB (n:Int) (h0:0<=n) (h1:n<2^62):(⟨(Lib.itoa n).toArray⟩:ByteArray).size<=100:=by
 show (Lib.itoa n).toArray.size<=100
 rw [uA];exact kh _ h0 h1
theorem OutIs.snoc {F:ByteArray} {l:List UInt8} (h:OutIs out ls n) (hF:F.data.toList=out.data.toList++(10::l)/\F.size<=out.size+10000):OutIs F (ls++ [l]) (n+1):=by
 obtain ⟨h1,h2⟩:=h;obtain ⟨k1,k2⟩:=hF;refine ⟨?_,?_⟩
 ·rw [k1,h1];exact (Ee ls l).symm
 rw [Nat.succ_mul];exact uf k2 (Nat.add_le_add_right h2 _)
theorem OutIs.mono {k:Nat} (h:OutIs out ls n) (hk:n<=k):OutIs out ls k:=⟨h.1,uf h.2 (uO _ hk)⟩
theorem CY {m:Nat} {by_:Int} {ao:Option Addr} {cap:Nat} (w:World) (h:MRp w m by_ ao cap S) (hsh:Shp ao cap) (hW:WellK S) (hst:S.Pairwise (fun a b=>CLt (stO a) (stO b))) (hn:S.length<=140):
  Calls Tryz.prog 17 #[.pointer (some ⟨m,0,none⟩)] w fun e w'=>∃s,e= .returned (.string s)/\Aside (StateIs S s.data.toList/\Below w.heap.size w w'):=by
 have hnd:S.Nodup:=hst.imp (fun {a b} q e=>yu);have hpl:=kJ w (.slice ao S.length cap) S (hsh.at h.ops) hW hnd zo;obtain ⟨tf,htf⟩:=wQ S;obtain ⟨c0,c1,cf⟩:=h.c
 have H0:Aside (MRp w m by_ ao cap S/\WellK S/\Shp ao cap/\S.Nodup/\S.Pairwise (fun a b=>CLt (stO a) (stO b))):=⟨h,hW,hsh,hnd,hst⟩
 clear h hsh hW hst hnd;go_enter Tryz.func17,Tryz.ntmps17;go_wp2_with fail;refine hpl.mono ?_;clear hpl c0 c1 cf;rintro e w1 ⟨v1,qs,ms,rfl,P1,P2,P3,P4,P5,P6⟩;obtain ⟨qa,qc,rfl⟩:=bI P5
 have H1:Aside (ms.Perm (ai S)/\ax ms/\IsPlaces (aN ms) qs/\PlsAt w1 (.slice qa qs.length qc) qs/\Below w.heap.size w w1/\gr (aN ms)):=⟨P1,P2,P3,nX P5,P6,mH H0.o.2.1.ok P1⟩
 have hql:qs.length<=200:=P4;clear P1 P2 P3 P4 P5 P6;go_wp2;go_loopg [3,5] qs.length (fun kx s3 s5 wr=>∃(i:Nat) (out:ByteArray),s3= .string out/\s5= .int .i64 (i:Int)/\i<=qs.length/\qs.length - i<=kx/\Aside (OutIs out ((qs.take i).map bZ) i/\Below w1.heap.size w1 wr))
 case atStart=>exact ⟨0,⟨#[]⟩,rfl,rfl,vV _,vM _,⟨rfl,vM _⟩,vP _ _⟩
 case round=>
  obtain ⟨i,out,rfl,rfl,hi,hix,A⟩:=hrel;obtain ⟨u,hu⟩:=zc wr;subst hu;by_cases hlt:i<qs.length
  ·have d1:decide ((i:Int)<(qs.length:Int))=true:=by simp;omega
   have d1n:decide (i<qs.length)=true:=zr
   obtain ⟨⟨pc,pq,pn⟩,hx⟩:∃p,Aside (qs[i]? =some p):=⟨qs[i],vN hlt⟩
   have fp:FineP (pc,pq,pn):=by
    have:=(H1.o.2.2.1.mem (pc,pq,pn)).1 (vQ hx.o);exact H1.o.2.2.2.2.2.fine _ _ this
   have fp0:0<=pc:=fp.lo;have fp1:pc<2^62:=fp.hi;have fp2:0<=pq:=fp.lo';have fp3:pq<2^62:=fp.hi';have fp4:pn.size<=60:=fp.sz;clear fp;obtain ⟨gq,e1,q0,q1,q2⟩:=(H1.o.2.2.2.1.later A.o.2).three hx.o;subst e1
   have HS1:Aside (∀W,Below u.heap.size u W->(fun w':World=>w'.cell? ⟨gq,i*3,none⟩=some (.int .i64 pc)/\w'.cell? ⟨gq,i*3+1,none⟩=some (.int .i64 pq)/\w'.cell? ⟨gq,i*3+2,none⟩=some (.string pn)) W):=fun W hW=>⟨aT hW q0,aT hW q1,aT hW q2⟩
   have wi:((i:Int)).toNat=i:=zo;have pi:(0:Int)<=(i:Int):=zo;have bi:(i:Int)<(qs.length:Int):=zo;have hos:out.size<=10000000:=jI;obtain ⟨F1,f1,g1,a1⟩:=cW out ⟨#[10]⟩ ql;obtain ⟨F2,f2,g2,a2⟩:=cW F1 ⟨(Lib.itoa pc).toArray⟩ (by have:(⟨#[10]⟩:ByteArray).size=1:=rfl;have qpc:(⟨(Lib.itoa pc).toArray⟩:ByteArray).size<=100:=(bB pc fp0 fp1);omega);obtain ⟨F3,f3,g3,a3⟩:=cW F2 ⟨#[32,105,110,32]⟩ (by have:(⟨#[10]⟩:ByteArray).size=1:=rfl;have qpc:(⟨(Lib.itoa pc).toArray⟩:ByteArray).size<=100:=(bB pc fp0 fp1);have:(⟨#[32,105,110,32]⟩:ByteArray).size=4:=rfl;omega);obtain ⟨F4,f4,g4,a4⟩:=cW F3 ⟨(Lib.itoa pq).toArray⟩ (by have:(⟨#[10]⟩:ByteArray).size=1:=rfl;have qpc:(⟨(Lib.itoa pc).toArray⟩:ByteArray).size<=100:=(bB pc fp0 fp1);have:(⟨#[32,105,110,32]⟩:ByteArray).size=4:=rfl;have qpq:(⟨(Lib.itoa pq).toArray⟩:ByteArray).size<=100:=(bB pq fp2 fp3);omega);obtain ⟨F5,f5,g5,a5⟩:=cW F4 ⟨#[32]⟩ (by have:(⟨#[10]⟩:ByteArray).size=1:=rfl;have qpc:(⟨(Lib.itoa pc).toArray⟩:ByteArray).size<=100:=(bB pc fp0 fp1);have:(⟨#[32,105,110,32]⟩:ByteArray).size=4:=rfl;have qpq:(⟨(Lib.itoa pq).toArray⟩:ByteArray).size<=100:=(bB pq fp2 fp3);have:(⟨#[32]⟩:ByteArray).size=1:=rfl;omega);obtain ⟨F6,f6,g6,a6⟩:=cW F5 pn (by have:(⟨#[10]⟩:ByteArray).size=1:=rfl;have qpc:(⟨(Lib.itoa pc).toArray⟩:ByteArray).size<=100:=(bB pc fp0 fp1);have:(⟨#[32,105,110,32]⟩:ByteArray).size=4:=rfl;have qpq:(⟨(Lib.itoa pq).toArray⟩:ByteArray).size<=100:=(bB pq fp2 fp3);have:(⟨#[32]⟩:ByteArray).size=1:=rfl;have:=fp4;omega)
   have HFL:Aside (F6.data.toList=out.data.toList++(10::bZ (pc,pq,pn))/\F6.size<=out.size+10000):=by
    refine ⟨?_,?_⟩
    ·exact ks3
    have:(⟨#[10]⟩:ByteArray).size=1:=rfl;have qpc:(⟨(Lib.itoa pc).toArray⟩:ByteArray).size<=100:=(bB pc fp0 fp1);have:(⟨#[32,105,110,32]⟩:ByteArray).size=4:=rfl;have qpq:(⟨(Lib.itoa pq).toArray⟩:ByteArray).size<=100:=(bB pq fp2 fp3);have:(⟨#[32]⟩:ByteArray).size=1:=rfl;have:=fp4;omega
   clear f1 g1 f2 g2 f3 g3 f4 g4 f5 g5 f6 g6;go_upto_region 6 with fail;clear q0 q1 q2;refine aO (S:=(fun w'=>w'.cell? ⟨gq,i*3,none⟩=some (.int .i64 pc)/\w'.cell? ⟨gq,i*3+1,none⟩=some (.int .i64 pq)/\w'.cell? ⟨gq,i*3+2,none⟩=some (.string pn))) zq (HS1.o u.drew ((vP _ u).drew)) (fun hHeld=> ?_);refine tk 0 hHeld ?_;refine tk 1 hHeld ?_;refine tk 2 hHeld ?_;refine tk 3 hHeld ?_;refine tk 4 hHeld ?_;refine tk 5 hHeld ?_;refine tk 6 hHeld ?_ (hy:=Or.inl ⟨zA,yK⟩);refine tk 10 hHeld ?_;refine tk 11 hHeld ?_;refine tk 12 hHeld ?_;refine tk 13 hHeld ?_;refine tk 14 hHeld ?_ (hy:=Or.inl ⟨zA,yK⟩);refine tk 18 hHeld ?_;refine tk 19 hHeld ?_;refine tk 20 hHeld ?_;refine tk 21 hHeld ?_;refine tk 22 hHeld ?_ (hy:=Or.inl ⟨zA,yK⟩);refine aY (i:=7) zq rfl (fun K hK=> ?_);go_simp;refine (fU pc u.drew (by have:=fp0;omega) (by have:=fp1;omega)).mono ?_;rintro e w3 ⟨rfl,hb_w3⟩;have B3:Below u.heap.size u w3:=((vP _ u).drew).trans hb_w3;refine hK _ _ (HS1.o w3 B3) ?_;clear hK K;have HB3:Aside (Below u.heap.size u w3):=B3;clear B3 hb_w3;refine qn ?_;refine tk 8 (HS1.o w3 HB3.o) ?_;refine tk 9 (HS1.o w3 HB3.o) ?_;refine aY (i:=15) zq rfl (fun K hK=> ?_);go_simp;refine (fU pq w3 (by have:=fp2;omega) (by have:=fp3;omega)).mono ?_;rintro e w4 ⟨rfl,hb_w4⟩;have B4:Below u.heap.size u w4:=zj HB3.o hb_w4;refine hK _ _ (HS1.o w4 B4) ?_;clear hK K;have HB4:Aside (Below u.heap.size u w4):=B4;clear B4 hb_w4;refine qn ?_;refine tk 16 (HS1.o w4 HB4.o) ?_;refine tk 17 (HS1.o w4 HB4.o) ?_;refine tk 23 (HS1.o w4 HB4.o) ?_;refine tk 24 (HS1.o w4 HB4.o) ?_;refine wpAnyH_done zq ?_ _;refine qn ?_
   have HN:Aside (OutIs F6 ((qs.take (i+1)).map bZ) (i+1)/\Below w1.heap.size w1 w4):=⟨by rw [iS bZ qs hx.o];exact A.o.1.snoc HFL.o,zj A.o.2 HB4.o⟩
   clear a1 a2 a3 a4 a5 a6 A;go_wp2;go_roundg (qs.length - (i+1))
   case measure=>omega
   case rel=>exact ⟨i+1,F6,rfl,zD,zo,vM _,HN.o⟩
  have d1:decide ((i:Int)<(qs.length:Int))=false:=zr;have d1n:decide (i<qs.length)=false:=zr
  have H2:Aside (OutIs out (qs.map bZ++((bY tf (S.take 0)).filter cL).map cu) (200+0)/\(∀nd∈bA (S.take 0),∃L,LineIs S nd L)/\Below w.heap.size w u):=by
   have h1:=A.o.1;rw [uc zo] at h1;refine ⟨?_,fun nd hnd=>by simp [bA] at hnd,zj H1.o.2.2.2.2.1 A.o.2⟩
   have e:((bY tf (S.take 0)).filter cL).map cu= []:=by simp [bY,bA]
   rw [e,Zi];exact h1.mono zo
  clear A;go_wp2;go_loopg [3,6] S.length (fun kx s3 s6 wr=>∃(i:Nat) (out:ByteArray),s3= .string out/\s6= .int .i64 (i:Int)/\i<=S.length/\S.length - i<=kx/\Aside (OutIs out (qs.map bZ++((bY tf (S.take i)).filter cL).map cu) (200+i)/\(∀nd∈bA (S.take i),∃L,LineIs S nd L)/\Below w.heap.size w wr))
  case atStart=>exact ⟨0,out,rfl,rfl,vV _,vM _,H2.o⟩
  case round=>
   clear H2 hlt d1 d1n hi hix;obtain ⟨i,out,rfl,rfl,hi,hix,A⟩:=hrel;obtain ⟨u,hu⟩:=zc wr;subst hu;obtain ⟨c0,c1,cf⟩:=(H0.o.1.later A.o.2.2).c;by_cases hlt:i<S.length
   ·have d1:decide ((i:Int)<(S.length:Int))=true:=by simp;omega
    have d1n:decide (i<S.length)=true:=zr
    obtain ⟨x,hx⟩:∃x,Aside (S[i]? =some x):=⟨S[i],vN hlt⟩
    have hex:=H0.o.2.1.ok x (vQ hx.o);obtain ⟨b1,o1,e1,E1⟩:=(H0.o.1.later A.o.2.2).ops.one hx.o;obtain ⟨xt,xb,xn,xk,xd,xo,xs,xv⟩:=x;have hst:=aq hex;have hid:=fK xt xb u hst.1 hst.2.1 hst.2.2.1 hst.2.2.2.1
    have hid0:0<=4*xt+xb:=by have a1:1<=xt:=hst.1;have a2:0<=xb:=hst.2.2.1;omega
    have hid1:4*xt+xb<2^62:=by have a1:xt<=1073741824:=hst.2.1;have a2:xb<4:=hst.2.2.2.1;omega
    clear hst hex;dsimp only at E1;subst e1;have wi:((i:Int)).toNat=i:=zo;have pi:(0:Int)<=(i:Int):=zo;have bi:(i:Int)<(S.length:Int):=zo;obtain ⟨q0,q1,q2,q3,q4,q5,q6,q7⟩:=E1;go_wp2_with fail;refine hid.mono ?_;clear hid q0 q1 q2 q3 q4 q5 q6 q7 c0 c1 cf;rintro e u1 ⟨rfl,hb1⟩;have HB1:Aside (Below w.heap.size w u1):=zj A.o.2.2 hb1;clear hb1;obtain ⟨c0,c1,cf⟩:=(H0.o.1.later HB1.o).c;obtain ⟨b2,o2,e2,E2⟩:=(H0.o.1.later HB1.o).ops.one hx.o
    cases e2
    dsimp only at E2;obtain ⟨q0,q1,q2,q3,q4,q5,q6,q7⟩:=E2;obtain ⟨id_,hidd⟩:=ze (4*xt+xb)
    rw [<-hidd.o] at hid0 hid1 |-
    have HID:Aside (idO (xt,xb,xn,xk,xd,xo,xs,xv)=id_):=by show idO _=id_;rw [hidd.o];show xt*4+xb=4*xt+xb;omega
    clear hidd;by_cases hk:xk=109/\xd=id_
    ·have dk:((xk:Int)==109)=true:=by simp;omega
     have dkn:(xk==109)=true:=zr;have dk2:((xk:Int) !=109)=false:=zr
     have dd:(xd==id_)=true:=by simp [hk.2]
     have dd2:(xd !=id_)=false:=by simp [hk.2]
     have HKX:Aside (kdO (xt,xb,xn,xk,xd,xo,xs,xv)=109/\aL (xt,xb,xn,xk,xd,xo,xs,xv)=idO (xt,xb,xn,xk,xd,xo,xs,xv)):=⟨hk.1,by rw [HID.o];exact hk.2⟩
     have htx:=rJ u1 id_ (H0.o.1.later HB1.o) H0.o.2.2.1 H0.o.2.1 H0.o.2.2.2.1 zo;clear hk;go_wp2_with fail;refine htx.mono ?_;clear htx q0 q1 q2 q3 q4 q5 q6 q7 c0 c1 cf;rintro e u2 ⟨sx,rfl,HTX⟩;have HB2:Aside (Below w.heap.size w u2):=zj HB1.o HTX.o.2.2
     have HKN:Aside (∃L,LineIs S id_ L/\sx.data.toList=tf id_):=by
      have hkn:KnownN S id_:=⟨_,vQ hx.o,HKX.o.1,by rw [HKX.o.2,HID.o],HID.o⟩
      rcases HTX.o.1 with ⟨q,_⟩ | ⟨_,L,hL,e⟩
      ·exact absurd hkn q
      exact ⟨L,hL,by rw [e,htf.o id_ L hL]⟩
     have HNL:Aside (∀nd∈bA (S.take (i+1)),∃L,LineIs S nd L):=by
      intro nd hnd;rw [pQ hx.o HKX.o] at hnd
      rcases vW.1 hnd with q | q
      ·exact A.o.2.1 nd q
      obtain rfl:nd=id_:=by rw [uq] at q;rw [q];exact HID.o
      obtain ⟨L,hL,_⟩:=HKN.o;exact ⟨L,hL⟩
     by_cases hs0:sx.size=0
     ·have he:=fG hs0
      have HN:Aside (OutIs out (qs.map bZ++((bY tf (S.take (i+1))).filter cL).map cu) (200+(i+1))/\(∀nd∈bA (S.take (i+1)),∃L,LineIs S nd L)/\Below w.heap.size w u2):=by
       refine ⟨?_,HNL.o,HB2.o⟩;obtain ⟨L,hL,e⟩:=HKN.o;have e0:sx.data.toList= []:=uh.1 (by rw [uw];exact hs0);rw [nN tf hx.o HKX.o,HID.o,if_neg (by rw [<-e,e0];simp),Zi];exact A.o.1.mono zo
      clear A hs0;go_wp2;go_roundg (S.length - (i+1))
      case measure=>omega
      case rel=>exact ⟨i+1,out,rfl,zD,zo,vM _,HN.o⟩
     have he:=gm hs0;have hos:out.size<=10000000:=jI;obtain ⟨F1,f1,g1,a1⟩:=cW out ⟨#[10]⟩ ql;obtain ⟨F2,f2,g2,a2⟩:=cW F1 ⟨(Lib.itoa id_).toArray⟩ (by have:(⟨#[10]⟩:ByteArray).size=1:=rfl;have qid_:(⟨(Lib.itoa id_).toArray⟩:ByteArray).size<=100:=(bB id_ hid0 hid1);omega);obtain ⟨F3,f3,g3,a3⟩:=cW F2 ⟨#[32,116,101,120,116,32]⟩ (by have:(⟨#[10]⟩:ByteArray).size=1:=rfl;have qid_:(⟨(Lib.itoa id_).toArray⟩:ByteArray).size<=100:=(bB id_ hid0 hid1);have:(⟨#[32,116,101,120,116,32]⟩:ByteArray).size=6:=rfl;omega);obtain ⟨F4,f4,g4,a4⟩:=cW F3 sx (by have:(⟨#[10]⟩:ByteArray).size=1:=rfl;have qid_:(⟨(Lib.itoa id_).toArray⟩:ByteArray).size<=100:=(bB id_ hid0 hid1);have:(⟨#[32,116,101,120,116,32]⟩:ByteArray).size=6:=rfl;have:=HTX.o.2.1;omega)
     have HFL:Aside (F4.data.toList=out.data.toList++(10::cu (id_,sx.data.toList))/\F4.size<=out.size+10000):=by
      refine ⟨?_,?_⟩
      ·rw [f4,f3,f2,f1];simp [bZ,cu,gv,gg,Lib.join]
      have:(⟨#[10]⟩:ByteArray).size=1:=rfl;have qid_:(⟨(Lib.itoa id_).toArray⟩:ByteArray).size<=100:=(bB id_ hid0 hid1);have:(⟨#[32,116,101,120,116,32]⟩:ByteArray).size=6:=rfl;have:=HTX.o.2.1;omega
     clear f1 g1 f2 g2 f3 g3 f4 g4
     have HN0:Aside (OutIs F4 (qs.map bZ++((bY tf (S.take (i+1))).filter cL).map cu) (200+(i+1))):=by
      obtain ⟨L,hL,e⟩:=HKN.o;rw [nN tf hx.o HKX.o,HID.o,if_pos (by rw [<-e];intro q;exact hs0 (by have:=congrArg List.length q;rw [uw] at this;exact this)),<-ux,<-e];exact A.o.1.snoc HFL.o
     have hdec:=fU id_ u2 zo zo;clear hs0;go_wp2_with fail;refine hdec.mono ?_;clear hdec;rintro e u3 ⟨rfl,hb3⟩
     have HN:Aside (OutIs F4 (qs.map bZ++((bY tf (S.take (i+1))).filter cL).map cu) (200+(i+1))/\(∀nd∈bA (S.take (i+1)),∃L,LineIs S nd L)/\Below w.heap.size w u3):=⟨HN0.o,HNL.o,zj HB2.o hb3⟩
     clear hb3 A;go_wp2;go_roundg (S.length - (i+1))
     case measure=>omega
     case rel=>exact ⟨i+1,F4,rfl,zD,zo,vM _,HN.o⟩
    have HN:Aside (OutIs out (qs.map bZ++((bY tf (S.take (i+1))).filter cL).map cu) (200+(i+1))/\(∀nd∈bA (S.take (i+1)),∃L,LineIs S nd L)/\Below w.heap.size w u1):=by
     have hno:bA (S.take (i+1))=bA (S.take i):=GK hx.o (fun q=>hk ⟨q.1,by have:=q.2;rw [HID.o] at this;exact this⟩);refine ⟨?_,by rw [hno];exact A.o.2.1,HB1.o⟩
     have e:bY tf (S.take (i+1))=bY tf (S.take i):=by unfold bY;rw [hno]
     rw [e];exact A.o.1.mono zo
    by_cases hk9:xk=109
    ·have dk:((xk:Int)==109)=true:=by simp;omega
     have dkn:(xk==109)=true:=zr;have dk2:((xk:Int) !=109)=false:=zr
     have hne:xd≠id_:=fun q=>hk ⟨hk9,q⟩
     have dd:(xd==id_)=false:=by simp;exact hne
     have dd2:(xd !=id_)=true:=by simp;exact hne
     clear hk hk9 hne A;go_wp2;go_roundg (S.length - (i+1))
     case measure=>omega
     case rel=>exact ⟨i+1,out,rfl,zD,zo,vM _,HN.o⟩
    have dk:((xk:Int)==109)=false:=zr;have dkn:(xk==109)=false:=zr;have dk2:((xk:Int) !=109)=true:=zr;clear hk hk9 A;go_wp2;go_roundg (S.length - (i+1))
    case measure=>omega
    case rel=>exact ⟨i+1,out,rfl,zD,zo,vM _,HN.o⟩
   have d1:decide ((i:Int)<(S.length:Int))=false:=zr;have d1n:decide (i<S.length)=false:=zr;have hmk:=Bb u (H0.o.1.later A.o.2.2) H0.o.2.1.ok zo
   have H3:Aside (OutIs out (qs.map bZ++((bY tf S).filter cL).map cu) 400/\IsTexts S (bY tf S)/\Below w.heap.size w u):=by
    have h1:=A.o.1;have h2:=A.o.2.1;rw [uc zo] at h1 h2;exact ⟨h1.mono zo,Fn H0.o.2.1.ok H0.o.2.2.2.2 htf.o h2,A.o.2.2⟩
   clear A;go_wp2_with fail;refine hmk.mono ?_;clear hmk c0 c1 cf;rintro e u1 ⟨pm,vm,L,base,rfl,HM⟩;obtain ⟨la,lcap,rfl⟩:=fD HM.o.1.row
   have hLl:L.length<=140:=by have:=HM.o.2.2.1;omega
   go_wp2;go_loopg [3,10] L.length (fun kx s3 s10 wr=>∃(i:Nat) (out:ByteArray),s3= .string out/\s10= .int .i64 (i:Int)/\i<=L.length/\L.length - i<=kx/\Aside (OutIs out ((qs.map bZ++((bY tf S).filter cL).map cu)++(shown (L.take i)).map gv) (400+i)/\Below u1.heap.size u1 wr))
   case atStart=>exact ⟨0,out,rfl,rfl,vV _,vM _,by simpa [shown] using H3.o.1,vP _ _⟩
   case round=>
    clear hlt d1 d1n hi hix
    have H3B:Aside (IsTexts S (bY tf S)/\Below w.heap.size w u1):=⟨H3.o.2.1,zj H3.o.2.2 HM.o.2.2.2⟩
    clear H3;obtain ⟨i,out,rfl,rfl,hi,hix,A⟩:=hrel;obtain ⟨u,hu⟩:=zc wr;subst hu;have hMu:=HM.o.1.later A.o.2;have m0:=hMu.c0;by_cases hlt:i<L.length
    ·have d1:decide ((i:Int)<(L.length:Int))=true:=by simp;omega
     have d1n:decide (i<L.length)=true:=zr
     obtain ⟨⟨⟨ka,ks⟩,⟨kc,kt,kb⟩⟩,hx⟩:∃x,Aside (L[i]? =some x):=⟨L[i],vN hlt⟩
     obtain ⟨gb,go_,e1,q0,q1,q2,q3,q4⟩:=(tM (enc:=kA) (fun _=>rfl) hMu.row).mark hx.o;subst e1;have wi:((i:Int)).toNat=i:=zo;have pi:(0:Int)<=(i:Int):=zo;have bi:(i:Int)<(L.length:Int):=zo;by_cases hs0:kc.size=0
     ·have he:=fG hs0
      have HN:Aside (OutIs out ((qs.map bZ++((bY tf S).filter cL).map cu)++(shown (L.take (i+1))).map gv) (400+(i+1))/\Below u1.heap.size u1 u):=by
       refine ⟨?_,A.o.2⟩;rw [mp hx.o,if_neg (by simp [hs0]),Zi];exact A.o.1.mono zo
      clear hs0 A hMu;go_wp2;go_roundg (L.length - (i+1))
      case measure=>omega
      case rel=>exact ⟨i+1,out,rfl,zD,zo,vM _,HN.o⟩
     have he:=gm hs0;have hos:out.size<=10000000:=jI
     have hm:0<=ka/\ka<2^40/\ks.size<=12/\kc.size<=12:=by
      have hmem:(ka,ks,kc)∈shown L:=by
       unfold shown;refine ut.2 ⟨((ka,ks),(kc,kt,kb)),Zy.2 ⟨vQ hx.o,?_⟩,rfl⟩;exact decide_eq_true hs0
      exact sv HM.o.2.1.shown hmem
     obtain ⟨F1,f1,g1,a1⟩:=cW out ⟨#[10]⟩ ql;obtain ⟨F2,f2,g2,a2⟩:=cW F1 ⟨(Lib.itoa ka).toArray⟩ (by have:(⟨#[10]⟩:ByteArray).size=1:=rfl;have qka:(⟨(Lib.itoa ka).toArray⟩:ByteArray).size<=100:=(bB ka hm.1 yP);omega);obtain ⟨F3,f3,g3,a3⟩:=cW F2 ⟨#[32,109,97,114,107,32]⟩ (by have:(⟨#[10]⟩:ByteArray).size=1:=rfl;have qka:(⟨(Lib.itoa ka).toArray⟩:ByteArray).size<=100:=(bB ka hm.1 yP);have:(⟨#[32,109,97,114,107,32]⟩:ByteArray).size=6:=rfl;omega);obtain ⟨F4,f4,g4,a4⟩:=cW F3 ks (by have:(⟨#[10]⟩:ByteArray).size=1:=rfl;have qka:(⟨(Lib.itoa ka).toArray⟩:ByteArray).size<=100:=(bB ka hm.1 yP);have:(⟨#[32,109,97,114,107,32]⟩:ByteArray).size=6:=rfl;have:=hm.2.2.1;omega);obtain ⟨F5,f5,g5,a5⟩:=cW F4 ⟨#[32]⟩ (by have:(⟨#[10]⟩:ByteArray).size=1:=rfl;have qka:(⟨(Lib.itoa ka).toArray⟩:ByteArray).size<=100:=(bB ka hm.1 yP);have:(⟨#[32,109,97,114,107,32]⟩:ByteArray).size=6:=rfl;have:=hm.2.2.1;have:(⟨#[32]⟩:ByteArray).size=1:=rfl;omega);obtain ⟨F6,f6,g6,a6⟩:=cW F5 kc (by have:(⟨#[10]⟩:ByteArray).size=1:=rfl;have qka:(⟨(Lib.itoa ka).toArray⟩:ByteArray).size<=100:=(bB ka hm.1 yP);have:(⟨#[32,109,97,114,107,32]⟩:ByteArray).size=6:=rfl;have:=hm.2.2.1;have:(⟨#[32]⟩:ByteArray).size=1:=rfl;have:=hm.2.2.2;omega)
     have HFL:Aside (F6.data.toList=out.data.toList++(10::gv (ka,ks,kc))/\F6.size<=out.size+10000):=by
      refine ⟨?_,?_⟩
      ·exact ks3
      have:(⟨#[10]⟩:ByteArray).size=1:=rfl;have qka:(⟨(Lib.itoa ka).toArray⟩:ByteArray).size<=100:=(bB ka hm.1 yP);have:(⟨#[32,109,97,114,107,32]⟩:ByteArray).size=6:=rfl;have:=hm.2.2.1;have:(⟨#[32]⟩:ByteArray).size=1:=rfl;have:=hm.2.2.2;omega
     clear f1 g1 f2 g2 f3 g3 f4 g4 f5 g5 f6 g6
     have HN0:Aside (OutIs F6 ((qs.map bZ++((bY tf S).filter cL).map cu)++(shown (L.take (i+1))).map gv) (400+(i+1))):=by
      rw [mp hx.o,if_pos hs0,uI,<-ux];exact A.o.1.snoc HFL.o
     have HS3:Aside (∀W,Below u.heap.size u W->(fun w':World=>w'.cell? ⟨pm,0,none⟩=some (.slice (some ⟨gb,go_,none⟩) L.length lcap)/\w'.cell? ⟨gb,go_+i*5,none⟩=some (.int .i64 ka)/\w'.cell? ⟨gb,go_+i*5+1,none⟩=some (.string ks)/\w'.cell? ⟨gb,go_+i*5+2,none⟩=some (.string kc)) W):=fun W hW=>⟨aT hW m0,aT hW q0,aT hW q1,aT hW q2⟩
     clear hs0 hMu;go_upto_region 20 with fail;clear q0 q1 q2 q3 q4 m0;refine aO (S:=(fun w'=>w'.cell? ⟨pm,0,none⟩=some (.slice (some ⟨gb,go_,none⟩) L.length lcap)/\w'.cell? ⟨gb,go_+i*5,none⟩=some (.int .i64 ka)/\w'.cell? ⟨gb,go_+i*5+1,none⟩=some (.string ks)/\w'.cell? ⟨gb,go_+i*5+2,none⟩=some (.string kc))) zq (HS3.o u.drew ((vP _ u).drew)) (fun hHeld=> ?_);refine tk 0 hHeld ?_;refine tk 1 hHeld ?_;refine tk 2 hHeld ?_;refine tk 3 hHeld ?_;refine tk 4 hHeld ?_;refine tk 5 hHeld ?_ (hy:=Or.inl ⟨zA,zO⟩);refine tk 6 hHeld ?_;refine tk 7 hHeld ?_;refine tk 8 hHeld ?_;refine tk 9 hHeld ?_ (hy:=Or.inl ⟨zA,zO⟩);refine tk 13 hHeld ?_;refine tk 14 hHeld ?_;refine tk 15 hHeld ?_;refine tk 16 hHeld ?_ (hy:=Or.inl ⟨zA,zO⟩);refine tk 17 hHeld ?_;refine tk 18 hHeld ?_;refine tk 19 hHeld ?_;refine tk 20 hHeld ?_ (hy:=Or.inl ⟨zA,zO⟩);refine tk 23 hHeld ?_;refine tk 24 hHeld ?_;refine tk 25 hHeld ?_;refine tk 26 hHeld ?_ (hy:=Or.inl ⟨zA,zO⟩);refine tk 27 hHeld ?_;refine tk 28 hHeld ?_;refine tk 29 hHeld ?_;refine tk 30 hHeld ?_ (hy:=Or.inl ⟨zA,zO⟩);refine aY (i:=10) zq rfl (fun K hK=> ?_);go_simp;refine (fU ka u.drew (by have:=hm.1;omega) yP).mono ?_;rintro e w3 ⟨rfl,hb_w3⟩;have B3:Below u.heap.size u w3:=((vP _ u).drew).trans hb_w3;refine hK _ _ (HS3.o w3 B3) ?_;clear hK K;have HB3:Aside (Below u.heap.size u w3):=B3;clear B3 hb_w3;refine qn ?_;refine tk 11 (HS3.o w3 HB3.o) ?_;refine tk 12 (HS3.o w3 HB3.o) ?_;refine tk 21 (HS3.o w3 HB3.o) ?_;refine tk 22 (HS3.o w3 HB3.o) ?_;refine tk 31 (HS3.o w3 HB3.o) ?_;refine tk 32 (HS3.o w3 HB3.o) ?_;refine wpAnyH_done zq ?_ _;refine qn ?_
     have HN:Aside (OutIs F6 ((qs.map bZ++((bY tf S).filter cL).map cu)++(shown (L.take (i+1))).map gv) (400+(i+1))/\Below u1.heap.size u1 w3):=⟨HN0.o,zj A.o.2 HB3.o⟩
     clear a1 a2 a3 a4 a5 a6 A HN0;go_wp2;go_roundg (L.length - (i+1))
     case measure=>omega
     case rel=>exact ⟨i+1,F6,rfl,zD,zo,vM _,HN.o⟩
    have d1:decide ((i:Int)<(L.length:Int))=false:=zr;have d1n:decide (i<L.length)=false:=zr;obtain ⟨ls,hls⟩:=ze (pe qs (bY tf S) (shown L))
    have HO:Aside (out.data.toList=CK ls/\Below w.heap.size w u):=by
     have h1:=A.o.1.1;rw [uc zo] at h1;refine ⟨?_,zj H3B.o.2 A.o.2⟩;rw [hls.o];exact h1
    have HSI:Aside (∀s,s=Lib.join ls [10]->StateIs S s):=fun s e=>⟨ms,qs,bY tf S,S,shown L,H1.o.1,H1.o.2.1,H1.o.2.2.1,H3B.o.1,List.Perm.refl _,HM.o.2.1.shown,by rw [e,hls.o]⟩
    clear A hMu;by_cases hs0:out.size=0
    ·have he:=fG hs0
     have HF:Aside (StateIs S (⟨#[]⟩:ByteArray).data.toList):=by
      refine HSI.o _ ?_;have e0:out.data.toList= []:=uh.1 (by rw [uw];exact hs0);rw [HO.o.1] at e0;rw [Fm e0];rfl
     clear hs0;go_wp2;go_ret;exact ⟨⟨#[]⟩,rfl,HF.o,HO.o.2⟩
    have he:=gm hs0;have hb1:1<=out.size:=zo;have hb2:(1:Int)<=(out.size:Int):=zo
    have HF:Aside (StateIs S (out.extract 1 out.size).data.toList):=by
     refine HSI.o _ ?_
     have hne:ls≠ []:=fun q=>by
      rw [q] at HO;have:=congrArg List.length HO.o.1;rw [uw] at this;exact hs0 this
     rw [Lib.extract_data,HO.o.1,lz hne]
     have hl:(CK ls).length=out.size:=by rw [<-HO.o.1,uw];rfl
     rw [lz hne] at hl;rw [List.drop_one,List.tail_cons,uc];rw [uu] at hl;omega
    clear hs0;go_wp2;go_ret;exact ⟨_,rfl,HF.o,HO.o.2⟩
