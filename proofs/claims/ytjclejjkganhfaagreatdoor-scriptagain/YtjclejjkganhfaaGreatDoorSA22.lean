import Derived.Test.YtjclejjkganhfaaGreatDoorSA20
import Derived.Lib.SliceRun
set_option linter.unusedSimpArgs false
set_option linter.unusedVariables false
set_option maxRecDepth 100000
set_option maxHeartbeats 64000000
namespace Go.Proofs.YtjclejjkganhfaaGreatDoor
open Go.Proofs.Tryz
section
open RowKit Lib Go.Sort Maps
open scoped Classical
theorem Cc(w)(c)(br)(o8)(R)(h:L0 w c br o8 R)(aK:Lib.TabIs prog w "internal/strconv.uint64pow10" .u64 Lib.pow10Tab)(hn:(lY R).length<=300):
  Calls prog 102 #[.pointer (some ⟨br,0,none⟩)] w fun e w'=>∃s,e= .returned (.string ⟨s.toArray⟩)/\G3 (lY R) s/\Below w.heap.size w w':=by
 obtain ⟨T,kv,bt,bx,bc,A,hM,hperm,hK,bK⟩:=h;have hAl:A.length<=300:=xZ;obtain ⟨S,hS⟩:=za w.heap.size;obtain ⟨U,hU⟩:=za (w.alloc (.cells #[.slice none 0 0] 22));have ah:Below w.heap.size w U:=zX
 have hT0:P6 S [] (.slice none 0 0) U:=⟨by rw [hU,hS];exact heap_alloc_new w _,Zk _ _ _ _⟩
 have HT:Aside (Lib.TabBelow prog w.heap.size w "internal/strconv.uint64pow10" .u64 Lib.pow10Tab):=Lib.tabBelow_of_tabIs aK
 have HM:Aside (I2 w c br T o8 kv bt bx bc R A/\A.Perm (lY R)/\t7 R):=⟨hM,hperm,hK⟩
 have eg:∀args w,(callFunc 128 args).run prog w= .ok (.enter 128 args) w:=enters_of func128 zk rfl;obtain ⟨bm,tv,ms,fY,js,-⟩:=(hM.later ah).Z8;obtain ⟨nm,dr,jN⟩:=fY.map
 have hml:ms.length<=300:=by
  have h1:=js.length_eq;have h2:(pu A).length<=A.length:=YL _ _;omega
 have hpl:=EO U bt bm nm tv (mX ms) fY.aaa fY.cell jN zj;have c6:=(hM.later ah).cell.c6
 have HMS:Aside (ms.Perm (pu A)/\ml ms/\AV (mX ms)):=⟨js,fY.o8,fY.aaa⟩
 have HU:Aside (U=w.alloc (.cells #[.slice none 0 0] 22)/\Below w.heap.size w U/\P6 S [] (.slice none 0 0) U/\S=w.heap.size):=⟨hU,ah,hT0,hS⟩
 clear fY jN js hM hperm hK bK aK hT0 hU ah;go_enter func102,ntmps102;go_upto_region 3 with fail;rw [<-HU.o.1];go_wp2_with fail;refine hpl.mono ?_;rintro e W1 ⟨vq,qs,rfl,hIP,hql,hPA,hb1,hnew⟩;obtain ⟨ao,qc,rfl,ar,aH⟩:=zcg hPA;rw [<-hS]
 have HQ:Aside (D4 (mX ms) qs/\N7 mW W1 ao qs/\(∀g o,ao=some ⟨g,o,none⟩->g<W1.heap.size/\g≠S/\(Value.slice none 0 0).ownBlock≠some g)/\J5 w S W1 (.slice none 0 0) [] (.slice none 0 0) W1):=by
  refine ⟨hIP,ar,fun g o e=>⟨(aH g o e).2,?_,fun q=>xQ⟩,J5.start (HU.o.2.2.1.later hb1) ?_⟩
  ·have h1:=hnew g (aH g o e).1;have h2:=HU.o.2.2.1.lt;omega
  rw [HU.o.2.2.2];exact zi HU.o.2.1 hb1
 have hqs:qs.length<=180000:=zj;clear hIP hPA hb1 hnew ar aH hql dr hS;go_wp2;go_loopg [19] qs.length (fun kx s19 wr=>∃(k:Nat) (v:Value),s19= .int .i64 (k:Int)/\k<=qs.length/\qs.length - k<=kx/\Aside (J5 w S W1 (.slice none 0 0) ((qs.take k).map oT) v wr))
 case atStart=>exact ⟨0,_,rfl,uW _,uM _,HQ.o.2.2.2⟩
 case round=>
  obtain ⟨k,v,rfl,hk,aY,A1⟩:=hrel;by_cases hlt:k<qs.length
  ·have d1:decide ((k:Int)<(qs.length:Int))=true:=by simp;omega
   have wk:((k:Int)).toNat=k:=zj;have pk:(0:Int)<=(k:Int):=zj;have bk:(k:Int)<(qs.length:Int):=zj
   obtain ⟨⟨a,b,s⟩,hx⟩:∃x,Aside (qs[k]? =some x):=⟨qs[k],uL hlt⟩
   obtain ⟨blk,off,aH,hc⟩:=(A1.o.abM HQ.o.2.1 HQ.o.2.2.1).e mG hx.o;subst aH;have r0:=hc 0 _ rfl;have r1:=hc 1 _ rfl;have r2:=hc 2 _ rfl;simp only [ZG] at r0;have cY:=HMS.o.2.2.Y5 _ _ ((HQ.o.1.U7 _).1 (uR hx.o));obtain ⟨P,hP⟩:=za wr.heap.size;obtain ⟨V,hV⟩:=za (wr.alloc (.cells #[.int .i64 a,.int .i64 b,.string s] 212))
   have ai:Below wr.heap.size wr V:=by rw [hV];exact zh wr _
   have hPV:x9 V P (a,b,s):=by rw [hV,hP];exact heap_alloc_new wr _
   have HV:Aside (J5 w S W1 (.slice none 0 0) ((qs.take k).map oT) v V/\x9 V P (a,b,s)/\(∀g,v.ownBlock=some g->g<P)/\S<P):=⟨A1.o.later ai,hPV,fun g hg=>by rw [hP];exact (A1.o.st.row.lt g hg).2,by rw [hP];exact A1.o.st.lt⟩
   have HF:Aside (P1 (a,b,s)):=cY;have hPd:x9 V.drew P (a,b,s):=hPV;go_upto_region 6 with fail;rw [<-hV];clear hV r0 r1 r2;rw [<-hP];clear hP;refine lV (S:=(fun w'=>x9 w' P (a,b,s))) zk hPd (fun aa=> ?_);refine tk 0 aa ?_;refine tk 1 aa ?_;refine tk 2 aa ?_ (y:=ty (by intro w' ab;have j0:=x9.c0 ab;dsimp only at j0;clear ab;go_simp;try with_reducible rfl));refine tk 3 aa ?_;refine tk 4 aa ?_ (y:=ty (by intro w' ab;have j1:=x9.c1 ab;dsimp only at j1;clear ab;go_simp;try with_reducible rfl));refine tk 6 aa ?_;refine tk 7 aa ?_ (y:=ty (by intro w' ab;have j2:=x9.c2 ab;dsimp only at j2;clear ab;go_simp;try with_reducible rfl));refine an (i:=5) zk rfl (fun K hK=> ?_);go_simp;refine (Bz b (by have:=HF.o.lo';dsimp only at this;omega) (by have:=HF.o.hi';dsimp only at this;omega) V.drew (HT.o _ (by have:=HV.o.1.m8.drew;rw [HU.o.2.2.2] at this;exact this))).mono ?_;rintro e w3 ⟨rfl,hb3⟩;have A3:=HV.o.1.later ((uO _ V).drew.trans hb3);have P3:=HV.o.2.1.same (((uO _ V).drew.trans hb3).block P HV.o.2.1.lt);refine hK _ _ P3 ?_;refine qn ?_;obtain ⟨X,hX⟩:=za (w3.alloc (.cells #[.string ⟨#[105,110]⟩,.string ⟨(Lib.itoa b).toArray⟩,.string s] 9))
   have hbX:Below w3.heap.size w3 X:=by rw [hX];exact zh w3 _
   have AX:=A3.later hbX;have PX:=P3.same (hbX.block P P3.lt)
   have fE:X.heap[w3.heap.size]? =some (.cells #[.string ⟨#[105,110]⟩,.string ⟨(Lib.itoa b).toArray⟩,.string s] 9 (0,0)):=by rw [hX];exact heap_alloc_new w3 _
   have aV:=FC X S a w3.heap.size 3 [⟨#[105,110]⟩,⟨(Lib.itoa b).toArray⟩,s] ((qs.take k).map oT) v AX.st (fun j x hj=>by
     rw [Ze]
     match j,hj with
     | 0,hj=>cases hj;simp [World.cell?,fE]
     | 1,hj=>cases hj;simp [World.cell?,fE]
     | 2,hj=>cases hj;simp [World.cell?,fE]
     | n+3,hj=>simp at hj) (uN.1 fE).1 zq zq (HT.o _ yW) (by have:=HF.o.lo;omega) (by have:=HF.o.hi;omega)
     (IP HF.o) vz
   have hle:AO a ([⟨#[105,110]⟩,⟨(Lib.itoa b).toArray⟩,s].map (fun x:ByteArray=>x.data.toList))=oT (a,b,s):=rfl;rw [hle] at aV
   have aV:=aV.mono (R':=fun e w4=>∃v',e= .returned (.tuple #[])/\x9 w4 P (a,b,s)/\Aside (J5 w S W1 (.slice none 0 0) ((qs.take k).map oT++ [oT (a,b,s)]) v' w4)) (fun e w4 ht4=>by
    obtain ⟨v',he,A4⟩:=AX.acn ht4
    obtain ⟨_,-,-,hk4,-⟩:=ht4
    exact ⟨v',he,PX.same (hk4.block P PX.lt (fun q=>by
     rcases q with q | q
     ·have:=HV.o.2.2.2;omega
     ·have:=HV.o.2.2.1 P q;omega)),A4⟩)
   refine an (i:=8) zk rfl (fun K hK=> ?_);go_simp;rw [<-hX];refine hK _ _ PX ?_;clear hK K hX PX;refine qn ?_;refine an (i:=9) zk rfl (fun K hK=> ?_);go_simp;refine aV.mono ?_;rintro e w4 ⟨v',rfl,P4,HA4⟩;refine hK _ _ P4 ?_;refine wpAnyH_done zk ?_ _;refine qn ?_;go_wp2;go_roundg (qs.length - (k+1))
   case measure=>omega
   case rel=>exact ⟨k+1,v',zJ,zj,uM _,by rw [Br _ _ hx.o];exact HA4.o⟩
  have d1:decide ((k:Int)<(qs.length:Int))=false:=zl;have ek:qs.take k=qs:=Zl zj;rw [ek] at A1;obtain ⟨nx,tx,t1,t2,t3,t4,t5⟩:=(HM.o.1.later xS).P9;have c7:=(HM.o.1.later xS).cell.c7;have hky:=callsIn_wide.1 (Tb Fence.wide 3 trivial rfl (some bx) wr);obtain ⟨V,hV⟩:=za (wr.alloc (.cells #[.map (some bx)] 133))
  have ai:Below wr.heap.size wr V:=by rw [hV];exact zh wr _
  have bL:Boxed V wr.heap.size 133 (.map (some bx)):=by rw [hV];exact heap_alloc_new wr _
  have hsi:=DF V wr.heap.size bx nx tx (uN.1 bL).1 bL.cell (t2.same (ai.block bx t2.lt)) zj
  have H2:Aside (J5 w S W1 (.slice none 0 0) (qs.map oT) v V/\(∀nd,(tx nd).isSome=true↔m9 A nd)/\nx<=A.length):=⟨A1.o.later ai,t4,t1⟩
  rw [<-hV] at hky;clear t1 t2 t3 t4 t5 hV ai bL d1;go_wp2_with fail;refine hky.mono ?_;rintro e w5 ⟨rfl,rfl⟩;clear c7;go_wp2_with fail;refine hsi.mono ?_;clear hsi;rintro e W2 ⟨vk,ks,rfl,hrise,hmem,hkl,hrow,hb2⟩;obtain ⟨ak,kc,rfl⟩:=mC hrow;obtain ⟨tf,htf⟩:∃tf:Int->List UInt8,Aside (∀nd L,u9 A nd L->tf nd=rA L):=UV A
  have HK:Aside (ks.Pairwise (· < ·)/\(∀nd,nd∈ks↔m9 A nd)/\N7 Vp W2 ak ks/\(∀g o,ak=some ⟨g,o,none⟩->g<W2.heap.size/\g≠S/\v.ownBlock≠some g)/\J5 w S W2 v (qs.map oT) v W2):=by
   have h3:=H2.o.1.later hb2;refine ⟨hrise,fun nd=>(hmem nd).trans (H2.o.2.1 nd),zdc (enc:=Vp) Hv (by rw [Fo];exact hrow),fun g o e=> ?_,J5.start h3.st h3.m8⟩;subst e;have h4:=hrow.lt g rfl;have h5:=H2.o.1.st.lt;exact ⟨h4.2,zj,fun q=>by have:=(H2.o.1.st.row.lt g q).2;omega⟩
  have hks:ks.length<=300:=by have:=H2.o.2.2;omega
  clear hrise hmem hkl hrow hb2 A1 H2;go_wp2;go_loopg [41] ks.length (fun kx s41 wr=>∃(k:Nat) (u:Value),s41= .int .i64 (k:Int)/\k<=ks.length/\ks.length - k<=kx/\Aside (J5 w S W2 v (qs.map oT++((((ks.take k).map fun nd=>(nd,tf nd)).filter sf).map BJ)) u wr))
  case atStart=>exact ⟨0,v,rfl,uW _,uM _,by show J5 w S W2 v _ v W2;simpa using HK.o.2.2.2.2⟩
  case round=>
   obtain ⟨k2,u,rfl,hk2,hkx2,A2⟩:=hrel;by_cases io:k2<ks.length
   ·have d2:decide ((k2:Int)<(ks.length:Int))=true:=by simp;omega
    have wk:((k2:Int)).toNat=k2:=zj;have pk:(0:Int)<=(k2:Int):=zj;have bk:(k2:Int)<(ks.length:Int):=zj
    obtain ⟨nd,hx⟩:∃x,Aside (ks[k2]? =some x):=⟨ks[k2],uL io⟩
    obtain ⟨blk,off,hak,hc⟩:=(A2.o.abM HK.o.2.2.1 HK.o.2.2.2.1).e Hv hx.o;subst hak;have r0:=hc 0 _ rfl;simp only [ZG,Nat.mul_one] at r0;clear hc;have cC:=(HK.o.2.1 nd).1 (uR hx.o)
    have bU:0<=nd/\nd<2^40:=by
     obtain ⟨x,hx,_,e2,_⟩:=cC;have q:=mP (HM.o.2.2.G5.ok x (HM.o.2.1.mem_iff.1 hx));have e3:x.2.2.2.2.1=nd:=e2;have q1:=q.2.2.2.2.2.2.2.1;have q2:=q.2.2.2.2.2.2.2.2.1;have q4:=q.2.2.2.1;omega
    have co:=HM.o.1.later xP;have fp:=Tp wr c br T o8 kv bt bx bc A nd co.cell co.P9 zj zj zj
    have fp:=fp.mono (R':=fun e w6=>∃s,e= .returned (.string s)/\Aside (tf nd=s.data.toList/\s.size<=1000/\J5 w S W2 v (qs.map oT++((((ks.take k2).map fun nd=>(nd,tf nd)).filter sf).map BJ)) u w6)) (fun e w6 q=>by
     obtain ⟨s,he,hti,hb6⟩:=q
     refine ⟨s,he,?_,?_,A2.o.later hb6⟩
     ·rcases hti with ⟨q,_⟩ | ⟨_,L,hL,hs⟩
      ·exact absurd cC q
      ·rw [htf.o nd L hL,hs]
     ·rcases hti with ⟨q,_⟩ | ⟨_,L,hL,hs⟩
      ·exact absurd cC q
      ·have h1:=wP L
       have h2:=hL.y9
       have h3:s.data.toList.length=s.size:=zq
       rw [hs] at h3
       omega)
    have hnd0:=bU.1;have hnd1:=bU.2;obtain ⟨y,hy⟩:=za wr;subst hy;clear co cC bU;go_wp2_with fail;refine fp.mono ?_;clear fp;rintro e w6 ⟨s,rfl,H6⟩;clear r0;have hst:=H6.o.1;have gG:=H6.o.2.1;have A6:=H6.o.2.2;by_cases fP:s.size=0
    ·have he:=Ew fP
     have HA6:Aside (J5 w S W2 v (qs.map oT++((((ks.take (k2+1)).map fun nd=>(nd,tf nd)).filter sf).map BJ)) u w6):=by
      show J5 w S W2 v _ u w6
      rw [Br _ _ hx.o,Yc]
      have:sf (nd,tf nd)=false:=by
       have h3:s.data.toList.length=s.size:=zq;unfold sf;rw [hst];simp only [ne_eq,decide_not,Bool.not_eq_false',decide_eq_true_eq];exact Zi.1 zj
      simp only [List.filter_cons,this,List.filter_nil];simpa using A6
     clear A6 A2;go_wp2;go_roundg (ks.length - (k2+1))
     case measure=>omega
     case rel=>exact ⟨k2+1,u,zJ,zj,uM _,HA6.o⟩
    have he:=KZ fP;obtain ⟨X,hX⟩:=za (w6.alloc (.cells #[.string ⟨#[116,101,120,116]⟩,.string s] 9))
    have hbX:Below w6.heap.size w6 X:=by rw [hX];exact zh w6 _
    have AX:=A6.later hbX
    have fE:X.heap[w6.heap.size]? =some (.cells #[.string ⟨#[116,101,120,116]⟩,.string s] 9 (0,0)):=by rw [hX];exact heap_alloc_new w6 _
    have aV:=FC X S nd w6.heap.size 2 [⟨#[116,101,120,116]⟩,s] (qs.map oT++((((ks.take k2).map fun nd=>(nd,tf nd)).filter sf).map BJ)) u AX.st (fun j x hj=>by
      rw [Ze]
      match j,hj with
      | 0,hj=>cases hj;simp [World.cell?,fE]
      | 1,hj=>cases hj;simp [World.cell?,fE]
      | n+2,hj=>simp at hj) (uN.1 fE).1 zq zq (HT.o _ yW) zj zj
      (by simp only [ZR,Yu,Lib.join_length,Lib.lens,Zd,Zt,List.sum_cons,List.sum_nil];have:s.data.toList.length=s.size:=zq;omega) (by
       have h1:((((ks.take k2).map fun nd=>(nd,tf nd)).filter sf).map BJ).length<=ks.length:=by
        rw [Zj]
        refine uQ (Yi _ _) ?_
        rw [Zj,Zp]
        omega
       rw [uS,Zj]
       omega)
    have hle:AO nd ([⟨#[116,101,120,116]⟩,s].map (fun x:ByteArray=>x.data.toList))=BJ (nd,tf nd):=by rw [hst];rfl
    rw [hle] at aV
    have eP:sf (nd,tf nd)=true:=by
     have h3:s.data.toList.length=s.size:=zq;unfold sf;rw [hst];simp only [ne_eq,decide_not,Bool.not_eq_true',decide_eq_false_iff_not];intro q;rw [q] at h3;simp at h3;omega
    have aV:=aV.mono (R':=fun e w7=>∃u',e= .returned (.tuple #[])/\Aside (J5 w S W2 v (qs.map oT++((((ks.take (k2+1)).map fun nd=>(nd,tf nd)).filter sf).map BJ)) u' w7)) (fun e w7 ht7=>by
     obtain ⟨u',he,A7⟩:=AX.acn ht7
     refine ⟨u',he,?_⟩
     show J5 w S W2 v _ u' w7
     rw [Br _ _ hx.o,Yc]
     simp only [List.filter_cons,eP,List.filter_nil,Zz,ZR,Yu,if_true]
     rw [<-Zr]
     exact A7)
    clear hle AX fE hbX A6 A2 eP;go_wp2_with fail;rw [<-hX];refine aV.mono ?_;clear aV hX;rintro e w7 ⟨u',rfl,HA7⟩;go_wp2;go_roundg (ks.length - (k2+1))
    case measure=>omega
    case rel=>exact ⟨k2+1,u',zJ,zj,uM _,HA7.o⟩
   have d2:decide ((k2:Int)<(ks.length:Int))=false:=zl;have ek:ks.take k2=ks:=Zl zj;rw [ek] at A2;clear ek;obtain ⟨ts,iQ⟩:=za (ks.map fun nd=>(nd,tf nd));rw [<-iQ] at A2
   have hIT:N8 A ts:=by
    refine ⟨?_,fun nd=> ?_,fun t ht=> ?_⟩
    ·rw [iQ,YE];exact HK.o.1
    ·rw [iQ,YQ];have:ks.map ((fun x:Int×List UInt8=>x.1)∘fun nd=>(nd,tf nd))=ks:=(Yp (fun _ _=>rfl)).trans (List.map_id ks);rw [this];exact HK.o.2.1 nd
    rw [iQ] at ht;obtain ⟨nd,bU,rfl⟩:=Zm.1 ht;obtain ⟨_,tx',_,_,_,q4,q5⟩:=HM.o.1.P9;obtain ⟨p,hp⟩:=Yl.1 ((q4 nd).2 ((HK.o.2.1 nd).1 bU));obtain ⟨_,L,_,hL,_⟩:=q5 nd p hp;exact ⟨L,hL,htf.o nd L hL⟩
   have htsl:ts.length<=300:=by rw [iQ,Zj];exact hks
   have aV:∀t∈ts,t.2.length<=1000:=fun t ht=>by
    obtain ⟨L,hL,e⟩:=hIT.C9 t ht;have h1:=wP L;have h2:=hL.y9;rw [e];omega
   have htn:∀t∈ts,0<=t.1/\t.1<2^40:=fun t ht=>by
    obtain ⟨x,hx,_,e2,_⟩:=(hIT.U7 t.1).1 (Zm.2 ⟨t,ht,rfl⟩);have q:=mP (HM.o.2.2.G5.ok x (HM.o.2.1.mem_iff.1 hx));have e3:x.2.2.2.2.1=t.1:=e2;omega
   have HTS:Aside (N8 A ts/\(∀t∈ts,t.2.length<=1000)/\(∀t∈ts,0<=t.1/\t.1<2^40)):=⟨hIT,aV,htn⟩
   obtain ⟨LS,hLS⟩:=za (qs.map oT++(ts.filter sf).map BJ);rw [<-hLS] at A2
   have hLSl:LS.length<=180300:=by
    rw [hLS,uS,Zj,Zj];have:=Yi sf ts;omega
   have co:=HM.o.1.later xP;obtain ⟨cm,A',m1,m2,m3,m4⟩:=co.P5;have km:=ON wr bc cm A.length (rj A') m1 zj;have c8:=co.cell.c8
   have HLS:Aside (LS=qs.map oT++(ts.filter sf).map BJ/\A'.Perm A):=⟨hLS,m2⟩
   obtain ⟨y,hy⟩:=za wr;subst hy;clear iQ hIT aV htn hLS co m1 m2 m3 m4 HK htf;go_wp2_with fail;refine km.mono ?_;clear km c8;rintro e W3 ⟨am,mc,mm,rfl,hIM,hmml,hmin,hb3,hnew3⟩
   have HMM:Aside (P8 (rj A') mm/\N7 mh W3 am mm/\(∀g o,am=some ⟨g,o,none⟩->mm≠ []->g<W3.heap.size/\g≠S/\u.ownBlock≠some g)/\J5 w S W3 u LS u W3):=by
    have h3:=A2.o.later hb3;refine ⟨hIM,hmin,fun g o e hne=>⟨WK oK zj hmin hne e,?_,fun q=> ?_⟩,J5.start h3.st h3.m8⟩
    ·have:=hnew3 g o e;have:=A2.o.st.lt;omega
    have h4:=hnew3 g o e;have:=(A2.o.st.row.lt g q).2;omega
   have hmm3:mm.length<=300:=zj;clear hIM hmml hmin hb3 hnew3 A2;go_wp2;go_loopg [62] mm.length (fun kx s62 wr=>∃(k:Nat) (z:Value),s62= .int .i64 (k:Int)/\k<=mm.length/\mm.length - k<=kx/\Aside (J5 w S W3 u (LS++(mm.take k).map Hp) z wr))
   case atStart=>exact ⟨0,u,rfl,uW _,uM _,by show J5 w S W3 u _ u W3;simpa using HMM.o.2.2.2⟩
   case round=>
    obtain ⟨k3,z,rfl,hk3,hkx3,A3⟩:=hrel;by_cases gq:k3<mm.length
    ·have d3:decide ((k3:Int)<(mm.length:Int))=true:=by simp;omega
     have wk:((k3:Int)).toNat=k3:=zj;have pk:(0:Int)<=(k3:Int):=zj;have bk:(k3:Int)<(mm.length:Int):=zj
     obtain ⟨⟨nd,nm',vl⟩,hx⟩:∃x,Aside (mm[k3]? =some x):=⟨mm[k3],uL gq⟩
     have hmne:mm≠ []:=fun q=>by rw [q] at gq;simp at gq
     obtain ⟨blk,off,ham,hc⟩:=(A3.o.abM HMM.o.2.1 (fun g o e=>HMM.o.2.2.1 g o e hmne)).e oK hx.o;subst ham;have r0:=hc 0 _ rfl;have r1:=hc 1 _ rfl;have r2:=hc 2 _ rfl;simp only [ZG] at r0;clear hc hmne;have hmo:=Iz HMM.o.1 (uR hx.o);dsimp only at hmo;obtain ⟨Y,hY⟩:=za (wr.alloc (.cells #[.int .i64 nd,.string nm',.string vl] 221))
     have kK:Below wr.heap.size wr Y:=by rw [hY];exact zh wr _
     have hYb:Y.heap[wr.heap.size]? =some (.cells #[.int .i64 nd,.string nm',.string vl] 221 (0,0)):=by rw [hY];exact heap_alloc_new wr _
     have y0:Y.cell? ⟨wr.heap.size,0,none⟩=some (.int .i64 nd):=vP;have y1:Y.cell? ⟨wr.heap.size,1,none⟩=some (.string nm'):=vP;have y2:Y.cell? ⟨wr.heap.size,2,none⟩=some (.string vl):=vP;obtain ⟨X,hX⟩:=za (Y.alloc (.cells #[.string ⟨#[109,97,114,107]⟩,.string nm',.string vl] 9))
     have hbX:Below Y.heap.size Y X:=by rw [hX];exact zh Y _
     have AX:=(A3.o.later kK).later hbX
     have fE:X.heap[Y.heap.size]? =some (.cells #[.string ⟨#[109,97,114,107]⟩,.string nm',.string vl] 9 (0,0)):=by rw [hX];exact heap_alloc_new Y _
     have aV:=FC X S nd Y.heap.size 3 [⟨#[109,97,114,107]⟩,nm',vl] (LS++(mm.take k3).map Hp) z AX.st (fun j x hj=>by
       rw [Ze]
       match j,hj with
       | 0,hj=>cases hj;simp [World.cell?,fE]
       | 1,hj=>cases hj;simp [World.cell?,fE]
       | 2,hj=>cases hj;simp [World.cell?,fE]
       | n+3,hj=>simp at hj) (uN.1 fE).1 zq zq (HT.o _ yW) zj zj
       (by simp only [ZR,Yu,Lib.join_length,Lib.lens,Zd,Zt,List.sum_cons,List.sum_nil];have q1:nm'.data.toList.length=nm'.size:=zq;have q2:vl.data.toList.length=vl.size:=zq;omega) (by rw [uS,Zj,Zp];omega)
     have hle:AO nd ([⟨#[109,97,114,107]⟩,nm',vl].map (fun x:ByteArray=>x.data.toList))=Hp (nd,nm',vl):=rfl;rw [hle] at aV
     have aV:=aV.mono (R':=fun e w7=>∃z',e= .returned (.tuple #[])/\Aside (J5 w S W3 u (LS++(mm.take (k3+1)).map Hp) z' w7)) (fun e w7 ht7=>by
      obtain ⟨z',he,A7⟩:=AX.acn ht7
      refine ⟨z',he,?_⟩
      show J5 w S W3 u _ z' w7
      rw [Br _ _ hx.o,<-Zr]
      exact A7)
     have HY:Aside (Y.heap.size=wr.heap.size+1):=by show Y.heap.size=_;rw [hY];simp
     obtain ⟨y,hy⟩:=za wr;subst hy;clear hle AX fE hbX kK hYb A3 hmo d2;go_upto_region 18 with fail;rw [<-hY];clear hY r0 r1 r2;go_wp2_with fail;rw [<-hX];refine aV.mono ?_;clear aV hX;rintro e w7 ⟨z',rfl,HA7⟩;clear y0 y1 y2;go_wp2;go_roundg (mm.length - (k3+1))
     case measure=>omega
     case rel=>exact ⟨k3+1,z',zJ,zj,uM _,HA7.o⟩
    have d3:decide ((k3:Int)<(mm.length:Int))=false:=zl;have ek:mm.take k3=mm:=Zl zj;rw [ek] at A3;clear ek
    have d9:=Rs wr S (LS++mm.map Hp) z A3.o.st (by rw [uS,Zj];omega) (fun l hl=>by
     have hIP:=HQ.o.1
     rcases uU.1 hl with hl | hl
     ·rw [HLS.o.1] at hl
      rcases uU.1 hl with hl | hl
      ·obtain ⟨p,hp,rfl⟩:=Zm.1 hl
       exact GF (HMS.o.2.2.Y5 _ _ ((HQ.o.1.U7 p).1 hp))
      ·obtain ⟨t,ht,rfl⟩:=Zm.1 hl
       have gX:=(Yo.1 ht).1
       exact LR (HTS.o.2.1 t gX) (HTS.o.2.2 t gX).1 (HTS.o.2.2 t gX).2
     ·obtain ⟨m,hm,rfl⟩:=Zm.1 hl
      exact Kg (Iz HMM.o.1 hm))
    have z0:=A3.o.st.F9.cell
    have HFIN:Aside (G3 (lY R) (Lib.join (LS++mm.map Hp) [10])):=by
     refine G3.G8 (A:=A) ⟨ms,qs,ts,A',mm,HMS.o.1,HMS.o.2.1,HQ.o.1,HTS.o.1,HLS.o.2,HMM.o.1,?_⟩ HM.o.2.1;unfold Bd;rw [HLS.o.1]
    have HB:Aside (Below w.heap.size w wr):=by have:=A3.o.m8;rw [HU.o.2.2.2] at this;exact this
    obtain ⟨y,hy⟩:=za wr;subst hy;clear A3 d2;go_wp2_with fail;refine d9.mono ?_;clear d9;rintro e w9 ⟨rfl,hb9⟩;have HB9:Aside (Below w.heap.size w w9):=zi HB.o hb9;clear hb9;go_wp2;go_ret;exact ⟨_,rfl,HFIN.o,HB9.o⟩
end
section
open RowKit Lib Go.Sort Maps
def J1(w:qW)(b:Nat)(v:Nat->Int):Prop:=w.heap[b]? =some (.cells #[qI (v 0),qI (v 1),qI (v 2),qI (v 3)] 103 (0,0))
theorem J1.lt{w}{b}{v}(h:J1 w b v):b<w.heap.size:=(uN.1 h).1
theorem J1.later{w w'}{b}{v}(h:J1 w b v)(hb:qL w w'):J1 w' b v:=(hb.block b h.lt).trans h
theorem J1.at{w}{b}{v}(h:J1 w b v){i}(hi:i<4):w.cell? (qA b i)=some (qI (v i)):=by
 unfold J1 at h
 match i,hi with
 | 0,_=>simp [World.cell?,h]
 | 1,_=>simp [World.cell?,h]
 | 2,_=>simp [World.cell?,h]
 | 3,_=>simp [World.cell?,h]
def pG(v:Nat->Int)(x:OpX):Bool:=decide (x.2.2.1<=v x.2.1.toNat)
theorem NN(w)(b)(v)(x)(hv:J1 w b v)(i:Nat)(hi:i<4)(hx:x.2.1=(i:Int)):
  qC 120 #[mH x,qP b] w (qR (.bool (pG v x)) w):=by
 obtain ⟨t,o8,m,kd,nd,o,s,u⟩:=x;simp only at hx;subst hx;have hb:qL w (w.alloc (qOc t (i:Int) m kd nd o s u)):=zh w _;have q:=(hv.later hb).at hi;have ei:((i:Int)).toNat=i:=zj;have i4:((i:Int)<4):=zj;have i0:(0:Int)<=(i:Int):=zj;have HB:Aside (qL w (w.alloc (qOc t (i:Int) m kd nd o s u))):=hb
 have HH:Aside (pG v (t,(i:Int),m,kd,nd,o,s,u)=decide (m<=v i)):=by show decide (m<=v ((i:Int)).toNat)=_;rw [ei]
 unfold mH;rw [HH.o];go_enter func120,ntmps120;go_wp2_with fail;go_quiet (fail);go_wp2;go_ret;exact ⟨rfl,Go.below_drewN HB.o _⟩
structure I4 (w:qW) (g:Nat) (ys:qX):Prop where
 cell:∀j u,(cellsOf ys)[j]? =some u->w.cell? (qA g j)=some u
 free:∀j,j<ys.length*8->w.frozen? (qA g j)=false
theorem I4.has{w}{g}{ys}(h:I4 w g ys){j}(hj:j<ys.length*8):(w.cell? (qA g j)).isSome=true:=by
 have hl:j<(cellsOf ys).length:=by rw [mo];omega
 rw [h.cell j _ (uL hl)];rfl
theorem I4.at{w}{g}{ys}(h:I4 w g ys){i}{x}(hi:ys[i]? =some x){c}{u}(hc:(nD x)[c]? =some u):w.cell? (qA g (i*8+c))=some u:=by
 have hl:=(uK.1 hi).1
 have h8:c<8:=by have:=(uK.1 hc).1;rw [nL] at this;exact this
 refine h.cell _ _ ?_
 grind [nD,nL,nZ,uL]
theorem I4.same{w w'}{g}{ys}(h:I4 w g ys)(e:w'.heap[g]? =w.heap[g]?):I4 w' g ys:=
 ⟨fun j u hj=>by have:=h.cell j u hj;simp only [World.cell?] at this |-;rw [e];exact this,fun j hj=>xd⟩
theorem I4.set{w}{g}{cs}(h:I4 w g cs){i}(hi:i<cs.length)(x):I4 (w.setCells g (i*8) (nD x)) g (cs.set i x):=by
 constructor
 ·intro j u hj;have hl:=(uK.1 hj).1;rw [mo,YN] at hl;have h2:j / 8*8+j % 8=j:=zj;have c:=nZ (cs.set i x) (j / 8) (j % 8) qt zj;rw [h2,hj] at c;have hq:j / 8<(cs.set i x).length:=qt;rw [getElem!_pos (cs.set i x) (j / 8) hq,List.getElem_set] at c;by_cases e:i=j / 8
  ·rw [if_pos e] at c
   have hr:j % 8<(nD x).length:=by rw [nL];omega
   have k:=World.cell?_setCells_in g (nD x) (i*8) w (fun q hq'=>h.has (by rw [nL] at hq';omega)) (j % 8) hr;rw [show i*8+j % 8=j by omega] at k;rw [k];rw [getElem!_pos (nD x) (j % 8) hr] at c;exact c.symm
  rw [if_neg e] at c;rw [Yb g (nD x) (i*8) w (qA g j) (fun _ _=>by rw [nL];show j<i*8\/i*8+8<=j;omega)];refine h.cell j u ?_;rw [<-h2,nZ cs (j / 8) (j % 8) zj zj,getElem!_pos cs (j / 8) zj];exact c.symm
 exact km5
theorem pR{P}(w)(t e ty)(z)(ht:P.underlying t=some (.slice e))(hv:∀w,(zeroValue e).run P w= .ok z w)(b o n c)(hn:0<n)
  (h1:∀v∈(Builtin.zeroCells z.cells n).toList,v.oneCell'=true) (hc:∀j,j<n*z.cells.size->(w.cell? (qA b (o+j))).isSome=true) (hf:∀j,j<n*z.cells.size->w.frozen? (qA b (o+j))=false):
  (Builtin.clear_ #[t] ty #[.slice (some (qA b o)) n c]).run P w= .ok (.tuple #[]) (w.setCells b o (Builtin.zeroCells z.cells n).toList):=by
 have hsz:(Builtin.zeroCells z.cells n).toList.length=n*z.cells.size:=by rw [ZP,size_zeroCells]
 have hst:=run_storeCells_cells (P:=P) b o (Builtin.zeroCells z.cells n).toList 0 w (by rw [hsz];simpa using hc) (by rw [hsz];simpa using hf) h1;simp only [ZG] at hst
 obtain ⟨m,rfl⟩:∃m,n=m+1:=⟨n - 1,zj⟩
 simp [Builtin.clear_,run_underlying ht,hv,hst]
def abc(g:Nat)(lb:Array Value)(xs:qX)(p:OpX->Bool)(l9:Nat)(w:qW):Prop:=
 ∀(W:qW) (x:OpX),x∈xs->Below l9 w W->Calls prog g (#[mH x]++lb) W (qR (.bool (p x)) W)
theorem abc.toO{g}{lb}{xs}{p}{l9}{w}(h:abc g lb xs p l9 w)(hb:l9<=w.heap.size):Rw g lb xs p w:=fun W x hx hW=>(h W x hx (hW.mono hb)).mono (by rintro e w' ⟨rfl,q⟩;exact ⟨rfl,zi hW q⟩)
theorem I4.ops{w}{g}{ys}(h:I4 w g ys):F2 w (qS g) ys:=.inr ⟨g,0,rfl,fun j u hj=>by rw [Ze];exact h.cell j u hj⟩
theorem I4.take{w}{g}{cs}(h:I4 w g cs){i}(hi:i<=cs.length)(vs):I4 (w.setCells g (i*8) vs) g (cs.take i):=by
 have hlen:(cs.take i).length=i:=zl;constructor
 ·intro j u hj;have hl:=(uK.1 hj).1;rw [mo,hlen] at hl;rw [Yb g vs (i*8) w (qA g j) (fun _ _=>.inl (by show j<i*8;omega))];refine h.cell j u ?_
  have e:cellsOf cs=cellsOf (cs.take i)++cellsOf (cs.drop i):=by rw [<-oL,ZA]
  rw [e,Yh (by rw [mo,hlen];omega)];exact hj
 exact kn6
structure V8 (p:OpX->Bool) (ys:qX) (i j:Nat) (cs:qX):Prop where
 lt:i<j
 le:j<=ys.length
 y9:cs.length=ys.length
 aaN:cs.take i=(ys.take j).filter (fun x=> !p x)
 rest:cs.drop j=ys.drop j
theorem V8.start{p}{ys}{k}{x}(hx:ys[k]? =some x)(hp:p x=true)(hk:∀j y,j<k->ys[j]? =some y->p y=false):V8 p ys k (k+1) ys:=by
 exact kc6
theorem V8.e{p}{ys cs}{i j}(h:V8 p ys i j cs){x}(hx:ys[j]? =some x):cs[j]? =some x:=by
 exact kl9
theorem V8.skip{p}{ys cs}{i j}(h:V8 p ys i j cs){x}(hx:ys[j]? =some x)(hp:p x=true):V8 p ys i (j+1) cs:=by
 have hl:=(uK.1 hx).1;refine ⟨by have:=h.lt;omega,zj,h.y9,?_,?_⟩
 ·rw [ZF,hx,Yc,h.aaN];simp [hp]
 exact kg2
theorem V8.GC{p}{ys cs}{i j}(h:V8 p ys i j cs){x}(hx:ys[j]? =some x)(hp:p x=false):V8 p ys (i+1) (j+1) (cs.set i x):=by
 have hl:=(uK.1 hx).1;have hlt:=h.lt;have hlen:=h.y9;refine ⟨zj,zj,by rw [YN];exact h.y9,?_,?_⟩
 ·exact ki3
 rw [List.drop_set_of_lt zj];exact kg2
abbrev zeroOpV:Value:=.agg qZa
theorem Cy:zeroOpV.cells.size=8:=rfl
def SN(n:Nat):List Value:=(Builtin.zeroCells zeroOpV.cells n).toList
theorem Uk(n):∀v∈(Builtin.zeroCells zeroOpV.cells n).toList,v.oneCell'=true:=by
 intro v hv;unfold Builtin.zeroCells at hv;rw [Array.toList_map,Zm] at hv;obtain ⟨a,_,rfl⟩:=hv;rw [Cy];have h8:a % 8<8:=Nat.mod_lt _ zj
 have T9:∀q,q<8->(zeroOpV.cells[q]!).oneCell'=true:=fun q hq=>by
  match q,hq with
  | 0,_=>rfl
  | 1,_=>rfl
  | 2,_=>rfl
  | 3,_=>rfl
  | 4,_=>rfl
  | 5,_=>rfl
  | 6,_=>rfl
  | 7,_=>rfl
 exact T9 _ h8
structure zb1 (w:qW) (g a:Nat) (x:OpX):Prop where
 c0:w.cell? (qA g a)=some (qI x.1)
 c1:w.cell? (qA g (a+1))=some (qI x.2.1)
 c2:w.cell? (qA g (a+2))=some (qI x.2.2.1)
 c3:w.cell? (qA g (a+3))=some (.int .u8 (x.2.2.2.1:Int))
 c4:w.cell? (qA g (a+4))=some (qI x.2.2.2.2.1)
 c5:w.cell? (qA g (a+5))=some (qI x.2.2.2.2.2.1)
 c6:w.cell? (qA g (a+6))=some (.string x.2.2.2.2.2.2.1)
 c7:w.cell? (qA g (a+7))=some (.string x.2.2.2.2.2.2.2)
 f0:w.frozen? (qA g a)=false
 f1:w.frozen? (qA g (a+1))=false
 f2:w.frozen? (qA g (a+2))=false
 f3:w.frozen? (qA g (a+3))=false
 f4:w.frozen? (qA g (a+4))=false
 f5:w.frozen? (qA g (a+5))=false
 f6:w.frozen? (qA g (a+6))=false
 f7:w.frozen? (qA g (a+7))=false
theorem I4.ace{w}{g}{cs}(h:I4 w g cs){i}{x}(hi:cs[i]? =some x):zb1 w g (i*8) x:=by
 have hl:=(uK.1 hi).1;have e0:=h.at hi (c:=0) rfl;rw [ZG] at e0;exact ⟨e0,h.at hi (c:=1) rfl,h.at hi (c:=2) rfl,h.at hi (c:=3) rfl,h.at hi (c:=4) rfl,h.at hi (c:=5) rfl,h.at hi (c:=6) rfl,h.at hi (c:=7) rfl,h.free _ zj,h.free _ zj,h.free _ zj,h.free _ zj,h.free _ zj,h.free _ zj,h.free _ zj,h.free _ zj⟩
theorem abU(w:qW)(g a)(t b m)(kd:Nat)(nd o)(s u):((((((((w.setCell (qA g a) (qI t)).setCell (qA g (a+1)) (qI b)).setCell (qA g (a+2)) (qI m)).setCell (qA g (a+3)) (.int .u8 (kd:Int))).setCell (qA g (a+4)) (qI nd)).setCell (qA g (a+5)) (qI o)).setCell (qA g (a+6)) (.string s)).setCell (qA g (a+7)) (.string u))=w.setCells g a (nD (t,b,m,kd,nd,o,s,u)):=rfl
def OZ(w:qW)(g cap l9:Nat)(zs:qX)(e:Ending)(w':qW):Prop:=e= .returned (qG g zs.length cap)/\I4 w' g zs/\Below l9 w w'
theorem MS(p)(gf:Nat)(lb)(eg:∀args w,(callFunc gf args).run prog w= .ok (.enter gf args) w)(g cap l9)(ys)(w)(hbg:l9<=g)(cu:l9<=w.heap.size)(dE:g<w.heap.size)(hp:abc gf lb ys p l9 w)(hn:ys.length<=1000)(hc1:ys.length<=cap)(hc2:cap<=maxLen)(hO:I4 w g ys):
  qC 118 #[qG g ys.length cap,.func (.func gf) #[] lb] w (OZ w g cap l9 (ys.filter (fun x=> !p x))):=by
 have aT:=AH p gf lb eg (qS g) cap ys w (hp.toO cu) zj hO.ops
 have H:Aside (abc gf lb ys p l9 w/\I4 w g ys/\l9<=g/\l9<=w.heap.size/\g<w.heap.size):=⟨hp,hO,hbg,cu,dE⟩
 have hc63:(cap:Int)<=9223372036854775807:=by simp only [maxLen] at hc2;omega
 go_enter func118,ntmps118;go_wp2_with fail;refine aT.mono ?_;rintro e w1 ⟨r,rfl,HR⟩
 rcases HR.o.1 with ⟨hr,ha⟩ | ⟨k,x,hr,hx,hpx,hfst⟩
 ·subst hr;have HF:Aside (ys.filter (fun x=> !p x)=ys):=List.filter_eq_self.2 (fun a h=>by rw [ha a h];rfl);go_wp2;go_ret;unfold OZ;exact kl2
 have hkl:=(uK.1 hx).1
 have H1:Aside (V8 p ys k (k+1) ys/\I4 w1 g ys/\Below l9 w w1):=⟨V8.start hx hpx hfst,H.o.2.1.same (HR.o.2.block g H.o.2.2.2.2),HR.o.2.mono H.o.2.2.2.1⟩
 subst hr;go_wp2;go_loopg [5,6] ys.length (fun kx s5 s6 wr=>∃(i j:Nat) (cs:qX),s5=qN i/\s6=qN j/\ys.length - j<=kx/\Aside (V8 p ys i j cs/\I4 wr g cs/\Below l9 w wr))
 case atStart=>exact ⟨k,k+1,ys,rfl,zq,zj,H1.o⟩
 case round=>
  obtain ⟨i,j,cs,rfl,rfl,aY,A⟩:=hrel;have ay:=A.o.1.lt;have d9:=A.o.1.le;have dN:=A.o.1.y9;by_cases hlt:j<ys.length
  ·have aq:qlt j ys.length=true:=by simp;omega
   have dE:=uY H.o.2.2.2.2 A.o.2.2.size;have hbr:=A.o.2.2.size;have cu:=H.o.2.2.2.1;have ej:((j:Int)).toNat=j:=zj;have pj:(0:Int)<=(j:Int):=zj;have bj:(j:Int)<(ys.length:Int):=zj
   obtain ⟨⟨t,b,m,kd,nd,o,s,u⟩,hl⟩:∃l,Aside (ys[j]? =some l):=⟨ys[j],uL hlt⟩
   obtain ⟨r0,r1,r2,r3,r4,r5,r6,r7,-,-,-,-,-,-,-,-⟩:=A.o.2.1.ace (A.o.1.e hl.o);dsimp only at r0 r1 r2 r3 r4 r5 r6 r7;have hbW:qL wr (wr.alloc (qOc t b m kd nd o s u)):=zh wr _;have hBW:=A.o.2.2.trans (hbW.mono zj);have ac:=H.o.1 _ (t,b,m,kd,nd,o,s,u) (uR hl.o) hBW
   have HW:Aside (m6 (wr.alloc (qOc t b m kd nd o s u)) wr.heap.size (t,b,m,kd,nd,o,s,u)/\I4 (wr.alloc (qOc t b m kd nd o s u)) g cs/\Below l9 w (wr.alloc (qOc t b m kd nd o s u))/\g<wr.heap.size):=⟨m6.GA wr (t,b,m,kd,nd,o,s,u),A.o.2.1.same (hbW.block g dE),hBW,dE⟩
   unfold mH at ac
   cases hq:p (t,b,m,kd,nd,o,s,u) with
   | true=>
    rw [hq] at ac;have HQ:=Lib.hid hq;go_wp2_with (go_at_fn gf;refine ac.mono ?_;rintro e w' ⟨rfl,hb'⟩);go_roundg (ys.length - (j+1))
    case measure=>omega
    case rel=>
     have hsz:(wr.alloc (qOc t b m kd nd o s u)).heap.size=wr.heap.size+1:=zq;exact ki2
   | false=>
    rw [hq] at ac;have HQ:=Lib.hid hq;have ei:((i:Int)).toNat=i:=zj;have pi:(0:Int)<=(i:Int):=zj;have bi:(i:Int)<(ys.length:Int):=zj
    obtain ⟨z,hz⟩:∃z,Aside (cs[i]? =some z):=⟨cs[i],uL zj⟩
    go_wp2_with (go_at_fn gf;refine ac.mono ?_;rintro e w' ⟨rfl,hb'⟩;obtain ⟨q0,q1,q2,q3,q4,q5,q6,q7,-⟩:=(HW.o.1.later hb').cells;dsimp only at q0 q1 q2 q3 q4 q5 q6 q7;obtain ⟨y0,y1,y2,y3,y4,y5,y6,y7,f0,f1,f2,f3,f4,f5,f6,f7⟩:=(HW.o.2.1.same (hb'.block g yM)).ace hz.o);have hsz:(wr.alloc (qOc t b m kd nd o s u)).heap.size=wr.heap.size+1:=zq
    have HE:Aside (I4 w' g cs/\Below l9 w w'):=⟨HW.o.2.1.same (hb'.block g zj),HW.o.2.2.1.trans (hb'.mono zj)⟩
    go_roundg (ys.length - (j+1))
    case measure=>omega
    case rel=>
     rw [abU w' g (i*8) t b m kd nd o s u];refine ⟨i+1,j+1,cs.set i (t,b,m,kd,nd,o,s,u),?_,?_,uM _,?_⟩
     ·go_num
     ·go_num
     exact ⟨A.o.1.GC hl.o HQ.o,HE.o.1.set zj (t,b,m,kd,nd,o,s,u),HE.o.2.trans ((lZ g (nD (t,b,m,kd,nd,o,s,u)) (i*8) w').m8 (uQ H.o.2.2.2.1 HE.o.2.size) (fun k e=>xk))⟩
  have aq:qlt j ys.length=false:=zl;have dE:=uY H.o.2.2.2.2 A.o.2.2.size;have ei:((i:Int)).toNat=i:=zj;have pi:(0:Int)<=(i:Int):=zj;have bi:(i:Int)<=(ys.length:Int):=zj;have bi2:(i:Int)<=(cap:Int):=zj
  have hclear:∀ty,(Builtin.clear_ #[136] ty #[.slice (some (qA g (i*8))) (ys.length - i) (cap - i)]).run prog wr= .ok (.tuple #[]) (wr.setCells g (i*8) (SN (ys.length - i))):=fun ty=>pR (P:=prog) wr 136 88 ty _ underlying136 zeroValue88 g (i*8) (ys.length - i) (cap - i) zj (Uk _) (fun q hq=>A.o.2.1.has (by rw [Cy] at hq;omega)) (fun q hq=>A.o.2.1.free _ (by rw [Cy] at hq;omega))
  go_wp2;go_ret;have st:=A.o.1.aaN;have ejl:j=ys.length:=zj;rw [ejl,Yq] at st
  have bl:(cs.take i).length=i:=by rw [Zp];omega
  unfold OZ;rw [<-st,bl];exact ⟨rfl,A.o.2.1.take zj _,A.o.2.2.trans ((lZ g (SN (ys.length - i)) (i*8) wr).m8 (uQ H.o.2.2.2.1 A.o.2.2.size) (fun k e=>xk))⟩
def X6(w:qW)(xs:qX)(e:Ending)(w':qW):Prop:=∃v ys,e= .returned v/\((v=qE/\ys= [])\/∃g cap,v=qG g ys.length cap/\w.heap.size<=g/\g<w'.heap.size/\ys.length<=cap/\cap<=maxLen/\I4 w' g ys)/\nH xs ys/\qL w w'
theorem NF(w)(v)(xs)(h:N5 w v xs)(hn:xs.length<=1000):
  qC 158 #[v] w (X6 w xs):=by
 rcases h with ⟨rfl,rfl⟩ | ⟨blk,off,cap,rfl,hc⟩
 ·go_enter func158,ntmps158;go_wp2_with fail;refine (Bg _).mono ?_;rintro e w' ⟨rfl,rfl⟩;go_wp2_with fail;refine (tT _ _).mono ?_;rintro e w1 ⟨rfl,rfl⟩;go_wp2;go_ret;exact ⟨_,[],rfl,.inl ⟨rfl,rfl⟩,⟨#[],⟨permIn_refl _ _ _,fun i j _ _ hj=>absurd hj zq⟩,rfl⟩,uO _ _⟩
 have HC:Aside (∀j u,(cellsOf xs)[j]? =some u->w.cell? (qA blk (off+j))=some u):=hc;go_enter func158,ntmps158;go_wp2_with fail;refine (Aq w blk off cap xs hn HC.o).mono ?_;rintro e w1 ⟨v1,rfl,hown,hnil,hb⟩
 obtain ⟨g,c1,rfl,hg,hc1,hc2⟩:∃g c1,v1=qG g xs.length c1/\w.heap.size<=g/\xs.length<=c1/\c1<=maxLen:=by
  rcases hown.2 with ⟨h1,_⟩ | ⟨g,c1,cur,h1,h2,_,h3,h4,_⟩
  ·exact absurd h1 hnil
  exact ⟨g,c1,h1,h2,h3,h4⟩
 have R0:Aside (RowK CB 8 w1 g 0 (pD xs)):=WE rfl hown;have HB:Aside (qL w w1):=hb;go_wp2_with fail;have C:=tY w1 g 0 c1 (pD xs) R0.o (fun p hp=>xX) (by rw [mt];omega);rw [mt] at C;refine C.mono ?_;rintro e w2 ⟨rfl,d',hd,S⟩
 have hl:d'.size=xs.length:=by rw [hd.1.1,mt]
 have ir:(d'.toList.map Prod.fst).length=xs.length:=vv;have hsz:=(sY (uO 0 w1) (uW _) (uW _) S).size
 have F:Aside (X6 w xs (.returned (qG g xs.length c1)) w2):=
  ⟨_,d'.toList.map Prod.fst,rfl,.inr ⟨g,c1,by rw [ir],hg,uY R0.o.hblk hsz,by rw [ir];exact hc1,hc2,⟨fun j u hj=>by have:=Hx R0.o vV S j u hj;rw [Ze] at this;exact this,fun j hj=>by
   have H:=((S.holds R0.o.hblk R0.o.hH vV) j (by rw [size_flatK];rw [ir] at hj;omega)).2
   rw [Ze] at H
   exact H⟩⟩,⟨d',hd,rfl⟩,sY HB.o hg HB.o.size S⟩
 go_wp2;go_ret;exact F.o
theorem X6.l9{w w1 w'}{xs}{e}(h:X6 w1 xs e w')(hb:qL w w1):X6 w xs e w':=by
 obtain ⟨v,ys,h1,h2,h3,h4⟩:=h;refine ⟨v,ys,h1,h2.imp id ?_,h3,zi hb h4⟩;rintro ⟨g,cap,k1,k2,k3⟩;exact ⟨g,cap,k1,uQ hb.size k2,k3⟩
theorem VI(w)(ao)(cap)(R)(hK:D7 w ao R)(hnil:∀i,i<4->ao i=none->cap i=0)(hn:(lY R).length<=1000):
  qC 164 #[kV ao cap R] w (X6 w (lY R)):=by
 obtain ⟨W,hW⟩:=za (w.alloc (.cells #[.slice (ao 0) (R 0).length (cap 0),.slice (ao 1) (R 1).length (cap 1),.slice (ao 2) (R 2).length (cap 2),.slice (ao 3) (R 3).length (cap 3)] 138 (0,0)))
 have hb:qL w W:=by rw [hW];exact zh w _
 have bL:I5 W w.heap.size ao cap R:=by rw [hW];exact heap_alloc_new w _
 have hcat:=Lq W w.heap.size ao cap R bL (hK.later hb) hnil hn
 have H:Aside (W=w.alloc (.cells #[.slice (ao 0) (R 0).length (cap 0),.slice (ao 1) (R 1).length (cap 1),.slice (ao 2) (R 2).length (cap 2),.slice (ao 3) (R 3).length (cap 3)] 138 (0,0))/\qL w W/\(lY R).length<=1000):=⟨hW,hb,hn⟩
 unfold kV;go_enter func164,ntmps164;go_wp2_with fail;rw [<-H.o.1];refine hcat.mono ?_;rintro e w1 ⟨v1,rfl,ho1,hb1⟩;have hs:=NF w1 v1 (lY R) (Cx ho1) H.o.2.2;have H1:Aside (qL w w1):=zi H.o.2.1 hb1;go_wp2_with fail;refine hs.mono ?_;intro e w2 aN;have gZ:=aN.l9 H1.o;exact kk6
theorem Vz(w)(c)(br)(o8)(R)(h:L0 w c br o8 R)(hn:(lY R).length<=1000):
  qC 119 #[qP br] w (X6 w (lY R)):=by
 obtain ⟨T,kv,bt,bx,bc,A,hm,hp,hK,hb⟩:=h;obtain ⟨ao,cap,hM⟩:=hm.aaY;have hall:=VI w ao cap R (D7.r hM.D6) (To hM.D6) hn;unfold kV at hall;have k2:w.cell? (qA br 2)=some (.slice (ao 0) (R 0).length (cap 0)):=hM.cell.c2;have k3:w.cell? (qA br 3)=some (.slice (ao 1) (R 1).length (cap 1)):=hM.cell.c3;have k4:w.cell? (qA br 4)=some (.slice (ao 2) (R 2).length (cap 2)):=hM.cell.c4;have k5:w.cell? (qA br 5)=some (.slice (ao 3) (R 3).length (cap 3)):=hM.cell.c5;go_enter func119,ntmps119;go_wp2_with fail;refine hall.mono ?_;intro e w2 aN;have gZ:=aN;exact kk6
def Xt(w:qW)(R:Rws)(v:Nat->Int)(e:Ending)(w':qW):Prop:=∃val ys,e= .returned val/\nH (lY R) ys/\((val=qE/\ys= [])\/∃g cap,val=qG g (ys.filter (fun x=> !pG v x)).length cap/\w.heap.size<=g/\I4 w' g (ys.filter (fun x=> !pG v x)))/\qL w w'
theorem J1.acZ{w w'}{b B}{v}(h:J1 w b v)(hb:Below B w w')(hB:b<B):J1 w' b v:=(hb.block b hB).trans h
theorem zcK(p:OpX->Bool)(gf:Nat)(lb)(eg:∀args w,(callFunc gf args).run prog w= .ok (.enter gf args) w)(w):
  qC 118 #[qE,.func (.func gf) #[] lb] w (qR qE w):=by
 have aT:=AH p gf lb eg none 0 [] w (fun W x hx=>by cases hx) zq (.inl rfl);go_enter func118,ntmps118;go_wp2_with fail;refine aT.mono ?_;rintro e w1 ⟨r,rfl,HR⟩
 rcases HR.o.1 with ⟨hr,ha⟩ | ⟨k,x,hr,hx,_⟩
 ·subst hr;go_wp2;go_ret;exact ⟨rfl,HR.o.2⟩
 simp at hx
theorem Qx(w)(c)(br)(o8)(R)(v)(h:L0 w c br o8 R)(hn:(lY R).length<=1000):
  qC 89 #[qP br,.agg #[qI (v 0),qI (v 1),qI (v 2),qI (v 3)]] w (Xt w R v):=by
 have eg:∀args w,(callFunc 120 args).run prog w= .ok (.enter 120 args) w:=enters_of func120 zk rfl;obtain ⟨U,hU⟩:=za (w.alloc (.cells #[qI (v 0),qI (v 1),qI (v 2),qI (v 3)] 103 (0,0)));have ah:qL w U:=zX
 have hv:J1 U w.heap.size v:=by rw [hU];exact heap_alloc_new w _
 have eF:=Vz U c br o8 R (h.later ah) hn;have hK:t7 R:=ud
 have H:Aside (U=w.alloc (.cells #[qI (v 0),qI (v 1),qI (v 2),qI (v 3)] 103 (0,0))/\qL w U/\J1 U w.heap.size v/\t7 R):=⟨hU,ah,hv,hK⟩
 clear hU ah hv hK h;go_enter func89,ntmps89;go_upto_region 1 with fail;rw [<-H.o.1];go_wp2_with fail;refine eF.mono ?_;clear eF;rintro e w1 ⟨val,ys,rfl,hval,hst,hb1⟩
 rcases hval with ⟨rfl,rfl⟩ | ⟨g,cap,rfl,hg1,hg2,hc1,hc2,hO⟩
 ·have hd:=zcK (pG v) 120 #[qP w.heap.size] eg w1
  have H1:Aside (nH (lY R) []/\qL w w1):=⟨hst,zi H.o.2.1 hb1⟩
  clear hst hb1 eg;go_wp2_with fail;refine hd.mono ?_;clear hd;rintro e w2 ⟨rfl,hb2⟩;have H2:Aside (qL w w2):=zi H1.o.2 hb2;clear hb2;go_wp2;go_ret;exact ⟨_,[],rfl,H1.o.1,.inl ⟨rfl,rfl⟩,H2.o⟩
 have hlen:=(nA hst).1.length_eq
 have eE:abc 120 #[qP w.heap.size] ys (pG v) U.heap.size w1:=fun W x hx hW=>by
  obtain ⟨i,hi,hb,_⟩:=Ab (H.o.2.2.2.G5.ok x ((nA hst).1.mem_iff.1 hx));exact NN W w.heap.size v x ((H.o.2.2.1.later hb1).acZ hW H.o.2.2.1.lt) i hi hb
 have hd:=MS (pG v) 120 #[qP w.heap.size] eg g cap U.heap.size ys w1 hg1 hb1.size hg2 eE zj hc1 hc2 hO
 have H1:Aside (nH (lY R) ys/\qL w w1/\w.heap.size<=g):=⟨hst,zi H.o.2.1 hb1,uQ H.o.2.1.size hg1⟩
 clear hst hb1 eg eE hO hlen hg1 hg2 hc1 hc2;go_wp2_with fail;refine hd.mono ?_;clear hd;rintro e w2 ⟨rfl,hO2,hb2⟩
 have H2:Aside (qL w w2/\I4 w2 g (ys.filter (fun x=> !pG v x))):=⟨H1.o.2.1.trans (hb2.mono H.o.2.1.size),hO2⟩
 clear hb2 hO2;go_wp2;go_ret;exact ⟨_,ys,rfl,H1.o.1,.inr ⟨g,cap,rfl,H1.o.2.2,H2.o.2⟩,H2.o.1⟩
theorem zbR(ys):(mN mW ys).length=ys.length*3:=mv mG ys
theorem zd1(ys)(i c)(hi:i<ys.length)(hc:c<3):(mN mW ys)[i*3+c]? =some ((mW (ys[i]!))[c]!):=by
 simp_all [me,mG,uL,getElem!_pos,mW]
structure L7 (w:qW) (g:Nat) (ys:List Plc):Prop where
 cell:∀j u,(mN mW ys)[j]? =some u->w.cell? (qA g j)=some u
 free:∀j,j<ys.length*3->w.frozen? (qA g j)=false
theorem L7.has{w}{g}{ys}(h:L7 w g ys){j}(hj:j<ys.length*3):(w.cell? (qA g j)).isSome=true:=by
 have hl:j<(mN mW ys).length:=by rw [zbR];omega
 rw [h.cell j _ (uL hl)];rfl
theorem L7.at{w}{g}{ys}(h:L7 w g ys){i}{x}(hi:ys[i]? =some x){c}{u}(hc:(mW x)[c]? =some u):w.cell? (qA g (i*3+c))=some u:=by
 have hl:=(uK.1 hi).1
 have h3:c<3:=by have:=(uK.1 hc).1;rw [mG] at this;exact this
 refine h.cell _ _ ?_
 grind [mW,mG,zd1,uL]
theorem L7.same{w w'}{g}{ys}(h:L7 w g ys)(e:w'.heap[g]? =w.heap[g]?):L7 w' g ys:=
 ⟨fun j u hj=>by have:=h.cell j u hj;simp only [World.cell?] at this |-;rw [e];exact this,fun j hj=>xd⟩
theorem L7.set{w}{g}{cs}(h:L7 w g cs){i}(hi:i<cs.length)(x):L7 (w.setCells g (i*3) (mW x)) g (cs.set i x):=by
 constructor
 ·intro j u hj;have hl:=(uK.1 hj).1;rw [zbR,YN] at hl;have h2:j / 3*3+j % 3=j:=zj;have c:=zd1 (cs.set i x) (j / 3) (j % 3) qt zj;rw [h2,hj] at c;have hq:j / 3<(cs.set i x).length:=qt;rw [getElem!_pos (cs.set i x) (j / 3) hq,List.getElem_set] at c;by_cases e:i=j / 3
  ·rw [if_pos e] at c;have hr:j % 3<(mW x).length:=vF;have k:=World.cell?_setCells_in g (mW x) (i*3) w (fun q hq'=>h.has (by rw [mG] at hq';omega)) (j % 3) hr;rw [show i*3+j % 3=j by omega] at k;rw [k];rw [getElem!_pos (mW x) (j % 3) hr] at c;exact c.symm
  rw [if_neg e] at c;rw [Yb g (mW x) (i*3) w (qA g j) (fun _ _=>by rw [mG];show j<i*3\/i*3+3<=j;omega)];refine h.cell j u ?_;rw [<-h2,zd1 cs (j / 3) (j % 3) zj zj,getElem!_pos cs (j / 3) zj];exact c.symm
 exact km5
theorem L7.ins{w}{g}{ys}(h:L7 w g ys):S7 w (qS g) ys:=.inr ⟨g,0,rfl,fun j u hj=>by rw [Ze];exact h.cell j u hj⟩
theorem L7.take{w}{g}{cs}(h:L7 w g cs){i}(hi:i<=cs.length)(vs):L7 (w.setCells g (i*3) vs) g (cs.take i):=by
 have hlen:(cs.take i).length=i:=zl;constructor
 ·intro j u hj;have hl:=(uK.1 hj).1;rw [zbR,hlen] at hl;rw [Yb g vs (i*3) w (qA g j) (fun _ _=>.inl (by show j<i*3;omega))];refine h.cell j u ?_
  have e:mN mW cs=mN mW (cs.take i)++mN mW (cs.drop i):=by rw [<-nS,ZA]
  rw [e,Yh (by rw [zbR,hlen];omega)];exact hj
 exact kn6
structure aah (p:Plc->Bool) (ys:List Plc) (i j:Nat) (cs:List Plc):Prop where
 lt:i<j
 le:j<=ys.length
 y9:cs.length=ys.length
 aaN:cs.take i=(ys.take j).filter (fun x=> !p x)
 rest:cs.drop j=ys.drop j
theorem aah.start{p}{ys}{k}{x}(hx:ys[k]? =some x)(hp:p x=true)(hk:∀j y,j<k->ys[j]? =some y->p y=false):aah p ys k (k+1) ys:=by
 exact kc6
theorem aah.e{p}{ys cs}{i j}(h:aah p ys i j cs){x}(hx:ys[j]? =some x):cs[j]? =some x:=by
 exact kl9
theorem aah.skip{p}{ys cs}{i j}(h:aah p ys i j cs){x}(hx:ys[j]? =some x)(hp:p x=true):aah p ys i (j+1) cs:=by
 have hl:=(uK.1 hx).1;refine ⟨by have:=h.lt;omega,zj,h.y9,?_,?_⟩
 ·rw [ZF,hx,Yc,h.aaN];simp [hp]
 exact kg2
theorem aah.GC{p}{ys cs}{i j}(h:aah p ys i j cs){x}(hx:ys[j]? =some x)(hp:p x=false):aah p ys (i+1) (j+1) (cs.set i x):=by
 have hl:=(uK.1 hx).1;have hlt:=h.lt;have hlen:=h.y9;refine ⟨zj,zj,by rw [YN];exact h.y9,?_,?_⟩
 ·exact ki3
 rw [List.drop_set_of_lt zj];exact kg2
abbrev zeroPV:Value:=.agg #[qI 0,qI 0,.string ⟨#[]⟩]
theorem AS:zeroPV.cells.size=3:=rfl
def KK(n:Nat):List Value:=(Builtin.zeroCells zeroPV.cells n).toList
theorem QE(n):∀v∈(Builtin.zeroCells zeroPV.cells n).toList,v.oneCell'=true:=by
 intro v hv;unfold Builtin.zeroCells at hv;rw [Array.toList_map,Zm] at hv;obtain ⟨a,_,rfl⟩:=hv;rw [AS];have h8:a % 3<3:=Nat.mod_lt _ zj
 have T9:∀q,q<3->(zeroPV.cells[q]!).oneCell'=true:=fun q hq=>by
  match q,hq with
  | 0,_=>rfl
  | 1,_=>rfl
  | 2,_=>rfl
 exact T9 _ h8
structure zcs (w:qW) (g a:Nat) (x:Plc):Prop where
 c0:w.cell? (qA g a)=some (qI x.1)
 c1:w.cell? (qA g (a+1))=some (qI x.2.1)
 c2:w.cell? (qA g (a+2))=some (.string x.2.2)
 f0:w.frozen? (qA g a)=false
 f1:w.frozen? (qA g (a+1))=false
 f2:w.frozen? (qA g (a+2))=false
theorem L7.aco{w}{g}{cs}(h:L7 w g cs){i}{x}(hi:cs[i]? =some x):zcs w g (i*3) x:=by
 have hl:=(uK.1 hi).1;have e0:=h.at hi (c:=0) rfl;rw [ZG] at e0;exact ⟨e0,h.at hi (c:=1) rfl,h.at hi (c:=2) rfl,h.free _ zj,h.free _ zj,h.free _ zj⟩
theorem abm(w:qW)(g a)(n i)(s):(((w.setCell (qA g a) (qI n)).setCell (qA g (a+1)) (qI i)).setCell (qA g (a+2)) (.string s))=w.setCells g a (mW (n,i,s)):=rfl
def KY(w:qW)(g cap l9:Nat)(zs:List Plc)(e:Ending)(w':qW):Prop:=e= .returned (qG g zs.length cap)/\L7 w' g zs/\Below l9 w w'
theorem Sz(p)(gf:Nat)(lb)(eg:∀args w,(callFunc gf args).run prog w= .ok (.enter gf args) w)(g cap l9)(ys)(w)(hbg:l9<=g)(cu:l9<=w.heap.size)(dE:g<w.heap.size)(hp:RJ gf lb ys p l9 w)(hn:ys.length<=1000)(hc1:ys.length<=cap)(hc2:cap<=maxLen)(hO:L7 w g ys):
  qC 188 #[qG g ys.length cap,.func (.func gf) #[] lb] w (KY w g cap l9 (ys.filter (fun x=> !p x))):=by
 have aT:=CW p gf lb eg (qS g) cap l9 ys w cu hp zj hO.ins
 have H:Aside (RJ gf lb ys p l9 w/\L7 w g ys/\l9<=g/\l9<=w.heap.size/\g<w.heap.size):=⟨hp,hO,hbg,cu,dE⟩
 have hc63:(cap:Int)<=9223372036854775807:=by simp only [maxLen] at hc2;omega
 go_enter func188,ntmps188;go_wp2_with fail;refine aT.mono ?_;rintro e w1 ⟨r,rfl,HR⟩
 rcases HR.o.1 with ⟨hr,ha⟩ | ⟨k,x,hr,hx,hpx,hfst⟩
 ·subst hr;have HF:Aside (ys.filter (fun x=> !p x)=ys):=List.filter_eq_self.2 (fun a h=>by rw [ha a h];rfl);go_wp2;go_ret;unfold KY;exact kl2
 have hkl:=(uK.1 hx).1
 have H1:Aside (aah p ys k (k+1) ys/\L7 w1 g ys/\Below l9 w w1):=⟨aah.start hx hpx hfst,H.o.2.1.same (HR.o.2.block g H.o.2.2.2.2),HR.o.2.mono H.o.2.2.2.1⟩
 subst hr;go_wp2;go_loopg [5,6] ys.length (fun kx s5 s6 wr=>∃(i j:Nat) (cs:List Plc),s5=qN i/\s6=qN j/\ys.length - j<=kx/\Aside (aah p ys i j cs/\L7 wr g cs/\Below l9 w wr))
 case atStart=>exact ⟨k,k+1,ys,rfl,zq,zj,H1.o⟩
 case round=>
  obtain ⟨i,j,cs,rfl,rfl,aY,A⟩:=hrel;have ay:=A.o.1.lt;have d9:=A.o.1.le;have dN:=A.o.1.y9;by_cases hlt:j<ys.length
  ·have aq:qlt j ys.length=true:=by simp;omega
   have dE:=uY H.o.2.2.2.2 A.o.2.2.size;have hbr:=A.o.2.2.size;have cu:=H.o.2.2.2.1;have ej:((j:Int)).toNat=j:=zj;have pj:(0:Int)<=(j:Int):=zj;have bj:(j:Int)<(ys.length:Int):=zj
   obtain ⟨⟨nd,i_,s⟩,hl⟩:∃l,Aside (ys[j]? =some l):=⟨ys[j],uL hlt⟩
   obtain ⟨r0,r1,r2,-,-,-⟩:=A.o.2.1.aco (A.o.1.e hl.o);dsimp only at r0 r1 r2;have hbW:qL wr (wr.alloc (.cells #[qI nd,qI i_,.string s] 212)):=zh wr _;have hBW:=A.o.2.2.trans (hbW.mono zj);have ac:=H.o.1 _ (nd,i_,s) (uR hl.o) hBW
   have HW:Aside (x9 (wr.alloc (.cells #[qI nd,qI i_,.string s] 212)) wr.heap.size (nd,i_,s)/\L7 (wr.alloc (.cells #[qI nd,qI i_,.string s] 212)) g cs/\Below l9 w (wr.alloc (.cells #[qI nd,qI i_,.string s] 212))/\g<wr.heap.size):=⟨heap_alloc_new wr _,A.o.2.1.same (hbW.block g dE),hBW,dE⟩
   unfold pS at ac;dsimp only at ac
   cases hq:p (nd,i_,s) with
   | true=>
    rw [hq] at ac;have HQ:=Lib.hid hq;go_wp2_with (go_at_fn gf;refine ac.mono ?_;rintro e w' ⟨rfl,hb'⟩);go_roundg (ys.length - (j+1))
    case measure=>omega
    case rel=>
     have hsz:(wr.alloc (.cells #[qI nd,qI i_,.string s] 212)).heap.size=wr.heap.size+1:=zq;exact ki2
   | false=>
    rw [hq] at ac;have HQ:=Lib.hid hq;have ei:((i:Int)).toNat=i:=zj;have pi:(0:Int)<=(i:Int):=zj;have bi:(i:Int)<(ys.length:Int):=zj
    obtain ⟨z,hz⟩:∃z,Aside (cs[i]? =some z):=⟨cs[i],uL zj⟩
    go_wp2_with (go_at_fn gf;refine ac.mono ?_;rintro e w' ⟨rfl,hb'⟩;have q0:=(HW.o.1.same (hb'.block _ HW.o.1.lt)).c0;have q1:=(HW.o.1.same (hb'.block _ HW.o.1.lt)).c1;have q2:=(HW.o.1.same (hb'.block _ HW.o.1.lt)).c2;dsimp only at q0 q1 q2;obtain ⟨y0,y1,y2,f0,f1,f2⟩:=(HW.o.2.1.same (hb'.block g yM)).aco hz.o);have hsz:(wr.alloc (.cells #[qI nd,qI i_,.string s] 212)).heap.size=wr.heap.size+1:=zq
    have HE:Aside (L7 w' g cs/\Below l9 w w'):=⟨HW.o.2.1.same (hb'.block g zj),HW.o.2.2.1.trans (hb'.mono zj)⟩
    go_roundg (ys.length - (j+1))
    case measure=>omega
    case rel=>
     rw [abm w' g (i*3) nd i_ s];refine ⟨i+1,j+1,cs.set i (nd,i_,s),?_,?_,uM _,?_⟩
     ·go_num
     ·go_num
     exact ⟨A.o.1.GC hl.o HQ.o,HE.o.1.set zj (nd,i_,s),HE.o.2.trans ((lZ g (mW (nd,i_,s)) (i*3) w').m8 (uQ H.o.2.2.2.1 HE.o.2.size) (fun k e=>xk))⟩
  have aq:qlt j ys.length=false:=zl;have dE:=uY H.o.2.2.2.2 A.o.2.2.size;have ei:((i:Int)).toNat=i:=zj;have pi:(0:Int)<=(i:Int):=zj;have bi:(i:Int)<=(ys.length:Int):=zj;have bi2:(i:Int)<=(cap:Int):=zj
  have hclear:∀ty,(Builtin.clear_ #[209] ty #[.slice (some (qA g (i*3))) (ys.length - i) (cap - i)]).run prog wr= .ok (.tuple #[]) (wr.setCells g (i*3) (KK (ys.length - i))):=fun ty=>pR (P:=prog) wr 209 212 ty _ underlying209 zeroValue212 g (i*3) (ys.length - i) (cap - i) zj (QE _) (fun q hq=>A.o.2.1.has (by rw [AS] at hq;omega)) (fun q hq=>A.o.2.1.free _ (by rw [AS] at hq;omega))
  go_wp2;go_ret;have st:=A.o.1.aaN;have ejl:j=ys.length:=zj;rw [ejl,Yq] at st
  have bl:(cs.take i).length=i:=by rw [Zp];omega
  unfold KY;rw [<-st,bl];exact ⟨rfl,A.o.2.1.take zj _,A.o.2.2.trans ((lZ g (KK (ys.length - i)) (i*3) wr).m8 (uQ H.o.2.2.2.1 A.o.2.2.size) (fun k e=>xk))⟩
end
section
open Shelf RowKit Lib Go.Sort
theorem L7.holds{w}{g}{ps}(h:L7 w g ps):HoldsK mW 3 w g 0 ps.toArray:=fun j hj=>by
 rw [size_flatK] at hj;simp only [Zn] at hj;have h1:j / 3<ps.length:=zj;have h2:j / 3*3+j % 3=j:=zj;refine ⟨?_,by rw [Ze];exact h.free j zj⟩;rw [Ze,get_flatK _ _ _ _ yD];have:=me (enc:=mW) mG (L:=ps) (i:=j / 3) (c:=j % 3) (x:=ps[j / 3]) (uL h1) zj;rw [h2] at this;rw [getElem!_pos ps.toArray (j / 3) (by simpa using h1),ZU,getElem!_pos _ (j % 3) vF];refine h.cell j _ ?_;rw [this,uL vF];rfl
theorem zaf(w)(g cap)(ps)(hown:L7 w g ps)(hblk:g<w.heap.size)(hl:ps.length<=200000):
  qC 191 #[qG g ps.length cap,.func (.func 192) #[] #[]] w fun e w'=>e=qT #[]/\∃qs:List Plc,qs.Perm ps/\qs.Pairwise (fun a b=>¬NLt (Dt b) (Dt a))/\(∀j u,(mN mW qs)[j]? =some u->w'.cell? (qA g j)=some u)/\m7 (fun k=>k=g) w w':=by
 have hH:=hown.holds;have h:=AnyQ.slices_SortFunc FX 3 isAgg212 sizeOf212 mW mG sF zbT UO 192 #[] g 0 cap ps.toArray w zaX (OM g 0 ps.toArray.size w) hH hblk zl;refine Calls.mono h ?_;rintro e w' ⟨rfl,d',n,os,hp,hs,rfl⟩;simp only [Zn] at hp hs;have hsz:d'.size=ps.length:=qv
 have hperm:d'.toList.Perm ps:=by
  exact kb3
 refine ⟨rfl,d'.toList,hperm,?_,?_,sO w g n d' os⟩
 ·rw [ZJ];intro i j hi hj ay;have hi':i<d'.size:=xM;have hj':j<d'.size:=yD;have hq:=hs i j (uW _) ay zj
  letI:Decidable (NLt (Dt (d'[j]!)) (Dt (d'[i]!))):=Classical.propDecidable _
  rw [wD] at hq;have:=of_decide_eq_false hq;rw [getElem!_pos d' i hi',getElem!_pos d' j hj'] at this;exact ko1
 exact kl8
def OG:Ren:=⟨fun | 41=>189 | n=>n,fun | 4=>4 | 22=>209 | 23=>212 | n=>n,fun n=>n⟩
theorem CG:SlLaysE0.n41 prog OG where
 mixed:=zk
 f41:=⟨ "slices.Clone[[]concordat/tree.Place,concordat/tree.Place]",zk,func189.trans qk⟩
 t4:=underlying4
 a4:=isAgg4
 z4:=sizeOf4
 v4:=zeroValue4
 t22:=underlying209
 a22:=isAgg209
 z22:=sizeOf209
 v22:=zeroValue209
theorem Xs{w}{l9}{v}{ps}(h:w.ownsRow l9 212 3 v ps.length (mN mW ps))(hv:v≠qE):∃g cap,v=qG g ps.length cap/\L7 w g ps/\l9<=g/\g<w.heap.size/\ps.length<=cap/\cap<=maxLen:=by
 have h2:=h.2
 rcases h2 with ⟨h0,_⟩ | ⟨g,cap,cur,rfl,hbg,hgb,hnc,hcm,hcs,htake⟩
 ·exact absurd h0 hv
 refine ⟨g,cap,rfl,⟨fun j u hj=> ?_,fun j _=>h.frozenAt j⟩,hbg,(h.lt g rfl).2,hnc,hcm⟩;have hl:=(uK.1 hj).1;rw [zbR] at hl;rw [h.cellAt j zj];exact hj
def Vv(w:qW)(qs:List Plc)(e:Ending)(w':qW):Prop:=(∃ao cap,qs= []/\e= .returned (.slice ao 0 cap)/\w'=w)\/∃g cap,e= .returned (qG g qs.length cap)/\Aside (L7 w' g qs/\w.heap.size<=g/\g<w'.heap.size/\qs.length<=cap/\cap<=maxLen/\qL w w')
theorem zaY(w)(v)(qs)(hn:qs.length<=1000)(h:M9 w v qs):
  qC 189 #[v] w (Vv w qs):=by
 rcases h with ⟨h,e⟩ | ⟨g,cap,h,hg,hc⟩
 ·rw [h];refine (AnyE.slices_Clone_nil CG 0 0 w).mono ?_;rintro e' w' ⟨rfl,rfl⟩;exact .inl ⟨none,0,e,rfl,rfl⟩
 rw [h];obtain ⟨i0,hi,aD,aw,aJ⟩:=info_parts WA;have k:=AnyE.slices_Clone CG i0 _ 3 32 hi aD aw aJ rfl zj sizeOf212 g 0 qs.length cap (mN mW qs) w (zbR qs) zB zj (fun j u hj=>by rw [Ze];exact hc j u hj) (sJ sF qs);refine Calls.mono k ?_;rintro e' w' ⟨v',rfl,hown,hne,hb⟩;obtain ⟨g',cap',rfl,hO,h1,h2,h3,h4⟩:=Xs hown hne;exact .inr ⟨g',cap',rfl,hO,h1,h2,h3,h4,hb⟩
theorem LC(gf:Nat)(lb)(eg:∀args w,(callFunc gf args).run prog w= .ok (.enter gf args) w)(ao)(cap)(w):
  qC 188 #[.slice ao 0 cap,.func (.func gf) #[] lb] w (qR (.slice ao 0 cap) w):=by
 have aT:=CW (fun _=>false) gf lb eg ao cap w.heap.size [] w zg (fun W x hx=>ya) zq (.inl rfl);go_enter func188,ntmps188;go_wp2_with fail;refine aT.mono ?_;rintro e w1 ⟨r,rfl,HR⟩
 rcases HR.o.1 with ⟨hr,_⟩ | ⟨k,x,hr,hx,_⟩
 ·subst hr;go_wp2;go_ret;exact ⟨rfl,HR.o.2⟩
 simp at hx
theorem Qi(W)(B)(i)(q)(hB:W.cell? (qB B)=some (qI i)):
  qC 190 (#[pS q]++ #[qP B]) W (qR (.bool (q.2.1 !=i)) W):=by
 obtain ⟨n,j,s⟩:=q;have hlt:=uP W (qB B) hB
 have g0:=fun o=>mZ ((uO _ W).alloc zg o) hB
 unfold pS
 dsimp only at hlt |-
 go_enter func190,ntmps190;exact ke9
abbrev Enx:=ByteArray×Int
def se(e:Enx):List Value:=[.string e.1,qI e.2]
theorem sU(x):(se x).length=2:=rfl
theorem Py(x):∀v∈se x,v.oneCell'=true:=by
 intro v hv;simp only [se,uZ,ZS,or_false] at hv
 rcases hv with rfl | rfl<;>rfl
theorem zcn:(prog.info? 163).map (fun i=>(i.zero,i.size,i.bytes))=some (some (.agg #[.string ⟨#[]⟩,qI 0]),2,24):=zk
def abp(w:qW)(v:Value)(es:List Enx):Prop:=(v=qE/\es= [])\/∃g cap,v=qG g es.length cap/\g<w.heap.size/\∀j u,(mN se es)[j]? =some u->w.cell? (qA g j)=some u
def NI(qs:List Plc)(i:Int)(es:List Enx):Prop:=∃R:List Plc,R.Perm (qs.filter (fun p=> !(p.2.1 !=i)))/\R.Pairwise (fun a b=>¬NLt (Dt b) (Dt a))/\es=R.map (fun p=>(nmB qs p,p.1))
def Cn(p:Plc):Prop:=0<=p.1/\p.1<2^62/\p.2.2.size<=60
structure aaP (w:qW) (g B:Nat) (R:List Plc) (es:List Enx) (v:Value) (wr:qW):Prop where
 m8:qL w wr
 size:B<=wr.heap.size
 cells:∀j u,(mN mW R)[j]? =some u->wr.cell? (qA g j)=some u
 row:wr.ownsRow B 163 2 v es.length (mN se es)
theorem aaP.F{w}{g B}{R}{es}{v}{wr}(h:aaP w g B R es v wr):S7 wr (qS g) R:=.inr ⟨g,0,rfl,fun j u hj=>by rw [Ze];exact h.cells j u hj⟩
theorem Rx{w}{g B}{R}{es}{v}{wr}(h:aaP w g B R es v wr)(hg:g<B)(hw:w.heap.size<=B){w1}(hb:qL wr w1)(e)(hn:es.length<=1000)(ty):
  ∃v' w3,(Builtin.append_ #[160,160] ty #[v,qG w1.heap.size 1 1]).run prog (w1.alloc (.cells (se e).toArray 163))= .ok v' w3/\Aside (aaP w g B R (es++ [e]) v' w3/\∀k,k<w1.heap.size->v.ownBlock≠some k->w3.heap[k]? =w1.heap[k]?):=by
 have hrow:(w1.alloc (.cells (se e).toArray 163)).ownsRow B 163 2 v es.length (mN se es):=by
  refine oZ h.row (fun q hq=> ?_);have:=(h.row.lt q hq).2;rw [uT _ _ _ vO,hb.block q this]
 have ar:N7 se (w1.alloc (.cells (se e).toArray 163)) (qS w1.heap.size) [e]:=by
  refine .inr ⟨w1.heap.size,0,rfl,fun j u hj=> ?_⟩;have hn:=heap_alloc_new w1 (.cells (se e).toArray 163);have hl:=(uK.1 hj).1;rw [mv sU] at hl;exact ki9
 obtain ⟨v',w3,ae,hown,fh⟩:=oR (enc:=se) (k:=2) (S:=160) (T:=163) underlying160 zcn zj zj rfl sU Py hrow zj (by rw [Zv];have:=hb.size;have:=h.size;omega) (qS w1.heap.size) 1 [e] zq ar (fun q=>xQ) ty;have cu:qL wr (w1.alloc (.cells (se e).toArray 163)):=hb.alloc hb.size _
 have hkeep:∀k,k<w1.heap.size->v.ownBlock≠some k->w3.heap[k]? =w1.heap[k]? :=fun k hk hne=>by
  rw [fh.block k yM (fun q=>hne q.symm),uT _ _ _ hk]
 refine ⟨v',w3,ae,⟨⟨?_,?_,?_,?_⟩,hkeep⟩⟩
 ·exact (zi h.m8 cu).grown fh (by have:=h.m8.size;have:=cu.size;omega) (fun k hk=>by have:=(h.row.lt k hk).1;omega)
 ·have:=fh.size;have:=cu.size;have:=h.size;omega
 ·intro j u hj;have hc:=h.cells j u hj;have hlt:=uP wr (qA g j) hc;dsimp only at hlt
  have e1:w3.heap[g]? =wr.heap[g]? :=by
   rw [hkeep g vO (fun q=>by have:=(h.row.lt g q).1;omega),hb.block g hlt]
  simp only [World.cell?] at hc |-
  rw [e1];exact hc
 grind [uS,nS]
end
section
open RowKit
def zbS(e:Enx):qU:=e.1.data.toList++ [58]++Lib.itoa e.2
def Sw(e:Enx):ByteArray:=e.1++⟨#[58]⟩++⟨(Lib.itoa e.2).toArray⟩
theorem Fg(e):(Sw e).data.toList=zbS e:=by simp [Sw,zbS]
theorem SK(e)(h:e.1.size<=1000/\0<=e.2/\e.2<2^62):(Sw e).size<=10000:=by
 have h1:=Lib.itoa_length_le e.2 zj zj;have h2:(Sw e).data.toList.length=(Sw e).size:=zq;rw [<-h2,Fg];unfold zbS;have h3:e.1.data.toList.length=e.1.size:=zq
 grind
def TA(es:List Enx):qU:=orN (Lib.join (es.map zbS) [32])
theorem zaH(w)(B)(v)(xs:List ByteArray)(h:w.ownsRow B 9 1 v xs.length (xs.map rz))(hl:xs.length<=1000000)(hm:∀l∈xs,l.size<=10000):
  qC 104 #[v,.string ⟨#[32]⟩] w (qR (.string ⟨(Lib.join (xs.map (·.data.toList)) [32]).toArray⟩) w):=by
 have hlen:(Lib.join (xs.map (·.data.toList)) [32]).length<=(xs.map (·.data.toList)).length*(10000+1):=by
  have iX:∀L:List qU,(Lib.join L [32]).length=(Lib.join L [10]).length:=fun L=>match L with
   | []=>rfl
   | _::_=>by rw [Lib.join_length,Lib.join_length];rfl
  rw [iX];refine JQ 10000 (xs.map (·.data.toList)) (fun l hl=> ?_);obtain ⟨x,hx,rfl⟩:=Zm.1 hl;have:=hm x hx;have e:x.data.toList.length=x.size:=zq;omega
 have hr:=h
 rcases h.2 with ⟨rfl,h0⟩ | ⟨g,cap,cur,rfl,hbg,hgb,r1,r2,r3,r4⟩
 ·have:=Zi.1 h0;subst this
  exact (Tryz.strings_Join_none none 0 ⟨#[32]⟩ w).mono fun e w' ⟨h1,h2⟩=>⟨h1,by rw [h2];exact uO _ _⟩
 exact Tryz.strings_Join g 0 cap xs ⟨#[32]⟩ w (fun j x hj=>by
  rw [Ze,hr.cellAt j (by have:=(uK.1 hj).1;omega),ZQ,hj]
  rfl) (uN.1 hgb).1 zj r1 (by rw [Zj] at hlen;show (Lib.join (xs.map (·.data.toList)) [32]).length<=_;omega)
theorem Ss(w)(br)(i)(Q:List Enx->Prop)
  (hs:qC 103 #[qP br,qI i] w fun e w'=>∃v es,e= .returned v/\abp w' v es/\(Q es/\es.length<=1000/\∀e∈es,e.1.size<=1000/\0<=e.2/\e.2<2^62)/\qL w w')
  (hI:∀b W,0<=b->b<2^62->qL w W->qC 54 #[qI b] W (qR (.string ⟨(Lib.itoa b).toArray⟩) W)):
  qC 60 #[qP br,qI i] w fun e w'=>∃es,e= .returned (.string ⟨(TA es).toArray⟩)/\Aside (Q es/\qL w w'):=by
 have HI:=Aside.mk' hI;go_enter func60,ntmps60;go_wp2_with fail;refine hs.mono ?_;rintro e w1 ⟨v,es,rfl,hE,hQ,hb⟩
 have HQ:Aside (Q es/\(es.length<=1000/\∀e∈es,e.1.size<=1000/\0<=e.2/\e.2<2^62)/\qL w w1):=⟨hQ.1,hQ.2,hb⟩
 obtain ⟨ao,cap,hv,hc⟩:∃ao cap,v= .slice ao es.length cap/\Aside (∀j e,es[j]? =some e->∃g,ao=some (qB g)/\w1.cell? (qA g (j*2))=some (.string e.1)/\w1.cell? (qA g (j*2+1))=some (qI e.2)):=by
  rcases hE with ⟨rfl,rfl⟩ | ⟨g,cap,rfl,hg,hc⟩
  ·exact ⟨none,0,rfl,fun j e he=>by simp at he⟩
  exact ⟨_,cap,rfl,fun j e he=>⟨g,rfl,hc (j*2) _ (me (enc:=se) (k:=2) (fun _=>rfl) he (by omega:0<2)),hc (j*2+1) _ (me (enc:=se) (k:=2) (fun _=>rfl) he (by omega:1<2))⟩⟩
 subst hv;go_wp2;go_loopg [5,12] es.length (fun kx s5 s12 wr=>∃(k:Nat) (u:Value),u=s5/\s12=qN k/\k<=es.length/\es.length - k<=kx/\Aside (qL w1 wr/\wr.ownsRow w1.heap.size 9 1 u k ((es.take k).map (fun e=>rz (Sw e)))))
 case atStart=>exact ⟨0,_,rfl,rfl,uW _,uM _,uO _ _,Zk _ _ _ _⟩
 case round=>
  obtain ⟨k,u5,rfl,rfl,hk,aY,A⟩:=hrel;by_cases hlt:k<es.length
  ·have aq:qlt k es.length=true:=by simp;omega
   have ek:((k:Int)).toNat=k:=zj;have pk:(0:Int)<=(k:Int):=zj;have bk:(k:Int)<(es.length:Int):=zj
   obtain ⟨⟨nm,nd⟩,he⟩:∃e,Aside (es[k]? =some e):=⟨es[k],uL hlt⟩
   obtain ⟨g,aH,fB,hc1⟩:=hc.o k _ he.o;subst aH;dsimp only at fB hc1;have c0:=mu A.o.1 fB;have c1:=mu A.o.1 hc1;have hfe:=HQ.o.2.1.2 _ (uR he.o);dsimp only at hfe;have kz:=mq wr [.string nm,qI nd] 163;have hbz:qL wr (wr.alloc (.cells #[.string nm,qI nd] 163)):=zh wr _
   have hne:u5.ownBlock≠some wr.heap.size:=fun q=>by have:=(A.o.2.lt _ q).2;omega
   have n1:¬9223372036854775807<nm.size+1:=by have:=hfe.1;omega
   have n2:¬9223372036854775807<nm.size+1+(Lib.itoa nd).length:=by have:=hfe.1;have:=Lib.itoa_length_le nd zj zj;omega
   go_upto_region 5 with fail;have cL:Aside (qL wr (wr.alloc (.cells #[.string nm,qI nd] 163)).drew):=hbz.drew;generalize wr.alloc (.cells #[.string nm,qI nd] 163)=V at*
   obtain ⟨Sd,hSd⟩:∃Sd,Aside (wr.heap.size=Sd):=⟨_,rfl⟩
   rw [hSd.o] at kz hne |-
   have s0:=kz.cell 0;have s1:=kz.cell 1;simp only [Zb,Zf] at s0 s1;have CS:D9 (fun q=>u5.ownBlock≠some q) V V.drew:=(D9.refl _ V).drew;have HBW:Aside (qL w V.drew):=HQ.o.2.2.trans ((zi A.o.1 cL.o).mono HQ.o.2.2.size);have hi:=HI.o nd V.drew hfe.2.1 hfe.2.2 HBW.o;refine lV (S:=D9 (fun q=>u5.ownBlock≠some q) V) zk CS (fun aa=> ?_);refine tk 0 CS ?_;refine tk 1 CS ?_;refine tk 2 CS ?_ (y:=ty (by intro w' ab;have q:=ab.cell (b:=Sd) (o:=0) hne s0;clear ab;go_simp;try with_reducible rfl));refine tk 3 CS ?_;refine tk 4 CS ?_;refine tk 5 CS ?_ (y:=ty (by intro w' ab;have q:=ab.cell (b:=Sd) (o:=1) hne s1;clear ab;go_simp;try with_reducible rfl));refine an (i:=6) zk rfl (fun K hK=> ?_);go_simp;refine hi.mono ?_;rintro e w4 ⟨rfl,hb4⟩;have C4:=CS.trans (D9.m8 hb4);have HW4:Aside (qL wr w4):=zi cL.o hb4;refine hK _ _ C4 ?_;refine qn ?_;refine tk 7 C4 ?_;have g6:=mE A.o.2 (fun q hq=>HW4.o.block q (A.o.2.lt q hq).2);obtain ⟨v',w6,ae,ho,hg,-⟩:=AR (S:=22) underlying22 Gd zj rfl g6 (uQ A.o.1.size HW4.o.size) zj (rz (Sw (nm,nd))) rfl 22;unfold rz Sw at ae;dsimp only at ae;have C6:=C4.trans ⟨hg.size,fun q hq hs=>hg.block q hs (fun e=>hq e.symm)⟩
   have C5:∀o,D9 (fun q=>u5.ownBlock≠some q) V (w4.alloc o):=fun o=>C4.trans (D9.m8 ((uO _ w4).alloc zg o))
   have H6:Aside (qL w1 w6/\w6.ownsRow w1.heap.size 9 1 v' (k+1) ((es.take (k+1)).map (fun e=>rz (Sw e)))):=by
    refine ⟨(zi A.o.1 HW4.o).grown hg (uQ A.o.1.size HW4.o.size) (fun q hq=>(A.o.2.lt q hq).1),?_⟩;rw [ZF,he.o,Zz];exact ho
   refine an (i:=8) zk rfl (fun K hK=> ?_);go_simp;refine hK _ _ (C5 _) ?_;refine qn ?_;refine an (i:=9) zk rfl (fun K hK=> ?_);rw [if_pos zt];simp only [ZU,ZZ,Ya];refine Lib.wp_append_run _ _ _ _ _ rfl u5 (qG w4.heap.size 1 1) rfl rfl _ w6 ae ?_;refine hK _ _ C6 ?_;refine qn ?_;refine tk 10 C6 ?_;refine wpAnyH_done zk ?_ _;refine qn ?_;go_wp2;go_roundg (es.length - (k+1))
   case measure=>omega
   case rel=>exact ⟨k+1,_,rfl,zJ,zj,uM _,H6.o⟩
  have aq:qlt k es.length=false:=zl;obtain rfl:k=es.length:=zj;have hj:=zaH wr w1.heap.size u5 (es.map Sw) (by have:=A.o.2;rw [Yq] at this;rw [Zj,YQ];exact this) (by rw [Zj];omega) (fun l hl=>by obtain ⟨e,he,rfl⟩:=Zm.1 hl;exact SK e (HQ.o.2.1.2 e he));rw [YQ,show ((fun x:ByteArray=>x.data.toList)∘Sw)=zbS from funext Fg] at hj;have HA:Aside (qL w wr):=zi HQ.o.2.2 A.o.1;go_wp2_with fail;refine hj.mono ?_;rintro e w2 ⟨rfl,hb2⟩;have HB:Aside (qL w w2):=zi HA.o hb2;have ho:=wu w2 (Lib.join (es.map zbS) [32]);go_wp2_with fail;refine ho.mono ?_;rintro e w3 ⟨rfl,rfl⟩;go_wp2;go_ret;exact ⟨es,rfl,HQ.o.1,HB.o⟩
end
section
open RowKit Lib Go.Sort Maps
theorem zcB(pb)(b)(w)(hb:w.cell? (qA pb 1)=some (qI b)):
  qC 165 #[qP pb] w fun e w'=>e= .returned (qI b)/\w'=w:=by
 go_enter func165,ntmps165;exact ka7
theorem zbu(w)(br)(T o8)(kv)(bt bx bc)(hc:n7 w br T o8 kv bt bx bc):
  qC 122 #[qP br] w fun e w'=>e= .returned (qI o8)/\w'=w:=by
 have h:=zcB br o8 w hc.c1;go_enter func122,ntmps122;go_wp2_with fail;refine h.mono ?_;rintro e w' ⟨rfl,rfl⟩;exact ka7
end
section
theorem plcB_iff{T}{nd} :SJ T nd=true↔(nd=0\/nd=1\/m9 T nd):=by
 simp_all [SJ,Bool.or_eq_true,decide_eq_true_eq,knownB_iff]
end