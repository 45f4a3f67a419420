import Derived.Test.YtjclejjkganhfaaGreatDoorSR26
set_option linter.unusedSimpArgs false
set_option linter.unusedVariables false
set_option maxRecDepth 100000
set_option maxHeartbeats 64000000
namespace Go.Proofs.YtjclejjkganhfaaGreatDoor
open Go.Proofs.Tryz
section
open RowKit Lib Go.Sort Maps
open scoped Classical
theorem Co(w)(c)(br)(o9)(R)(h:K7 w c br o9 R)(aF:Lib.TabIs prog w "internal/strconv.uint64pow10" .u64 Lib.pow10Tab)(hn:(lX R).length<=300):
  Calls prog 102 #[.pointer (some ⟨br,0,none⟩)] w fun e w'=>∃s,e= .returned (.string ⟨s.toArray⟩)/\GB (lX R) s/\Below w.heap.size w w':=by
 obtain ⟨T,kv,bt,bx,bc,A,hM,hperm,hK,bJ⟩:=h;have hAl:A.length<=300:=xY;obtain ⟨S,hS⟩:=za w.heap.size;obtain ⟨U,hU⟩:=za (w.alloc (.cells #[.slice none 0 0] 22));have ah:Below w.heap.size w U:=zX
 have hT0:P1 S [] (.slice none 0 0) U:=⟨by rw [hU,hS];exact heap_alloc_new w _,Zi _ _ _ _⟩
 have HT:Aside (Lib.TabBelow prog w.heap.size w "internal/strconv.uint64pow10" .u64 Lib.pow10Tab):=Lib.tabBelow_of_tabIs aF
 have HM:Aside (G9 w c br T o9 kv bt bx bc R A/\A.Perm (lX R)/\u9 R):=⟨hM,hperm,hK⟩
 have eg:∀args w,(callFunc 128 args).run prog w= .ok (.enter 128 args) w:=enters_of func128 zk rfl;obtain ⟨bm,tv,ms,gi,jF,-⟩:=(hM.later ah).Y7;obtain ⟨nm,dM,ke⟩:=gi.map
 have hml:ms.length<=300:=by
  have h1:=jF.length_eq;have h2:(pz A).length<=A.length:=YJ _ _;omega
 have hpl:=DD U bt bm nm tv (lM ms) gi.aaa gi.cell ke zj;have c6:=(hM.later ah).cell.c6
 have HMS:Aside (ms.Perm (pz A)/\mn ms/\wg (lM ms)):=⟨jF,gi.o9,gi.aaa⟩
 have HU:Aside (U=w.alloc (.cells #[.slice none 0 0] 22)/\Below w.heap.size w U/\P1 S [] (.slice none 0 0) U/\S=w.heap.size):=⟨hU,ah,hT0,hS⟩
 clear gi ke jF hM hperm hK bJ aF hT0 hU ah;go_enter func102,ntmps102;go_upto_region 3 with fail;rw [<-HU.o.1];go_wp2_with fail;refine hpl.mono ?_;clear hpl c6;rintro e W1 ⟨vq,qs,rfl,hIP,hql,hPA,hb1,hnew⟩;obtain ⟨ao,qc,rfl,hin,aG⟩:=zch hPA;rw [<-hS]
 have HQ:Aside (C3 (lM ms) qs/\N9 lL W1 ao qs/\(∀g o,ao=some ⟨g,o,none⟩->g<W1.heap.size/\g≠S/\(Value.slice none 0 0).ownBlock≠some g)/\J7 w S W1 (.slice none 0 0) [] (.slice none 0 0) W1):=by
  refine ⟨hIP,hin,fun g o e=>⟨(aG g o e).2,?_,fun q=>xP⟩,J7.start (HU.o.2.2.1.later hb1) ?_⟩
  ·have h1:=hnew g (aG g o e).1;have h2:=HU.o.2.2.1.lt;omega
  rw [HU.o.2.2.2];exact zi HU.o.2.1 hb1
 have hqs:qs.length<=180000:=zj;clear hIP hPA hb1 hnew hin aG hql dM hS;go_wp2;go_loopg [19] qs.length (fun kx s19 wr=>∃(k:Nat) (v:Value),s19= .int .i64 (k:Int)/\k<=qs.length/\qs.length - k<=kx/\Aside (J7 w S W1 (.slice none 0 0) ((qs.take k).map oU) v wr))
 case atStart=>exact ⟨0,_,rfl,uW _,uL _,HQ.o.2.2.2⟩
 case round=>
  obtain ⟨k,v,rfl,hk,aY,A1⟩:=hrel;by_cases hlt:k<qs.length
  ·have d1:decide ((k:Int)<(qs.length:Int))=true:=by simp;omega
   have wk:((k:Int)).toNat=k:=zj;have pk:(0:Int)<=(k:Int):=zj;have bk:(k:Int)<(qs.length:Int):=zj
   obtain ⟨⟨a,b,s⟩,hx⟩:∃x,Aside (qs[k]? =some x):=⟨qs[k],uJ hlt⟩
   obtain ⟨blk,off,aG,hc⟩:=(A1.o.ab3 HQ.o.2.1 HQ.o.2.2.1).e mG hx.o;subst aG;have r0:=hc 0 _ rfl;have r1:=hc 1 _ rfl;have r2:=hc 2 _ rfl;simp only [ZC] at r0;clear hc;have cL:=HMS.o.2.2.Y8 _ _ ((HQ.o.1.U5 _).1 (uP hx.o));obtain ⟨P,hP⟩:=za wr.heap.size;obtain ⟨V,hV⟩:=za (wr.alloc (.cells #[.int .i64 a,.int .i64 b,.string s] 212))
   have ai:Below wr.heap.size wr V:=by rw [hV];exact zh wr _
   have hPV:x8 V P (a,b,s):=by rw [hV,hP];exact heap_alloc_new wr _
   have HV:Aside (J7 w S W1 (.slice none 0 0) ((qs.take k).map oU) v V/\x8 V P (a,b,s)/\(∀g,v.ownBlock=some g->g<P)/\S<P):=⟨A1.o.later ai,hPV,fun g hg=>by rw [hP];exact (A1.o.st.row.lt g hg).2,by rw [hP];exact A1.o.st.lt⟩
   have HF:Aside (O9 (a,b,s)):=cL;have hPd:x8 V.drew P (a,b,s):=hPV;clear ai hPV cL;go_upto_region 6 with fail;rw [<-hV];clear hV r0 r1 r2;rw [<-hP];clear hP;refine lV (S:=(fun w'=>x8 w' P (a,b,s))) zk hPd (fun aa=> ?_);refine tk 0 aa ?_;refine tk 1 aa ?_;refine tk 2 aa ?_ (y:=ty (by intro w' ab;have j0:=x8.c0 ab;dsimp only at j0;clear ab;go_simp;try with_reducible rfl));refine tk 3 aa ?_;refine tk 4 aa ?_ (y:=ty (by intro w' ab;have j1:=x8.c1 ab;dsimp only at j1;clear ab;go_simp;try with_reducible rfl));refine tk 6 aa ?_;refine tk 7 aa ?_ (y:=ty (by intro w' ab;have j2:=x8.c2 ab;dsimp only at j2;clear ab;go_simp;try with_reducible rfl));refine an (i:=5) zk rfl (fun K hK=> ?_);go_simp;refine (BO b (by have:=HF.o.lo';dsimp only at this;omega) (by have:=HF.o.hi';dsimp only at this;omega) V.drew (HT.o _ (by have:=HV.o.1.m8.drew;rw [HU.o.2.2.2] at this;exact this))).mono ?_;rintro e w3 ⟨rfl,hb3⟩;have A3:=HV.o.1.later ((uM _ V).drew.trans hb3);have P3:=HV.o.2.1.same (((uM _ V).drew.trans hb3).block P HV.o.2.1.lt);refine hK _ _ P3 ?_;clear hK K hb3;refine qn ?_;obtain ⟨X,hX⟩:=za (w3.alloc (.cells #[.string ⟨#[105,110]⟩,.string ⟨(Lib.itoa b).toArray⟩,.string s] 9))
   have hbX:Below w3.heap.size w3 X:=by rw [hX];exact zh w3 _
   have AX:=A3.later hbX;have PX:=P3.same (hbX.block P P3.lt)
   have fl:X.heap[w3.heap.size]? =some (.cells #[.string ⟨#[105,110]⟩,.string ⟨(Lib.itoa b).toArray⟩,.string s] 9 (0,0)):=by rw [hX];exact heap_alloc_new w3 _
   have aV:=Ed X S a w3.heap.size 3 [⟨#[105,110]⟩,⟨(Lib.itoa b).toArray⟩,s] ((qs.take k).map oU) v AX.st (fun j x hj=>by
     rw [Zc]
     match j,hj with
     | 0,hj=>cases hj;simp [World.cell?,fl]
     | 1,hj=>cases hj;simp [World.cell?,fl]
     | 2,hj=>cases hj;simp [World.cell?,fl]
     | n+3,hj=>simp at hj) (uK.1 fl).1 zr zr (HT.o _ yT) (by have:=HF.o.lo;omega) (by have:=HF.o.hi;omega)
     (Ii HF.o) vy
   have bD:AQ a ([⟨#[105,110]⟩,⟨(Lib.itoa b).toArray⟩,s].map (fun x:ByteArray=>x.data.toList))=oU (a,b,s):=rfl;rw [bD] at aV
   have aV:=aV.mono (R':=fun e w4=>∃v',e= .returned (.tuple #[])/\x8 w4 P (a,b,s)/\Aside (J7 w S W1 (.slice none 0 0) ((qs.take k).map oU++ [oU (a,b,s)]) v' w4)) (fun e w4 ht4=>by
    obtain ⟨v',he,A4⟩:=AX.acG ht4
    obtain ⟨_,-,-,hk4,-⟩:=ht4
    exact ⟨v',he,PX.same (hk4.block P PX.lt (fun q=>by
     rcases q with q | q
     ·have:=HV.o.2.2.2;omega
     ·have:=HV.o.2.2.1 P q;omega)),A4⟩)
   clear bD AX fl hbX A3;refine an (i:=8) zk rfl (fun K hK=> ?_);go_simp;rw [<-hX];refine hK _ _ PX ?_;clear hK K hX PX;refine qn ?_;refine an (i:=9) zk rfl (fun K hK=> ?_);go_simp;refine aV.mono ?_;clear aV;rintro e w4 ⟨v',rfl,P4,HA4⟩;refine hK _ _ P4 ?_;clear hK K P4;refine wpAnyH_done zk ?_ _;refine qn ?_;go_wp2;go_roundg (qs.length - (k+1))
   case measure=>omega
   case rel=>exact ⟨k+1,v',zN,zj,uL _,by rw [BJ _ _ hx.o];exact HA4.o⟩
  have d1:decide ((k:Int)<(qs.length:Int))=false:=zm;have ek:qs.take k=qs:=Zk zj;rw [ek] at A1;clear ek;obtain ⟨nx,tx,t1,t2,t3,t4,t5⟩:=(HM.o.1.later xO).P8;have c7:=(HM.o.1.later xO).cell.c7;have hky:=callsIn_wide.1 (Ux Fence.wide 3 trivial rfl (some bx) wr);obtain ⟨V,hV⟩:=za (wr.alloc (.cells #[.map (some bx)] 133))
  have ai:Below wr.heap.size wr V:=by rw [hV];exact zh wr _
  have bK:Boxed V wr.heap.size 133 (.map (some bx)):=by rw [hV];exact heap_alloc_new wr _
  have hsi:=DS V wr.heap.size bx nx tx (uK.1 bK).1 bK.cell (t2.same (ai.block bx t2.lt)) zj
  have H2:Aside (J7 w S W1 (.slice none 0 0) (qs.map oU) v V/\(∀nd,(tx nd).isSome=true↔m9 A nd)/\nx<=A.length):=⟨A1.o.later ai,t4,t1⟩
  rw [<-hV] at hky;clear t1 t2 t3 t4 t5 hV ai bK d1;go_wp2_with fail;refine hky.mono ?_;clear hky;rintro e w5 ⟨rfl,rfl⟩;clear c7;go_wp2_with fail;refine hsi.mono ?_;clear hsi;rintro e W2 ⟨vk,ks,rfl,hrise,hmem,hkl,hrow,hb2⟩;obtain ⟨ak,kc,rfl⟩:=mC hrow;obtain ⟨tf,htf⟩:∃tf:Int->List UInt8,Aside (∀nd L,u7 A nd L->tf nd=rz L):=SP A
  have HK:Aside (ks.Pairwise (· < ·)/\(∀nd,nd∈ks↔m9 A nd)/\N9 SL W2 ak ks/\(∀g o,ak=some ⟨g,o,none⟩->g<W2.heap.size/\g≠S/\v.ownBlock≠some g)/\J7 w S W2 v (qs.map oU) v W2):=by
   have h3:=H2.o.1.later hb2;refine ⟨hrise,fun nd=>(hmem nd).trans (H2.o.2.1 nd),zaY (enc:=SL) FF (by rw [Gw];exact hrow),fun g o e=> ?_,J7.start h3.st h3.m8⟩;subst e;have h4:=hrow.lt g rfl;have h5:=H2.o.1.st.lt;exact ⟨h4.2,zj,fun q=>by have:=(H2.o.1.st.row.lt g q).2;omega⟩
  have hks:ks.length<=300:=by have:=H2.o.2.2;omega
  clear hrise hmem hkl hrow hb2 A1 H2;go_wp2;go_loopg [41] ks.length (fun kx s41 wr=>∃(k:Nat) (u:Value),s41= .int .i64 (k:Int)/\k<=ks.length/\ks.length - k<=kx/\Aside (J7 w S W2 v (qs.map oU++((((ks.take k).map fun nd=>(nd,tf nd)).filter sr).map Ae)) u wr))
  case atStart=>exact ⟨0,v,rfl,uW _,uL _,by show J7 w S W2 v _ v W2;simpa using HK.o.2.2.2.2⟩
  case round=>
   obtain ⟨k2,u,rfl,hk2,hkx2,A2⟩:=hrel;by_cases iv:k2<ks.length
   ·have d2:decide ((k2:Int)<(ks.length:Int))=true:=by simp;omega
    have wk:((k2:Int)).toNat=k2:=zj;have pk:(0:Int)<=(k2:Int):=zj;have bk:(k2:Int)<(ks.length:Int):=zj
    obtain ⟨nd,hx⟩:∃x,Aside (ks[k2]? =some x):=⟨ks[k2],uJ iv⟩
    obtain ⟨blk,off,hak,hc⟩:=(A2.o.ab3 HK.o.2.2.1 HK.o.2.2.2.1).e FF hx.o;subst hak;have r0:=hc 0 _ rfl;simp only [ZC,Nat.mul_one] at r0;clear hc;have cE:=(HK.o.2.1 nd).1 (uP hx.o)
    have cq:0<=nd/\nd<2^40:=by
     obtain ⟨x,hx,_,e2,_⟩:=cE;have q:=mT (HM.o.2.2.G6.ok x (HM.o.2.1.mem_iff.1 hx));have e3:x.2.2.2.2.1=nd:=e2;have q1:=q.2.2.2.2.2.2.2.1;have q2:=q.2.2.2.2.2.2.2.2.1;have q4:=q.2.2.2.1;omega
    have cr:=HM.o.1.later xN;have eD:=TL wr c br T o9 kv bt bx bc A nd cr.cell cr.P8 zj zj zj
    have eD:=eD.mono (R':=fun e w6=>∃s,e= .returned (.string s)/\Aside (tf nd=s.data.toList/\s.size<=1000/\J7 w S W2 v (qs.map oU++((((ks.take k2).map fun nd=>(nd,tf nd)).filter sr).map Ae)) u w6)) (fun e w6 q=>by
     obtain ⟨s,he,hti,hb6⟩:=q
     refine ⟨s,he,?_,?_,A2.o.later hb6⟩
     ·rcases hti with ⟨q,_⟩ | ⟨_,L,hL,hs⟩
      ·exact absurd cE q
      ·rw [htf.o nd L hL,hs]
     ·rcases hti with ⟨q,_⟩ | ⟨_,L,hL,hs⟩
      ·exact absurd cE q
      ·have h1:=wE L
       have h2:=hL.D4
       have h3:s.data.toList.length=s.size:=zr
       rw [hs] at h3
       omega)
    have hnd0:=cq.1;have hnd1:=cq.2;obtain ⟨y,hy⟩:=za wr;subst hy;clear cr cE cq;go_wp2_with fail;refine eD.mono ?_;clear eD;rintro e w6 ⟨s,rfl,H6⟩;clear r0;have hst:=H6.o.1;have fQ:=H6.o.2.1;have A6:=H6.o.2.2;by_cases fq:s.size=0
    ·have he:=EA fq
     have HA6:Aside (J7 w S W2 v (qs.map oU++((((ks.take (k2+1)).map fun nd=>(nd,tf nd)).filter sr).map Ae)) u w6):=by
      show J7 w S W2 v _ u w6
      rw [BJ _ _ hx.o,Ya]
      have:sr (nd,tf nd)=false:=by
       have h3:s.data.toList.length=s.size:=zr;unfold sr;rw [hst];simp only [ne_eq,decide_not,Bool.not_eq_false',decide_eq_true_eq];exact Zg.1 zj
      simp only [List.filter_cons,this,List.filter_nil];simpa using A6
     clear A6 A2;go_wp2;go_roundg (ks.length - (k2+1))
     case measure=>omega
     case rel=>exact ⟨k2+1,u,zN,zj,uL _,HA6.o⟩
    have he:=Ig fq;obtain ⟨X,hX⟩:=za (w6.alloc (.cells #[.string ⟨#[116,101,120,116]⟩,.string s] 9))
    have hbX:Below w6.heap.size w6 X:=by rw [hX];exact zh w6 _
    have AX:=A6.later hbX
    have fl:X.heap[w6.heap.size]? =some (.cells #[.string ⟨#[116,101,120,116]⟩,.string s] 9 (0,0)):=by rw [hX];exact heap_alloc_new w6 _
    have aV:=Ed X S nd w6.heap.size 2 [⟨#[116,101,120,116]⟩,s] (qs.map oU++((((ks.take k2).map fun nd=>(nd,tf nd)).filter sr).map Ae)) u AX.st (fun j x hj=>by
      rw [Zc]
      match j,hj with
      | 0,hj=>cases hj;simp [World.cell?,fl]
      | 1,hj=>cases hj;simp [World.cell?,fl]
      | n+2,hj=>simp at hj) (uK.1 fl).1 zr zr (HT.o _ yT) zj zj
      (by simp only [ZS,YE,Lib.join_length,Lib.lens,Za,Zq,List.sum_cons,List.sum_nil];have:s.data.toList.length=s.size:=zr;omega) (by
       have h1:((((ks.take k2).map fun nd=>(nd,tf nd)).filter sr).map Ae).length<=ks.length:=by
        rw [Zh]
        refine uO (Yi _ _) ?_
        rw [Zh,Zr]
        omega
       rw [uQ,Zh]
       omega)
    have bD:AQ nd ([⟨#[116,101,120,116]⟩,s].map (fun x:ByteArray=>x.data.toList))=Ae (nd,tf nd):=by rw [hst];rfl
    rw [bD] at aV
    have dP:sr (nd,tf nd)=true:=by
     have h3:s.data.toList.length=s.size:=zr;unfold sr;rw [hst];simp only [ne_eq,decide_not,Bool.not_eq_true',decide_eq_false_iff_not];intro q;rw [q] at h3;simp at h3;omega
    have aV:=aV.mono (R':=fun e w7=>∃u',e= .returned (.tuple #[])/\Aside (J7 w S W2 v (qs.map oU++((((ks.take (k2+1)).map fun nd=>(nd,tf nd)).filter sr).map Ae)) u' w7)) (fun e w7 ht7=>by
     obtain ⟨u',he,A7⟩:=AX.acG ht7
     refine ⟨u',he,?_⟩
     show J7 w S W2 v _ u' w7
     rw [BJ _ _ hx.o,Ya]
     simp only [List.filter_cons,dP,List.filter_nil,ZL,ZS,YE,if_true]
     rw [<-Zo]
     exact A7)
    clear bD AX fl hbX A6 A2 dP;go_wp2_with fail;rw [<-hX];refine aV.mono ?_;clear aV hX;rintro e w7 ⟨u',rfl,HA7⟩;go_wp2;go_roundg (ks.length - (k2+1))
    case measure=>omega
    case rel=>exact ⟨k2+1,u',zN,zj,uL _,HA7.o⟩
   have d2:decide ((k2:Int)<(ks.length:Int))=false:=zm;have ek:ks.take k2=ks:=Zk zj;rw [ek] at A2;clear ek;obtain ⟨ts,iY⟩:=za (ks.map fun nd=>(nd,tf nd));rw [<-iY] at A2
   have hIT:N7 A ts:=by
    refine ⟨?_,fun nd=> ?_,fun t ht=> ?_⟩
    ·rw [iY,YO];exact HK.o.1
    ·rw [iY,YY];have:ks.map ((fun x:Int×List UInt8=>x.1)∘fun nd=>(nd,tf nd))=ks:=(Yv (fun _ _=>rfl)).trans (List.map_id ks);rw [this];exact HK.o.2.1 nd
    rw [iY] at ht;obtain ⟨nd,cq,rfl⟩:=Zj.1 ht;obtain ⟨_,tx',_,_,_,q4,q5⟩:=HM.o.1.P8;obtain ⟨p,hp⟩:=Yu.1 ((q4 nd).2 ((HK.o.2.1 nd).1 cq));obtain ⟨_,L,_,hL,_⟩:=q5 nd p hp;exact ⟨L,hL,htf.o nd L hL⟩
   have htsl:ts.length<=300:=by rw [iY,Zh];exact hks
   have aV:∀t∈ts,t.2.length<=1000:=fun t ht=>by
    obtain ⟨L,hL,e⟩:=hIT.E5 t ht;have h1:=wE L;have h2:=hL.D4;rw [e];omega
   have htn:∀t∈ts,0<=t.1/\t.1<2^40:=fun t ht=>by
    obtain ⟨x,hx,_,e2,_⟩:=(hIT.U5 t.1).1 (Zj.2 ⟨t,ht,rfl⟩);have q:=mT (HM.o.2.2.G6.ok x (HM.o.2.1.mem_iff.1 hx));have e3:x.2.2.2.2.1=t.1:=e2;omega
   have HTS:Aside (N7 A ts/\(∀t∈ts,t.2.length<=1000)/\(∀t∈ts,0<=t.1/\t.1<2^40)):=⟨hIT,aV,htn⟩
   obtain ⟨LS,hLS⟩:=za (qs.map oU++(ts.filter sr).map Ae);rw [<-hLS] at A2
   have hLSl:LS.length<=180300:=by
    rw [hLS,uQ,Zh,Zh];have:=Yi sr ts;omega
   have cr:=HM.o.1.later xN;obtain ⟨cm,A',m1,m2,m3,m4⟩:=cr.N8;have kM:=RW wr bc cm A.length (rm A') m1 zj;have c8:=cr.cell.c8
   have HLS:Aside (LS=qs.map oU++(ts.filter sr).map Ae/\A'.Perm A):=⟨hLS,m2⟩
   obtain ⟨y,hy⟩:=za wr;subst hy;clear iY hIT aV htn hLS cr m1 m2 m3 m4 HK htf;go_wp2_with fail;refine kM.mono ?_;clear kM c8;rintro e W3 ⟨am,mc,mm,rfl,hIM,hmml,hmin,hb3,hnew3⟩
   have HMM:Aside (P9 (rm A') mm/\N9 mh W3 am mm/\(∀g o,am=some ⟨g,o,none⟩->mm≠ []->g<W3.heap.size/\g≠S/\u.ownBlock≠some g)/\J7 w S W3 u LS u W3):=by
    have h3:=A2.o.later hb3;refine ⟨hIM,hmin,fun g o e hne=>⟨TD oM zj hmin hne e,?_,fun q=> ?_⟩,J7.start h3.st h3.m8⟩
    ·have:=hnew3 g o e;have:=A2.o.st.lt;omega
    have h4:=hnew3 g o e;have:=(A2.o.st.row.lt g q).2;omega
   have hmm3:mm.length<=300:=zj;clear hIM hmml hmin hb3 hnew3 A2;go_wp2;go_loopg [62] mm.length (fun kx s62 wr=>∃(k:Nat) (z:Value),s62= .int .i64 (k:Int)/\k<=mm.length/\mm.length - k<=kx/\Aside (J7 w S W3 u (LS++(mm.take k).map GG) z wr))
   case atStart=>exact ⟨0,u,rfl,uW _,uL _,by show J7 w S W3 u _ u W3;simpa using HMM.o.2.2.2⟩
   case round=>
    obtain ⟨k3,z,rfl,hk3,hkx3,A3⟩:=hrel;by_cases gy:k3<mm.length
    ·have d3:decide ((k3:Int)<(mm.length:Int))=true:=by simp;omega
     have wk:((k3:Int)).toNat=k3:=zj;have pk:(0:Int)<=(k3:Int):=zj;have bk:(k3:Int)<(mm.length:Int):=zj
     obtain ⟨⟨nd,gY,vl⟩,hx⟩:∃x,Aside (mm[k3]? =some x):=⟨mm[k3],uJ gy⟩
     have hmne:mm≠ []:=fun q=>by rw [q] at gy;simp at gy
     obtain ⟨blk,off,ham,hc⟩:=(A3.o.ab3 HMM.o.2.1 (fun g o e=>HMM.o.2.2.1 g o e hmne)).e oM hx.o;subst ham;have r0:=hc 0 _ rfl;have r1:=hc 1 _ rfl;have r2:=hc 2 _ rfl;simp only [ZC] at r0;clear hc hmne;have hmo:=Hv HMM.o.1 (uP hx.o);dsimp only at hmo;obtain ⟨Y,hY⟩:=za (wr.alloc (.cells #[.int .i64 nd,.string gY,.string vl] 221))
     have jj:Below wr.heap.size wr Y:=by rw [hY];exact zh wr _
     have hYb:Y.heap[wr.heap.size]? =some (.cells #[.int .i64 nd,.string gY,.string vl] 221 (0,0)):=by rw [hY];exact heap_alloc_new wr _
     have y0:Y.cell? ⟨wr.heap.size,0,none⟩=some (.int .i64 nd):=vM;have y1:Y.cell? ⟨wr.heap.size,1,none⟩=some (.string gY):=vM;have y2:Y.cell? ⟨wr.heap.size,2,none⟩=some (.string vl):=vM;obtain ⟨X,hX⟩:=za (Y.alloc (.cells #[.string ⟨#[109,97,114,107]⟩,.string gY,.string vl] 9))
     have hbX:Below Y.heap.size Y X:=by rw [hX];exact zh Y _
     have AX:=(A3.o.later jj).later hbX
     have fl:X.heap[Y.heap.size]? =some (.cells #[.string ⟨#[109,97,114,107]⟩,.string gY,.string vl] 9 (0,0)):=by rw [hX];exact heap_alloc_new Y _
     have aV:=Ed X S nd Y.heap.size 3 [⟨#[109,97,114,107]⟩,gY,vl] (LS++(mm.take k3).map GG) z AX.st (fun j x hj=>by
       rw [Zc]
       match j,hj with
       | 0,hj=>cases hj;simp [World.cell?,fl]
       | 1,hj=>cases hj;simp [World.cell?,fl]
       | 2,hj=>cases hj;simp [World.cell?,fl]
       | n+3,hj=>simp at hj) (uK.1 fl).1 zr zr (HT.o _ yT) zj zj
       (by simp only [ZS,YE,Lib.join_length,Lib.lens,Za,Zq,List.sum_cons,List.sum_nil];have q1:gY.data.toList.length=gY.size:=zr;have q2:vl.data.toList.length=vl.size:=zr;omega) (by rw [uQ,Zh,Zr];omega)
     have bD:AQ nd ([⟨#[109,97,114,107]⟩,gY,vl].map (fun x:ByteArray=>x.data.toList))=GG (nd,gY,vl):=rfl;rw [bD] at aV
     have aV:=aV.mono (R':=fun e w7=>∃z',e= .returned (.tuple #[])/\Aside (J7 w S W3 u (LS++(mm.take (k3+1)).map GG) z' w7)) (fun e w7 ht7=>by
      obtain ⟨z',he,A7⟩:=AX.acG ht7
      refine ⟨z',he,?_⟩
      show J7 w S W3 u _ z' w7
      rw [BJ _ _ hx.o,<-Zo]
      exact A7)
     have HY:Aside (Y.heap.size=wr.heap.size+1):=by show Y.heap.size=_;rw [hY];simp
     obtain ⟨y,hy⟩:=za wr;subst hy;clear bD AX fl hbX jj hYb A3 hmo d2;go_upto_region 18 with fail;rw [<-hY];clear hY r0 r1 r2;go_wp2_with fail;rw [<-hX];refine aV.mono ?_;clear aV hX;rintro e w7 ⟨z',rfl,HA7⟩;clear y0 y1 y2;go_wp2;go_roundg (mm.length - (k3+1))
     case measure=>omega
     case rel=>exact ⟨k3+1,z',zN,zj,uL _,HA7.o⟩
    have d3:decide ((k3:Int)<(mm.length:Int))=false:=zm;have ek:mm.take k3=mm:=Zk zj;rw [ek] at A3;clear ek
    have eN:=Qi wr S (LS++mm.map GG) z A3.o.st (by rw [uQ,Zh];omega) (fun l hl=>by
     have hIP:=HQ.o.1
     rcases uV.1 hl with hl | hl
     ·rw [HLS.o.1] at hl
      rcases uV.1 hl with hl | hl
      ·obtain ⟨p,hp,rfl⟩:=Zj.1 hl
       exact FB (HMS.o.2.2.Y8 _ _ ((HQ.o.1.U5 p).1 hp))
      ·obtain ⟨t,ht,rfl⟩:=Zj.1 hl
       have ie:=(Ye.1 ht).1
       exact KS (HTS.o.2.1 t ie) (HTS.o.2.2 t ie).1 (HTS.o.2.2 t ie).2
     ·obtain ⟨m,hm,rfl⟩:=Zj.1 hl
      exact Ja (Hv HMM.o.1 hm))
    have z0:=A3.o.st.F3.cell
    have HFIN:Aside (GB (lX R) (Lib.join (LS++mm.map GG) [10])):=by
     refine GB.G4 (A:=A) ⟨ms,qs,ts,A',mm,HMS.o.1,HMS.o.2.1,HQ.o.1,HTS.o.1,HLS.o.2,HMM.o.1,?_⟩ HM.o.2.1;unfold CK;rw [HLS.o.1]
    have HB:Aside (Below w.heap.size w wr):=by have:=A3.o.m8;rw [HU.o.2.2.2] at this;exact this
    obtain ⟨y,hy⟩:=za wr;subst hy;clear A3 d2;go_wp2_with fail;refine eN.mono ?_;clear eN;rintro e w9 ⟨rfl,hb9⟩;have HB9:Aside (Below w.heap.size w w9):=zi HB.o hb9;clear hb9;go_wp2;go_ret;exact ⟨_,rfl,HFIN.o,HB9.o⟩
def XG(ad:qF)(w:qW)(ok:Prop)(x:OpX)(cyc:Prop)(e:Ending)(w':qW):Prop:=qL w w'/\
 ((¬ok/\e=qT #[mJ lQ,eV ad 6])\/(ok/\od x≠0/\e=qT #[mJ lQ,eV ad (od x)])\/(ok/\od x=0/\cyc/\e=qT #[mJ lQ,eV ad 10])\/(ok/\od x=0/\¬cyc/\e=qT #[mJ x,.nilIface]))
theorem Ql{B}{ad}(w)(c)(br)(T)(i:Nat)(ao)(cap)(bt bx bc bm n)(f)(R)(nd into)(name)(hc:n7 w br T (i:Int) (kvs ao cap R) bt bx bc)(aP:E4 w c (kvs ao cap R) R)(ht:w.cell? (qB bt)=some (.map (some bm)))(hmap:sL prog 3 w bm n f)(hG:wg f)(hR:u9 R)(hE:E8 B ad w)(hcy:Aside (Cyc ad))(hi:i<4)(hT:0<=T)(hm:T<=1073741824)(hn:(lX R).length<=250)(aI:name.size<=1000000)(h2: -9223372036854775808<=nd)(h3:nd<=9223372036854775807)(h4: -9223372036854775808<=into)(h5:into<=9223372036854775807):
  qC 208 #[qP br,qI nd,qI into,.string name] w (XG ad w (m9 (lX R) nd/\(into=0\/into=1\/m9 (lX R) into)) (nQ T i (R i).length 109 nd into name ⟨#[]⟩) (into=nd\/Ins f into nd)):=by
 have dA:∀i,i<4->(R i).length<=1000:=fun i hi=>yD
 obtain ⟨S,hS⟩:=za w.heap.size;obtain ⟨U,hU⟩:=za (w.alloc qZc);have ah:qL w U:=zX;have Z0:m6 U S lQ:=yE;have aO:=hc.same (ah.block _ hc.lt)
 obtain ⟨zb,cY⟩:∃zb:Bool,zb=true↔m9 (lX R) nd:=⟨@decide _ (Classical.propDecidable _),@decide_eq_true_iff _ (Classical.propDecidable _)⟩
 obtain ⟨zp,hzp⟩:∃zp:Bool,zp=true↔(into=0\/into=1\/m9 (lX R) into):=⟨@decide _ (Classical.propDecidable _),@decide_eq_true_iff _ (Classical.propDecidable _)⟩
 have df:=pm U ao cap R nd zb cY ((hE.later ah).P7) ((C8.r aP).later ah) hR.toN dA h2 h3;unfold kV at df;have k2:U.cell? (qA br 2)=some (.slice (ao 0) (R 0).length (cap 0)):=aO.c2;have k3:U.cell? (qA br 3)=some (.slice (ao 1) (R 1).length (cap 1)):=aO.c3;have k4:U.cell? (qA br 4)=some (.slice (ao 2) (R 2).length (cap 2)):=aO.c4;have k5:U.cell? (qA br 5)=some (.slice (ao 3) (R 3).length (cap 3)):=aO.c5
 have HT:Aside (C8 U ao R/\I3 R/\(∀i,i<4->(R i).length<=1000)/\w.cell? (qB bt)=some (.map (some bm))/\sL prog 3 w bm n f/\wg f):=⟨(C8.r aP).later ah,hR.toN,dA,ht,hmap,hG⟩
 have H0:Aside (n7 U br T (i:Int) (kvs ao cap R) bt bx bc/\m6 U S lQ/\qL w U/\S=w.heap.size/\E8 B ad U/\B<=w.heap.size/\(zb=true↔m9 (lX R) nd)/\(zp=true↔(into=0\/into=1\/m9 (lX R) into))):=⟨aO,Z0,ah,hS,hE.later ah,hE.size,cY,hzp⟩
 have HU:Aside (U=w.alloc qZc):=hU;clear hU aO Z0 ah hE hc hS cY hzp aP hR ht hmap hG dA;go_enter func208,ntmps208;go_upto_region 1 with fail;rw [<-HU.o,<-H0.o.2.2.2.1];go_wp2_with fail;refine df.mono ?_;clear df k2 k3 k4 k5;rintro e w1 ⟨rfl,hb1⟩;have Z1:=H0.o.2.1.later hb1
 have H1:Aside (m6 w1 S lQ/\qL w w1/\E8 B ad w1/\n7 w1 br T (i:Int) (kvs ao cap R) bt bx bc/\C8 w1 ao R):=⟨Z1,zi H0.o.2.2.1 hb1,H0.o.2.2.2.2.1.later hb1,H0.o.1.same (hb1.block _ H0.o.1.lt),HT.o.1.later hb1⟩
 clear hb1 Z1
 cases zb with
 | false=>
  have kt:=Lib.hid (show ¬(m9 (lX R) nd/\(into=0\/into=1\/m9 (lX R) into)) from fun q=>by have:=H0.o.2.2.2.2.2.2.1.2 q.1;cases this);obtain ⟨z0,z1,z2,z3,z4,z5,z6,z7,zf⟩:=m6.ct H1.o.1;have eg:=H1.o.2.2.1.c5;have bC:=H1.o.2.2.1.low;have ab:=H0.o.2.2.2.1;have bF:=H0.o.2.2.2.2.2.1;have n1:5≠S:=zj;have n2:S≠5:=zj;clear bC ab bF;go_wp2_with fail;go_region
  all_goals
   go_wp2;(try simp only [Exit.inBlock,Exit.then]);refine bodyPost_ret (v:=.tuple #[mJ lQ,eV ad 6]) ?_ rfl ⟨?_,.inl ⟨kt.o,rfl⟩⟩
   ·exact kd1
   exact kg1
 | true=>
  have HK1:Aside (m9 (lX R) nd):=H0.o.2.2.2.2.2.2.1.1 rfl;have aK:=tR w1 ao cap R into zp H0.o.2.2.2.2.2.2.2 H1.o.2.2.1.P7 H1.o.2.2.2.2 HT.o.2.1 HT.o.2.2.1 h4 h5;unfold kV at aK;have k2:w1.cell? (qA br 2)=some (.slice (ao 0) (R 0).length (cap 0)):=H1.o.2.2.2.1.c2;have k3:w1.cell? (qA br 3)=some (.slice (ao 1) (R 1).length (cap 1)):=H1.o.2.2.2.1.c3;have k4:w1.cell? (qA br 4)=some (.slice (ao 2) (R 2).length (cap 2)):=H1.o.2.2.2.1.c4;have k5:w1.cell? (qA br 5)=some (.slice (ao 3) (R 3).length (cap 3)):=H1.o.2.2.2.1.c5;go_wp2_with fail;refine aK.mono ?_;clear aK k2 k3 k4 k5;rintro e w2 ⟨rfl,hb2⟩
  have H2:Aside (m6 w2 S lQ/\qL w w2/\E8 B ad w2/\n7 w2 br T (i:Int) (kvs ao cap R) bt bx bc):=⟨H1.o.1.later hb2,zi H1.o.2.1 hb2,H1.o.2.2.1.later hb2,H1.o.2.2.2.1.same (hb2.block _ H1.o.2.2.2.1.lt)⟩
  clear hb2
  cases zp with
  | false=>
   have kt:=Lib.hid (show ¬(m9 (lX R) nd/\(into=0\/into=1\/m9 (lX R) into)) from fun q=>by have:=H0.o.2.2.2.2.2.2.2.2 q.2;cases this);obtain ⟨z0,z1,z2,z3,z4,z5,z6,z7,zf⟩:=m6.ct H2.o.1;have eg:=H2.o.2.2.1.c5;have bC:=H2.o.2.2.1.low;have ab:=H0.o.2.2.2.1;have bF:=H0.o.2.2.2.2.2.1;have n1:5≠S:=zj;have n2:S≠5:=zj;clear bC ab bF;go_wp2_with fail;go_region
   all_goals
    go_wp2;(try simp only [Exit.inBlock,Exit.then]);refine bodyPost_ret (v:=.tuple #[mJ lQ,eV ad 6]) ?_ rfl ⟨?_,.inl ⟨kt.o,rfl⟩⟩
    ·exact kd1
    exact (mZ (b:=S) H2.o.2.1 yv 0 qZl).drew
  | true=>
   have lH:Aside (m9 (lX R) nd/\(into=0\/into=1\/m9 (lX R) into)):=⟨HK1.o,H0.o.2.2.2.2.2.2.2.1 rfl⟩
   have hown:=Az w2 br T i ao cap bt bx bc R 109 nd into name ⟨#[]⟩ H2.o.2.2.2 H2.o.2.2.1 hi hT hm hn aI zo;unfold mJ at hown;go_wp2_with fail;refine hown.mono ?_;clear hown;rintro e w3 ⟨he,hb3⟩;obtain ⟨x,hx⟩:=za ((nQ T i (R i).length 109 nd into name ⟨#[]⟩));rw [<-hx] at he
   have H3:Aside (m6 w3 S lQ/\qL w w3/\E8 B ad w3/\n7 w3 br T (i:Int) (kvs ao cap R) bt bx bc):=⟨H2.o.1.later hb3,zi H2.o.2.1 hb3,H2.o.2.2.1.later hb3,H2.o.2.2.2.same (hb3.block _ H2.o.2.2.2.lt)⟩
   have HXE:Aside (x=(nQ T i (R i).length 109 nd into name ⟨#[]⟩)):=hx;clear hb3 hx;by_cases k9:od x=0
   ·rw [if_pos k9,k9] at he;subst he;obtain ⟨t,b,m,kd,nd',o,s,v⟩:=x;have HX:=Lib.hid k9;clear k9;unfold mJ eV;dsimp only;go_upto_region 4 with fail;obtain ⟨W,hW⟩:=za (w3.alloc (qOc t b m kd nd' o s v));obtain ⟨V,hV⟩:=za w3.heap.size;rw [<-hW,<-hV]
    have hbW:qL w3 W:=by rw [hW];exact zh w3 _
    have hN:m6 W V (t,b,m,kd,nd',o,s,v):=by rw [hW,hV];exact m6.F5 w3 (t,b,m,kd,nd',o,s,v)
    have kh:=zi H3.o.2.1 hbW
    have H4:Aside (m6 W S lQ/\qL w W/\E8 B ad W/\n7 W br T (i:Int) (kvs ao cap R) bt bx bc/\m6 W V (t,b,m,kd,nd',o,s,v)/\V=w3.heap.size/\S<V):=⟨H3.o.1.later hbW,kh,H3.o.2.2.1.later hbW,H3.o.2.2.2.same (hbW.block _ H3.o.2.2.2.lt),hN,hV,by rw [hV];exact H3.o.1.lt⟩
    obtain ⟨z,hz⟩:∃z:Bool,z=true↔Ins f into nd:=⟨@decide _ (Classical.propDecidable _),@decide_eq_true_iff _ (Classical.propDecidable _)⟩
    have hins:=tj W bt bm n f into nd z hz (cell_later kh HT.o.2.2.2.1) (HT.o.2.2.2.2.1.same (kh.block _ HT.o.2.2.2.2.1.lt)) HT.o.2.2.2.2.2 (EL zj zj);have HZ:Aside (z=true↔Ins f into nd):=hz;have k6:=H4.o.2.2.2.1.c6
    have km:Aside (od (nQ T i (R i).length 109 nd into name ⟨#[]⟩)=0):=by have:=HX.o;rw [HXE.o] at this;exact this
    clear hbW hN kh hz hW hV;by_cases hq:into=nd
    ·have HCY:Aside (into=nd\/Ins f into nd):=.inl hq;subst hq;clear hins;obtain ⟨z0,z1,z2,z3,z4,z5,z6,z7,zf⟩:=m6.ct H4.o.1;have eg:=H4.o.2.2.1.c9 hcy.o;have bC:=H4.o.2.2.1.low;have ab:=H0.o.2.2.2.1;have bF:=H0.o.2.2.2.2.2.1;have n1:9≠S:=zj;have n2:S≠9:=zj;clear bC ab bF;go_wp2_with fail;go_region
     all_goals
      go_wp2;(try simp only [Exit.inBlock,Exit.then]);refine bodyPost_ret (v:=.tuple #[mJ lQ,eV ad 10]) ?_ rfl ⟨?_,.inr (.inr (.inl ⟨lH.o,km.o,HCY.o,rfl⟩))⟩
      ·exact kd1
      exact (mZ (b:=S) H4.o.2.1 yv 0 qZl).drew
    have HNQ:=Lib.hid hq;clear hq;go_wp2_with fail;refine hins.mono ?_;clear hins k6;rintro e w5 ⟨rfl,hb5⟩
    have H5:Aside (m6 w5 S lQ/\qL w w5/\E8 B ad w5/\m6 w5 V (t,b,m,kd,nd',o,s,v)):=⟨H4.o.1.later hb5,zi H4.o.2.1 hb5,H4.o.2.2.1.later hb5,H4.o.2.2.2.2.1.later hb5⟩
    clear hb5
    cases z with
    | true=>
     have HCY:Aside (into=nd\/Ins f into nd):=.inr (HZ.o.1 rfl);obtain ⟨z0,z1,z2,z3,z4,z5,z6,z7,zf⟩:=m6.ct H5.o.1;have eg:=H5.o.2.2.1.c9 hcy.o;have bC:=H5.o.2.2.1.low;have ab:=H0.o.2.2.2.1;have bF:=H0.o.2.2.2.2.2.1;have n1:9≠S:=zj;have n2:S≠9:=zj;clear bC ab bF;go_wp2_with fail;go_region
     all_goals
      go_wp2;(try simp only [Exit.inBlock,Exit.then]);refine bodyPost_ret (v:=.tuple #[mJ lQ,eV ad 10]) ?_ rfl ⟨?_,.inr (.inr (.inl ⟨lH.o,km.o,HCY.o,rfl⟩))⟩
      ·exact kd1
      exact (mZ (b:=S) H5.o.2.1 yv 0 qZl).drew
    | false=>
     have HNC:=Lib.hid (show ¬(into=nd\/Ins f into nd) from fun q=>q.elim HNQ.o (fun q=>by have:=HZ.o.2 q;cases this));obtain ⟨z0,z1,z2,z3,z4,z5,z6,z7,zf⟩:=m6.ct H5.o.1;obtain ⟨y0,y1,y2,y3,y4,y5,y6,y7,yf⟩:=m6.ct H5.o.2.2.2;go_wp2;(try simp only [Exit.inBlock,Exit.then]);refine bodyPost_ret (v:=.tuple #[.agg (qOa t b m kd nd' o s v),.nilIface]) ?_ rfl ⟨?_,.inr (.inr (.inr ⟨lH.o,km.o,HNC.o,by rw [<-HXE.o];rfl⟩))⟩
     ·exact kc1
     exact mZ (b:=S) H5.o.2.1 yv 0 (qOl t b m kd nd' o s v)
   rw [if_neg k9] at he;subst he;have km:=Lib.hid (show od (nQ T i (R i).length 109 nd into name ⟨#[]⟩)≠0 by rw [<-HXE.o];exact k9);obtain ⟨er,aB⟩:=za (od x - 1)
   have aR:eV ad (od x)= .iface 437 (.pointer (some (ad er))):=by rw [aB];unfold eV;rw [if_neg k9]
   have HEV:Aside (eV ad (od x)= .iface 437 (.pointer (some (ad er)))):=aR;rw [aR];clear aB aR k9;obtain ⟨z0,z1,z2,z3,z4,z5,z6,z7,zf⟩:=m6.ct H3.o.1;have hlt:=H3.o.1.lt;have nS':w3.heap.size≠S:=zj;unfold mJ lQ;dsimp only;go_wp2;(try simp only [Exit.inBlock,Exit.then]);refine bodyPost_ret (v:=.tuple #[mJ lQ,.iface 437 (.pointer (some (ad er)))]) ?_ rfl ⟨?_,.inr (.inl ⟨lH.o,km.o,by rw [<-HXE.o,HEV.o]⟩)⟩
   ·exact ke7
   have cN:=mZ (b:=S) H3.o.2.1 yv 0 qZl;exact cN.alloc cN.size _
end
section
open RowKit Lib Go.Sort Maps
theorem St{B}{ad}(w)(c)(br)(T)(i:Nat)(ao)(cap)(bt bx bc)(R)(nd)(name value)(hc:n7 w br T (i:Int) (kvs ao cap R) bt bx bc)(aP:E4 w c (kvs ao cap R) R)(hR:u9 R)(hE:E8 B ad w)(hi:i<4)(hT:0<=T)(hm:T<=1073741824)(hn:(lX R).length<=250)(aI:name.size<=1000000)(aJ:value.size<=1000000)(h2: -9223372036854775808<=nd)(h3:nd<=9223372036854775807):
  qC 212 #[qP br,qI nd,.string name,.string value] w (Be ad w (m9 (lX R) nd) (nQ T i (R i).length 115 nd 0 name value)):=by
 have dA:∀i,i<4->(R i).length<=1000:=fun i hi=>yD
 obtain ⟨S,hS⟩:=za w.heap.size;obtain ⟨U,hU⟩:=za (w.alloc qZc);have ah:qL w U:=zX;have Z0:m6 U S lQ:=yE;have aO:=hc.same (ah.block _ hc.lt)
 obtain ⟨zb,cY⟩:∃zb:Bool,zb=true↔(m9 (lX R) nd):=⟨@decide _ (Classical.propDecidable _),@decide_eq_true_iff _ (Classical.propDecidable _)⟩
 have aK:=pm U ao cap R nd zb cY ((hE.later ah).P7) ((C8.r aP).later ah) hR.toN dA h2 h3;unfold kV at aK;have k2:U.cell? (qA br 2)=some (.slice (ao 0) (R 0).length (cap 0)):=aO.c2;have k3:U.cell? (qA br 3)=some (.slice (ao 1) (R 1).length (cap 1)):=aO.c3;have k4:U.cell? (qA br 4)=some (.slice (ao 2) (R 2).length (cap 2)):=aO.c4;have k5:U.cell? (qA br 5)=some (.slice (ao 3) (R 3).length (cap 3)):=aO.c5
 have H0:Aside (n7 U br T (i:Int) (kvs ao cap R) bt bx bc/\m6 U S lQ/\qL w U/\S=w.heap.size/\E8 B ad U/\B<=w.heap.size/\(zb=true↔(m9 (lX R) nd))):=⟨aO,Z0,ah,hS,hE.later ah,hE.size,cY⟩
 have HU:Aside (U=w.alloc qZc):=hU;clear hU aO Z0 ah hE hc hS cY aP hR;go_enter func212,ntmps212;go_upto_region 1 with fail;rw [<-HU.o,<-H0.o.2.2.2.1];go_wp2_with fail;refine aK.mono ?_;clear aK k2 k3 k4 k5;rintro e w1 ⟨rfl,hb1⟩;have Z1:=H0.o.2.1.later hb1
 have H1:Aside (m6 w1 S lQ/\qL w w1/\E8 B ad w1/\n7 w1 br T (i:Int) (kvs ao cap R) bt bx bc):=⟨Z1,zi H0.o.2.2.1 hb1,H0.o.2.2.2.2.1.later hb1,H0.o.1.same (hb1.block _ H0.o.1.lt)⟩
 clear hb1 Z1
 cases zb with
 | false=>
  have hno:¬(m9 (lX R) nd):=fun q=>uC
  obtain ⟨z0,z1,z2,z3,z4,z5,z6,z7,zf⟩:=m6.ct H1.o.1;have eg:=H1.o.2.2.1.c5;have bC:=H1.o.2.2.1.low;have ab:=H0.o.2.2.2.1;have bF:=H0.o.2.2.2.2.2.1;have n2:S≠5:=zj;have kt:=Lib.hid hno;clear bC ab bF hno;go_wp2_with fail;go_region
  all_goals
   go_wp2;(try simp only [Exit.inBlock,Exit.then]);refine bodyPost_ret (v:=.tuple #[mJ lQ,eV ad 6]) ?_ rfl (.inr ⟨kt.o,rfl,?_⟩)
   ·exact kd1
   exact kg1
 | true=>
  have lH:Aside (m9 (lX R) nd):=H0.o.2.2.2.2.2.2.1 rfl;have hown:=Az w1 br T i ao cap bt bx bc R 115 nd 0 name value H1.o.2.2.2 H1.o.2.2.1 hi hT hm hn aI aJ;unfold mJ at hown;go_wp2_with fail;refine hown.mono ?_;clear hown;rintro e w2 ⟨he,hb2⟩;obtain ⟨y,hy⟩:=za ((if od (nQ T i (R i).length 115 nd 0 name value)=0 then nQ T i (R i).length 115 nd 0 name value else lQ));obtain ⟨er,aB⟩:=za (eV ad (od (nQ T i (R i).length 115 nd 0 name value)));rw [<-hy,<-aB] at he;subst he
  have HY:Aside (y=(if od (nQ T i (R i).length 115 nd 0 name value)=0 then nQ T i (R i).length 115 nd 0 name value else lQ)/\er=eV ad (od (nQ T i (R i).length 115 nd 0 name value))):=⟨hy,aB⟩
  clear hy aB;obtain ⟨t,b,n,kd,nd',o,s,v⟩:=y;unfold mJ;dsimp only;have Z2:=H1.o.1.later hb2;obtain ⟨z0,z1,z2,z3,z4,z5,z6,z7,zf⟩:=m6.ct Z2;have B2:Aside (qL w w2):=zi H1.o.2.1 hb2;clear hb2 Z2;go_wp2;(try simp only [Exit.inBlock,Exit.then]);refine bodyPost_ret (v:=.tuple #[.agg (qOa t b n kd nd' o s v),er]) ?_ rfl (.inl ⟨lH.o,⟨by rw [<-HY.o.1,<-HY.o.2];rfl,?_⟩⟩)
  ·exact kc1
  exact mZ (b:=S) B2.o yv 0 (qOl t b n kd nd' o s v)
theorem Qq{B}{ad}(w)(c)(br)(T)(i:Nat)(ao)(cap)(bt bx bc)(R)(A)(nd n)(hc:n7 w br T (i:Int) (kvs ao cap R) bt bx bc)(de:O8 w c bx A)(hperm:A.Perm (lX R))(hE:E8 B ad w)(hi:i<4)(hT:0<=T)(hm:T<=1073741824)(hn:(lX R).length<=250)(h2: -9223372036854775808<=nd)(h3:nd<=9223372036854775807)(hn1: -9223372036854775808<=n)(hn2:n<=9223372036854775807):
  qC 211 #[qP br,qI nd,qI n] w fun e w'=>∃a:Int×Bool,((¬m9 A nd->a=(0,false))/\(m9 A nd->∃L,u7 A nd L/\a=atL n L))/\Be ad w (a.2=true) (nQ T i (R i).length 100 nd a.1 ⟨#[]⟩ ⟨#[]⟩) e w':=by
 have hAl:A.length<=250:=xY;obtain ⟨S,hS⟩:=za w.heap.size;obtain ⟨U,hU⟩:=za (w.alloc qZc);have ah:qL w U:=zX;have Z0:m6 U S lQ:=yE;have aO:=hc.same (ah.block _ hc.lt);have htU:=de.kept ⟨fun k hk _=>ah.block k hk,fun _ _=>rfl⟩ (fun _ _=>⟨fun k hk _=>ah.block k hk,fun _ _=>rfl⟩);have fu:=Dl U c br T (i:Int) (kvs ao cap R) bt bx bc A nd n aO htU zj zj zj ⟨hn1,hn2⟩
 have H0:Aside (n7 U br T (i:Int) (kvs ao cap R) bt bx bc/\m6 U S lQ/\qL w U/\S=w.heap.size/\E8 B ad U/\B<=w.heap.size):=⟨aO,Z0,ah,hS,hE.later ah,hE.size⟩
 have HU:Aside (U=w.alloc qZc):=hU;clear hU aO Z0 ah hE hc hS de htU;go_enter func211,ntmps211;go_upto_region 1 with fail;rw [<-HU.o,<-H0.o.2.2.2.1];go_wp2_with fail;refine fu.mono ?_;clear fu;rintro e w1 ⟨⟨into,zb⟩,rfl,ha1,ha2,hb1⟩;dsimp only
 have HA:Aside ((¬m9 A nd->(into,zb)=((0:Int),false))/\(m9 A nd->∃L,u7 A nd L/\(into,zb)=atL n L)):=⟨ha1,ha2⟩
 have Z1:=H0.o.2.1.later hb1
 have H1:Aside (m6 w1 S lQ/\qL w w1/\E8 B ad w1/\n7 w1 br T (i:Int) (kvs ao cap R) bt bx bc):=⟨Z1,zi H0.o.2.2.1 hb1,H0.o.2.2.2.2.1.later hb1,H0.o.1.same (hb1.block _ H0.o.1.lt)⟩
 clear hb1 Z1 ha1 ha2
 cases zb with
 | false=>
  have hno:¬(((into,false):Int×Bool).2=true):=zr;obtain ⟨z0,z1,z2,z3,z4,z5,z6,z7,zf⟩:=m6.ct H1.o.1;have eg:=H1.o.2.2.1.c5;have bC:=H1.o.2.2.1.low;have ab:=H0.o.2.2.2.1;have bF:=H0.o.2.2.2.2.2;have n2:S≠5:=zj;have kt:=Lib.hid hno;clear bC ab bF hno;go_wp2_with fail;go_region
  all_goals
   go_wp2;(try simp only [Exit.inBlock,Exit.then]);refine bodyPost_ret (v:=.tuple #[mJ lQ,eV ad 6]) ?_ rfl ⟨(into,false),HA.o,.inr ⟨kt.o,rfl,?_⟩⟩
   ·exact kd1
   exact kg1
 | true=>
  have hown:=Az w1 br T i ao cap bt bx bc R 100 nd into ⟨#[]⟩ ⟨#[]⟩ H1.o.2.2.2 H1.o.2.2.1 hi hT hm hn zo zo;unfold mJ at hown;go_wp2_with fail;refine hown.mono ?_;clear hown;rintro e w2 ⟨he,hb2⟩;obtain ⟨y,hy⟩:=za ((if od (nQ T i (R i).length 100 nd into ⟨#[]⟩ ⟨#[]⟩)=0 then nQ T i (R i).length 100 nd into ⟨#[]⟩ ⟨#[]⟩ else lQ));obtain ⟨er,aB⟩:=za (eV ad (od (nQ T i (R i).length 100 nd into ⟨#[]⟩ ⟨#[]⟩)));rw [<-hy,<-aB] at he;subst he
  have HY:Aside (y=(if od (nQ T i (R i).length 100 nd into ⟨#[]⟩ ⟨#[]⟩)=0 then nQ T i (R i).length 100 nd into ⟨#[]⟩ ⟨#[]⟩ else lQ)/\er=eV ad (od (nQ T i (R i).length 100 nd into ⟨#[]⟩ ⟨#[]⟩))):=⟨hy,aB⟩
  clear hy aB;obtain ⟨t,b,m,kd,nd',o,s,v⟩:=y;unfold mJ;dsimp only;have Z2:=H1.o.1.later hb2;obtain ⟨z0,z1,z2,z3,z4,z5,z6,z7,zf⟩:=m6.ct Z2;have B2:Aside (qL w w2):=zi H1.o.2.1 hb2;clear hb2 Z2;go_wp2;(try simp only [Exit.inBlock,Exit.then]);refine bodyPost_ret (v:=.tuple #[.agg (qOa t b m kd nd' o s v),er]) ?_ rfl ⟨(into,true),HA.o,.inl ⟨rfl,⟨by dsimp only;rw [<-HY.o.1,<-HY.o.2];rfl,?_⟩⟩⟩
  ·exact kc1
  exact kh5

end