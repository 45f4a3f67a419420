import Derived.Test.YtehighgebbdenaaGreatDoorRa30
set_option linter.unusedVariables false
set_option maxRecDepth 100000
set_option maxHeartbeats 64000000
namespace Go.Proofs.YtehighgebbdenaaGreatDoor
open Go.Proofs.Tryz
section
open Go.RowKit Go.Lib Go.Sort Go.Maps
open scoped Classical
theorem pF (w:World) (c:Nat->Nat) (br:Nat) (by_:Int) (R:Rws) (h:RepAt w c br by_ R) (htab:Lib.TabIs prog w "internal/strconv.uint64pow10" .u64 Lib.pow10Tab) (hn:(aR R).length<=300):
  Calls prog 16 #[.pointer (some ⟨br,0,none⟩)] w fun e w'=>∃s,e= .returned (.string ⟨s.toArray⟩)/\StateIs (aR R) s/\Below w.heap.size w w':=by
 obtain ⟨T,kv,bt,bx,bc,A,hM,hperm,hK,hby⟩:=h;have hAl:A.length<=300:=xR;obtain ⟨S,hS⟩:=zc w.heap.size;obtain ⟨U,hU⟩:=zc (w.alloc (.cells #[.slice none 0 0] 141));have hbU:Below w.heap.size w U:=zW
 have hT0:TellSt S [] (.slice none 0 0) U:=⟨by rw [hU,hS];exact heap_alloc_new w _,un _ _ _ _⟩
 have HT:Aside (Lib.TabBelow prog w.heap.size w "internal/strconv.uint64pow10" .u64 Lib.pow10Tab):=Lib.tabBelow_of_tabIs htab
 have HM:Aside (RepMid w c br T by_ kv bt bx bc R A/\A.Perm (aR R)/\RowsK R):=⟨hM,hperm,hK⟩
 have eg:∀args w,(callFunc 72 args).run prog w= .ok (.enter 72 args) w:=enters_of func72 zq rfl;obtain ⟨bm,tv,ms,hTA,hms,-⟩:=(hM.later hbU).tree;obtain ⟨nm,hnm,hMap⟩:=hTA.map
 have hml:ms.length<=300:=by
  have h1:=hms.length_eq;have h2:(ai A).length<=A.length:=List.length_filterMap_le _ _;omega
 have hpl:=AF U bt bm nm tv (aN ms) hTA.good hTA.cell hMap zo;have c6:=(hM.later hbU).cell.c6
 have HMS:Aside (ms.Perm (ai A)/\ax ms/\gr (aN ms)):=⟨hms,hTA.by_,hTA.good⟩
 have HU:Aside (U=w.alloc (.cells #[.slice none 0 0] 141)/\Below w.heap.size w U/\TellSt S [] (.slice none 0 0) U/\S=w.heap.size):=⟨hU,hbU,hT0,hS⟩
 clear hTA hMap hms hM hperm hK hby htab hT0 hU hbU;go_enter func16,ntmps16;go_upto_region 3 with fail;rw [<-HU.o.1];go_wp2_with fail;refine hpl.mono ?_;clear hpl c6;rintro e W1 ⟨vq,qs,rfl,hIP,hql,hPA,hb1,hnew⟩;obtain ⟨ao,qc,rfl,hin,hao⟩:=Kw hPA;rw [<-hS]
 have HQ:Aside (IsPlaces (aN ms) qs/\InRow aM W1 ao qs/\(∀g o,ao=some ⟨g,o,none⟩->g<W1.heap.size/\g≠S/\(Value.slice none 0 0).ownBlock≠some g)/\StSt w S W1 (.slice none 0 0) [] (.slice none 0 0) W1):=by
  refine ⟨hIP,hin,fun g o e=>⟨(hao g o e).2,?_,fun q=>by cases q⟩,StSt.start (HU.o.2.2.1.later hb1) ?_⟩
  ·have h1:=hnew g (hao g o e).1;have h2:=HU.o.2.2.1.lt;omega
  rw [HU.o.2.2.2];exact zj HU.o.2.1 hb1
 have hqs:qs.length<=90000:=zo;clear hIP hPA hb1 hnew hin hao hql hnm hS;go_wp2;go_loopg [19] qs.length (fun kx s19 wr=>∃(k:Nat) (v:Value),s19= .int .i64 (k:Int)/\k<=qs.length/\qs.length - k<=kx/\Aside (StSt w S W1 (.slice none 0 0) ((qs.take k).map bZ) v wr))
 case atStart=>exact ⟨0,_,rfl,vV _,vM _,HQ.o.2.2.2⟩
 case round=>
  obtain ⟨k,v,rfl,hk,hkx,A1⟩:=hrel;by_cases hlt:k<qs.length
  ·have d1:decide ((k:Int)<(qs.length:Int))=true:=by simp;omega
   have wk:((k:Int)).toNat=k:=zo;have pk:(0:Int)<=(k:Int):=zo;have bk:(k:Int)<(qs.length:Int):=zo
   obtain ⟨⟨a,b,s⟩,hx⟩:∃x,Aside (qs[k]? =some x):=⟨qs[k],vN hlt⟩
   obtain ⟨blk,off,hao,hc⟩:=(A1.o.inRow HQ.o.2.1 HQ.o.2.2.1).get dB hx.o;subst hao;have r0:=hc 0 _ rfl;have r1:=hc 1 _ rfl;have r2:=hc 2 _ rfl;simp only [Zg] at r0;clear hc;have hfine:=HMS.o.2.2.fine _ _ ((HQ.o.1.mem _).1 (vQ hx.o));obtain ⟨P,hP⟩:=zc wr.heap.size;obtain ⟨V,hV⟩:=zc (wr.alloc (.cells #[.int .i64 a,.int .i64 b,.string s] 106))
   have hbV:Below wr.heap.size wr V:=by rw [hV];exact zh wr _
   have hPV:PlcAt V P (a,b,s):=by rw [hV,hP];exact heap_alloc_new wr _
   have HV:Aside (StSt w S W1 (.slice none 0 0) ((qs.take k).map bZ) v V/\PlcAt V P (a,b,s)/\(∀g,v.ownBlock=some g->g<P)/\S<P):=⟨A1.o.later hbV,hPV,fun g hg=>by rw [hP];exact (A1.o.st.row.lt g hg).2,by rw [hP];exact A1.o.st.lt⟩
   have HF:Aside (FineP (a,b,s)):=hfine;have hPd:PlcAt V.drew P (a,b,s):=hPV;clear hbV hPV hfine;go_upto_region 6 with fail;rw [<-hV];clear hV r0 r1 r2;rw [<-hP];clear hP;refine aO (S:=(fun w'=>PlcAt w' P (a,b,s))) zq hPd (fun hHeld=> ?_);refine tk 0 hHeld ?_;refine tk 1 hHeld ?_;refine tk 2 hHeld ?_ (hy:=Or.inl ⟨zA,by intro w' hSw;have j0:=PlcAt.c0 hSw;dsimp only at j0;clear hSw;go_simp;try with_reducible rfl⟩);refine tk 3 hHeld ?_;refine tk 4 hHeld ?_ (hy:=Or.inl ⟨zA,by intro w' hSw;have j1:=PlcAt.c1 hSw;dsimp only at j1;clear hSw;go_simp;try with_reducible rfl⟩);refine tk 6 hHeld ?_;refine tk 7 hHeld ?_ (hy:=Or.inl ⟨zA,by intro w' hSw;have j2:=PlcAt.c2 hSw;dsimp only at j2;clear hSw;go_simp;try with_reducible rfl⟩);refine aY (i:=5) zq rfl (fun K hK=> ?_);go_simp;refine (wl b (by have:=HF.o.lo';dsimp only at this;omega) (by have:=HF.o.hi';dsimp only at this;omega) V.drew (HT.o _ (by have:=HV.o.1.below.drew;rw [HU.o.2.2.2] at this;exact this))).mono ?_;rintro e w3 ⟨rfl,hb3⟩;have A3:StSt w S W1 (.slice none 0 0) ((qs.take k).map bZ) v w3:=HV.o.1.later ((vP _ V).drew.trans hb3);have P3:PlcAt w3 P (a,b,s):=HV.o.2.1.same (((vP _ V).drew.trans hb3).block P HV.o.2.1.lt);refine hK _ _ P3 ?_;clear hK K hb3;refine qn ?_;obtain ⟨X,hX⟩:=zc (w3.alloc (.cells #[.string ⟨#[105,110]⟩,.string ⟨(Lib.itoa b).toArray⟩,.string s] 9))
   have hbX:Below w3.heap.size w3 X:=by rw [hX];exact zh w3 _
   have AX:StSt w S W1 (.slice none 0 0) ((qs.take k).map bZ) v X:=A3.later hbX;have PX:PlcAt X P (a,b,s):=P3.same (hbX.block P P3.lt)
   have hXb:X.heap[w3.heap.size]? =some (.cells #[.string ⟨#[105,110]⟩,.string ⟨(Lib.itoa b).toArray⟩,.string s] 9 (0,0)):=by rw [hX];exact heap_alloc_new w3 _
   have htl:=oI X S a w3.heap.size 3 [⟨#[105,110]⟩,⟨(Lib.itoa b).toArray⟩,s] ((qs.take k).map bZ) v AX.st (fun j x hj=>by
     rw [vY]
     match j,hj with
     | 0,hj=>cases hj;simp [World.cell?,hXb]
     | 1,hj=>cases hj;simp [World.cell?,hXb]
     | 2,hj=>cases hj;simp [World.cell?,hXb]
     | n+3,hj=>simp at hj) (vO.1 hXb).1 zv zv (HT.o _ qe) (by have:=HF.o.lo;dsimp only at this;omega) (by have:=HF.o.hi;dsimp only at this;omega)
     (sk HF.o) (by rw [uz,ug];omega)
   have hle:gg a ([⟨#[105,110]⟩,⟨(Lib.itoa b).toArray⟩,s].map (fun x:ByteArray=>x.data.toList))=bZ (a,b,s):=rfl;rw [hle] at htl
   have htl:=htl.mono (R':=fun e w4=>∃v',e= .returned (.tuple #[])/\PlcAt w4 P (a,b,s)/\Aside (StSt w S W1 (.slice none 0 0) ((qs.take k).map bZ++ [bZ (a,b,s)]) v' w4)) (fun e w4 ht4=>by
    obtain ⟨v',he,A4⟩:=AX.tell ht4
    obtain ⟨_,-,-,hk4,-⟩:=ht4
    exact ⟨v',he,PX.same (hk4.block P PX.lt (fun q=>by
     rcases q with q | q
     ·have:=HV.o.2.2.2;omega
     ·have:=HV.o.2.2.1 P q;omega)),A4⟩)
   clear hle AX hXb hbX A3;refine aY (i:=8) zq rfl (fun K hK=> ?_);go_simp;rw [<-hX];refine hK _ _ PX ?_;clear hK K hX PX;refine qn ?_;refine aY (i:=9) zq rfl (fun K hK=> ?_);go_simp;refine htl.mono ?_;clear htl;rintro e w4 ⟨v',rfl,P4,HA4⟩;refine hK _ _ P4 ?_;clear hK K P4;refine wpAnyH_done zq ?_ _;refine qn ?_;go_wp2;go_roundg (qs.length - (k+1))
   case measure=>omega
   case rel=>exact ⟨k+1,v',zD,zo,vM _,by rw [iS _ _ hx.o];exact HA4.o⟩
  have d1:decide ((k:Int)<(qs.length:Int))=false:=zr;have ek:qs.take k=qs:=uc zo;rw [ek] at A1;clear ek;obtain ⟨nx,tx,t1,t2,t3,t4,t5⟩:=(HM.o.1.later xL).text;have c7:=(HM.o.1.later xL).cell.c7;have hky:=callsIn_wide.1 (Fq Fence.wide 3 trivial rfl (some bx) wr);obtain ⟨V,hV⟩:=zc (wr.alloc (.cells #[.map (some bx)] 67))
  have hbV:Below wr.heap.size wr V:=by rw [hV];exact zh wr _
  have hbox:Boxed V wr.heap.size 67 (.map (some bx)):=by rw [hV];exact heap_alloc_new wr _
  have hsi:=mz V wr.heap.size bx nx tx (vO.1 hbox).1 hbox.cell (t2.same (hbV.block bx t2.lt)) zo
  have H2:Aside (StSt w S W1 (.slice none 0 0) (qs.map bZ) v V/\(∀nd,(tx nd).isSome=true↔KnownN A nd)/\nx<=A.length):=⟨A1.o.later hbV,t4,t1⟩
  rw [<-hV] at hky;clear t1 t2 t3 t4 t5 hV hbV hbox d1;go_wp2_with fail;refine hky.mono ?_;clear hky;rintro e w5 ⟨rfl,rfl⟩;clear c7;go_wp2_with fail;refine hsi.mono ?_;clear hsi;rintro e W2 ⟨vk,ks,rfl,hrise,hmem,hkl,hrow,hb2⟩;obtain ⟨ak,kc,rfl⟩:=fD hrow;obtain ⟨tf,htf⟩:∃tf:Int->List UInt8,Aside (∀nd L,LineIs A nd L->tf nd=co L):=wQ A
  have HK:Aside (ks.Pairwise (· < ·)/\(∀nd,nd∈ks↔KnownN A nd)/\InRow Hx W2 ak ks/\(∀g o,ak=some ⟨g,o,none⟩->g<W2.heap.size/\g≠S/\v.ownBlock≠some g)/\StSt w S W2 v (qs.map bZ) v W2):=by
   have h3:=H2.o.1.later hb2;refine ⟨hrise,fun nd=>(hmem nd).trans (H2.o.2.1 nd),tM (enc:=Hx) pN (by rw [rh];exact hrow),fun g o e=> ?_,StSt.start h3.st h3.below⟩;subst e;have h4:=hrow.lt g rfl;have h5:=H2.o.1.st.lt;exact ⟨h4.2,zo,fun q=>by have:=(H2.o.1.st.row.lt g q).2;omega⟩
  have hks:ks.length<=300:=by have:=H2.o.2.2;omega
  clear hrise hmem hkl hrow hb2 A1 H2;go_wp2;go_loopg [41] ks.length (fun kx s41 wr=>∃(k:Nat) (u:Value),s41= .int .i64 (k:Int)/\k<=ks.length/\ks.length - k<=kx/\Aside (StSt w S W2 v (qs.map bZ++((((ks.take k).map fun nd=>(nd,tf nd)).filter cL).map cu)) u wr))
  case atStart=>exact ⟨0,v,rfl,vV _,vM _,by show StSt w S W2 v _ v W2;simpa using HK.o.2.2.2.2⟩
  case round=>
   obtain ⟨k2,u,rfl,hk2,hkx2,A2⟩:=hrel;by_cases hlt2:k2<ks.length
   ·have d2:decide ((k2:Int)<(ks.length:Int))=true:=by simp;omega
    have wk:((k2:Int)).toNat=k2:=zo;have pk:(0:Int)<=(k2:Int):=zo;have bk:(k2:Int)<(ks.length:Int):=zo
    obtain ⟨nd,hx⟩:∃x,Aside (ks[k2]? =some x):=⟨ks[k2],vN hlt2⟩
    obtain ⟨blk,off,hak,hc⟩:=(A2.o.inRow HK.o.2.2.1 HK.o.2.2.2.1).get pN hx.o;subst hak;have r0:=hc 0 _ rfl;simp only [Zg,Nat.mul_one] at r0;clear hc;have hkn:KnownN A nd:=(HK.o.2.1 nd).1 (vQ hx.o)
    have hnd:0<=nd/\nd<2^40:=by
     obtain ⟨x,hx,_,e2,_⟩:=hkn;have q:=aq (HM.o.2.2.well.ok x (HM.o.2.1.mem_iff.1 hx));have e3:x.2.2.2.2.1=nd:=e2;exact ki5
    have hmid:=HM.o.1.later xI;have htx:=AN wr c br T by_ kv bt bx bc A nd hmid.cell hmid.text zo zo zo
    have htx:=htx.mono (R':=fun e w6=>∃s,e= .returned (.string s)/\Aside (tf nd=s.data.toList/\s.size<=1000/\StSt w S W2 v (qs.map bZ++((((ks.take k2).map fun nd=>(nd,tf nd)).filter cL).map cu)) u w6)) (fun e w6 q=>by
     obtain ⟨s,he,hti,hb6⟩:=q
     refine ⟨s,he,?_,?_,A2.o.later hb6⟩
     ·rcases hti with ⟨q,_⟩ | ⟨_,L,hL,hs⟩
      ·exact absurd hkn q
      ·rw [htf.o nd L hL,hs]
     ·rcases hti with ⟨q,_⟩ | ⟨_,L,hL,hs⟩
      ·exact absurd hkn q
      ·have h1:=lT L
       have h2:=hL.len
       have h3:s.data.toList.length=s.size:=zv
       rw [hs] at h3
       omega)
    have hnd0:=hnd.1;have hnd1:=hnd.2;obtain ⟨y,hy⟩:=zc wr;subst hy;clear hmid hkn hnd;go_wp2_with fail;refine htx.mono ?_;clear htx;rintro e w6 ⟨s,rfl,H6⟩;clear r0;have hst:=H6.o.1;have hsl:=H6.o.2.1;have A6:=H6.o.2.2;by_cases hs0:s.size=0
    ·have he:=fG hs0
     have HA6:Aside (StSt w S W2 v (qs.map bZ++((((ks.take (k2+1)).map fun nd=>(nd,tf nd)).filter cL).map cu)) u w6):=by
      show StSt w S W2 v _ u w6
      rw [iS _ _ hx.o,Za]
      have:cL (nd,tf nd)=false:=by
       have h3:s.data.toList.length=s.size:=zv;unfold cL;rw [hst];simp only [ne_eq,decide_not,Bool.not_eq_false',decide_eq_true_eq];exact uh.1 zo
      simp only [ZO,this,List.filter_nil];simpa using A6
     clear A6 A2;go_wp2;go_roundg (ks.length - (k2+1))
     case measure=>omega
     case rel=>exact ⟨k2+1,u,zD,zo,vM _,HA6.o⟩
    have he:=gm hs0;obtain ⟨X,hX⟩:=zc (w6.alloc (.cells #[.string ⟨#[116,101,120,116]⟩,.string s] 9))
    have hbX:Below w6.heap.size w6 X:=by rw [hX];exact zh w6 _
    have AX:=A6.later hbX
    have hXb:X.heap[w6.heap.size]? =some (.cells #[.string ⟨#[116,101,120,116]⟩,.string s] 9 (0,0)):=by rw [hX];exact heap_alloc_new w6 _
    have htl:=oI X S nd w6.heap.size 2 [⟨#[116,101,120,116]⟩,s] (qs.map bZ++((((ks.take k2).map fun nd=>(nd,tf nd)).filter cL).map cu)) u AX.st (fun j x hj=>by
      rw [vY]
      match j,hj with
      | 0,hj=>cases hj;simp [World.cell?,hXb]
      | 1,hj=>cases hj;simp [World.cell?,hXb]
      | n+2,hj=>simp at hj) (vO.1 hXb).1 zv zv (HT.o _ qe) zo zo
      (by simp only [uG,ZR,Lib.join_length,Lib.lens,uu,uM,List.sum_cons,List.sum_nil];have:s.data.toList.length=s.size:=zv;omega) (by
       have h1:((((ks.take k2).map fun nd=>(nd,tf nd)).filter cL).map cu).length<=ks.length:=by
        rw [uz]
        refine uf (Zd _ _) ?_
        rw [uz,ug]
        omega
       rw [ub,uz]
       omega)
    have hle:gg nd ([⟨#[116,101,120,116]⟩,s].map (fun x:ByteArray=>x.data.toList))=cu (nd,tf nd):=by rw [hst];rfl
    rw [hle] at htl
    have hfull:cL (nd,tf nd)=true:=by
     have h3:s.data.toList.length=s.size:=zv;unfold cL;rw [hst];simp only [ne_eq,decide_not,Bool.not_eq_true',decide_eq_false_iff_not];intro q;rw [q] at h3;simp at h3;omega
    have htl:=htl.mono (R':=fun e w7=>∃u',e= .returned (.tuple #[])/\Aside (StSt w S W2 v (qs.map bZ++((((ks.take (k2+1)).map fun nd=>(nd,tf nd)).filter cL).map cu)) u' w7)) (fun e w7 ht7=>by
     obtain ⟨u',he,A7⟩:=AX.tell ht7
     refine ⟨u',he,?_⟩
     show StSt w S W2 v _ u' w7
     rw [iS _ _ hx.o,Za]
     simp only [ZO,hfull,List.filter_nil,uI,uG,ZR,if_true]
     rw [<-ux]
     exact A7)
    clear hle AX hXb hbX A6 A2 hfull;go_wp2_with fail;rw [<-hX];refine htl.mono ?_;clear htl hX;rintro e w7 ⟨u',rfl,HA7⟩;go_wp2;go_roundg (ks.length - (k2+1))
    case measure=>omega
    case rel=>exact ⟨k2+1,u',zD,zo,vM _,HA7.o⟩
   have d2:decide ((k2:Int)<(ks.length:Int))=false:=zr;have ek:ks.take k2=ks:=uc zo;rw [ek] at A2;clear ek;obtain ⟨ts,hts⟩:=zc (ks.map fun nd=>(nd,tf nd));rw [<-hts] at A2
   have hIT:IsTexts A ts:=by
    refine ⟨?_,fun nd=> ?_,fun t ht=> ?_⟩
    ·rw [hts,ZA];exact HK.o.1
    ·rw [hts,ZT];have:ks.map ((fun x:Int×List UInt8=>x.1)∘fun nd=>(nd,tf nd))=ks:=(ZE (fun _ _=>rfl)).trans (List.map_id ks);rw [this];exact HK.o.2.1 nd
    rw [hts] at ht;obtain ⟨nd,hnd,rfl⟩:=ut.1 ht;obtain ⟨_,tx',_,_,_,q4,q5⟩:=HM.o.1.text;obtain ⟨p,hp⟩:=Ya.1 ((q4 nd).2 ((HK.o.2.1 nd).1 hnd));obtain ⟨_,L,_,hL,_⟩:=q5 nd p hp;exact ⟨L,hL,htf.o nd L hL⟩
   have htsl:ts.length<=300:=by rw [hts,uz];exact hks
   have htl:∀t∈ts,t.2.length<=1000:=fun t ht=>by
    obtain ⟨L,hL,e⟩:=hIT.line t ht;have h1:=lT L;have h2:=hL.len;rw [e];omega
   have htn:∀t∈ts,0<=t.1/\t.1<2^40:=fun t ht=>by
    obtain ⟨x,hx,_,e2,_⟩:=(hIT.mem t.1).1 (ut.2 ⟨t,ht,rfl⟩);have q:=aq (HM.o.2.2.well.ok x (HM.o.2.1.mem_iff.1 hx));have e3:x.2.2.2.2.1=t.1:=e2;exact ki5
   have HTS:Aside (IsTexts A ts/\(∀t∈ts,t.2.length<=1000)/\(∀t∈ts,0<=t.1/\t.1<2^40)):=⟨hIT,htl,htn⟩
   obtain ⟨LS,hLS⟩:=zc (qs.map bZ++(ts.filter cL).map cu);rw [<-hLS] at A2
   have hLSl:LS.length<=90300:=by
    rw [hLS,ub,uz,uz];have:=Zd cL ts;omega
   have hmid:=HM.o.1.later xI;obtain ⟨cm,A',m1,m2,m3,m4⟩:=hmid.marks;have hmk:=Dc wr bc cm A.length (dh A') m1 zo;have c8:=hmid.cell.c8
   have HLS:Aside (LS=qs.map bZ++(ts.filter cL).map cu/\A'.Perm A):=⟨hLS,m2⟩
   obtain ⟨y,hy⟩:=zc wr;subst hy;clear hts hIT htl htn hLS hmid m1 m2 m3 m4 HK htf;go_wp2_with fail;refine hmk.mono ?_;clear hmk c8;rintro e W3 ⟨am,mc,mm,rfl,hIM,hmml,hmin,hb3,hnew3⟩
   have HMM:Aside (IsMarks (dh A') mm/\InRow bK W3 am mm/\(∀g o,am=some ⟨g,o,none⟩->mm≠ []->g<W3.heap.size/\g≠S/\u.ownBlock≠some g)/\StSt w S W3 u LS u W3):=by
    have h3:=A2.o.later hb3;refine ⟨hIM,hmin,fun g o e hne=>⟨Fj dW zo hmin hne e,?_,fun q=> ?_⟩,StSt.start h3.st h3.below⟩
    ·have:=hnew3 g o e;have:=A2.o.st.lt;omega
    have h4:=hnew3 g o e;have:=(A2.o.st.row.lt g q).2;omega
   have hmm3:mm.length<=300:=zo;clear hIM hmml hmin hb3 hnew3 A2;go_wp2;go_loopg [62] mm.length (fun kx s62 wr=>∃(k:Nat) (z:Value),s62= .int .i64 (k:Int)/\k<=mm.length/\mm.length - k<=kx/\Aside (StSt w S W3 u (LS++(mm.take k).map gv) z wr))
   case atStart=>exact ⟨0,u,rfl,vV _,vM _,by show StSt w S W3 u _ u W3;simpa using HMM.o.2.2.2⟩
   case round=>
    obtain ⟨k3,z,rfl,hk3,hkx3,A3⟩:=hrel;by_cases hlt3:k3<mm.length
    ·have d3:decide ((k3:Int)<(mm.length:Int))=true:=by simp;omega
     have wk:((k3:Int)).toNat=k3:=zo;have pk:(0:Int)<=(k3:Int):=zo;have bk:(k3:Int)<(mm.length:Int):=zo
     obtain ⟨⟨nd,nm',vl⟩,hx⟩:∃x,Aside (mm[k3]? =some x):=⟨mm[k3],vN hlt3⟩
     have hmne:mm≠ []:=fun q=>by rw [q] at hlt3;simp at hlt3
     obtain ⟨blk,off,ham,hc⟩:=(A3.o.inRow HMM.o.2.1 (fun g o e=>HMM.o.2.2.1 g o e hmne)).get dW hx.o;subst ham;have r0:=hc 0 _ rfl;have r1:=hc 1 _ rfl;have r2:=hc 2 _ rfl;simp only [Zg] at r0;clear hc hmne;have hmo:=sv HMM.o.1 (vQ hx.o);dsimp only at hmo;obtain ⟨Y,hY⟩:=zc (wr.alloc (.cells #[.int .i64 nd,.string nm',.string vl] 152))
     have hbY:Below wr.heap.size wr Y:=by rw [hY];exact zh wr _
     have hYb:Y.heap[wr.heap.size]? =some (.cells #[.int .i64 nd,.string nm',.string vl] 152 (0,0)):=by rw [hY];exact heap_alloc_new wr _
     have y0:Y.cell? ⟨wr.heap.size,0,none⟩=some (.int .i64 nd):=jE;have y1:Y.cell? ⟨wr.heap.size,1,none⟩=some (.string nm'):=jE;have y2:Y.cell? ⟨wr.heap.size,2,none⟩=some (.string vl):=jE;obtain ⟨X,hX⟩:=zc (Y.alloc (.cells #[.string ⟨#[109,97,114,107]⟩,.string nm',.string vl] 9))
     have hbX:Below Y.heap.size Y X:=by rw [hX];exact zh Y _
     have AX:=(A3.o.later hbY).later hbX
     have hXb:X.heap[Y.heap.size]? =some (.cells #[.string ⟨#[109,97,114,107]⟩,.string nm',.string vl] 9 (0,0)):=by rw [hX];exact heap_alloc_new Y _
     have htl:=oI X S nd Y.heap.size 3 [⟨#[109,97,114,107]⟩,nm',vl] (LS++(mm.take k3).map gv) z AX.st (fun j x hj=>by
       rw [vY]
       match j,hj with
       | 0,hj=>cases hj;simp [World.cell?,hXb]
       | 1,hj=>cases hj;simp [World.cell?,hXb]
       | 2,hj=>cases hj;simp [World.cell?,hXb]
       | n+3,hj=>simp at hj) (vO.1 hXb).1 zv zv (HT.o _ qe) zo zo
       (by simp only [uG,ZR,Lib.join_length,Lib.lens,uu,uM,List.sum_cons,List.sum_nil];have q1:nm'.data.toList.length=nm'.size:=zv;have q2:vl.data.toList.length=vl.size:=zv;omega) (by rw [ub,uz,ug];omega)
     have hle:gg nd ([⟨#[109,97,114,107]⟩,nm',vl].map (fun x:ByteArray=>x.data.toList))=gv (nd,nm',vl):=rfl;rw [hle] at htl
     have htl:=htl.mono (R':=fun e w7=>∃z',e= .returned (.tuple #[])/\Aside (StSt w S W3 u (LS++(mm.take (k3+1)).map gv) z' w7)) (fun e w7 ht7=>by
      obtain ⟨z',he,A7⟩:=AX.tell ht7
      refine ⟨z',he,?_⟩
      show StSt w S W3 u _ z' w7
      rw [iS _ _ hx.o,<-ux]
      exact A7)
     have HY:Aside (Y.heap.size=wr.heap.size+1):=by show Y.heap.size=_;rw [hY];simp
     obtain ⟨y,hy⟩:=zc wr;subst hy;clear hle AX hXb hbX hbY hYb A3 hmo d2;go_upto_region 18 with fail;rw [<-hY];clear hY r0 r1 r2;go_wp2_with fail;rw [<-hX];refine htl.mono ?_;clear htl hX;rintro e w7 ⟨z',rfl,HA7⟩;clear y0 y1 y2;go_wp2;go_roundg (mm.length - (k3+1))
     case measure=>omega
     case rel=>exact ⟨k3+1,z',zD,zo,vM _,HA7.o⟩
    have d3:decide ((k3:Int)<(mm.length:Int))=false:=zr;have ek:mm.take k3=mm:=uc zo;rw [ek] at A3;clear ek
    have hjl:=Ew wr S (LS++mm.map gv) z A3.o.st (by rw [ub,uz];omega) (fun l hl=>by
     have hIP:=HQ.o.1
     rcases vW.1 hl with hl | hl
     ·rw [HLS.o.1] at hl
      rcases vW.1 hl with hl | hl
      ·obtain ⟨p,hp,rfl⟩:=ut.1 hl
       exact Cf (HMS.o.2.2.fine _ _ ((HQ.o.1.mem p).1 hp))
      ·obtain ⟨t,ht,rfl⟩:=ut.1 hl
       have ht':=(Zy.1 ht).1
       exact Fv (HTS.o.2.1 t ht') (HTS.o.2.2 t ht').1 (HTS.o.2.2 t ht').2
     ·obtain ⟨m,hm,rfl⟩:=ut.1 hl
      exact Ho (sv HMM.o.1 hm))
    have z0:=A3.o.st.box.cell
    have HFIN:Aside (StateIs (aR R) (Lib.join (LS++mm.map gv) [10])):=by
     refine StateIs.perm (A:=A) ⟨ms,qs,ts,A',mm,HMS.o.1,HMS.o.2.1,HQ.o.1,HTS.o.1,HLS.o.2,HMM.o.1,?_⟩ HM.o.2.1;unfold pe;rw [HLS.o.1]
    have HB:Aside (Below w.heap.size w wr):=by have:=A3.o.below;rw [HU.o.2.2.2] at this;exact this
    obtain ⟨y,hy⟩:=zc wr;subst hy;clear A3 d2;go_wp2_with fail;refine hjl.mono ?_;clear hjl;rintro e w9 ⟨rfl,hb9⟩;have HB9:Aside (Below w.heap.size w w9):=zj HB.o hb9;clear hb9;go_wp2;go_ret;exact ⟨_,rfl,HFIN.o,HB9.o⟩
end
section
open Go.RowKit Go.Lib Go.Sort Go.Maps
def WriteAt (A:List OpX) (nd n:Int) (a:Int×Bool):Prop:=(n=0/\a.1=0/\(a.2=true↔KnownN A nd))\/(n≠0/\(¬KnownN A nd->a=(0,false))/\(KnownN A nd->∃L,LineIs A nd L/\a=atL (n - 1) L))
theorem df {A S:List OpX} (h:A.Perm S) (nd:Int):KnownN A nd↔KnownN S nd:=⟨fun q=>q.mono (fun x hx=>h.mem_iff.1 hx),fun q=>q.mono (fun x hx=>h.mem_iff.2 hx)⟩
theorem Gk {mw n:Int} {L:List Ltr} (h:mw=n - 1\/(mw=9223372036854775807/\n= -9223372036854775808)) (hl:L.length<=1000):atL mw L=atL (n - 1) L:=by
 rcases h with h | ⟨h1,h2⟩
 ·rw [h]
 subst h1 h2;unfold atL;rw [if_pos zo,if_neg zo];have:(aK L).length<=L.length:=Zd _ _;rw [ZN zo]
theorem wO (w:World) (ch:UInt8):(w.alloc (.cells #[.int .u8 (ch.toNat:Int)] 5)).ownsRow 0 5 1 (.slice (some ⟨w.heap.size,0,none⟩) 1 1) 1 (gF [ch]):=
 ⟨rfl,.inr ⟨w.heap.size,1,#[.int .u8 (ch.toNat:Int)],rfl,vV _,heap_alloc_new w _,vM _,zH,rfl,rfl⟩⟩
theorem Ds {B:Nat} {ad:Nat->Addr} (w:World) (c:Nat->Nat) (br:Nat) (T:Int) (i:Nat) (ao:Nat->Option Addr) (cap:Nat->Nat) (bt bx bc:Nat) (R:Rws) (A:List OpX) (nd n:Int) (ch:UInt8) (hc:RepCell w br T (i:Int) (kvs ao cap R) bt bx bc) (hrows:RowsAt w c (kvs ao cap R) R) (htext:TextC w c bx A) (hperm:A.Perm (aR R)) (hR:RowsK R) (hE:EnvE B ad w) (hi:i<4) (hT:0<=T) (hm:T<=1073741824) (hn:(aR R).length<=140) (h2: -9223372036854775808<=nd) (h3:nd<=9223372036854775807) (hn1: -9223372036854775808<=n) (hn2:n<=9223372036854775807):
  Calls prog 66 #[.pointer (some ⟨br,0,none⟩),.int .i64 nd,.int .i64 n,.int .u8 (ch.toNat:Int)] w fun e w'=>∃a,WriteAt A nd n a/\lP ad w (a.2=true) (bN T i (R i).length 105 nd a.1 ⟨#[]⟩ ⟨#[ch]⟩) e w':=by
 have hrl:∀i,i<4->(R i).length<=1000:=fun i hi=>yJ
 have hAl:A.length<=140:=xR;obtain ⟨S,hS⟩:=zc w.heap.size;obtain ⟨U,hU⟩:=zc (w.alloc (.cells #[.int .i64 0,.int .i64 0,.int .i64 0,.int .u8 0,.int .i64 0,.int .i64 0,.string ⟨#[]⟩,.string ⟨#[]⟩] 38));have hbU:Below w.heap.size w U:=zW;have Z0:OpBlk U S aV:=yM;have hcU:RepCell U br T (i:Int) (kvs ao cap R) bt bx bc:=hc.same (hbU.block _ hc.lt)
 obtain ⟨zb,hzb⟩:∃zb:Bool,zb=true↔KnownN (aR R) nd:=⟨@decide _ (Classical.propDecidable _),@decide_eq_true_iff _ (Classical.propDecidable _)⟩
 have hnode:=eB U ao cap R nd zb hzb ((hE.later hbU).op4) ((KnownAt.of_rows hrows).later hbU) hR.toN hrl h2 h3;unfold kV at hnode;have k2:U.cell? ⟨br,2,none⟩=some (.slice (ao 0) (R 0).length (cap 0)):=hcU.c2;have k3:U.cell? ⟨br,3,none⟩=some (.slice (ao 1) (R 1).length (cap 1)):=hcU.c3;have k4:U.cell? ⟨br,4,none⟩=some (.slice (ao 2) (R 2).length (cap 2)):=hcU.c4;have k5:U.cell? ⟨br,5,none⟩=some (.slice (ao 3) (R 3).length (cap 3)):=hcU.c5;have htU:TextC U c bx A:=htext.kept ⟨fun k hk _=>hbU.block k hk,fun _ _=>rfl⟩ (fun _ _=>⟨fun k hk _=>hbU.block k hk,fun _ _=>rfl⟩)
 have H0:Aside (RepCell U br T (i:Int) (kvs ao cap R) bt bx bc/\OpBlk U S aV/\Below w.heap.size w U/\S=w.heap.size/\EnvE B ad U/\B<=w.heap.size/\(zb=true↔KnownN A nd)/\TextC U c bx A):=⟨hcU,Z0,hbU,hS,hE.later hbU,hE.size,hzb.trans (df hperm nd).symm,htU⟩
 have HU:Aside (U=w.alloc (.cells #[.int .i64 0,.int .i64 0,.int .i64 0,.int .u8 0,.int .i64 0,.int .i64 0,.string ⟨#[]⟩,.string ⟨#[]⟩] 38)):=hU;clear hU hcU Z0 hbU hE hc hS hzb hrows hR htext htU;go_enter func66,ntmps66;go_upto_region 1 with fail;rw [<-HU.o,<-H0.o.2.2.2.1];go_wp2_with fail;refine hnode.mono ?_;clear hnode k2 k3 k4 k5;rintro e w1 ⟨rfl,hb1⟩;have Z1:=H0.o.2.1.later hb1
 have H1:Aside (OpBlk w1 S aV/\Below w.heap.size w w1/\EnvE B ad w1/\RepCell w1 br T (i:Int) (kvs ao cap R) bt bx bc/\TextC w1 c bx A):=⟨Z1,zj H0.o.2.2.1 hb1,H0.o.2.2.2.2.1.later hb1,H0.o.1.same (hb1.block _ H0.o.1.lt),H0.o.2.2.2.2.2.2.2.kept ⟨fun k hk _=>hb1.block k hk,fun _ _=>rfl⟩ (fun _ _=>⟨fun k hk _=>hb1.block k hk,fun _ _=>rfl⟩)⟩
 clear hb1 Z1;obtain ⟨mw,hmw⟩:=zc (IntKind.i64.wrap (n - 1))
 have hmb: -9223372036854775808<=mw/\mw<=9223372036854775807/\(mw=n - 1\/(mw=9223372036854775807/\n= -9223372036854775808)):=by rw [hmw,IntKind.wrap_i64];omega
 have wrapn:IntKind.i64.wrap (n - 1)=mw:=hmw.symm;have HMB:Aside (mw=n - 1\/(mw=9223372036854775807/\n= -9223372036854775808)):=hmb.2.2;clear hmw;by_cases hn0:n=0
 ·subst hn0;clear hmb HMB wrapn
  have HX:Aside (OpBlk w1 S aV/\Below w.heap.size w w1/\EnvE B ad w1/\RepCell w1 br T (i:Int) (kvs ao cap R) bt bx bc):=⟨H1.o.1,H1.o.2.1,H1.o.2.2.1,H1.o.2.2.2.1⟩
  have HA:Aside (WriteAt A nd 0 (0,zb)):=.inl ⟨rfl,rfl,H0.o.2.2.2.2.2.2.1⟩
  cases zb with
  | false=>
   obtain ⟨z0,z1,z2,z3,z4,z5,z6,z7,zf⟩:=HX.o.1.cells;unfold aV at z0 z1 z2 z3 z4 z5 z6 z7;dsimp only at z0 z1 z2 z3 z4 z5 z6 z7;have eg:=HX.o.2.2.1.c5;have hlo:=HX.o.2.2.1.low;have hSw:=H0.o.2.2.2.1;have hBw:=H0.o.2.2.2.2.2.1;have n1:0≠S:=zo;have n2:S≠0:=zo;clear hlo hSw hBw;go_wp2_with fail;go_region
   all_goals
    go_wp2;(try simp only [Exit.inBlock,Exit.then]);refine bodyPost_ret (v:=.tuple #[aD aV,eV ad 6]) ?_ rfl ⟨_,HA.o,.inr ⟨zv,rfl,?_⟩⟩
    ·exact ke1
    exact ki9
  | true=>
   have hbB:Below w1.heap.size w1 (w1.alloc (.cells #[.int .u8 (ch.toNat:Int)] 5)):=zh w1 _;have hconv:=oP (wO w1 ch) rfl;have hown:=ig (w1.alloc (.cells #[.int .u8 (ch.toNat:Int)] 5)) br T i ao cap bt bx bc R 105 nd 0 ⟨#[]⟩ ⟨#[ch]⟩ (HX.o.2.2.2.same (hbB.block _ HX.o.2.2.2.lt)) (HX.o.2.2.1.later hbB) hi hT hm hn zu (by show (1:Nat)<=1000000;omega)
   have HB:Aside (Below w.heap.size w (w1.alloc (.cells #[.int .u8 (ch.toNat:Int)] 5))/\OpBlk (w1.alloc (.cells #[.int .u8 (ch.toNat:Int)] 5)) S aV):=⟨zj HX.o.2.1 hbB,HX.o.1.later hbB⟩
   unfold aD at hown;dsimp only at hown;clear hbB;go_wp2_with fail;refine hown.mono ?_;clear hown hconv;rintro e w3 ⟨he,hb3⟩;obtain ⟨y,hy⟩:=zc ((if dJ (bN T i (R i).length 105 nd 0 ⟨#[]⟩ ⟨#[ch]⟩)=0 then bN T i (R i).length 105 nd 0 ⟨#[]⟩ ⟨#[ch]⟩ else aV));obtain ⟨er,her⟩:=zc (eV ad (dJ (bN T i (R i).length 105 nd 0 ⟨#[]⟩ ⟨#[ch]⟩)));rw [<-hy,<-her] at he;subst he
   have HY:Aside (y=(if dJ (bN T i (R i).length 105 nd 0 ⟨#[]⟩ ⟨#[ch]⟩)=0 then bN T i (R i).length 105 nd 0 ⟨#[]⟩ ⟨#[ch]⟩ else aV)/\er=eV ad (dJ (bN T i (R i).length 105 nd 0 ⟨#[]⟩ ⟨#[ch]⟩))):=⟨hy,her⟩
   clear hy her;obtain ⟨t,b,m,kd,nd',o,s,v⟩:=y;unfold aD;dsimp only;have Z2:=HB.o.2.later hb3;obtain ⟨z0,z1,z2,z3,z4,z5,z6,z7,zf⟩:=Z2.cells;unfold aV at z0 z1 z2 z3 z4 z5 z6 z7;dsimp only at z0 z1 z2 z3 z4 z5 z6 z7;have B2:Aside (Below w.heap.size w w3):=zj HB.o.1 hb3;clear hb3 Z2;go_wp2;(try simp only [Exit.inBlock,Exit.then]);refine bodyPost_ret (v:=.tuple #[.agg #[.int .i64 t,.int .i64 b,.int .i64 m,.int .u8 (kd:Int),.int .i64 nd',.int .i64 o,.string s,.string v],er]) ?_ rfl ⟨_,HA.o,.inl ⟨rfl,⟨by rw [<-HY.o.1,<-HY.o.2];rfl,?_⟩⟩⟩
   ·exact ke7
   exact kf6
 have dn0:(n !=0)=true:=by simp [hn0]
 have hlet:=nB w1 c br T (i:Int) (kvs ao cap R) bt bx bc A nd mw H1.o.2.2.2.1 H1.o.2.2.2.2 zo zo zo ⟨hmb.1,hmb.2.1⟩;have HN0:=Lib.hid hn0;clear hn0 hmb;go_wp2_with fail;refine hlet.mono ?_;clear hlet;rintro e w2 ⟨⟨bh,zz⟩,rfl,ha1,ha2,hb2⟩
 have HX:Aside (OpBlk w2 S aV/\Below w.heap.size w w2/\EnvE B ad w2/\RepCell w2 br T (i:Int) (kvs ao cap R) bt bx bc):=⟨H1.o.1.later hb2,zj H1.o.2.1 hb2,H1.o.2.2.1.later hb2,H1.o.2.2.2.1.same (hb2.block _ H1.o.2.2.2.1.lt)⟩
 have HA:Aside (WriteAt A nd n (bh,zz)):=.inr ⟨HN0.o,ha1,fun q=>by obtain ⟨L,hL,e⟩:=ha2 q;exact ⟨L,hL,e.trans (Gk HMB.o (by have:=hL.len;omega))⟩⟩;clear hb2 ha1 ha2;dsimp only
 cases zz with
 | false=>
  obtain ⟨z0,z1,z2,z3,z4,z5,z6,z7,zf⟩:=HX.o.1.cells;unfold aV at z0 z1 z2 z3 z4 z5 z6 z7;dsimp only at z0 z1 z2 z3 z4 z5 z6 z7;have eg:=HX.o.2.2.1.c5;have hlo:=HX.o.2.2.1.low;have hSw:=H0.o.2.2.2.1;have hBw:=H0.o.2.2.2.2.2.1;have n1:0≠S:=zo;have n2:S≠0:=zo;clear hlo hSw hBw;go_wp2_with fail;go_region
  all_goals
   go_wp2;(try simp only [Exit.inBlock,Exit.then]);refine bodyPost_ret (v:=.tuple #[aD aV,eV ad 6]) ?_ rfl ⟨_,HA.o,.inr ⟨zv,rfl,?_⟩⟩
   ·exact ke1
   exact ki9
 | true=>
  have hbB:Below w2.heap.size w2 (w2.alloc (.cells #[.int .u8 (ch.toNat:Int)] 5)):=zh w2 _;have hconv:=oP (wO w2 ch) rfl;have hown:=ig (w2.alloc (.cells #[.int .u8 (ch.toNat:Int)] 5)) br T i ao cap bt bx bc R 105 nd bh ⟨#[]⟩ ⟨#[ch]⟩ (HX.o.2.2.2.same (hbB.block _ HX.o.2.2.2.lt)) (HX.o.2.2.1.later hbB) hi hT hm hn zu (by show (1:Nat)<=1000000;omega)
  have HB:Aside (Below w.heap.size w (w2.alloc (.cells #[.int .u8 (ch.toNat:Int)] 5))/\OpBlk (w2.alloc (.cells #[.int .u8 (ch.toNat:Int)] 5)) S aV):=⟨zj HX.o.2.1 hbB,HX.o.1.later hbB⟩
  unfold aD at hown;dsimp only at hown;clear hbB;go_wp2_with fail;refine hown.mono ?_;clear hown hconv;rintro e w3 ⟨he,hb3⟩;obtain ⟨y,hy⟩:=zc ((if dJ (bN T i (R i).length 105 nd bh ⟨#[]⟩ ⟨#[ch]⟩)=0 then bN T i (R i).length 105 nd bh ⟨#[]⟩ ⟨#[ch]⟩ else aV));obtain ⟨er,her⟩:=zc (eV ad (dJ (bN T i (R i).length 105 nd bh ⟨#[]⟩ ⟨#[ch]⟩)));rw [<-hy,<-her] at he;subst he
  have HY:Aside (y=(if dJ (bN T i (R i).length 105 nd bh ⟨#[]⟩ ⟨#[ch]⟩)=0 then bN T i (R i).length 105 nd bh ⟨#[]⟩ ⟨#[ch]⟩ else aV)/\er=eV ad (dJ (bN T i (R i).length 105 nd bh ⟨#[]⟩ ⟨#[ch]⟩))):=⟨hy,her⟩
  clear hy her;obtain ⟨t,b,m,kd,nd',o,s,v⟩:=y;unfold aD;dsimp only;have Z2:=HB.o.2.later hb3;obtain ⟨z0,z1,z2,z3,z4,z5,z6,z7,zf⟩:=Z2.cells;unfold aV at z0 z1 z2 z3 z4 z5 z6 z7;dsimp only at z0 z1 z2 z3 z4 z5 z6 z7;have B2:Aside (Below w.heap.size w w3):=zj HB.o.1 hb3;clear hb3 Z2;go_wp2;(try simp only [Exit.inBlock,Exit.then]);refine bodyPost_ret (v:=.tuple #[.agg #[.int .i64 t,.int .i64 b,.int .i64 m,.int .u8 (kd:Int),.int .i64 nd',.int .i64 o,.string s,.string v],er]) ?_ rfl ⟨_,HA.o,.inl ⟨rfl,⟨by rw [<-HY.o.1,<-HY.o.2];rfl,?_⟩⟩⟩
  ·exact ke7
  exact kf6
