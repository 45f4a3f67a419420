import Derived.Test.YtebpcnkdhgnghaaGreatDoorPM26
import Derived.Test.YtebpcnkdhgnghaaGreatDoorPM28
import Derived.Test.YtebpcnkdhgnghaaGreatDoorPM29
import Derived.Test.YtebpcnkdhgnghaaGreatDoorPM32
set_option linter.unusedSimpArgs false
set_option linter.unusedVariables false
set_option maxRecDepth 100000
set_option maxHeartbeats 64000000
section
namespace Go.Proofs.YtebpcnkdhgnghaaGreatDoor
open Go.Proofs.Tryz
open Go.RowKit Go.Lib Go.Sort Go.Maps
open scoped Classical
theorem EZ (w:World) (c:Nat->Nat) (br:Nat) (by_:Int) (R:Rws) (h:RepAt w c br by_ R) (htab:Lib.TabIs prog w "internal/strconv.uint64pow10" .u64 Lib.pow10Tab) (hn:(aQ R).length<=300):
  Calls prog 19 #[.pointer (some ⟨br,0,none⟩)] w fun e w'=>∃s,e= .returned (.string ⟨s.toArray⟩)/\StateIs (aQ R) s/\Below w.heap.size w w':=by
 obtain ⟨T,kv,bt,bx,bc,A,hM,hperm,hK,hby⟩:=h
 have hAl:A.length<=300:=by have:=hperm.length_eq;omega
 obtain ⟨S,hS⟩:=zc w.heap.size
 obtain ⟨U,hU⟩:=zc (w.alloc (.cells #[.slice none 0 0] 102))
 have hbU:Below w.heap.size w U:=yA
 have hT0:TellSt S [] (.slice none 0 0) U:=⟨by rw [hU,hS];exact heap_alloc_new w _,uf _ _ _ _⟩
 have HT:Aside (Lib.TabBelow prog w.heap.size w "internal/strconv.uint64pow10" .u64 Lib.pow10Tab):=Lib.tabBelow_of_tabIs htab
 have HM:Aside (RepMid w c br T by_ kv bt bx bc R A/\A.Perm (aQ R)/\RowsK R):=⟨hM,hperm,hK⟩
 have eg:∀args w,(callFunc 48 args).run prog w= .ok (.enter 48 args) w:=enters_of func48 zo rfl
 obtain ⟨bm,tv,ms,hTA,hms,-⟩:=(hM.later hbU).tree
 obtain ⟨nm,hnm,hMap⟩:=hTA.map
 have hml:ms.length<=300:=by
  have h1:=hms.length_eq
  have h2:(bO A).length<=A.length:=ZL _ _
  omega
 have hpl:=nT U bt bm nm tv (aO ms) hTA.good hTA.cell hMap zj
 have c6:=(hM.later hbU).cell.c6
 have HMS:Aside (ms.Perm (bO A)/\bQ ms/\gj (aO ms)):=⟨hms,hTA.by_,hTA.good⟩
 have HU:Aside (U=w.alloc (.cells #[.slice none 0 0] 102)/\Below w.heap.size w U/\TellSt S [] (.slice none 0 0) U/\S=w.heap.size):=⟨hU,hbU,hT0,hS⟩
 clear hTA hMap hms hM hperm hK hby htab hT0 hU hbU
 go_enter func19,ntmps19
 go_upto_region 3 with fail
 rw [<-HU.o.1]
 go_wp2_with fail
 refine hpl.mono ?_
 clear hpl c6
 rintro e W1 ⟨vq,qs,rfl,hIP,hql,hPA,hb1,hnew⟩
 obtain ⟨ao,qc,rfl,hin,hao⟩:=Mz hPA
 rw [<-hS]
 have HQ:Aside (IsPlaces (aO ms) qs/\InRow aP W1 ao qs/\(∀g o,ao=some ⟨g,o,none⟩->g<W1.heap.size/\g≠S/\(Value.slice none 0 0).ownBlock≠some g)/\StSt w S W1 (.slice none 0 0) [] (.slice none 0 0) W1):=by
  refine ⟨hIP,hin,fun g o e=>⟨(hao g o e).2,?_,fun q=>jd⟩,StSt.start (HU.o.2.2.1.later hb1) ?_⟩
  ·have h1:=hnew g (hao g o e).1
   have h2:=HU.o.2.2.1.lt
   omega
  rw [HU.o.2.2.2]
  exact zi HU.o.2.1 hb1
 have hqs:qs.length<=180000:=zj
 clear hIP hPA hb1 hnew hin hao hql hnm hS
 go_wp2
 go_loopg [19] qs.length (fun kx s19 wr=>∃(k:Nat) (v:Value),s19= .int .i64 (k:Int)/\k<=qs.length/\qs.length - k<=kx/\Aside (StSt w S W1 (.slice none 0 0) ((qs.take k).map bY) v wr))
 case atStart=>exact ⟨0,_,rfl,vM _,vB _,HQ.o.2.2.2⟩
 case round=>
  obtain ⟨k,v,rfl,hk,hkx,A1⟩:=hrel
  by_cases hlt:k<qs.length
  ·have d1:decide ((k:Int)<(qs.length:Int))=true:=by simp;omega
   have wk:((k:Int)).toNat=k:=zj
   have pk:(0:Int)<=(k:Int):=zj
   have bk:(k:Int)<(qs.length:Int):=zj
   obtain ⟨⟨a,b,s⟩,hx⟩:∃x,Aside (qs[k]? =some x):=⟨qs[k],vF hlt⟩
   obtain ⟨blk,off,hao,hc⟩:=(A1.o.inRow HQ.o.2.1 HQ.o.2.2.1).get cH hx.o
   subst hao
   have r0:=hc 0 _ rfl
   have r1:=hc 1 _ rfl
   have r2:=hc 2 _ rfl
   simp only [uZ] at r0
   clear hc
   have hfine:=HMS.o.2.2.fine _ _ ((HQ.o.1.mem _).1 (vH hx.o))
   obtain ⟨P,hP⟩:=zc wr.heap.size
   obtain ⟨V,hV⟩:=zc (wr.alloc (.cells #[.int .i64 a,.int .i64 b,.string s] 119))
   have hbV:Below wr.heap.size wr V:=by rw [hV];exact zh wr _
   have hPV:PlcAt V P (a,b,s):=by rw [hV,hP];exact heap_alloc_new wr _
   have HV:Aside (StSt w S W1 (.slice none 0 0) ((qs.take k).map bY) v V/\PlcAt V P (a,b,s)/\(∀g,v.ownBlock=some g->g<P)/\S<P):=⟨A1.o.later hbV,hPV,fun g hg=>by rw [hP];exact (A1.o.st.row.lt g hg).2,by rw [hP];exact A1.o.st.lt⟩
   have HF:Aside (FineP (a,b,s)):=hfine
   have hPd:PlcAt V.drew P (a,b,s):=hPV
   clear hbV hPV hfine
   go_upto_region 6 with fail
   rw [<-hV]
   clear hV r0 r1 r2
   rw [<-hP]
   clear hP
   refine aL (S:=(fun w'=>PlcAt w' P (a,b,s))) zo hPd (fun hHeld=> ?_)
   refine tk 0 hHeld ?_
   refine tk 1 hHeld ?_
   refine tk 2 hHeld ?_ (hy:=Or.inl ⟨zv,by intro w' hSw;have j0:=PlcAt.c0 hSw;dsimp only at j0;clear hSw;go_simp;try with_reducible rfl⟩)
   refine tk 3 hHeld ?_
   refine tk 4 hHeld ?_ (hy:=Or.inl ⟨zv,by intro w' hSw;have j1:=PlcAt.c1 hSw;dsimp only at j1;clear hSw;go_simp;try with_reducible rfl⟩)
   refine tk 6 hHeld ?_
   refine tk 7 hHeld ?_ (hy:=Or.inl ⟨zv,by intro w' hSw;have j2:=PlcAt.c2 hSw;dsimp only at j2;clear hSw;go_simp;try with_reducible rfl⟩)
   refine aW (i:=5) zo rfl (fun K hK=> ?_)
   go_simp
   refine (oy b (by have:=HF.o.lo';dsimp only at this;omega) (by have:=HF.o.hi';dsimp only at this;omega) V.drew (HT.o _ (by have:=HV.o.1.below.drew;rw [HU.o.2.2.2] at this;exact this))).mono ?_
   rintro e w3 ⟨rfl,hb3⟩
   have A3:StSt w S W1 (.slice none 0 0) ((qs.take k).map bY) v w3:=HV.o.1.later ((vG _ V).drew.trans hb3)
   have P3:PlcAt w3 P (a,b,s):=HV.o.2.1.same (((vG _ V).drew.trans hb3).block P HV.o.2.1.lt)
   refine hK _ _ P3 ?_
   clear hK K hb3
   refine qn ?_
   obtain ⟨X,hX⟩:=zc (w3.alloc (.cells #[.string ⟨#[105,110]⟩,.string ⟨(Lib.itoa b).toArray⟩,.string s] 9))
   have hbX:Below w3.heap.size w3 X:=by rw [hX];exact zh w3 _
   have AX:StSt w S W1 (.slice none 0 0) ((qs.take k).map bY) v X:=A3.later hbX
   have PX:PlcAt X P (a,b,s):=P3.same (hbX.block P P3.lt)
   have hXb:X.heap[w3.heap.size]? =some (.cells #[.string ⟨#[105,110]⟩,.string ⟨(Lib.itoa b).toArray⟩,.string s] 9 (0,0)):=by rw [hX];exact heap_alloc_new w3 _
   have htl:=ng X S a w3.heap.size 3 [⟨#[105,110]⟩,⟨(Lib.itoa b).toArray⟩,s] ((qs.take k).map bY) v AX.st (fun j x hj=>by
     rw [vQ]
     match j,hj with
     | 0,hj=>cases hj;simp [World.cell?,hXb]
     | 1,hj=>cases hj;simp [World.cell?,hXb]
     | 2,hj=>cases hj;simp [World.cell?,hXb]
     | n+3,hj=>simp at hj) (vD.1 hXb).1 zt zt (HT.o _ yZ) (by have:=HF.o.lo;dsimp only at this;omega) (by have:=HF.o.hi;dsimp only at this;omega)
     (wY HF.o) (by rw [ul,vW];omega)
   have hle:iS a ([⟨#[105,110]⟩,⟨(Lib.itoa b).toArray⟩,s].map (fun x:ByteArray=>x.data.toList))=bY (a,b,s):=rfl
   rw [hle] at htl
   have htl:=htl.mono (R':=fun e w4=>∃v',e= .returned (.tuple #[])/\PlcAt w4 P (a,b,s)/\Aside (StSt w S W1 (.slice none 0 0) ((qs.take k).map bY++ [bY (a,b,s)]) v' w4)) (fun e w4 ht4=>by
    obtain ⟨v',he,A4⟩:=AX.tell ht4
    obtain ⟨_,-,-,hk4,-⟩:=ht4
    exact ⟨v',he,PX.same (hk4.block P PX.lt (fun q=>by
     rcases q with q | q
     ·have:=HV.o.2.2.2;omega
     ·have:=HV.o.2.2.1 P q;omega)),A4⟩)
   clear hle AX hXb hbX A3
   refine aW (i:=8) zo rfl (fun K hK=> ?_)
   go_simp
   rw [<-hX]
   refine hK _ _ PX ?_
   clear hK K hX PX
   refine qn ?_
   refine aW (i:=9) zo rfl (fun K hK=> ?_)
   go_simp
   refine htl.mono ?_
   clear htl
   rintro e w4 ⟨v',rfl,P4,HA4⟩
   refine hK _ _ P4 ?_
   clear hK K P4
   refine wpAnyH_done zo ?_ _
   refine qn ?_
   go_wp2
   go_roundg (qs.length - (k+1))
   case measure=>omega
   case rel=>exact ⟨k+1,v',zw,zj,vB _,by rw [gi _ _ hx.o];exact HA4.o⟩
  have d1:decide ((k:Int)<(qs.length:Int))=false:=zq
  have ek:qs.take k=qs:=vT zj
  rw [ek] at A1
  clear ek
  obtain ⟨nx,tx,t1,t2,t3,t4,t5⟩:=(HM.o.1.later xJ).text
  have c7:=(HM.o.1.later xJ).cell.c7
  have hky:=callsIn_wide.1 (Hn Fence.wide 3 trivial rfl (some bx) wr)
  obtain ⟨V,hV⟩:=zc (wr.alloc (.cells #[.map (some bx)] 114))
  have hbV:Below wr.heap.size wr V:=by rw [hV];exact zh wr _
  have hbox:Boxed V wr.heap.size 114 (.map (some bx)):=by rw [hV];exact heap_alloc_new wr _
  have hsi:=mn V wr.heap.size bx nx tx (vD.1 hbox).1 hbox.cell (t2.same (hbV.block bx t2.lt)) zj
  have H2:Aside (StSt w S W1 (.slice none 0 0) (qs.map bY) v V/\(∀nd,(tx nd).isSome=true↔KnownN A nd)/\nx<=A.length):=⟨A1.o.later hbV,t4,t1⟩
  rw [<-hV] at hky
  clear t1 t2 t3 t4 t5 hV hbV hbox d1
  go_wp2_with fail
  refine hky.mono ?_
  clear hky
  rintro e w5 ⟨rfl,rfl⟩
  clear c7
  go_wp2_with fail
  refine hsi.mono ?_
  clear hsi
  rintro e W2 ⟨vk,ks,rfl,hrise,hmem,hkl,hrow,hb2⟩
  obtain ⟨ak,kc,rfl⟩:=fh hrow
  obtain ⟨tf,htf⟩:∃tf:Int->List UInt8,Aside (∀nd L,LineIs A nd L->tf nd=cu L):=AI A
  have HK:Aside (ks.Pairwise (· < ·)/\(∀nd,nd∈ks↔KnownN A nd)/\InRow Hk W2 ak ks/\(∀g o,ak=some ⟨g,o,none⟩->g<W2.heap.size/\g≠S/\v.ownBlock≠some g)/\StSt w S W2 v (qs.map bY) v W2):=by
   have h3:=H2.o.1.later hb2
   refine ⟨hrise,fun nd=>(hmem nd).trans (H2.o.2.1 nd),sG (enc:=Hk) pD (by rw [pE];exact hrow),fun g o e=> ?_,StSt.start h3.st h3.below⟩
   subst e
   have h4:=hrow.lt g rfl
   have h5:=H2.o.1.st.lt
   exact ⟨h4.2,zj,fun q=>by have:=(H2.o.1.st.row.lt g q).2;omega⟩
  have hks:ks.length<=300:=by have:=H2.o.2.2;omega
  clear hrise hmem hkl hrow hb2 A1 H2
  go_wp2
  go_loopg [41] ks.length (fun kx s41 wr=>∃(k:Nat) (u:Value),s41= .int .i64 (k:Int)/\k<=ks.length/\ks.length - k<=kx/\Aside (StSt w S W2 v (qs.map bY++((((ks.take k).map fun nd=>(nd,tf nd)).filter cB).map cq)) u wr))
  case atStart=>exact ⟨0,v,rfl,vM _,vB _,by show StSt w S W2 v _ v W2;simpa using HK.o.2.2.2.2⟩
  case round=>
   obtain ⟨k2,u,rfl,hk2,hkx2,A2⟩:=hrel
   by_cases hlt2:k2<ks.length
   ·have d2:decide ((k2:Int)<(ks.length:Int))=true:=by simp;omega
    have wk:((k2:Int)).toNat=k2:=zj
    have pk:(0:Int)<=(k2:Int):=zj
    have bk:(k2:Int)<(ks.length:Int):=zj
    obtain ⟨nd,hx⟩:∃x,Aside (ks[k2]? =some x):=⟨ks[k2],vF hlt2⟩
    obtain ⟨blk,off,hak,hc⟩:=(A2.o.inRow HK.o.2.2.1 HK.o.2.2.2.1).get pD hx.o
    subst hak
    have r0:=hc 0 _ rfl
    simp only [uZ,Nat.mul_one] at r0
    clear hc
    have hkn:KnownN A nd:=(HK.o.2.1 nd).1 (vH hx.o)
    have hnd:0<=nd/\nd<2^40:=by
     obtain ⟨x,hx,_,e2,_⟩:=hkn
     have q:=ar (HM.o.2.2.well.ok x (HM.o.2.1.mem_iff.1 hx))
     have e3:x.2.2.2.2.1=nd:=e2
     exact kh1
    have hmid:=HM.o.1.later xI
    have htx:=Ha wr c br T by_ kv bt bx bc A nd hmid.cell hmid.text zj zj zj
    have htx:=htx.mono (R':=fun e w6=>∃s,e= .returned (.string s)/\Aside (tf nd=s.data.toList/\s.size<=1000/\StSt w S W2 v (qs.map bY++((((ks.take k2).map fun nd=>(nd,tf nd)).filter cB).map cq)) u w6)) (fun e w6 q=>by
     obtain ⟨s,he,hti,hb6⟩:=q
     refine ⟨s,he,?_,?_,A2.o.later hb6⟩
     ·rcases hti with ⟨q,_⟩ | ⟨_,L,hL,hs⟩
      ·exact absurd hkn q
      ·rw [htf.o nd L hL,hs]
     ·rcases hti with ⟨q,_⟩ | ⟨_,L,hL,hs⟩
      ·exact absurd hkn q
      ·have h1:=lN L
       have h2:=hL.len
       have h3:s.data.toList.length=s.size:=zt
       rw [hs] at h3
       omega)
    have hnd0:=hnd.1
    have hnd1:=hnd.2
    obtain ⟨y,hy⟩:=zc wr
    subst hy
    clear hmid hkn hnd
    go_wp2_with fail
    refine htx.mono ?_
    clear htx
    rintro e w6 ⟨s,rfl,H6⟩
    clear r0
    have hst:=H6.o.1
    have hsl:=H6.o.2.1
    have A6:=H6.o.2.2
    by_cases hs0:s.size=0
    ·have he:=iL hs0
     have HA6:Aside (StSt w S W2 v (qs.map bY++((((ks.take (k2+1)).map fun nd=>(nd,tf nd)).filter cB).map cq)) u w6):=by
      show StSt w S W2 v _ u w6
      rw [gi _ _ hx.o,Zt]
      have:cB (nd,tf nd)=false:=by
       have h3:s.data.toList.length=s.size:=zt
       unfold cB
       rw [hst]
       simp only [ne_eq,decide_not,Bool.not_eq_false',decide_eq_true_eq]
       exact vZ.1 zj
      simp only [List.filter_cons,this,List.filter_nil]
      simpa using A6
     clear A6 A2
     go_wp2
     go_roundg (ks.length - (k2+1))
     case measure=>omega
     case rel=>exact ⟨k2+1,u,zw,zj,vB _,HA6.o⟩
    have he:=mV hs0
    obtain ⟨X,hX⟩:=zc (w6.alloc (.cells #[.string ⟨#[116,101,120,116]⟩,.string s] 9))
    have hbX:Below w6.heap.size w6 X:=by rw [hX];exact zh w6 _
    have AX:=A6.later hbX
    have hXb:X.heap[w6.heap.size]? =some (.cells #[.string ⟨#[116,101,120,116]⟩,.string s] 9 (0,0)):=by rw [hX];exact heap_alloc_new w6 _
    have htl:=ng X S nd w6.heap.size 2 [⟨#[116,101,120,116]⟩,s] (qs.map bY++((((ks.take k2).map fun nd=>(nd,tf nd)).filter cB).map cq)) u AX.st (fun j x hj=>by
      rw [vQ]
      match j,hj with
      | 0,hj=>cases hj;simp [World.cell?,hXb]
      | 1,hj=>cases hj;simp [World.cell?,hXb]
      | n+2,hj=>simp at hj) (vD.1 hXb).1 zt zt (HT.o _ yZ) zj zj
      (by simp only [ut,ZF,Lib.join_length,Lib.lens,ud,uz,ZK,List.sum_nil];have:s.data.toList.length=s.size:=zt;omega) (by
       have h1:((((ks.take k2).map fun nd=>(nd,tf nd)).filter cB).map cq).length<=ks.length:=by
        rw [ul]
        refine vI (Zv _ _) ?_
        rw [ul,vW]
        omega
       rw [vN,ul]
       omega)
    have hle:iS nd ([⟨#[116,101,120,116]⟩,s].map (fun x:ByteArray=>x.data.toList))=cq (nd,tf nd):=by rw [hst];rfl
    rw [hle] at htl
    have hfull:cB (nd,tf nd)=true:=by
     have h3:s.data.toList.length=s.size:=zt
     unfold cB
     rw [hst]
     simp only [ne_eq,decide_not,Bool.not_eq_true',decide_eq_false_iff_not]
     intro q
     rw [q] at h3
     simp at h3
     omega
    have htl:=htl.mono (R':=fun e w7=>∃u',e= .returned (.tuple #[])/\Aside (StSt w S W2 v (qs.map bY++((((ks.take (k2+1)).map fun nd=>(nd,tf nd)).filter cB).map cq)) u' w7)) (fun e w7 ht7=>by
     obtain ⟨u',he,A7⟩:=AX.tell ht7
     refine ⟨u',he,?_⟩
     show StSt w S W2 v _ u' w7
     rw [gi _ _ hx.o,Zt]
     simp only [List.filter_cons,hfull,List.filter_nil,un,ut,ZF,if_true]
     rw [<-uj]
     exact A7)
    clear hle AX hXb hbX A6 A2 hfull
    go_wp2_with fail
    rw [<-hX]
    refine htl.mono ?_
    clear htl hX
    rintro e w7 ⟨u',rfl,HA7⟩
    go_wp2
    go_roundg (ks.length - (k2+1))
    case measure=>omega
    case rel=>exact ⟨k2+1,u',zw,zj,vB _,HA7.o⟩
   have d2:decide ((k2:Int)<(ks.length:Int))=false:=zq
   have ek:ks.take k2=ks:=vT zj
   rw [ek] at A2
   clear ek
   obtain ⟨ts,hts⟩:=zc (ks.map fun nd=>(nd,tf nd))
   rw [<-hts] at A2
   have hIT:IsTexts A ts:=by
    refine ⟨?_,fun nd=> ?_,fun t ht=> ?_⟩
    ·rw [hts,Zp];exact HK.o.1
    ·rw [hts,ZC]
     have:ks.map ((fun x:Int×List UInt8=>x.1)∘fun nd=>(nd,tf nd))=ks:=(Zi (fun _ _=>rfl)).trans (List.map_id ks)
     rw [this]
     exact HK.o.2.1 nd
    rw [hts] at ht
    obtain ⟨nd,hnd,rfl⟩:=uh.1 ht
    obtain ⟨_,tx',_,_,_,q4,q5⟩:=HM.o.1.text
    obtain ⟨p,hp⟩:=ZN.1 ((q4 nd).2 ((HK.o.2.1 nd).1 hnd))
    obtain ⟨_,L,_,hL,_⟩:=q5 nd p hp
    exact ⟨L,hL,htf.o nd L hL⟩
   have htsl:ts.length<=300:=by rw [hts,ul];exact hks
   have htl:∀t∈ts,t.2.length<=1000:=fun t ht=>by
    obtain ⟨L,hL,e⟩:=hIT.line t ht
    have h1:=lN L
    have h2:=hL.len
    rw [e]
    omega
   have htn:∀t∈ts,0<=t.1/\t.1<2^40:=fun t ht=>by
    obtain ⟨x,hx,_,e2,_⟩:=(hIT.mem t.1).1 (uh.2 ⟨t,ht,rfl⟩)
    have q:=ar (HM.o.2.2.well.ok x (HM.o.2.1.mem_iff.1 hx))
    have e3:x.2.2.2.2.1=t.1:=e2
    exact kh1
   have HTS:Aside (IsTexts A ts/\(∀t∈ts,t.2.length<=1000)/\(∀t∈ts,0<=t.1/\t.1<2^40)):=⟨hIT,htl,htn⟩
   obtain ⟨LS,hLS⟩:=zc (qs.map bY++(ts.filter cB).map cq)
   rw [<-hLS] at A2
   have hLSl:LS.length<=180300:=by
    rw [hLS,vN,ul,ul]
    have:=Zv cB ts
    omega
   have hmid:=HM.o.1.later xI
   obtain ⟨cm,A',m1,m2,m3,m4⟩:=hmid.marks
   have hmk:=FV wr bc cm A.length (du A') m1 zj
   have c8:=hmid.cell.c8
   have HLS:Aside (LS=qs.map bY++(ts.filter cB).map cq/\A'.Perm A):=⟨hLS,m2⟩
   obtain ⟨y,hy⟩:=zc wr
   subst hy
   clear hts hIT htl htn hLS hmid m1 m2 m3 m4 HK htf
   go_wp2_with fail
   refine hmk.mono ?_
   clear hmk c8
   rintro e W3 ⟨am,mc,mm,rfl,hIM,hmml,hmin,hb3,hnew3⟩
   have HMM:Aside (IsMarks (du A') mm/\InRow bL W3 am mm/\(∀g o,am=some ⟨g,o,none⟩->mm≠ []->g<W3.heap.size/\g≠S/\u.ownBlock≠some g)/\StSt w S W3 u LS u W3):=by
    have h3:=A2.o.later hb3
    refine ⟨hIM,hmin,fun g o e hne=>⟨It dW zj hmin hne e,?_,fun q=> ?_⟩,StSt.start h3.st h3.below⟩
    ·have:=hnew3 g o e
     have:=A2.o.st.lt
     omega
    have h4:=hnew3 g o e
    have:=(A2.o.st.row.lt g q).2
    omega
   have hmm3:mm.length<=300:=zj
   clear hIM hmml hmin hb3 hnew3 A2
   go_wp2
   go_loopg [62] mm.length (fun kx s62 wr=>∃(k:Nat) (z:Value),s62= .int .i64 (k:Int)/\k<=mm.length/\mm.length - k<=kx/\Aside (StSt w S W3 u (LS++(mm.take k).map gD) z wr))
   case atStart=>exact ⟨0,u,rfl,vM _,vB _,by show StSt w S W3 u _ u W3;simpa using HMM.o.2.2.2⟩
   case round=>
    obtain ⟨k3,z,rfl,hk3,hkx3,A3⟩:=hrel
    by_cases hlt3:k3<mm.length
    ·have d3:decide ((k3:Int)<(mm.length:Int))=true:=by simp;omega
     have wk:((k3:Int)).toNat=k3:=zj
     have pk:(0:Int)<=(k3:Int):=zj
     have bk:(k3:Int)<(mm.length:Int):=zj
     obtain ⟨⟨nd,nm',vl⟩,hx⟩:∃x,Aside (mm[k3]? =some x):=⟨mm[k3],vF hlt3⟩
     have hmne:mm≠ []:=fun q=>by rw [q] at hlt3;simp at hlt3
     obtain ⟨blk,off,ham,hc⟩:=(A3.o.inRow HMM.o.2.1 (fun g o e=>HMM.o.2.2.1 g o e hmne)).get dW hx.o
     subst ham
     have r0:=hc 0 _ rfl
     have r1:=hc 1 _ rfl
     have r2:=hc 2 _ rfl
     simp only [uZ] at r0
     clear hc hmne
     have hmo:=wD HMM.o.1 (vH hx.o)
     dsimp only at hmo
     obtain ⟨Y,hY⟩:=zc (wr.alloc (.cells #[.int .i64 nd,.string nm',.string vl] 128))
     have hbY:Below wr.heap.size wr Y:=by rw [hY];exact zh wr _
     have hYb:Y.heap[wr.heap.size]? =some (.cells #[.int .i64 nd,.string nm',.string vl] 128 (0,0)):=by rw [hY];exact heap_alloc_new wr _
     have y0:Y.cell? ⟨wr.heap.size,0,none⟩=some (.int .i64 nd):=jB
     have y1:Y.cell? ⟨wr.heap.size,1,none⟩=some (.string nm'):=jB
     have y2:Y.cell? ⟨wr.heap.size,2,none⟩=some (.string vl):=jB
     obtain ⟨X,hX⟩:=zc (Y.alloc (.cells #[.string ⟨#[109,97,114,107]⟩,.string nm',.string vl] 9))
     have hbX:Below Y.heap.size Y X:=by rw [hX];exact zh Y _
     have AX:=(A3.o.later hbY).later hbX
     have hXb:X.heap[Y.heap.size]? =some (.cells #[.string ⟨#[109,97,114,107]⟩,.string nm',.string vl] 9 (0,0)):=by rw [hX];exact heap_alloc_new Y _
     have htl:=ng X S nd Y.heap.size 3 [⟨#[109,97,114,107]⟩,nm',vl] (LS++(mm.take k3).map gD) z AX.st (fun j x hj=>by
       rw [vQ]
       match j,hj with
       | 0,hj=>cases hj;simp [World.cell?,hXb]
       | 1,hj=>cases hj;simp [World.cell?,hXb]
       | 2,hj=>cases hj;simp [World.cell?,hXb]
       | n+3,hj=>simp at hj) (vD.1 hXb).1 zt zt (HT.o _ yZ) zj zj
       (by simp only [ut,ZF,Lib.join_length,Lib.lens,ud,uz,ZK,List.sum_nil];have q1:nm'.data.toList.length=nm'.size:=zt;have q2:vl.data.toList.length=vl.size:=zt;omega) (by rw [vN,ul,vW];omega)
     have hle:iS nd ([⟨#[109,97,114,107]⟩,nm',vl].map (fun x:ByteArray=>x.data.toList))=gD (nd,nm',vl):=rfl
     rw [hle] at htl
     have htl:=htl.mono (R':=fun e w7=>∃z',e= .returned (.tuple #[])/\Aside (StSt w S W3 u (LS++(mm.take (k3+1)).map gD) z' w7)) (fun e w7 ht7=>by
      obtain ⟨z',he,A7⟩:=AX.tell ht7
      refine ⟨z',he,?_⟩
      show StSt w S W3 u _ z' w7
      rw [gi _ _ hx.o,<-uj]
      exact A7)
     have HY:Aside (Y.heap.size=wr.heap.size+1):=by show Y.heap.size=_;rw [hY];simp
     obtain ⟨y,hy⟩:=zc wr
     subst hy
     clear hle AX hXb hbX hbY hYb A3 hmo d2
     go_upto_region 18 with fail
     rw [<-hY]
     clear hY r0 r1 r2
     go_wp2_with fail
     rw [<-hX]
     refine htl.mono ?_
     clear htl hX
     rintro e w7 ⟨z',rfl,HA7⟩
     clear y0 y1 y2
     go_wp2
     go_roundg (mm.length - (k3+1))
     case measure=>omega
     case rel=>exact ⟨k3+1,z',zw,zj,vB _,HA7.o⟩
    have d3:decide ((k3:Int)<(mm.length:Int))=false:=zq
    have ek:mm.take k3=mm:=vT zj
    rw [ek] at A3
    clear ek
    have hjl:=ES wr S (LS++mm.map gD) z A3.o.st (by rw [vN,ul];omega) (fun l hl=>by
     have hIP:=HQ.o.1
     rcases vL.1 hl with hl | hl
     ·rw [HLS.o.1] at hl
      rcases vL.1 hl with hl | hl
      ·obtain ⟨p,hp,rfl⟩:=uh.1 hl
       exact EQ (HMS.o.2.2.fine _ _ ((HQ.o.1.mem p).1 hp))
      ·obtain ⟨t,ht,rfl⟩:=uh.1 hl
       have ht':=(Zn.1 ht).1
       exact Hr (HTS.o.2.1 t ht') (HTS.o.2.2 t ht').1 (HTS.o.2.2 t ht').2
     ·obtain ⟨m,hm,rfl⟩:=uh.1 hl
      exact Hh (wD HMM.o.1 hm))
    have z0:=A3.o.st.box.cell
    have HFIN:Aside (StateIs (aQ R) (Lib.join (LS++mm.map gD) [10])):=by
     refine StateIs.perm (A:=A) ⟨ms,qs,ts,A',mm,HMS.o.1,HMS.o.2.1,HQ.o.1,HTS.o.1,HLS.o.2,HMM.o.1,?_⟩ HM.o.2.1
     unfold FO
     rw [HLS.o.1]
    have HB:Aside (Below w.heap.size w wr):=by have:=A3.o.below;rw [HU.o.2.2.2] at this;exact this
    obtain ⟨y,hy⟩:=zc wr
    subst hy
    clear A3 d2
    go_wp2_with fail
    refine hjl.mono ?_
    clear hjl
    rintro e w9 ⟨rfl,hb9⟩
    have HB9:Aside (Below w.heap.size w w9):=zi HB.o hb9
    clear hb9
    go_wp2
    go_ret
    exact ⟨_,rfl,HFIN.o,HB9.o⟩
end Go.Proofs.YtebpcnkdhgnghaaGreatDoor
end
section
namespace Go.Proofs.YtebpcnkdhgnghaaGreatDoor
open Go.RowKit Go.Lib Go.Sort Go.Maps
variable {by_:Int} {B B' br:Nat} {ad:Nat→Addr} {R:Rws} {w w':World}
structure EnvT (B:Nat) (ad:Nat->Addr) (w:World):Prop where
 env:EnvE B ad w
 tab:Lib.TabBelow Tryz.prog B w "internal/strconv.uint64pow10" .u64 Lib.pow10Tab
theorem EnvT.mono {B:Nat} {ad:Nat->Addr} {w w':World} (h:EnvT B ad w) (hb:Below B w w'):EnvT B ad w':=⟨h.env.mono hb,fun w'' h'=>h.tab w'' (hb.trans h')⟩
theorem EnvT.later (h:EnvT B ad w) (hb:Below w.heap.size w w'):EnvT B ad w':=h.mono (hb.mono h.env.size)
theorem EnvT.up (h:EnvT B ad w) (hB:B<=B') (hs:B'<=w.heap.size):EnvT B' ad w:=
 ⟨⟨h.env.op4,h.env.c5,h.env.c6,h.env.c7,h.env.c8,h.env.c9,vI h.env.low hB,hs⟩,fun w' h'=>h.tab w' (h'.mono hB)⟩
theorem EnvT.is (h:EnvT B ad w):Lib.TabIs Tryz.prog w "internal/strconv.uint64pow10" .u64 Lib.pow10Tab:=h.tab w (vG _ w)
theorem RepOwn.below {B:Nat} {w w':World} {c c':Nat->Nat} {br:Nat} {by_:Int} {R:Rws} (h:RepOwn B w c br by_ R) (ha:Acts w c w' c') (hB:B<=w.heap.size):Below B w w':=ha.keeps.below hB (fun k hk=>h.low k hk)
theorem RepOwn.down {c:Nat->Nat} (h:RepOwn B w c br by_ R) (hB:B'<=B):RepOwn B' w c br by_ R:=⟨h.rep,fun k hk=>vI hB (h.low k hk),h.high⟩
theorem RepAt.rows {c:Nat->Nat} (h:RepAt w c br by_ R):RowsK R:=by obtain ⟨_,_,_,_,_,_,_,_,k,_⟩:=h;exact k
structure Ob (B:Nat) (w:World) (n:Nat) (c:Nat->Nat->Nat) (br:Nat->Nat) (by_:Nat->Int) (R:Nat->Rws):Prop where
 rep:∀r,r<n->RepOwn B w (c r) (br r) (by_ r) (R r)
 apart:∀r,r<n->∀s,s<n->r≠s->∀k,c r k=0\/c s k=0
def aa {α:Type} (f:Nat->α) (a:Nat) (x:α):Nat->α:=fun r=>if r=a then x else f r
theorem au {α:Type} (f:Nat->α) (a:Nat) (x:α):aa f a x a=x:=if_pos rfl
theorem aj {α:Type} (f:Nat->α) {a r:Nat} (x:α) (h:r≠a):aa f a x r=f r:=if_neg h
theorem RepOwn.wellK {c:Nat->Nat} (h:RepOwn B w c br by_ R):RowsK R:=h.rep.rows
theorem RepAt.time {w:World} {c:Nat->Nat} {br:Nat} {by_:Int} {R:Rws} (h:RepAt w c br by_ R):∃T kv bt bx bc A,RepMid w c br T by_ kv bt bx bc R A/\A.Perm (aQ R)/\dM (aQ R) T:=by
 obtain ⟨T,kv,bt,bx,bc,A,h1,h2,_⟩:=h
 exact ⟨T,kv,bt,bx,bc,A,h1,h2,⟨fun x hx=>h1.time.1 x (h2.mem_iff.2 hx),h1.time.2.1.imp id (fun ⟨x,hx,e⟩=>⟨x,h2.mem_iff.1 hx,e⟩),h1.time.2.2⟩⟩
end Go.Proofs.YtebpcnkdhgnghaaGreatDoor
end
section
namespace Go.Proofs.YtebpcnkdhgnghaaGreatDoor
open Go
open scoped Classical
variable {st:DSt} {D:List OpX} {r:Nat} {x:OpX}
theorem kP (h:mq x=0):(ac x).length<=150:=by
 exact kc4
theorem CN (h:∀x∈D,mq x=0):(ij D).length<=160*D.length:=by
 induction D with
 | nil=>simp [ij]
 | cons x l ih=>
  have h1:=ih (fun y hy=>h y xE)
  have h2:=kP (h x zt)
  show (dP (ac x)++ij l).length<=_
  rw [vN,dU,ud]
  omega
def DiskI (st:DSt) (D:List OpX):Prop:=(∀x∈D,mq x=0)/\((st.2.1=false/\st.1=ij D)\/(st.2.1=true/\st.2.2.1=false/\∃r,st.1=ij D++r/\r.length<=160/\GI r=none))
theorem DiskI.len (h:DiskI st D):st.1.length<=160*D.length+160:=by
 have h1:=CN h.1
 rcases h.2 with ⟨_,hB⟩ | ⟨_,_,r,hB,hr,_⟩
 ·rw [hB];omega
 rw [hB,vN];omega
theorem DiskI.app (h:DiskI st D) (hl:0<=st.2.2.2) (hD:D.length<=320) (he:mq x=0):((fG st x).1=0/\st.2.1=false/\(fG st x).2.2.1=false/\DiskI (fG st x).2 (D++ [x]))\/((fG st x).1=11/\(fG st x).2.2.1=true/\DiskI (fG st x).2 D):=by
 have hlen:=h.len
 have htx:=kP he
 have hrl:=dU (ac x)
 obtain ⟨B,off,waits,left⟩:=st
 dsimp only at hl hlen
 obtain ⟨h0,h⟩:=h
 unfold fG
 rw [if_neg (fun q=>q he),if_neg zQ]
 have hok:∀y∈D++ [x],mq y=0:=fun y hy=>by
  rcases vL.1 hy with q | q
  ·exact h0 y q
  rw [vR.1 q];exact he
 rcases h with ⟨h1,hB⟩ | ⟨h1,h2,r,hB,hr1,hr2⟩
 ·dsimp only at h1 hB
  subst h1
  cases waits with
  | false=>
   rw [kR]
   exact kl4
  | true=>
   obtain ⟨n,rfl⟩:∃n:Nat,left=(n:Int):=⟨left.toNat,zj⟩
   rw [AF]
   by_cases hn:(dP (ac x)).length<=n
   ·rw [if_pos hn]
    exact kl4
   rw [if_neg hn]
   dsimp only
   rw [if_neg zt]
   refine .inr ⟨rfl,rfl,h0,.inr ⟨rfl,rfl,(dP (ac x)).take n,by rw [hB],?_,Fo he zj⟩⟩
   rw [vW]
   omega
 dsimp only at h1 h2 hB
 subst h1
 subst h2
 obtain ⟨c,r',hc⟩:=Ly (ac x)
 rw [hc,FS]
 dsimp only
 rw [if_neg zt]
 exact .inr ⟨rfl,rfl,h0,.inr ⟨rfl,rfl,r,hB,hr1,hr2⟩⟩
theorem DD:DiskI ([],false,false,0) []:=⟨fun x hx=>zW,.inl ⟨rfl,rfl⟩⟩
structure MInv (n i:Nat) (G:List OpX) (S D:Nat->List OpX) (off:Nat->Bool):Prop where
 one:∀x∈G,∀y∈G,byO x=byO y->aw x=aw y->x=y
 ok:∀x∈G,ai x=0
 nodup:G.Nodup
 len:G.length<=i
 time:∀x∈G,x.1<=(i:Int)
 own:∀x∈G,∃r:Nat,r<n/\byO x=(r:Int)/\x∈D r
 sub:∀r,r<n->∀x∈S r,x∈G
 disk:∀r,r<n->∀x∈D r,x∈S r
 on:∀r,r<n->off r=false->∀x∈S r,x∈D r
 well:∀r,r<n->WellK (S r)
 dwell:∀r,r<n->WellK (D r)/\(D r).Nodup
section
variable {n i:Nat} {G:List OpX} {S D:Nat→List OpX} {off:Nat→Bool}
theorem MInv.start (n:Nat) (off:Nat->Bool):MInv n 0 [] (fun _=>[]) (fun _=>[]) off:=
 ⟨fun x hx=>zW,fun x hx=>zW,ZI,vB _,fun x hx=>zW,fun x hx=>zW,fun _ _ x hx=>zW,fun _ _ x hx=>zW,fun _ _ _ x hx=>zW,fun _ _=>iM,fun _ _=>⟨iM,ZI⟩⟩
theorem MInv.up (h:MInv n i G S D off) {j:Nat} (hij:i<=j):MInv n j G S D off:=
 ⟨h.one,h.ok,h.nodup,vI h.len hij,fun x hx=>by have:=h.time x hx;omega,h.own,h.sub,h.disk,h.on,h.well,h.dwell⟩
theorem MInv.mine (h:MInv n i G S D off) {r:Nat} {x:OpX} (hx:x∈G) (e:byO x=(r:Int)):x∈D r:=by
 obtain ⟨q,hq,e1,e2⟩:=h.own x hx
 have:q=r:=zj
 subst this
 exact e2
theorem MInv.slen (h:MInv n i G S D off) (hr:r<n) (hn:(S r).Nodup):(S r).length<=i:=vI (gv hn (fun x hx=>h.sub r hr x hx)) h.len
theorem MInv.dlen (h:MInv n i G S D off) (hr:r<n):(D r).length<=i:=vI (gv (h.dwell r hr).2 (fun x hx=>h.sub r hr x (h.disk r hr x hx))) h.len
theorem MInv.dark (h:MInv n i G S D off) {off':Nat->Bool} (ho:∀r,r<n->off' r=false->off r=false):MInv n i G S D off':=
 ⟨h.one,h.ok,h.nodup,h.len,h.time,h.own,h.sub,h.disk,fun r hr e=>h.on r hr (ho r hr e),h.well,h.dwell⟩
theorem MInv.congr (h:MInv n i G S D off) {S':Nat->List OpX} (e:∀r,r<n->∀x,x∈S r↔x∈S' r):MInv n i G S' D off:=
 ⟨h.one,h.ok,h.nodup,h.len,h.time,h.own,fun r hr x hx=>h.sub r hr x ((e r hr x).2 hx),fun r hr x hx=>(e r hr x).1 (h.disk r hr x hx),fun r hr o x hx=>h.on r hr o x ((e r hr x).2 hx),fun r hr=>(h.well r hr).congr (e r hr),h.dwell⟩
theorem MInv.made (h:MInv n i G S D off) {a:Nat} (ha:a<n) {x:OpX} {S':List OpX} (hon:off a=false) (hb:byO x=(a:Int)) (ht:x.1<=(i:Int)+1) (hw:WellK (x::S a)) (hnew:∀y∈S a,byO y=byO x->aw y<aw x) (hm:∀y,y∈S'↔y=x\/y∈S a):MInv n (i+1) (G++ [x]) (aa S a S') (aa D a (D a++ [x])) (aa off a false):=by
 have hxG:∀y∈G,byO y=byO x->aw y<aw x:=fun y hy e=>hnew y (h.disk a ha y (h.mine hy (e.trans hb))) e
 have hx1:∀y∈G,y≠x:=fun y hy e=>by have:=hxG y hy (by rw [e]);rw [e] at this;omega
 have hD:∀y,y∈D a++ [x]↔y∈x::S a:=fun y=>by
  rw [vL,vR,vJ]
  constructor
  ·rintro (q | q)
   ·exact .inr (h.disk a ha y q)
   exact .inl q
  rintro (q | q)
  ·exact .inr q
  exact .inl (h.on a ha hon y q)
 refine ⟨fun y hy z hz e1 e2=> ?_,fun y hy=> ?_,?_,?_,fun y hy=> ?_,fun y hy=> ?_,fun r hr y hy=> ?_,fun r hr y hy=> ?_,fun r hr e y hy=> ?_,fun r hr=> ?_,fun r hr=> ?_⟩
 ·rcases vL.1 hy with p | p<;>rcases vL.1 hz with q | q
  ·exact h.one y p z q e1 e2
  ·rw [vR.1 q] at e1 e2;have:=hxG y p e1;omega
  ·rw [vR.1 p] at e1 e2;have:=hxG z q e1.symm;omega
  rw [vR.1 p,vR.1 q]
 ·rcases vL.1 hy with p | p
  ·exact h.ok y p
  rw [vR.1 p];exact hw.ok x uu
 ·rw [uH]
  refine ⟨h.nodup,zt,fun y hy z hz=> ?_⟩
  rw [vR.1 hz]
  exact hx1 y hy
 ·rw [vN];have:=h.len;simp;omega
 ·rcases vL.1 hy with p | p
  ·have:=h.time y p;omega
  rw [vR.1 p];omega
 ·rcases vL.1 hy with p | p
  ·obtain ⟨q,hq,e1,e2⟩:=h.own y p
   refine ⟨q,hq,e1,?_⟩
   by_cases e:q=a
   ·subst e;rw [au];exact uk _ e2
   rw [aj _ _ e];exact e2
  rw [vR.1 p]
  exact ⟨a,ha,hb,by rw [au];simp⟩
 ·by_cases e:r=a
  ·subst e
   rw [au] at hy
   rcases (hm y).1 hy with q | q
   ·rw [q];simp
   exact uk _ (h.sub r hr y q)
  rw [aj _ _ e] at hy;exact uk _ (h.sub r hr y hy)
 ·by_cases e:r=a
  ·subst e
   rw [au] at hy |-
   exact (hm y).2 (vJ.1 ((hD y).1 hy))
  rw [aj _ _ e] at hy |-;exact h.disk r hr y hy
 ·by_cases q:r=a
  ·subst q
   rw [au] at hy |-
   exact (hD y).2 (vJ.2 ((hm y).1 hy))
  rw [aj _ _ q] at hy e |-;exact h.on r hr e y hy
 ·by_cases e:r=a
  ·subst e;rw [au];exact hw.congr (fun y=>by rw [vJ,hm y])
  rw [aj _ _ e];exact h.well r hr
 by_cases e:r=a
 ·subst e
  rw [au]
  refine ⟨hw.congr (fun y=>(hD y).symm),?_⟩
  rw [uH]
  refine ⟨(h.dwell r hr).2,zt,fun y hy z hz=> ?_⟩
  rw [vR.1 hz]
  exact hx1 y (h.sub r hr y (h.disk r hr y hy))
 rw [aj _ _ e];exact h.dwell r hr
end
end Go.Proofs.YtebpcnkdhgnghaaGreatDoor
end
section
namespace Go.Proofs.YtebpcnkdhgnghaaGreatDoor
open Go.RowKit Go.Lib Go.Sort Go.Maps
open scoped Classical
theorem Av {l:List OpX} (h:∀x∈l,ai x=0):il l:=fun x hx=>by
 have q:=ar (h x hx)
 have l1:x.2.2.2.2.2.2.1.data.toList.length=x.2.2.2.2.2.2.1.size:=zt
 have l2:x.2.2.2.2.2.2.2.data.toList.length=x.2.2.2.2.2.2.2.size:=zt
 omega
def EA (B:Nat) (w:World) (c:Nat->Nat) (br:Nat) (by_:Int) (R:Rws) (l:List OpX) (e:Ending) (w':World):Prop:=∃(n:Nat) (c':Nat->Nat) (R':Rws),e= .returned (.tuple #[.int .i64 (n:Int),.nilIface])/\Acts w c w' c'/\RepOwn B w' c' br by_ R'/\(∀x,x∈aQ R'↔x∈aQ R\/x∈l)/\(aQ R').length=(aQ R).length+n
theorem JZ {R R':Rws} {F:List OpX} (hR:RowsK R) (hR':RowsK R') (hF:FreshK (aQ R) F) (hm:∀x,x∈aQ R'↔x∈aQ R++F):(aQ R').length=(aQ R).length+F.length:=by
 have n1:=hR'.num.nodup
 have n2:(aQ R++F).Nodup:=by
  rw [uH]
  refine ⟨hR.num.nodup,hF.one.imp (fun {a b} h e=>h (by rw [e];exact ⟨rfl,rfl⟩)),fun a ha b hb e=> ?_⟩
  subst e
  exact hF.off a hb a ha ⟨rfl,rfl⟩
 have a1:=gv n1 (fun x hx=>(hm x).1 hx)
 have a2:=gv n2 (fun x hx=>(hm x).2 hx)
 rw [vN] at a1 a2
 omega
theorem joined {B:Nat} {ad:Nat->Addr} (w:World) (c:Nat->Nat) (br:Nat) (by_:Int) (R:Rws) (la:Option Addr) (lc:Nat) (T l:List OpX) (h:RepOwn B w c br by_ R) (hE:EnvT B ad w) (hin:OpsIn w la l) (hT:WellK T) (hc:Compat (aQ R) T) (hl:∀x,x∈l->x∈T) (hl2:∀x,x∈T->x∈aQ R\/x∈l) (hn:(aQ R).length+l.length<=250):
  Calls Tryz.prog 35 #[.pointer (some ⟨br,0,none⟩),.slice la l.length lc] w (EA B w c br by_ R l):=by
 obtain ⟨fresh,h1,h2,h3,h4⟩:=Dt h.wellK hT hc hl hl2 zj
 refine (AW w c br by_ R la lc l h hE.env hin (Av (fun x hx=>hT.ok x (hl x hx))) hn).mono ?_
 rintro e w' ⟨a,c',hj,hA,hm⟩
 rw [h1 a hj] at hm
 obtain ⟨he,R',hR',hmem⟩:=hm
 refine ⟨fresh.length,c',R',he,hA,hR',fun x=> ?_,JZ h.wellK hR'.wellK h2 hmem⟩
 rw [hmem x,h3 x]
 constructor
 ·rintro (q | q)
  ·exact .inl q
  exact hl2 x q
 rintro (q | q)
 ·exact .inl q
 exact .inr (hl x q)
theorem Bw {B:Nat} {ad:Nat->Addr} (w:World) (c:Nat->Nat) (br:Nat) (i:Nat) (R:Rws) (la:Option Addr) (lc:Nat) (T:Int) (x:OpX) (h:RepOwn B w c br (i:Int) R) (hE:EnvT B ad w) (hi:i<4) (hin:OpsIn w la [x]) (hx:NextOp R i T x) (hT:∀y∈aQ R,y.1<=T) (hn:(aQ R).length<=240):
  Calls Tryz.prog 35 #[.pointer (some ⟨br,0,none⟩),.slice la 1 lc] w fun e w'=>∃(c':Nat->Nat) (R':Rws),e= .returned (.tuple #[.int .i64 1,.nilIface])/\Acts w c w' c'/\RepOwn B w' c' br (i:Int) R'/\(∀y,y∈aQ R'↔y=x\/y∈aQ R)/\(aQ R').length=(aQ R).length+1:=by
 have hw:=hx.well h.wellK hi hT
 have hxn:x∉aQ R:=fun q=>by have:=hw.2 x q rfl;omega
 refine (joined w c br (i:Int) R la lc (x::aQ R) [x] h hE hin hw.1 (CE hx h.wellK hi hT) (fun y hy=>by simp at hy;rw [hy];exact uu) (fun y hy=>by rcases vJ.1 hy with q | q;exact .inr jm;exact .inl q) zq).mono ?_
 rintro e w' ⟨n,c',R',he,hA,hR',hm,hlen⟩
 have hm':∀y,y∈aQ R'↔y=x\/y∈aQ R:=fun y=>by rw [hm y];simp only [vR];exact Or.comm
 have n1:n=1:=by
  have a1:=gv hR'.wellK.num.nodup (H:=x::aQ R) (fun y hy=>by rcases (hm' y).1 hy with q | q;exact vJ.2 (.inl q);exact ug _ q)
  have a2:=gv (l:=x::aQ R) (H:=aQ R') (List.nodup_cons.2 ⟨hxn,h.wellK.num.nodup⟩) (fun y hy=>(hm' y).2 (vJ.1 hy))
  rw [ud] at a1 a2
  omega
 subst n1
 exact ⟨c',R',he,hA,hR',hm',hlen⟩
end Go.Proofs.YtebpcnkdhgnghaaGreatDoor
end
section
namespace Go.Proofs.YtebpcnkdhgnghaaGreatDoor
open Go.RowKit Go.Lib Go.Sort Go.Maps
open scoped Classical
def x0:OpX:=(1,2,1,109,6,0,⟨#[97]⟩,⟨#[]⟩)
theorem wG (m:Mov) (hne:m.2.1≠m.2.2.1):aO [m]=upd mh m.2.1 (some m.2):=by
 show step mh m=_
 exact dy (fun hi=>hi.elim hne (fun h=>AZ rfl h))
end Go.Proofs.YtebpcnkdhgnghaaGreatDoor
end
section
namespace Go.Proofs.YtebpcnkdhgnghaaGreatDoor
open Go.RowKit Go.Lib Go.Sort Go.Maps
open scoped Classical
variable {s v:ByteArray} {T nd o:Int} {i kd:Nat}
theorem iw {S:List OpX} (h:∀x∈S,ai x=0) (k:KnownN S nd):2<=nd:=by
 obtain ⟨x,hx,k1,k2,k3⟩:=k
 have:=(dK (h x hx)).2.2.2.2.1 k1
 omega
theorem JK (x:OpX):ai x<=5:=by
 unfold ai opE fO bK fE gG gI
 repeat (first | omega | split)
theorem Am {n:Int} {L:List Ltr} {id:Int} (h:atL n L=(id,true)):id∈L.map (·.1):=by
 unfold atL at h
 split at h
 ·split at h
  ·rename_i l hl
   cases h
   exact uh.2 ⟨l,(Zn.1 (vH hl)).1,rfl⟩
  cases h
 cases h
theorem iu {R:Rws} (he:ai (fD T i (R i).length kd nd o s v)=0) (hr:RefOk (fD T i (R i).length kd nd o s v::aQ R) (fD T i (R i).length kd nd o s v)):NextOp R i T (fD T i (R i).length kd nd o s v):=⟨he,rfl,rfl,rfl,hr⟩
theorem iU {m:Nat} (h:nd≠0):aM (fD T i m kd nd o s v)=nd:=if_neg h
section
variable {B:Nat} {ad:Nat→Addr} (w:World) (c:Nat→Nat) (br:Nat) (i:Nat) (R:Rws)
end
end Go.Proofs.YtebpcnkdhgnghaaGreatDoor
end
section
namespace Go.Proofs.YtebpcnkdhgnghaaGreatDoor
open Go Go.RowKit Go.Lib Go.Sort Go.Maps
open scoped Classical
variable {n nd:Int} {b:Int×Bool} {A:List OpX} {x:OpX} {a a':OpX×Nat}
def Kw (ad:Nat->Addr) (w:World) (Q:OpX->Nat->Prop) (e:Ending) (w':World):Prop:=∃(y:OpX) (cd:Nat),e= .returned (.tuple #[bT y,eV ad cd])/\Aside (Below w.heap.size w w'/\Q y cd)
def AnsC (ok:Bool) (cyc:Prop) (x:OpX) (a:OpX×Nat):Prop:=(ok=false/\a=(aR,6))\/(ok=true/\ki x≠0/\a=(aR,ki x))\/(ok=true/\ki x=0/\cyc/\a=(aR,10))\/(ok=true/\ki x=0/\¬cyc/\a=(x,0))
theorem AnsC.one {ok:Bool} {cyc:Prop} (h:AnsC ok cyc x a) (h':AnsC ok cyc x a'):a=a':=by
 rcases h with ⟨h1,rfl⟩ | ⟨h1,h2,rfl⟩ | ⟨h1,h2,h3,rfl⟩ | ⟨h1,h2,h3,rfl⟩<;>rcases h' with ⟨k1,rfl⟩ | ⟨k1,k2,rfl⟩ | ⟨k1,k2,k3,rfl⟩ | ⟨k1,k2,k3,rfl⟩
 all_goals first
  | rfl
  | exact absurd (h1.symm.trans k1) zr
  | exact absurd k2 h2
  | exact absurd h2 k2
  | exact absurd k3 h3
  | exact absurd h3 k3
def chO (v:ByteArray):UInt8:=v.data.toList.headD 0
def EraseAt (A:List OpX) (nd n:Int) (a:Int×Bool):Prop:=(¬KnownN A nd->a=(0,false))/\(KnownN A nd->∃L,LineIs A nd L/\a=atL n L)
def MkIs (A:List OpX) (T:Int) (i n:Nat) (x:OpX) (a:OpX×Nat):Prop:=
 (kdO x=109/\aM x=0/\a=rd (wy A (aN x)) (fD T i n 109 0 (aN x) x.2.2.2.2.2.2.1 ⟨#[]⟩))\/
 (kdO x=109/\aM x≠0/\∃ms,ms.Perm (bO A)/\bQ ms/\AnsC (eW A (aM x) &&wy A (aN x)) (aN x=aM x\/Ins (aO ms) (aN x) (aM x)) (fD T i n 109 (aM x) (aN x) x.2.2.2.2.2.2.1 ⟨#[]⟩) a)\/
 (kdO x=105/\∃b:Int×Bool,WriteAt A (aM x) (aN x) b/\a=rd b.2 (fD T i n 105 (aM x) b.1 ⟨#[]⟩ ⟨#[chO x.2.2.2.2.2.2.2]⟩))\/
 (kdO x=100/\∃b:Int×Bool,EraseAt A (aM x) (aN x) b/\a=rd b.2 (fD T i n 100 (aM x) b.1 ⟨#[]⟩ ⟨#[]⟩))\/
 (kdO x≠109/\kdO x≠105/\kdO x≠100/\a=rd (eW A (aM x)) (fD T i n 115 (aM x) 0 x.2.2.2.2.2.2.1 x.2.2.2.2.2.2.2))
theorem WriteAt.one {a:Int×Bool} (h:WriteAt A nd n a) (k:WriteAt A nd n b):a=b:=by
 rcases h with ⟨q1,q2,q3⟩ | ⟨q1,q2,q3⟩<;>rcases k with ⟨r1,r2,r3⟩ | ⟨r1,r2,r3⟩
 ·exact Prod.ext (by rw [q2,r2]) (Bool.eq_iff_iff.2 (q3.trans r3.symm))
 ·exact absurd q1 r1
 ·exact absurd r1 q1
 by_cases hk:KnownN A nd
 ·obtain ⟨L,hL,e⟩:=q3 hk
  obtain ⟨M,hM,e'⟩:=r3 hk
  rw [e,e',hL.unique hM]
 rw [q2 hk,r2 hk]
theorem EraseAt.one {a:Int×Bool} (h:EraseAt A nd n a) (k:EraseAt A nd n b):a=b:=by
 by_cases hk:KnownN A nd
 ·obtain ⟨L,hL,e⟩:=h.2 hk
  obtain ⟨M,hM,e'⟩:=k.2 hk
  rw [e,e',hL.unique hM]
 rw [h.1 hk,k.1 hk]
theorem lE {ms ms':List Mov} (h:bQ ms) (h':bQ ms') (e:ms.Perm ms'):ms=ms':=by
 unfold bQ at h h'
 refine List.Perm.eq_of_pairwise ?_ h h' e
 intro a b _ _ h1 h2
 exact absurd (iR h1 h2) nz
theorem MkIs.one {A:List OpX} {T:Int} {i n:Nat} {x:OpX} {a a':OpX×Nat} (h:MkIs A T i n x a) (k:MkIs A T i n x a'):a=a':=by
 rcases h with ⟨q1,q2,q3⟩ | ⟨q1,q2,ms,q3,q4,q5⟩ | ⟨q1,b,q2,q3⟩ | ⟨q1,b,q2,q3⟩ | ⟨q1,q2,q3,q4⟩<;>rcases k with ⟨r1,r2,r3⟩ | ⟨r1,r2,ns,r3,r4,r5⟩ | ⟨r1,c,r2,r3⟩ | ⟨r1,c,r2,r3⟩ | ⟨r1,r2,r3,r4⟩
 all_goals first
  | exact q3.trans r3.symm
  | exact absurd q2 r2
  | exact absurd r2 q2
  | (have e:=lE q4 r4 (q3.trans r3.symm);subst e;exact q5.one r5)
  | (have e:=q2.one r2;subst e;exact q3.trans r3.symm)
  | exact q4.trans r4.symm
  | exact absurd q1 r1
  | exact absurd r1 q1
  | (exfalso;omega)
theorem Ht {ad:Nat->Addr} {w w':World} {ok:Prop} {okB:Bool} {e:Ending} (h:Ex ad w ok x e w') (hb:okB=true↔ok):Kw ad w (fun y cd=>(y,cd)=rd okB x) e w':=by
 rcases h with ⟨h1,h2,h3⟩ | ⟨h1,h2,h3⟩
 ·have e1:=hb.2 h1
  subst e1
  refine ⟨_,_,h2,h3,?_⟩
  unfold rd
  rw [if_neg zr]
  by_cases he:ki x=0
  ·rw [if_pos he,if_pos he,he]
  rw [if_neg he,if_neg he]
 have e1:okB=false:=by
  cases okB with
  | false=>rfl
  | true=>exact absurd (hb.1 rfl) h1
 subst e1
 exact ⟨_,_,h2,h3,rfl⟩
section
variable {B:Nat} {ad:Nat→Addr} (w:World) (c:Nat→Nat) (br:Nat) (i:Nat) (R:Rws) (T:Int)
theorem MM (into:Int) (name:ByteArray) (h:RepOwn B w c br (i:Int) R) (hE:EnvT B ad w) (hi:i<4) (hT:dM (aQ R) T) (hm:T<=1073741824) (hn:(aQ R).length<=250) (hs1:name.size<=1000000) (h2: -9223372036854775808<=into) (h3:into<=9223372036854775807):
  Calls Tryz.prog 315 #[.pointer (some ⟨br,0,none⟩),.int .i64 into,.string name] w (Kw ad w (fun y cd=>(y,cd)=rd (wy (aQ R) into) (fD T i (R i).length 109 0 into name ⟨#[]⟩))):=by
 obtain ⟨T',kv,bt,bx,bc,A,hm',hp,ht⟩:=h.rep.time
 obtain rfl:T'=T:=sZ ht hT
 obtain ⟨ao,cap,hM⟩:=hm'.norm
 exact (Iw w c br T' i ao cap bt bx bc R into name hM.cell hM.rows h.wellK hE.env hi ht.2.2 hm hn hs1 h2 h3).mono fun e w' q=>Ht q plcB_iff
end
end Go.Proofs.YtebpcnkdhgnghaaGreatDoor
end
section
namespace Go.Proofs.YtebpcnkdhgnghaaGreatDoor
open Go.RowKit Go.Lib Go.Sort Go.Maps
open scoped Classical
def x4:OpX:=(1,0,1,109,4,0,⟨#[97]⟩,⟨#[]⟩)
theorem kg {R:Rws} (h:R=fun _=>[]):aQ R= []:=by rw [h];rfl
theorem Gr {R:Rws} (h:R=fun _=>[]) {T:Int} (ht:dM (aQ R) T):T=0:=by
 rw [kg h] at ht
 rcases ht.2.1 with q | ⟨x,hx,_⟩
 ·exact q
 simp at hx
end Go.Proofs.YtebpcnkdhgnghaaGreatDoor
end
section
namespace Go.Proofs.YtebpcnkdhgnghaaGreatDoor.PMerges
theorem Mb:joinedFacts Tryz.prog 3 Tryz.f3 Rows.playMergesSpec Rows.playMergesRow=true:=by
 unfold joinedFacts
 rw [jfP,jfU,jfR,jfN]
 kernel_rfl
