import Derived.Test.YtpdbnnimdkfajaaGreatDoorVS47
set_option linter.unusedSimpArgs false
set_option linter.unusedVariables false
set_option maxRecDepth 100000
set_option maxHeartbeats 64000000
namespace Go.Proofs.YtpdbnnimdkfajaaGreatDoor
open Go.Proofs.Tryz
variable {es:List Enx} {w:World}
section
open Go.RowKit Go.Lib Go.Sort Go.Maps
open scoped Classical
theorem ensShape {v:Value} (h:EnsAt w v es):∃ao cap,v= .slice ao es.length cap/\InRow encEn w ao es:=by
 rcases h with ⟨rfl,rfl⟩ | ⟨g,cap,rfl,_,hc⟩
 ·exact ⟨none,0,rfl,.inl rfl⟩
 exact ⟨_,cap,rfl,.inr ⟨g,0,rfl,fun j u hj=>yD⟩⟩
theorem ensGet {ao:Option Addr} (h:InRow encEn w ao es) {k:Nat} {c:Int} {nm:ByteArray} (hk:es[k]? =some (nm,c)):∃g o,ao=some ⟨g,o,none⟩/\w.cell? ⟨g,o+k*2,none⟩=some (.string nm)/\w.cell? ⟨g,o+k*2+1,none⟩=some (.int .i64 c):=by
 rcases h with rfl | ⟨g,o,h1,h2⟩
 ·simp at hk
 have c0:=flat_get (enc:=encEn) (k:=2) encEn_len hk (c:=0) zi
 have c1:=flat_get (enc:=encEn) (k:=2) encEn_len hk (c:=1) zi
 exact ⟨g,o,h1,h2 (k*2) _ (by simpa [encEn] using c0),by rw [vG];exact h2 (k*2+1) _ (by simpa [encEn] using c1)⟩
theorem infoIW:(prog.info? 3).map (fun i=>(i.zero,i.size,i.bytes))=some (some (.int .i64 0),1,8):=zj
theorem rows_nodup {R:Rws} (h:RowsK R):(allR R).Nodup:=h.num.nodup
theorem viewShows_law {B:Nat} {ad:Nat->Addr} {m:Int} (w:World) (la:Option Addr) (lc:Nat) (l:List Trn) (by_ inn:Int) (path:ByteArray) (hwi:Wf inn) (hE:EnvT B ad w) (hV:EnvV m w) (hcy:Aside (Cyc ad)) (hin:InRow encTr w la l) (hl:l.length<9223372036854775808) (hwf:∀t∈l,TrnShort t->TrnOk t):
  Calls prog 4 #[.slice la l.length lc,.int .i64 by_,.int .i64 inn,.string path] w fun e w'=>e= .returned (.bool true)/\Below w.heap.size w w':=by
 have hlk:=looked_any w hE hV
 have HE:Aside (EnvT B ad w/\InRow encTr w la l/\EnvV m w):=⟨hE,hin,hV⟩
 clear hE hin hV
 go_enter func4,ntmps4
 go_wp2_with fail
 refine hlk.mono ?_
 clear hlk
 rintro e w1 ⟨rfl,hb1⟩
 have hlg:=longT_any w1 la lc l (HE.o.2.1.later hb1) hl
 have HB1:Aside (Below w.heap.size w w1):=hb1
 clear hb1
 go_wp2_with fail
 refine hlg.mono ?_
 clear hlg
 rintro e w2 ⟨z,rfl,HZ⟩
 obtain rfl:w2=w1:=HZ.o.2
 cases z with
 | true=>
  go_wp2
  go_ret
  exact ⟨rfl,HB1.o⟩
 | false=>
  obtain ⟨hl60,hsh⟩:=HZ.o.1 rfl
  by_cases hps:path.size<=60
  case neg=>
   have dp:decide ((60:Int)<(path.size:Int))=true:=decide_eq_true zi
   have dpn:decide (60<path.size)=true:=decide_eq_true zi
   clear hsh HZ hwf
   go_wp2
   go_ret
   exact ⟨rfl,HB1.o⟩
  have dp:decide ((60:Int)<(path.size:Int))=false:=decide_eq_false zi
  have dpn:decide (60<path.size)=false:=decide_eq_false zi
  by_cases hby:0<=by_/\by_<4
  ·obtain ⟨b,rfl⟩:∃b:Nat,by_=(b:Int):=⟨by_.toNat,zi⟩
   have hb4:b<4:=zi
   have d0:decide ((b:Int)<0)=false:=zm
   have d1:decide ((4:Int)<=(b:Int))=false:=zk
   have d1n:decide (4<=b)=false:=zk
   have eb:((b:Int)).toNat=b:=zi
   have pb:(0:Int)<=(b:Int):=zi
   have qb:(b:Int)<4:=zi
   have hpl:=played_any w2 la lc l (HE.o.1.later HB1.o) hcy (HE.o.2.1.later HB1.o) hl60 (fun t ht=>hwf t ht (hsh t ht))
   clear hsh HZ hby
   go_wp2_with fail
   refine hpl.mono ?_
   clear hpl
   rintro e w3 ⟨g,cap,br,K,rfl,HC⟩
   have hnil:∀w:World,(binOp .eql 79 (.slice (some ⟨g,0,none⟩) 4 cap) (.slice none 0 0)).run prog w= .ok (.bool false) w:=fun w=>Lib.run_eql_slice_nil w _ _ _ _ _ _ _ underlying79
   have cb:=HC.o.cell hb4
   have hrep:∃c,RepAt w3 c (br b) (b:Int) (K b):=by
    obtain ⟨c,hf,_⟩:=HC.o.folk
    exact ⟨_,(hf.rep b hb4).rep⟩
   obtain ⟨c,hrep⟩:=hrep
   obtain ⟨bt,bm,n,v,ms,qs,hA,hmp,hq,hql,hby⟩:=hrep.view (by have:=HC.o.len hb4;omega)
   have hb23:Below w2.heap.size w2 w3:=HC.o.below
   have hlen:=HC.o.len hb4
   have HA:Aside (ViewAt w3 (br b) bt bm n v (madeBy ms)/\IsPlaces (madeBy ms) qs/\EnvV m w3/\Below w.heap.size w w3/\ms.Perm (movsO (allR (K b)))/\ByStamp ms):=⟨hA,hq,(HE.o.2.2.later HB1.o).later hb23,zh HB1.o hb23,hmp,hby⟩
   have HW:Aside (WellK (allR (K b))/\(allR (K b)).Nodup):=by
    exact ⟨(HC.o.rows hb4).well,rows_nodup (HC.o.rows hb4)⟩
   have hops:=rops_any w3 c (br b) (b:Int) (K b) hrep zi
   clear hA hrep hq hmp hby
   go_wp2_with fail
   refine hops.mono ?_
   clear hops cb hnil
   rintro e w4 ⟨vo,ys,rfl,hO,hS,hb4',-⟩
   obtain ⟨oa,oc,hvo,-⟩:=shapeOps hO
   subst hvo
   obtain ⟨X,hX⟩:=za (w4.alloc (.cells #[.int .i64 (b:Int),.slice oa ys.length oc] 34))
   obtain ⟨rb,hrb⟩:=za w4.heap.size
   have hbX:Below w4.heap.size w4 X:=by rw [hX];exact zg w4 _
   have hper:=(stable_by hS).1
   have hRV:RefV X rb ys qs:=by
    refine ⟨⟨_,?_,hO.later hbX⟩,HW.o.1.congr (fun x=>(hper.mem_iff).symm),hper.nodup_iff.2 HW.o.2,by rw [hper.length_eq];omega,fun ms' qs' h1 h2 h3=>places_one hper HA.o.2.2.2.2.1 HA.o.2.2.2.2.2 HA.o.2.1 ms' qs' h1 h2 h3⟩
    have hnw:=heap_alloc_new w4 (.cells #[.int .i64 (b:Int),.slice oa ys.length oc] 34)
    simp only [World.cell?]
    rw [hX,hrb,hnw];rfl
   have HX:Aside (RefV X rb ys qs/\Below w3.heap.size w3 X):=⟨hRV,zh hb4' hbX⟩
   have hl1:=list_any X (br b) bt bm n v _ (HA.o.1.later HX.o.2) qs HA.o.2.1 hql inn (HA.o.2.2.1.later HX.o.2).tab
   clear hO hS hb4' hbX hper hRV
   go_wp2_with fail
   rw [<-hX,<-hrb]
   clear hX hrb
   refine hl1.mono ?_
   clear hl1
   rintro e w5 ⟨v5,es,rfl,H5⟩
   have hl2:=listOf_ref w5 rb ys qs (HX.o.1.later H5.o.2.2) inn
   go_wp2_with fail
   refine hl2.mono ?_
   clear hl2
   rintro e w6 ⟨v6,es',rfl,H6⟩
   obtain rfl:=isEnt_unique HA.o.2.1.rise H5.o.2.1 H6.o.1
   have hel:=H6.o.2.1
   obtain ⟨a5,c5,rfl,h5in⟩:=ensShape H5.o.1
   obtain ⟨a6,c6,rfl⟩:=rowShape H6.o.2.2.1
   have H56:Aside (InRow encEn w6 a5 es/\InRow encEn w6 a6 es/\Below w3.heap.size w3 w6):=⟨h5in.later H6.o.2.2.2,ownE_in H6.o.2.2.1,(zh HX.o.2 H5.o.2.2).trans (H6.o.2.2.2.mono (by have:=HX.o.2.size;have:=H5.o.2.2.size;omega))⟩
   clear h5in
   go_wp2
   go_loopg [15] es.length (fun kx s15 wr=>∃k:Nat,s15= .int .i64 (k:Int)/\k<=es.length/\es.length - k<=kx/\Aside (Below w6.heap.size w6 wr))
   case atStart=>exact ⟨0,rfl,js _,jj _,jo _ _⟩
   case round=>
    obtain ⟨k,rfl,hk,hkx,A⟩:=hrel
    by_cases hlt:k<es.length
    ·have hltz:decide ((k:Int)<(es.length:Int))=true:=by simp;omega
     have ek:((k:Int)).toNat=k:=zi
     have pk:(0:Int)<=(k:Int):=zi
     have bk:(k:Int)<(es.length:Int):=zi
     obtain ⟨⟨en,ec⟩,he⟩:∃e:Enx,Aside (es[k]? =some e):=⟨es[k],ji hlt⟩
     obtain ⟨g5,o5,hg5,x0,x1⟩:=ensGet H56.o.1 he.o
     obtain ⟨g6,o6,hg6,y0,y1⟩:=ensGet H56.o.2.1 he.o
     subst hg5 hg6
     have u0:=cellKept A.o x0
     have u1:=cellKept A.o x1
     have z0:=cellKept A.o y0
     have z1:=cellKept A.o y1
     clear x0 x1 y0 y1
     have n1:(en.toList !=en.toList)=false:=zm
     have n2:(ec !=ec)=false:=zm
     go_upto_region 16 with fail
     go_quiet (fail)
     go_wp2
     go_roundg (es.length - (k+1))
     case measure=>omega
     case rel=>exact ⟨k+1,zw,zi,jj _,below_drewN A.o _⟩
    have hltz:decide ((k:Int)<(es.length:Int))=false:=zk
    have W7:Aside (Below w3.heap.size w3 wr):=zh H56.o.2.2 A.o
    have hf1:=find_all wr (br b) bt bm n v _ (HA.o.1.later W7.o) qs HA.o.2.1 hql path hps m (HA.o.2.2.1.later W7.o)
    go_wp2_with fail
    refine hf1.mono ?_
    clear hf1
    rintro e w8 ⟨fx,fi,rfl,H8⟩
    have W8:Aside (Below w3.heap.size w3 w8/\RefV w8 rb ys qs):=⟨zh W7.o H8.o.2,((HX.o.1.later H5.o.2.2).later H6.o.2.2.2).later (zh A.o H8.o.2)⟩
    have hf2:=findOf_all w8 rb ys qs W8.o.2 path hps
    go_wp2_with fail
    refine hf2.mono ?_
    clear hf2
    rintro e w9 ⟨fk,rfl,H9⟩
    have HFV:Aside (FoundV fx fi fk):=findK_one HA.o.2.1.rise (fineQ_of HA.o.1.shown HA.o.2.1) H8.o.1 H9.o.1
    have W9:Aside (Below w3.heap.size w3 w9/\RefV w9 rb ys qs):=⟨zh W8.o.1 H9.o.2,W8.o.2.later H9.o.2⟩
    obtain ⟨vo,hvo,hop9⟩:=W9.o.2.ops
    have hpo:=placesOf_ref w9 vo ys hop9 W9.o.2.well W9.o.2.nd W9.o.2.len
    clear hop9 H8 H9
    obtain ⟨f,hf⟩:=za (madeBy ms)
    rw [<-hf] at HA
    clear hf
    have e1:(fi !=decide ((0:Int)<=fk))=false:=by
     rcases HFV.o with ⟨q1,q2,q3⟩ | ⟨q1,q2,q3⟩
     ·rw [q1,decide_eq_true q3];rfl
     rw [q1,q3];rfl
    have e2:fi=true->(fx !=fk)=false:=fun q=>by
     rcases HFV.o with ⟨q1,q2,q3⟩ | ⟨q1,q2,q3⟩
     ·rw [q2];simp
     rw [q1] at q;cases q
    have e3:fi=false->(fx !=0)=false:=fun q=>by
     rcases HFV.o with ⟨q1,q2,q3⟩ | ⟨q1,q2,q3⟩
     ·rw [q1] at q;cases q
     rw [q2];rfl
    clear HFV
    go_upto_region 20 with fail
    go_cut [130] (fun s130 wx=>s130= .bool false/\wx=w9)
    case first=>
     cases fi with
     | true=>
      have d2:=e2 rfl
      have d1:decide ((0:Int)<=fk)=true:=by cases q:decide ((0:Int)<=fk) with
       | true=>rfl
       | false=>rw [q] at e1;cases e1
      clear e1 e2 e3
      go_wp2
      go_meet
      exact ⟨rfl,rfl⟩
     | false=>
      have d2:=e3 rfl
      have d1:decide ((0:Int)<=fk)=false:=by cases q:decide ((0:Int)<=fk) with
       | false=>rfl
       | true=>rw [q] at e1;cases e1
      clear e1 e2 e3
      go_wp2
      go_meet
      exact ⟨rfl,rfl⟩
    obtain ⟨rfl,hw9⟩:=hcut
    subst hw9
    clear e1 e2 e3
    go_wp2_with fail
    refine hpo.mono ?_
    clear hpo hvo
    rintro e w10 ⟨v10,qs',ms',rfl,p1,p2,p3,p4,p5,p6⟩
    obtain rfl:=W9.o.2.one ms' qs' p1 p2 p3
    obtain ⟨ap,cp,rfl⟩:=rowShape p5
    have HP:Aside (PlsAt w10 (.slice ap qs'.length cp) qs'/\Below w3.heap.size w3 w10/\RefV w10 rb ys qs'):=⟨plsOwn p5,zh W9.o.1 p6,W9.o.2.later p6⟩
    clear p1 p2 p3 p5 p6
    go_wp2
    go_loopg [20,21] (qs'.length+1) (fun kx s20 s21 wr=>∃(k:Nat) (ov:Value),ov=s20/\s21= .int .i64 ((k:Int) - 1)/\k<=qs'.length+1/\qs'.length+1 - k<=kx/\Aside (wr.ownsRow w10.heap.size 3 1 ov (lostL f (qs'.take (k - 1))).length (flat encI (lostL f (qs'.take (k - 1))))/\Below w10.heap.size w10 wr))
    case atStart=>exact ⟨0,_,rfl,rfl,js _,jj _,⟨jQ _ _ _ _,jo _ _⟩⟩
    case round=>
     obtain ⟨k,ov,rfl,rfl,hk,hkx,A⟩:=hrel
     by_cases h0:k=0
     ·have HZ:Aside (Below w10.heap.size w10 wr/\wr.ownsRow w10.heap.size 3 1 ov (lostL f (qs'.take (k+1 - 1))).length (flat encI (lostL f (qs'.take (k+1 - 1))))):=by
       have h1:=A.o
       rw [h0] at h1 |-
       exact ⟨h1.2,h1.1⟩
      have z1:(k:Int) - 1= -1:=zi
      have hlt:decide ((-1:Int)<(qs'.length:Int))=true:=decide_eq_true zi
      have hge:decide ((0:Int)<= -1)=false:=zo
      clear h0
      rw [z1]
      have WZ:Aside (Below w3.heap.size w3 wr/\RefV wr rb ys qs'):=⟨zh HP.o.2.1 HZ.o.1,HP.o.2.2.later HZ.o.1⟩
      have hp1:=path_all wr (br b) bt bm n v f (HA.o.1.later WZ.o.1) qs' HA.o.2.1 hql inn hwi m (HA.o.2.2.1.later WZ.o.1)
      go_wp2_with fail
      refine hp1.mono ?_
      clear hp1
      rintro e w12 ⟨s,is,rfl,H12⟩
      have hp2:=pathOf_all w12 rb ys qs' (WZ.o.2.later H12.o.2) f HA.o.1.shown HA.o.2.1 p4 inn
      go_wp2_with fail
      refine hp2.mono ?_
      clear hp2
      rintro e w13 ⟨t,rfl,H13⟩
      have HS:Aside (s=t/\is= !decide (t=⟨#[]⟩)):=by
       obtain ⟨is',hk'⟩:=H13.o.1
       exact pathK_one HA.o.1.shown HA.o.2.1 H12.o.1 hk'
      have HN:Aside (w13.ownsRow w10.heap.size 3 1 ov (lostL f (qs'.take (k+1 - 1))).length (flat encI (lostL f (qs'.take (k+1 - 1))))/\Below w10.heap.size w10 w13):=by
       have hb:=zh H12.o.2 H13.o.2
       exact ⟨ownsHeld HZ.o.2 (fun q hq=>hb.block q (HZ.o.2.lt q hq).2),zh HZ.o.1 hb⟩
      obtain ⟨hs,his⟩:=HS.o
      subst hs
      clear HS H12 H13 WZ
      by_cases hse:s=⟨#[]⟩
      ·subst hse
       have hi2:is=false:=by rw [his];rfl
       subst hi2
       clear his
       go_wp2
       go_roundg (qs'.length+1 - (k+1))
       case measure=>omega
       case rel=>exact ⟨k+1,_,rfl,zw,zi,jj _,HN⟩
      have hi2:is=true:=qE
      subst hi2
      have q1:(s.toList==([]:List UInt8))=false:=by
       have:=strEq s ⟨#[]⟩
       rw [decide_eq_false hse,jV ⟨#[]⟩] at this
       exact this
      clear his hse
      go_wp2
      go_roundg (qs'.length+1 - (k+1))
      case measure=>omega
      case rel=>exact ⟨k+1,_,rfl,zw,zi,jj _,HN⟩
     obtain ⟨j,rfl⟩:∃j,k=j+1:=⟨k - 1,zi⟩
     have z1:((j+1:Nat):Int) - 1=(j:Int):=zi
     rw [z1]
     clear h0
     by_cases hlt:j<qs'.length
     ·have hltz:decide ((j:Int)<(qs'.length:Int))=true:=by simp;omega
      have hge:decide ((0:Int)<=(j:Int))=true:=zm
      have ej:((j:Int)).toNat=j:=zi
      have pj:(0:Int)<=(j:Int):=zi
      have bj:(j:Int)<(qs'.length:Int):=zi
      obtain ⟨⟨nd,pi,pn⟩,hp⟩:∃p:Plc,Aside (qs'[j]? =some p):=⟨qs'[j],ji hlt⟩
      obtain ⟨gp,hgp,r0,-,-⟩:=HP.o.1.three hp.o
      subst hgp
      have c0:=cellKept A.o.2 r0
      clear r0
      have hwn:Wf nd:=by
       exact wf_key HA.o.1.shown.good ((HA.o.2.1.mem _).1 (jm hp.o))
      have hI:=isInside_any wr (some ⟨gp,0,none⟩) cp qs' f nd 1 HA.o.1.shown.good HA.o.2.1 (HP.o.1.later A.o.2) zi
      have hlost:lostL f (qs'.take (j+1))=lostL f (qs'.take j)++(if Ins f nd 1 then [nd] else []):=by
       unfold lostL
       rw [jL,hp.o,vw,jY]
       congr 1
       by_cases q:Ins f nd 1<;>simp [q]
      by_cases hq:Ins f nd 1
      ·rw [(ins_enough HA.o.1.shown.good HA.o.2.1).1 hq] at hI
       rw [if_pos hq] at hlost
       have HL:=Lib.hid hlost
       clear hq hlost
       go_wp2_with fail
       refine hI.mono ?_
       clear hI
       rintro e w11 ⟨rfl,hw11⟩
       subst hw11
       obtain ⟨v',w6',hrun,HO⟩:=row_close (enc:=encI) (k:=1) (S:=93) (T:=3) underlying93 infoIW zi zi rfl (fun _=>rfl) (fun x u hu=>yX) A.o.1 A.o.2.size (jo _ w11) nd (by unfold lostL;rw [jG];have:=vF (fun p:Plc=>decide (Ins f p.1 1)) (qs'.take (j+1 - 1));rw [jz] at this;omega) 93
       unfold encI at hrun
       have HZ:Aside (Below w10.heap.size w10 w6'/\w6'.ownsRow w10.heap.size 3 1 v' (lostL f (qs'.take (j+1+1 - 1))).length (flat encI (lostL f (qs'.take (j+1+1 - 1))))):=by
        refine ⟨A.o.2.trans HO.o.2.2.2,?_⟩
        have h1:=HO.o.1
        show w6'.ownsRow w10.heap.size 3 1 v' (lostL f (qs'.take (j+1))).length (flat encI (lostL f (qs'.take (j+1))))
        rw [HL.o,jA,flat_append]
        exact h1
       clear HL HO c0
       have WZ:Aside (Below w3.heap.size w3 w6'/\RefV w6' rb ys qs'):=⟨zh HP.o.2.1 HZ.o.1,HP.o.2.2.later HZ.o.1⟩
       have hp1:=path_all w6' (br b) bt bm n v f (HA.o.1.later WZ.o.1) qs' HA.o.2.1 hql nd hwn m (HA.o.2.2.1.later WZ.o.1)
       go_wp2_with (at_builtin;refine Lib.wpList_append_run _ rfl _ _ _ _ rfl _ _ rfl rfl _ _ hrun ?_)
       clear hrun
       refine hp1.mono ?_
       clear hp1
       rintro e w12 ⟨s,is,rfl,H12⟩
       have hp2:=pathOf_all w12 rb ys qs' (WZ.o.2.later H12.o.2) f HA.o.1.shown HA.o.2.1 p4 nd
       go_wp2_with fail
       refine hp2.mono ?_
       clear hp2
       rintro e w13 ⟨t,rfl,H13⟩
       have HS:Aside (s=t/\is= !decide (t=⟨#[]⟩)):=by
        obtain ⟨is',hk'⟩:=H13.o.1
        exact pathK_one HA.o.1.shown HA.o.2.1 H12.o.1 hk'
       have HN:Aside (w13.ownsRow w10.heap.size 3 1 v' (lostL f (qs'.take (j+1+1 - 1))).length (flat encI (lostL f (qs'.take (j+1+1 - 1))))/\Below w10.heap.size w10 w13):=by
        have hb:=zh H12.o.2 H13.o.2
        exact ⟨ownsHeld HZ.o.2 (fun q hq=>hb.block q (HZ.o.2.lt q hq).2),zh HZ.o.1 hb⟩
       obtain ⟨hs,his⟩:=HS.o
       subst hs
       clear HS H12 H13 WZ
       by_cases hse:s=⟨#[]⟩
       ·subst hse
        have hi2:is=false:=by rw [his];rfl
        subst hi2
        clear his
        go_wp2
        go_roundg (qs'.length+1 - (j+1+1))
        case measure=>omega
        case rel=>exact ⟨j+1+1,_,rfl,zw,zi,jj _,HN⟩
       have hi2:is=true:=qE
       subst hi2
       have q1:(s.toList==([]:List UInt8))=false:=by
        have:=strEq s ⟨#[]⟩
        rw [decide_eq_false hse,jV ⟨#[]⟩] at this
        exact this
       clear his hse
       go_wp2
       go_roundg (qs'.length+1 - (j+1+1))
       case measure=>omega
       case rel=>exact ⟨j+1+1,_,rfl,zw,zi,jj _,HN⟩
      have hz:insF f (qs'.length+1) nd 1=false:=by
       cases e:insF f (qs'.length+1) nd 1 with
       | false=>rfl
       | true=>exact absurd ((ins_enough HA.o.1.shown.good HA.o.2.1).2 e) hq
      rw [hz] at hI
      rw [if_neg hq,vf] at hlost
      have HL:=Lib.hid hlost
      clear hq hlost hz
      go_wp2_with fail
      refine hI.mono ?_
      clear hI
      rintro e w11 ⟨rfl,hw11⟩
      subst hw11
      have HZ:Aside (Below w10.heap.size w10 w11/\w11.ownsRow w10.heap.size 3 1 ov (lostL f (qs'.take (j+1+1 - 1))).length (flat encI (lostL f (qs'.take (j+1+1 - 1))))):=by
       refine ⟨A.o.2,?_⟩
       have h1:=A.o.1
       show w11.ownsRow w10.heap.size 3 1 ov (lostL f (qs'.take (j+1))).length (flat encI (lostL f (qs'.take (j+1))))
       rw [HL.o]
       exact h1
      clear HL c0
      have WZ:Aside (Below w3.heap.size w3 w11/\RefV w11 rb ys qs'):=⟨zh HP.o.2.1 HZ.o.1,HP.o.2.2.later HZ.o.1⟩
      have hp1:=path_all w11 (br b) bt bm n v f (HA.o.1.later WZ.o.1) qs' HA.o.2.1 hql nd hwn m (HA.o.2.2.1.later WZ.o.1)
      go_wp2_with fail
      refine hp1.mono ?_
      clear hp1
      rintro e w12 ⟨s,is,rfl,H12⟩
      have hp2:=pathOf_all w12 rb ys qs' (WZ.o.2.later H12.o.2) f HA.o.1.shown HA.o.2.1 p4 nd
      go_wp2_with fail
      refine hp2.mono ?_
      clear hp2
      rintro e w13 ⟨t,rfl,H13⟩
      have HS:Aside (s=t/\is= !decide (t=⟨#[]⟩)):=by
       obtain ⟨is',hk'⟩:=H13.o.1
       exact pathK_one HA.o.1.shown HA.o.2.1 H12.o.1 hk'
      have HN:Aside (w13.ownsRow w10.heap.size 3 1 ov (lostL f (qs'.take (j+1+1 - 1))).length (flat encI (lostL f (qs'.take (j+1+1 - 1))))/\Below w10.heap.size w10 w13):=by
       have hb:=zh H12.o.2 H13.o.2
       exact ⟨ownsHeld HZ.o.2 (fun q hq=>hb.block q (HZ.o.2.lt q hq).2),zh HZ.o.1 hb⟩
      obtain ⟨hs,his⟩:=HS.o
      subst hs
      clear HS H12 H13 WZ
      by_cases hse:s=⟨#[]⟩
      ·subst hse
       have hi2:is=false:=by rw [his];rfl
       subst hi2
       clear his
       go_wp2
       go_roundg (qs'.length+1 - (j+1+1))
       case measure=>omega
       case rel=>exact ⟨j+1+1,_,rfl,zw,zi,jj _,HN⟩
      have hi2:is=true:=qE
      subst hi2
      have q1:(s.toList==([]:List UInt8))=false:=by
       have:=strEq s ⟨#[]⟩
       rw [decide_eq_false hse,jV ⟨#[]⟩] at this
       exact this
      clear his hse
      go_wp2
      go_roundg (qs'.length+1 - (j+1+1))
      case measure=>omega
      case rel=>exact ⟨j+1+1,_,rfl,zw,zi,jj _,HN⟩
     have hltz:decide ((j:Int)<(qs'.length:Int))=false:=zk
     obtain ⟨al,cl,hov⟩:=rowShape A.o.1
     subst hov
     have W11:Aside (Below w3.heap.size w3 wr):=zh HP.o.2.1 A.o.2
     have hlo:=lost_any wr (br b) bt bm n v f (HA.o.1.later W11.o) qs' HA.o.2.1 hql
     have htk:qs'.take (j+1 - 1)=qs':=jJ zi
     rw [htk] at A |-
     have hl3:(lostL f qs').length<=300:=by unfold lostL;rw [jG];exact jw (vF _ _) hql
     go_wp2_with fail
     refine hlo.mono ?_
     clear hlo
     rintro e w12 ⟨v12,rfl,H12⟩
     obtain ⟨B12,hrow⟩:=H12.o.1
     obtain ⟨x,y,rfl⟩:=rowShape hrow
     have hsm:=sameInts_row w12 x al y cl (lostL f qs') zi (ints_in_row hrow) ((ints_in_row A.o.1).later H12.o.2)
     clear hrow
     go_wp2_with fail
     refine hsm.mono ?_
     clear hsm
     rintro e w13 ⟨rfl,hb13⟩
     go_wp2
     go_ret
     have hb:=W11.o.trans ((zh H12.o.2 hb13).mono W11.o.size)
     exact ⟨rfl,zh HA.o.2.2.2.1 hb⟩
  clear hsh HZ hwf
  by_cases hn:by_<0
  ·have d0:decide (by_<0)=true:=by simp;omega
   go_wp2
   go_ret
   exact ⟨rfl,HB1.o⟩
  have d0:decide (by_<0)=false:=zk
  have d1:decide ((4:Int)<=by_)=true:=zk
  go_wp2
  go_ret
  exact ⟨rfl,HB1.o⟩
