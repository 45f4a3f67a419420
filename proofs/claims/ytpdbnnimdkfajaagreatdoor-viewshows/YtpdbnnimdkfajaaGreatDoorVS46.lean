import Derived.Test.YtpdbnnimdkfajaaGreatDoorVS44
import Derived.Test.YtpdbnnimdkfajaaGreatDoorVS45
set_option linter.unusedSimpArgs false
set_option linter.unusedVariables false
set_option maxRecDepth 100000
set_option maxHeartbeats 64000000
namespace Go.Proofs.YtpdbnnimdkfajaaGreatDoor
open Go.Proofs.Tryz
variable {o:ByteArray} {e:Enx} {a nd x:Int} {es:List Enx} {xs:List OpX} {qs:List Plc} {nm:List UInt8} {B cap k:Nat} {sp:Nat→Bool} {ao:Option Addr} {p:Plc} {f:Sta} {W w:World}
section
open Go.RowKit Go.Lib Go.Sort
open scoped Classical
structure RefV (w:World) (b:Nat) (xs:List OpX) (qs:List Plc):Prop where
 ops:∃v,w.cell? ⟨b,1,none⟩=some v/\OpsAt w v xs
 well:WellK xs
 nd:xs.Nodup
 len:xs.length<=200
 one:∀ms qs',ms.Perm (movsO xs)->ByStamp ms->IsPlaces (madeBy ms) qs'->qs'=qs
theorem RefV.later {w w':World} {b:Nat} {xs:List OpX} {qs:List Plc} (h:RefV w b xs qs) (hb:Below w.heap.size w w'):RefV w' b xs qs:=by
 obtain ⟨v,h1,h2⟩:=h.ops
 exact ⟨⟨v,cellKept hb h1,h2.later hb⟩,h.well,h.nd,h.len,h.one⟩
theorem listOf_ref (w:World) (b:Nat) (xs:List OpX) (qs:List Plc) (h:RefV w b xs qs) (i:Int):
  Calls prog 32 #[.pointer (some ⟨b,0,none⟩),.int .i64 i] w fun e w'=>∃v' es,e= .returned v'/\Aside (IsEnt qs i es/\es.length<=200/\OwnE w' w.heap.size v' es/\Below w.heap.size w w'):=by
 obtain ⟨v,h1,h2⟩:=h.ops
 refine (listOf_any w b v xs h1 h2 h.well h.nd h.len i).mono ?_
 rintro e w' ⟨v',es,rfl,HH⟩
 obtain ⟨⟨qs',ms,a1,a2,a3,a4,a5⟩,a6,a7⟩:=HH.o
 obtain rfl:=h.one ms qs' a1 a2 a3
 refine ⟨v',es,rfl,a5,?_,a6,a7⟩
 obtain ⟨R,r1,r2,rfl⟩:=a5
 rw [jG,r1.length_eq]
 exact jw (vF _ _) a4
theorem ownE_at (h:OwnE w B (.slice ao es.length cap) es) {c:Int} {nm:ByteArray} (hk:es[k]? =some (nm,c)):∃g,ao=some ⟨g,0,none⟩/\w.cell? ⟨g,k*2,none⟩=some (.string nm)/\w.cell? ⟨g,k*2+1,none⟩=some (.int .i64 c):=by
 have hl:k<es.length:=(jh.1 hk).1
 rcases ownE_nilv h with ⟨_,q,_⟩ | ⟨g,rfl,_⟩
 ·subst q;simp at hl
 have c0:=flat_get (enc:=encEn) (k:=2) encEn_len hk (c:=0) zi
 have c1:=flat_get (enc:=encEn) (k:=2) encEn_len hk (c:=1) zi
 refine ⟨g,rfl,?_,?_⟩
 ·rw [h.cellAt (k*2) zi];simpa [encEn] using c0
 rw [h.cellAt (k*2+1) zi];simpa [encEn] using c1
def Look (es:List Enx) (nm:List UInt8) (nd:Int) (k:Nat):Bool->Int->Prop
 | false,x=>x=nd/\∀(j:Nat) y,j<k->es[j]? =some y->y.1.data.toList≠nm
 | true,x=>∃m e,es[m]? =some e/\e.1.data.toList=nm/\(∀(j:Nat) y,j<m->es[j]? =some y->y.1.data.toList≠nm)/\e.2=x
theorem Look.on (h:Look es nm nd k false x) (he:es[k]? =some e) (hne:e.1.data.toList≠nm):Look es nm nd (k+1) false x:=
 ⟨h.1,fun j y hj hy=>by
  rcases vh j k with q | q
  ·exact h.2 j y q hy
  ·obtain rfl:j=k:=by omega
   rw [he] at hy;cases hy;exact hne⟩
theorem Look.hit (h:Look es nm nd k false x) (he:es[k]? =some e) (heq:e.1.data.toList=nm):Look es nm nd (k+1) true e.2:=
 ⟨k,e,he,heq,h.2,rfl⟩
def FofOut (w:World) (qs:List Plc) (nms:List (List UInt8)) (e:Ending) (w':World):Prop:=
 ((∃b,e= .returned (.int .i64 b)/\WalkTo qs 0 nms b)\/(e= .returned (.int .i64 (-1))/\∃pre nm rest b,pre++nm::rest=nms/\WalkTo qs 0 pre b/\NoLead qs b nm))/\Below w.heap.size w w'
theorem strRow {P:List ByteArray} (h:w.ownsRow B 9 1 (.slice ao P.length cap) P.length (P.map Value.string)) (n:Nat) (s:ByteArray) (hn:P[n]? =some s):∃g,ao=some ⟨g,0,none⟩/\w.cell? ⟨g,n,none⟩=some (.string s):=by
 have hl:n<P.length:=(jh.1 hn).1
 obtain ⟨g,rfl⟩:=row_some h zi
 refine ⟨g,rfl,?_⟩
 rw [h.cellAt n zi,jS,hn];rfl
theorem cutP_len (c:UInt8):∀l:List UInt8,(cutP c l).length<=l.length+1
 | []=>by simp [cutP]
 | a::l=>by
  have ih:=cutP_len c l
  by_cases e:a=c
  ·subst e;rw [cutP_dot];simp;omega
  rw [cutP_other _ _ _ e]
  have hne:=cutP_ne c l
  cases q:cutP c l with
  | nil=>exact absurd q hne
  | cons x r=>rw [q] at ih;simp [hd] at ih |-;omega
theorem findOf_in (w:World) (b:Nat) (xs:List OpX) (qs:List Plc) (h:RefV w b xs qs) (path nm:ByteArray) (hp:path.data.toList=47::nm.data.toList) (hne:nm.data.toList≠ []) (hsz:path.size<=60):
  Calls prog 34 #[.pointer (some ⟨b,0,none⟩),.string path] w (FofOut w qs (cutP 47 nm.data.toList)):=by
 have hps:path.size=nm.size+1:=by
  have:=congrArg List.length hp
  simpa using this
 have hns:0<nm.size:=by
  rcases ul nm.size with q | q
  ·exact absurd (jC.1 (by simpa using q)) hne
  exact q
 have hex:path.extract 1 path.size=nm:=by
  refine bytes_eq ?_
  rw [Lib.extract_data,hp,hps]
  simp
  exact jJ zm
 have hp0:0<path.size:=zi
 have hp1:1<=path.size:=zi
 have hb0:path[0]'hp0=47:=by
  have:=congrArg (fun l:List UInt8=>l[0]?) hp
  simp at this
  exact (jk.1 this).2
 have hcut:=Sl.cutSl_any nm w zi
 have HR:Aside (RefV w b xs qs):=h
 have d1:decide ((path.size:Int)<1)=false:=zk
 have d2:((path.size:Int)==1)=false:=zk
 have HPS:=Lib.hid hps
 clear h hp hne hps
 go_enter func34,ntmps34
 go_wp2_with fail
 refine hcut.mono ?_
 clear hcut hex hb0 d1 d2
 rintro e w1 ⟨vP,P,rfl,h1,h2,h3⟩
 obtain ⟨ap,cp,rfl⟩:=rowShape h1
 have hPl:P.length<=100:=by
  have e1:=congrArg List.length h2
  rw [jG] at e1
  have e2:=cutP_len 47 nm.data.toList
  have e3:nm.data.toList.length=nm.size:=zm
  have e4:=HPS.o
  omega
 have HP:Aside ((∀(n:Nat) s,P[n]? =some s->∃g,ap=some ⟨g,0,none⟩/\w1.cell? ⟨g,n,none⟩=some (.string s))/\P.map (·.data.toList)=cutP 47 nm.data.toList/\Below w.heap.size w w1):=⟨strRow h1,h2,h3⟩
 clear h1 h2 h3
 go_wp2
 go_loopg [5,7] P.length (fun kx s5 s7 wr=>∃(n:Nat) (nd:Int),s5= .int .i64 nd/\s7= .int .i64 (n:Int)/\n<=P.length/\P.length - n<=kx/\Aside (WalkTo qs 0 ((P.take n).map (·.data.toList)) nd/\Below w1.heap.size w1 wr))
 case atStart=>exact ⟨0,0,rfl,rfl,js _,jj _,⟨rfl,jo _ _⟩⟩
 case round=>
  obtain ⟨n,nd,rfl,rfl,hnP,hkx,A⟩:=hrel
  by_cases hlt:n<P.length
  ·have hltz:decide ((n:Int)<(P.length:Int))=true:=by simp;omega
   have en:((n:Int)).toNat=n:=zi
   have pn:(0:Int)<=(n:Int):=zi
   have bn:(n:Int)<(P.length:Int):=zi
   obtain ⟨s,hs⟩:∃s,Aside (P[n]? =some s):=⟨P[n],ji hlt⟩
   obtain ⟨gp,hgp,c0⟩:=HP.o.1 n s hs.o
   subst hgp
   have HC:Aside (w1.cell? ⟨gp,n,none⟩=some (.string s)):=c0
   clear c0
   have hlo:=listOf_ref wr b xs qs ((HR.o.later HP.o.2.2).later A.o.2) nd
   go_wp2_with fail
   refine hlo.mono ?_
   clear hlo
   rintro e w2 ⟨v',es,rfl,HE⟩
   obtain ⟨ae,ce,rfl⟩:=rowShape HE.o.2.2.1
   have hel:=HE.o.2.1
   have A2:Aside (Below w1.heap.size w1 w2):=zh A.o.2 HE.o.2.2.2
   go_wp2
   go_loopg [5,9,10] es.length (fun ky s5 s9 s10 wr'=>∃(k:Nat) (z:Bool) (x:Int),s5= .int .i64 x/\s9= .bool z/\s10= .int .i64 (k:Int)/\k<=es.length/\es.length - k<=ky/\Aside (Look es s.data.toList nd k z x/\Below w2.heap.size w2 wr'))
   case atStart=>exact ⟨0,false,nd,rfl,rfl,rfl,js _,jj _,⟨⟨rfl,fun j y hj=>absurd hj (uv _)⟩,jo _ _⟩⟩
   case round=>
    obtain ⟨k,z,x,rfl,rfl,rfl,hke,hky,K⟩:=hrel
    by_cases hkl:k<es.length
    ·have hkz:decide ((k:Int)<(es.length:Int))=true:=by simp;omega
     have ek:((k:Int)).toNat=k:=zi
     have pk:(0:Int)<=(k:Int):=zi
     have bk:(k:Int)<(es.length:Int):=zi
     cases z with
     | true=>
      have KK:Aside (WalkTo qs 0 ((P.take (n+1)).map (·.data.toList)) x/\Below w1.heap.size w1 wr):=by
       obtain ⟨m,e,a1,a2,a3,a4⟩:=K.o.1
       refine ⟨?_,zh A2.o K.o.2⟩
       rw [jL,hs.o,jY]
       exact A.o.1.snoc ⟨es,m,e,HE.o.1,a1,a2,a3,a4⟩
      clear K
      go_wp2
      go_roundg (P.length - (n+1))
      case measure=>omega
      case rel=>exact ⟨n+1,x,rfl,zw,zi,jj _,KK⟩
     | false=>
      obtain ⟨⟨em,ei⟩,he⟩:∃e:Enx,Aside (es[k]? =some e):=⟨es[k],ji hkl⟩
      have hB2:Below w2.heap.size w2 wr:=K.o.2
      obtain ⟨ge,hge,y0,y1⟩:=ownE_at HE.o.2.2.1 he.o
      subst hge
      have z0:=cellKept hB2 y0
      have z1:=cellKept hB2 y1
      have z2:=cellKept (zh A2.o hB2) HC.o
      clear y0 y1 hB2
      obtain ⟨b2,d2⟩:∃b2,(em.toList==s.toList)=b2:=⟨_,rfl⟩
      have HB:Aside (b2=decide (em=s)):=by
       show b2=decide (em=s)
       rw [<-d2,strEq]
      go_upto_region 15 with fail
      cases b2 with
      | true=>
       have KN:Aside (Look es s.data.toList nd (k+1) true ei):=K.o.1.hit he.o (by rw [of_decide_eq_true HB.o.symm])
       go_quiet (fail)
       go_wp2
       go_roundg (es.length - (k+1))
       case measure=>omega
       case rel=>exact ⟨k+1,true,ei,rfl,rfl,zw,zi,jj _,⟨KN.o,below_drewN K.o.2 _⟩⟩
      | false=>
       have KN:Aside (Look es s.data.toList nd (k+1) false x):=K.o.1.on he.o (fun e=>of_decide_eq_false HB.o.symm (bytes_eq e))
       go_quiet (fail)
       go_wp2
       go_roundg (es.length - (k+1))
       case measure=>omega
       case rel=>exact ⟨k+1,false,x,rfl,rfl,zw,zi,jj _,⟨KN.o,below_drewN K.o.2 _⟩⟩
    have hkz:decide ((k:Int)<(es.length:Int))=false:=zk
    cases z with
    | true=>
     have KK:Aside (WalkTo qs 0 ((P.take (n+1)).map (·.data.toList)) x/\Below w1.heap.size w1 wr):=by
      obtain ⟨m,e,a1,a2,a3,a4⟩:=K.o.1
      refine ⟨?_,zh A2.o K.o.2⟩
      rw [jL,hs.o,jY]
      exact A.o.1.snoc ⟨es,m,e,HE.o.1,a1,a2,a3,a4⟩
     clear K
     go_wp2
     go_roundg (P.length - (n+1))
     case measure=>omega
     case rel=>exact ⟨n+1,x,rfl,zw,zi,jj _,KK⟩
    | false=>
     go_wp2
     go_ret
     refine ⟨.inr ⟨rfl,(P.take n).map (·.data.toList),s.data.toList,(P.drop (n+1)).map (·.data.toList),nd,?_,A.o.1,es,HE.o.1,fun e he q=> ?_⟩,(zh HP.o.2.2 A2.o).trans (K.o.2.mono (jw HP.o.2.2.size A2.o.size))⟩
     ·rw [<-HP.o.2.1]
      have e1:P=P.take n++s::P.drop (n+1):=by
       obtain ⟨q1,q2⟩:=jh.1 hs.o
       rw [<-q2,<-jZ q1,jH]
      conv=>rhs;rw [e1]
      simp
     obtain ⟨m,hm,em⟩:=vQ.1 he
     exact K.o.1.2 m e zi (by rw [ji hm,em]) q
  have hltz:decide ((n:Int)<(P.length:Int))=false:=zk
  go_wp2
  go_ret
  obtain rfl:n=P.length:=zi
  have h5:=A.o.1
  rw [jX,HP.o.2.1] at h5
  exact ⟨.inl ⟨_,rfl,h5⟩,zh HP.o.2.2 A.o.2⟩
end
section
open Go.RowKit Go.Lib Go.Sort
open scoped Classical
theorem pathL_next (qs L:List Plc) (k:Nat) (p:Plc) (hp:L[k]? =some p):pathL qs (L.take (k+1))=47::(nmB qs p).data.toList++pathL qs (L.take k):=by
 rw [pathL_is,pathL_is,jL,hp]
 simp [namesOf]
theorem pathL_nil (qs:List Plc):pathL qs []= []:=by rw [pathL_is];simp [namesOf]
theorem ent_once (hq:IsPlaces f qs) {i:Int} (h:IsEnt qs i es) (hp:p∈qs) (hi:p.2.1=i):
  (∃j:Nat,es[j]? =some (nmB qs p,p.1))/\(∀(j:Nat) e,es[j]? =some e->e.2=p.1->e.1=nmB qs p)/\(∀(j k:Nat) e e',es[j]? =some e->es[k]? =some e'->e.2=p.1->e'.2=p.1->j=k):=by
 obtain ⟨R,h1,h2,rfl⟩:=h
 have hnd:=row_nodup hq.rise _ h1
 have mem:∀x,x∈R↔x∈qs/\x.2.1=i:=fun x=>by rw [h1.mem_iff,vx];simp
 refine ⟨?_,fun j e he hn=> ?_,fun j k e e' he he' hn hn'=> ?_⟩
 ·obtain ⟨j,hj,ej⟩:=vQ.1 ((mem p).2 ⟨hp,hi⟩)
  exact ⟨j,by rw [jS,ji hj,ej];rfl⟩
 ·rw [jS] at he
  obtain ⟨q,hq1,rfl⟩:=uH.1 he
  have hqm:=((mem q).1 (jm hq1)).1
  have e1:=(hq.mem q).1 hqm
  have e2:=(hq.mem p).1 hp
  have hn':q.1=p.1:=hn
  rw [hn',e2] at e1
  rw [Option.some.inj e1]
 rw [jS] at he he'
 obtain ⟨q,hq1,rfl⟩:=uH.1 he
 obtain ⟨q',hq2,rfl⟩:=uH.1 he'
 have a1:(R.map (·.1))[j]? =some p.1:=by rw [jS,hq1];exact congrArg some hn
 have a2:(R.map (·.1))[k]? =some p.1:=by rw [jS,hq2];exact congrArg some hn'
 obtain ⟨l1,m1⟩:=jh.1 a1
 obtain ⟨l2,m2⟩:=jh.1 a2
 have pw:=jF.1 hnd
 rcases uc j k with z | z | z
 ·exact absurd (m1.trans m2.symm) (pw j k l1 l2 z)
 ·exact z
 exact absurd (m2.trans m1.symm) (pw k j l2 l1 z)
def Ahead (es:List Enx) (nd:Int) (o0 o1:ByteArray) (k:Nat) (o:ByteArray):Prop:=
 (o=o0/\∀(j:Nat) e,j<k->es[j]? =some e->e.2≠nd)\/(o=o1/\∃(j:Nat) (e:Enx),j<k/\es[j]? =some e/\e.2=nd)
theorem Ahead.on {o0 o1:ByteArray} (h:Ahead es nd o0 o1 k o) (he:es[k]? =some e) (hne:e.2≠nd):Ahead es nd o0 o1 (k+1) o:=by
 rcases h with ⟨h1,h2⟩ | ⟨h1,j,e',h2,h3,h4⟩
 ·refine .inl ⟨h1,fun j y hj hy=> ?_⟩
  rcases vh j k with q | q
  ·exact h2 j y q hy
  obtain rfl:j=k:=zi
  rw [he] at hy;cases hy;exact hne
 exact .inr ⟨h1,j,e',zi,h3,h4⟩
theorem nmB_small (h0:0<=p.1) (h1:p.1<2^62) (hs:p.2.2.size<=60):(nmB qs p).size<=1100:=by
 have hIL:(Lib.itoa p.1).length<=1000:=by have:=Lib.itoa_length_le p.1 zi zi;omega
 have e:(nmB qs p).size=(nmB qs p).data.toList.length:=zm
 rw [e,nmB_bytes]
 have e2:p.2.2.data.toList.length=p.2.2.size:=zm
 split
 ·simp only [jA,jK];omega
 omega
structure UpSt (f:Sta) (qs L:List Plc) (k:Nat) (nd:Int) (o:ByteArray):Prop where
 le:k<=L.length
 up:UpL f nd (L.drop k)
 ins:nd=0\/Ins f nd 0
 out:o.data.toList=pathL qs (L.take k)
 size:o.size<=k*2000
theorem UpSt.next (hf:Shown f) (hq:IsPlaces f qs) {L:List Plc} (h:UpSt f qs L k nd o) (h0:nd≠0):
  ∃p,p∈qs/\p.1=nd/\k<L.length/\(nmB qs p).size<=1100/\UpSt f qs L (k+1) p.2.1 ((⟨#[47]⟩:ByteArray)++nmB qs p++o):=by
 have hi:=h.ins.resolve_left h0
 cases e:f nd with
 | none=>exact absurd hi (ins_none e)
 | some p=>
  have hm:=up_mem hf.good hq e
  have hk:k<L.length:=by
   rcases vh k L.length with z | z
   ·exact z
   have hu:=h.up
   rw [uG z] at hu
   have hu':f nd=none:=hu
   rw [e] at hu';cases hu'
  have hu:=h.up
  rw [jZ hk] at hu
  obtain ⟨hu1,hu2⟩:=hu
  rw [e] at hu1
  have hp:L[k]=p:=(Option.some.inj hu1).symm
  rw [hp] at hu2
  have hfi:=hf.good.fine nd p e
  have hsz:=nmB_small (qs:=qs) (p:=p) (by have:=hfi.lo;have:=hf.good.key nd p e;omega) (by have:=hfi.hi;have:=hf.good.key nd p e;omega) hfi.sz
  refine ⟨p,hm,hf.good.key nd p e,hk,hsz,hk,hu2,?_,?_,?_⟩
  ·rw [ins_some e] at hi
   exact hi
  ·rw [pathL_next qs L k p (by rw [ji hk,hp]),<-h.out]
   simp
  have:=h.size
  have e1:((⟨#[47]⟩:ByteArray)++nmB qs p++o:ByteArray).size=1+(nmB qs p).size+o.size:=by simp [uK];rfl
  rw [e1];omega
theorem pathOf_in (w:World) (b:Nat) (xs:List OpX) (qs:List Plc) (h:RefV w b xs qs) (f:Sta) (hf:Shown f) (hq:IsPlaces f qs) (hql:qs.length<=200) (node:Int) (h0:node≠0) (hi:Ins f node 0) (L:List Plc) (hu:UpL f node L):
  Calls prog 38 #[.pointer (some ⟨b,0,none⟩),.int .i64 node] w fun e w'=>e= .returned (.string ⟨(pathL qs L).toArray⟩)/\Below w.heap.size w w':=by
 obtain ⟨v,hc,hops⟩:=h.ops
 have hP:=placesOf_ref w v xs hops h.well h.nd h.len
 have HR:Aside (RefV w b xs qs):=h
 have HF:Aside (Shown f/\IsPlaces f qs/\Ins f node 0/\UpL f node L):=⟨hf,hq,hi,hu⟩
 have hLl:L.length<=200:=jw (up_len hf.good hq hu) hql
 have d0:(node==0)=false:=qP
 have H0:=Lib.hid h0
 clear h hops hf hq hi hu h0
 go_enter func38,ntmps38
 go_wp2_with fail
 refine hP.mono ?_
 clear hP hc
 rintro e w1 ⟨v',qs',ms,rfl,h1,h2,h3,h4,h5,h6⟩
 obtain rfl:=HR.o.one ms qs' h1 h2 h3
 obtain ⟨ap,cp,rfl⟩:=rowShape h5
 have Y:Aside (PlsAt w1 (.slice ap qs'.length cp) qs'/\Below w.heap.size w w1):=⟨plsOwn h5,h6⟩
 have hI:=isInside_any w1 ap cp qs' f node 0 HF.o.1.good HF.o.2.1 (plsOwn h5) zi
 rw [(ins_enough HF.o.1.good HF.o.2.1).1 HF.o.2.2.1] at hI
 clear h1 h2 h3 h5 h6
 go_wp2_with fail
 refine hI.mono ?_
 clear hI
 rintro e w2 ⟨rfl,hw2⟩
 subst hw2
 go_wp2
 go_loopg [1,6] L.length (fun kx s1 s6 wr=>∃(k:Nat) (nd:Int) (o:ByteArray),s1= .int .i64 nd/\s6= .string o/\L.length - k<=kx/\Aside (UpSt f qs' L k nd o/\Below w2.heap.size w2 wr))
 case atStart=>exact ⟨0,node,_,rfl,rfl,jj _,⟨⟨js _,HF.o.2.2.2,.inr HF.o.2.2.1,by rw [List.take_zero,pathL_nil],jj _⟩,jo _ _⟩⟩
 case round=>
  obtain ⟨k,nd,o,rfl,rfl,hkx,A⟩:=hrel
  obtain ⟨u,hu⟩:=za wr
  subst hu
  by_cases hn:nd=0
  ·have dn:(nd !=0)=false:=by simp [hn]
   have HE:Aside (⟨(pathL qs' L).toArray⟩=o):=by
    have hz:L.drop k= []:=by
     cases e:L.drop k with
     | nil=>rfl
     | cons p r=>
      have h1:=A.o.1.up
      rw [e,hn] at h1
      have h2:=h1.1
      rw [HF.o.1.none0] at h2;cases h2
    have h3:=A.o.1.out
    rw [jJ (List.drop_eq_nil_iff.1 hz)] at h3
    refine bytes_eq ?_
    rw [h3]
   clear hn
   go_wp2
   go_ret
   exact ⟨by rw [HE.o];rfl,zh Y.o.2 A.o.2⟩
  have dn:(nd !=0)=true:=by simp [hn]
  obtain ⟨p,hN⟩:∃p,Aside (p∈qs'/\p.1=nd/\k<L.length/\(nmB qs' p).size<=1100/\UpSt f qs' L (k+1) p.2.1 ((⟨#[47]⟩:ByteArray)++nmB qs' p++o)):=by
   obtain ⟨p,q⟩:=A.o.1.next HF.o.1 HF.o.2.1 hn
   exact ⟨p,q⟩
  clear hn
  go_wp2
  go_loopg [7,8] qs'.length (fun ky s7 s8 wr=>∃(m:Nat) (x:Int),s7= .int .i64 x/\s8= .int .i64 (m:Int)/\m<=qs'.length/\qs'.length - m<=ky/\wr=u/\Aside (∀(j:Nat) q,j<m->qs'[j]? =some q->q.1=nd->x=q.2.1))
  case atStart=>exact ⟨0,0,rfl,rfl,js _,jj _,rfl,fun j q hj=>absurd hj (uv _)⟩
  case round=>
   obtain ⟨m,x,rfl,rfl,hm,hmx,hwr,X⟩:=hrel
   subst hwr
   by_cases hlt:m<qs'.length
   ·have hltz:decide ((m:Int)<(qs'.length:Int))=true:=by simp;omega
    have em:((m:Int)).toNat=m:=zi
    have pm:(0:Int)<=(m:Int):=zi
    have bm:(m:Int)<(qs'.length:Int):=zi
    obtain ⟨⟨pc,pi,pn⟩,hp⟩:∃p:Plc,Aside (qs'[m]? =some p):=⟨qs'[m],ji hlt⟩
    obtain ⟨gp,hgp,r0,r1,-⟩:=Y.o.1.three hp.o
    subst hgp
    have c0:=cellKept A.o.2 r0
    have c1:=cellKept A.o.2 r1
    clear r0 r1
    by_cases hc:pc=nd
    ·have dc:(pc==nd)=true:=by simp [hc]
     have X':Aside (∀(j:Nat) q,j<m+1->qs'[j]? =some q->q.1=nd->pi=q.2.1):=by
      show ∀(j:Nat) q,j<m+1->qs'[j]? =some q->q.1=nd->pi=q.2.1
      intro j q _ hq hqn
      have a1:=(HF.o.2.1.mem q).1 (jm hq)
      have a2:=(HF.o.2.1.mem _).1 (jm hp.o)
      have a2':f pc=some (pc,pi,pn):=a2
      rw [hqn,<-hc,a2'] at a1
      rw [<-Option.some.inj a1]
     clear hc
     go_wp2
     go_roundg (qs'.length - (m+1))
     case measure=>omega
     case rel=>exact ⟨m+1,pi,rfl,zw,zi,jj _,rfl,X'⟩
    have dc:(pc==nd)=false:=by simp [hc]
    have X':Aside (∀(j:Nat) q,j<m+1->qs'[j]? =some q->q.1=nd->x=q.2.1):=by
     show ∀(j:Nat) q,j<m+1->qs'[j]? =some q->q.1=nd->x=q.2.1
     intro j q hj hq hqn
     rcases vh j m with z | z
     ·exact X.o j q z hq hqn
     obtain rfl:j=m:=zi
     rw [hp.o] at hq;cases hq;exact absurd hqn hc
    clear hc
    go_wp2
    go_roundg (qs'.length - (m+1))
    case measure=>omega
    case rel=>exact ⟨m+1,x,rfl,zw,zi,jj _,rfl,X'⟩
   have hltz:decide ((m:Int)<(qs'.length:Int))=false:=zk
   have HX:Aside (p.2.1=x):=by
    obtain ⟨j,hj,ej⟩:=vQ.1 hN.o.1
    exact (X.o j p zi (by rw [ji hj,ej]) hN.o.2.1).symm
   have hlo:=listOf_ref wr b xs qs' ((HR.o.later Y.o.2).later A.o.2) x
   clear X
   go_wp2_with fail
   refine hlo.mono ?_
   clear hlo
   rintro e w3 ⟨v3,es,rfl,HE⟩
   obtain ⟨ae,ce,rfl⟩:=rowShape HE.o.2.2.1
   have hel:=HE.o.2.1
   have HO:Aside ((∃j:Nat,es[j]? =some (nmB qs' p,p.1))/\(∀(j:Nat) e,es[j]? =some e->e.2=p.1->e.1=nmB qs' p)/\(∀(j k:Nat) e e',es[j]? =some e->es[k]? =some e'->e.2=p.1->e'.2=p.1->j=k)):=ent_once HF.o.2.1 HE.o.1 hN.o.1 HX.o
   go_wp2
   go_loopg [6,10] es.length (fun ky s6 s10 wr=>∃(m:Nat) (o':ByteArray),s6= .string o'/\s10= .int .i64 (m:Int)/\m<=es.length/\es.length - m<=ky/\wr=w3/\Aside (Ahead es nd o ((⟨#[47]⟩:ByteArray)++nmB qs' p++o) m o'))
   case atStart=>exact ⟨0,o,rfl,rfl,js _,jj _,rfl,.inl ⟨rfl,fun j e hj=>absurd hj (uv _)⟩⟩
   case round=>
    obtain ⟨i,o',rfl,rfl,hi,hix,hw3,K⟩:=hrel
    subst hw3
    by_cases hlt2:i<es.length
    ·have hltz2:decide ((i:Int)<(es.length:Int))=true:=by simp;omega
     have ei:((i:Int)).toNat=i:=zi
     have pi:(0:Int)<=(i:Int):=zi
     have bi:(i:Int)<(es.length:Int):=zi
     obtain ⟨⟨en,ec⟩,he⟩:∃e:Enx,Aside (es[i]? =some e):=⟨es[i],ji hlt2⟩
     obtain ⟨ge,hge,y0,y1⟩:=ownE_at HE.o.2.2.1 he.o
     subst hge
     by_cases hc:ec=nd
     ·have dc:(ec==nd)=true:=by simp [hc]
      have hen:en=nmB qs' p:=HO.o.2.1 i (en,ec) he.o (hc.trans hN.o.2.1.symm)
      have ho:o'=o:=by
       rcases K.o with ⟨q,_⟩ | ⟨_,j,e',q1,q2,q3⟩
       ·exact q
       have:=HO.o.2.2 j i e' (en,ec) q2 he.o (q3.trans hN.o.2.1.symm) (hc.trans hN.o.2.1.symm);omega
      subst ho
      have hos:=A.o.1.size
      have hns:=hN.o.2.2.2.1
      rw [<-hen] at hns
      have hkL:=hN.o.2.2.1
      have n1:¬9223372036854775807<1+en.size:=zi
      have n2:¬9223372036854775807<1+en.size+o'.size:=zi
      have KN:Aside (Ahead es nd o' ((⟨#[47]⟩:ByteArray)++nmB qs' p++o') (i+1) ((⟨#[47]⟩:ByteArray)++en++o')):=.inr ⟨by rw [hen],i,(en,ec),zi,he.o,hc⟩
      clear hc hen hos hns hkL
      go_wp2
      go_roundg (es.length - (i+1))
      case measure=>omega
      case rel=>exact ⟨i+1,_,rfl,zw,zi,jj _,rfl,KN⟩
     have dc:(ec==nd)=false:=by simp [hc]
     have KN:Aside (Ahead es nd o ((⟨#[47]⟩:ByteArray)++nmB qs' p++o) (i+1) o'):=K.o.on he.o hc
     clear hc
     go_wp2
     go_roundg (es.length - (i+1))
     case measure=>omega
     case rel=>exact ⟨i+1,o',rfl,zw,zi,jj _,rfl,KN⟩
    have hltz2:decide ((i:Int)<(es.length:Int))=false:=zk
    have UN:Aside (UpSt f qs' L (k+1) x o'/\Below w2.heap.size w2 wr):=by
     have ho:o'=(⟨#[47]⟩:ByteArray)++nmB qs' p++o:=by
      rcases K.o with ⟨_,q⟩ | ⟨q,_⟩
      ·obtain ⟨j,hj⟩:=HO.o.1
       exact absurd hN.o.2.1 (q j _ (by have:=(jh.1 hj).1;omega) hj)
      exact q
     rw [ho,<-HX.o]
     exact ⟨hN.o.2.2.2.2,zh A.o.2 HE.o.2.2.2⟩
    have hkL:=hN.o.2.2.1
    clear K
    go_wp2
    go_roundg (L.length - (k+1))
    case measure=>omega
    case rel=>exact ⟨k+1,x,o',rfl,rfl,jj _,UN⟩
end
section
open Go.RowKit Go.Lib Go.Sort
open scoped Classical
theorem byte_first {path:ByteArray} {c:UInt8} {r:List UInt8} (h:path.data.toList=c::r):∃h0:0<path.size,path[0]'h0=c:=by
 have h1:path.size=(c::r).length:=by rw [<-h];simp
 refine ⟨by rw [h1];simp,?_⟩
 have:=congrArg (fun l:List UInt8=>l[0]?) h
 simp at this
 exact (jk.1 this).2
theorem findOf_bare (w:World) (b:Nat) (path:ByteArray) (hsz:path.size<=60) (h:Lib.hasPrefix path.data.toList [47]=false):
  Calls prog 34 #[.pointer (some ⟨b,0,none⟩),.string path] w fun e w'=>e= .returned (.int .i64 (-1))/\w'=w:=by
 cases e:path.data.toList with
 | nil=>
  have hs:path.size=0:=by have:=congrArg List.length e;simpa using this
  have d1:decide ((path.size:Int)<1)=true:=decide_eq_true zi
  have d1n:decide (path.size<1)=true:=decide_eq_true zi
  clear h e hs
  go_enter func34,ntmps34
  go_wp2
  go_ret
  exact ⟨rfl,rfl⟩
 | cons c r=>
  obtain ⟨hp0,hb0⟩:=byte_first e
  have hc:c≠47:=fun q=>by rw [e,q] at h;revert h;simp [Lib.hasPrefix]
  have d1:decide ((path.size:Int)<1)=false:=decide_eq_false zi
  have d1n:decide (path.size<1)=false:=decide_eq_false zi
  have dc:((c.toNat:Int) !=47)=true:=by
   have:¬c.toNat=47:=fun q=>hc (UInt8.toNat_inj.1 q)
   simp;omega
  clear h e hc
  go_enter func34,ntmps34
  go_wp2
  go_ret
  exact ⟨rfl,rfl⟩
theorem findOf_root (w:World) (b:Nat) (path:ByteArray) (h:path.data.toList= [47]):
  Calls prog 34 #[.pointer (some ⟨b,0,none⟩),.string path] w fun e w'=>e= .returned (.int .i64 0)/\w'=w:=by
 obtain ⟨hp0,hb0⟩:=byte_first h
 have hs:path.size=1:=by have:=congrArg List.length h;simpa using this
 have d1:decide ((path.size:Int)<1)=false:=decide_eq_false zi
 have d2:((path.size:Int)==1)=true:=zk
 clear h
 go_enter func34,ntmps34
 go_wp2
 go_ret
 exact ⟨rfl,rfl⟩
theorem pathOf_root (w:World) (b:Nat) (xs:List OpX) (qs:List Plc) (h:RefV w b xs qs):
  Calls prog 38 #[.pointer (some ⟨b,0,none⟩),.int .i64 0] w fun e w'=>e= .returned (.string ⟨#[47]⟩)/\Below w.heap.size w w':=by
 obtain ⟨v,hc,hops⟩:=h.ops
 have hP:=placesOf_ref w v xs hops h.well h.nd h.len
 clear h hops
 go_enter func38,ntmps38
 go_wp2_with fail
 refine hP.mono ?_
 clear hP hc
 rintro e w1 ⟨v',qs',ms,rfl,h1,h2,h3,h4,h5,h6⟩
 clear h1 h2 h3 h4 h5
 go_wp2
 go_ret
 exact ⟨rfl,h6⟩
theorem pathOf_out (w:World) (b:Nat) (xs:List OpX) (qs:List Plc) (h:RefV w b xs qs) (f:Sta) (hf:Shown f) (hq:IsPlaces f qs) (node:Int) (h0:node≠0) (hi:¬Ins f node 0):
  Calls prog 38 #[.pointer (some ⟨b,0,none⟩),.int .i64 node] w fun e w'=>e= .returned (.string ⟨#[]⟩)/\Below w.heap.size w w':=by
 obtain ⟨v,hc,hops⟩:=h.ops
 have hP:=placesOf_ref w v xs hops h.well h.nd h.len
 have HR:Aside (RefV w b xs qs):=h
 have HF:Aside (Shown f/\IsPlaces f qs/\¬Ins f node 0):=⟨hf,hq,hi⟩
 have d0:(node==0)=false:=qP
 clear h hops hf hq hi h0
 go_enter func38,ntmps38
 go_wp2_with fail
 refine hP.mono ?_
 clear hP hc
 rintro e w1 ⟨v',qs',ms,rfl,h1,h2,h3,h4,h5,h6⟩
 obtain rfl:=HR.o.one ms qs' h1 h2 h3
 obtain ⟨ap,cp,rfl⟩:=rowShape h5
 have hI:=isInside_any w1 ap cp qs' f node 0 HF.o.1.good HF.o.2.1 (plsOwn h5) zi
 have hz:insF f (qs'.length+1) node 0=false:=by
  cases e:insF f (qs'.length+1) node 0 with
  | false=>rfl
  | true=>exact absurd ((ins_enough HF.o.1.good HF.o.2.1).2 e) HF.o.2.2
 rw [hz] at hI
 clear h1 h2 h3 h5 hz
 go_wp2_with fail
 refine hI.mono ?_
 clear hI
 rintro e w2 ⟨rfl,hw2⟩
 subst hw2
 go_wp2
 go_ret
 exact ⟨rfl,h6⟩
theorem mov_unique:∀ {a b:List Mov},ByStamp a->ByStamp b->(∀m,m∈a↔m∈b)->a=b
 | [],[],_,_,_=>rfl
 | [],y::r',_,_,h=>by have:=(h y).2 zm;simp at this
 | x::r,[],_,_,h=>by have:=(h x).1 zm;simp at this
 | x::r,y::r',hl,hl',h=>by
  obtain ⟨h1,h2⟩:=jB.1 hl
  obtain ⟨h1',h2'⟩:=jB.1 hl'
  have irr:∀ {s:Mov},¬SLt s.1 s.1:=fun {s} k=>by unfold SLt at k;omega
  have e:x=y:=by
   rcases jn.1 ((h x).1 zm) with e | ha
   ·exact e
   rcases jn.1 ((h y).2 zm) with e | hb
   ·exact e.symm
   have u:=h1 y hb;have v:=h1' x ha
   unfold SLt at u v;omega
  subst e
  rw [mov_unique h2 h2' (fun p=> ?_)]
  constructor
  ·intro hp
   rcases jn.1 ((h p).1 yK) with e | hp'
   ·subst e;exact absurd (h1 p hp) irr
   exact hp'
  intro hp
  rcases jn.1 ((h p).2 yK) with e | hp'
  ·subst e;exact absurd (h1' p hp) irr
  exact hp'
theorem places_one {ys:List OpX} (hxy:xs.Perm ys) {ms:List Mov} (hm:ms.Perm (movsO ys)) (hb:ByStamp ms) (hq:IsPlaces (madeBy ms) qs) (ms':List Mov) (qs':List Plc) (hm':ms'.Perm (movsO xs)) (hb':ByStamp ms') (hq':IsPlaces (madeBy ms') qs'):qs'=qs:=by
 have hp:ms'.Perm ms:=hm'.trans ((hxy.filterMap _).trans hm.symm)
 obtain rfl:=mov_unique hb' hb (fun m=>hp.mem_iff)
 exact places_unique hq'.rise hq.rise (fun p=>(hq'.mem p).trans (hq.mem p).symm)
end
section
open scoped Classical
theorem lead_fun (hr:qs.Pairwise (fun a b=>a.1<b.1)) {b b':Int} (h:LeadsTo qs a nm b) (h':LeadsTo qs a nm b'):b=b':=by
 obtain ⟨es,k,e,h1,h2,h3,h4,h5⟩:=h
 obtain ⟨es',k',e',h1',h2',h3',h4',h5'⟩:=h'
 obtain rfl:=isEnt_unique hr h1 h1'
 rcases uc k k' with z | z | z
 ·exact absurd h3 (h4' k e z h2)
 ·subst z;rw [h2] at h2';cases h2';rw [<-h5,<-h5']
 exact absurd h3' (h4 k' e' z h2')
theorem lead_no (hr:qs.Pairwise (fun a b=>a.1<b.1)) {b:Int} (h:LeadsTo qs a nm b) (h':NoLead qs a nm):False:=by
 obtain ⟨es,k,e,h1,h2,h3,h4,h5⟩:=h
 obtain ⟨es',h1',h2'⟩:=h'
 obtain rfl:=isEnt_unique hr h1 h1'
 exact h2' e (jm h2) h3
theorem walk_fun {qs:List Plc} (hr:qs.Pairwise (fun a b=>a.1<b.1)):∀ {nms:List (List UInt8)} {a b b':Int},WalkTo qs a nms b->WalkTo qs a nms b'->b=b'
 | [],a,b,b',h,h'=>(show a=b from h)▸(show a=b' from h')
 | nm::r,a,b,b',⟨c,h1,h2⟩,⟨c',h1',h2'⟩=>by
  obtain rfl:=lead_fun hr h1 h1'
  exact walk_fun hr h2 h2'
theorem walk_no {qs:List Plc} (hr:qs.Pairwise (fun a b=>a.1<b.1)):∀ {pre rest:List (List UInt8)} {nm:List UInt8} {a b c:Int},WalkTo qs a (pre++nm::rest) b->WalkTo qs a pre c->¬NoLead qs c nm
 | [],rest,nm,a,b,c,⟨d,h1,_⟩,h',hno=>by
  have e:a=c:=h'
  subst e
  exact lead_no hr h1 hno
 | x::pre,rest,nm,a,b,c,⟨d,h1,h2⟩,⟨d',h1',h2'⟩,hno=>by
  obtain rfl:=lead_fun hr h1 h1'
  exact walk_no hr h2 h2' hno
theorem lead_pos (hf:∀p∈qs,FineQ p) {b:Int} (h:LeadsTo qs a nm b):0<=b:=by
 obtain ⟨es,k,e,⟨R,h1,_,rfl⟩,h2,h3,h4,h5⟩:=h
 rw [jS] at h2
 obtain ⟨q,hq,rfl⟩:=uH.1 h2
 have hm:=(vx.1 (h1.mem_iff.1 (jm hq))).1
 have:=(hf q hm).1
 rw [<-h5];exact this
theorem walk_pos {qs:List Plc} (hf:∀p∈qs,FineQ p):∀ {nms:List (List UInt8)} {a b:Int},0<=a->WalkTo qs a nms b->0<=b
 | [],a,b,h0,h=>(show a=b from h)▸h0
 | nm::r,a,b,h0,⟨c,h1,h2⟩=>walk_pos hf (lead_pos hf h1) h2
def FoundV (n:Int) (is:Bool) (k:Int):Prop:=(is=true/\n=k/\0<=k)\/(is=false/\n=0/\k= -1)
end
section
open Go.RowKit Go.Lib Go.Sort Go.Maps
open scoped Classical
theorem compat_none (T:List OpX):Compat (allR (fun _=>[])) T:=fun x hx=>by simp [allR] at hx
theorem repOf_any {ad:Nat->Addr} (w:World) (b:Int) (v:Value) (ys:List OpX) (hE:EnvT B ad w) (h0:0<=b) (h4:b<4) (hv:OpsAt w v ys) (hW:WellK ys) (hl:ys.length<=60):
  Calls prog 87 #[.int .i64 b,v] w fun e w'=>∃c br R,e= .returned (.pointer (some ⟨br,0,none⟩))/\Aside (RepOwn w.heap.size w' c br b R/\(∀x,x∈allR R↔x∈ys)/\Below w.heap.size w w'):=by
 have hnew:=rnew_ok w b h0 h4
 have HE:Aside (EnvT w.heap.size ad w/\OpsAt w v ys/\WellK ys):=⟨hE.up hE.env.size ze,hv,hW⟩
 clear hE hv hW
 go_enter func87,ntmps87
 go_wp2_with fail
 refine hnew.mono ?_
 clear hnew
 rintro e w1 ⟨c,br,rfl,hR1,hb1⟩
 have hoo:=ownOps_any w1 v ys (HE.o.2.1.later hb1) zi
 have H1:Aside (RepOwn w.heap.size w1 c br b (fun _=>[])/\Below w.heap.size w w1):=⟨hR1,hb1⟩
 clear hR1 hb1
 go_wp2_with fail
 refine hoo.mono ?_
 clear hoo
 rintro e w2 ⟨v2,rfl,ho2,hb2⟩
 obtain ⟨ao,cp,rfl,hin⟩:=ops_in ho2
 have hbw:Below w.heap.size w w2:=zh H1.o.2 hb2
 have hR2:=H1.o.1.later hb2
 have hjn:=joined (B:=w.heap.size) w2 c br b (fun _=>[]) ao cp ys ys hR2 (HE.o.1.mono hbw) hin HE.o.2.2 (compat_none ys) (fun x hx=>hx) (fun x hx=>.inr hx) (by simp [allR];omega)
 have hjn2:=hjn.mono (R':=fun e w'=>∃(n:Nat) (c':Nat->Nat) (R':Rws),e= .returned (.tuple #[.int .i64 (n:Int),.nilIface])/\Aside (RepOwn w.heap.size w' c' br b R'/\(∀x,x∈allR R'↔x∈ys)/\Below w.heap.size w w')) (fun e w' q=>by
  obtain ⟨n,c',R',he,hA,hR',hm,_⟩:=q
  exact ⟨n,c',R',he,hR',fun x=>by rw [hm x];simp [allR],hbw.trans (hR2.below hA hbw.size)⟩)
 clear hjn hR2 hbw hin ho2 hb2
 go_wp2_with fail
 refine hjn2.mono ?_
 clear hjn2
 rintro e w3 ⟨n,c',R',rfl,H3⟩
 go_wp2
 go_ret
 exact ⟨c',br,R',rfl,H3.o⟩
def TrnShort (t:Trn):Prop:=t.2.2.2.2.2.2.2.2.1.size<=60/\t.2.2.2.2.2.2.2.2.2.size<=60
def LongOut (w:World) (l:List Trn) (e:Ending) (w':World):Prop:=∃z,e= .returned (.bool z)/\Aside ((z=false->l.length<=60/\∀t∈l,TrnShort t)/\w'=w)
theorem longT_any (w:World) (la:Option Addr) (lc:Nat) (l:List Trn) (hin:InRow encTr w la l) (hn:l.length<9223372036854775808):
  Calls prog 29 #[.slice la l.length lc] w (LongOut w l):=by
 have HI:Aside (InRow encTr w la l):=hin
 clear hin
 by_cases hl:l.length<=60
 ·have d0:decide ((60:Int)<(l.length:Int))=false:=by simp;omega
  have d0n:decide (60<l.length)=false:=zk
  go_enter func29,ntmps29
  go_wp2
  go_loopg [3] l.length (fun kx s3 wr=>∃(k:Nat),s3= .int .i64 (k:Int)/\k<=l.length/\l.length - k<=kx/\Aside ((∀t∈l.take k,TrnShort t)/\wr=w))
  case atStart=>exact ⟨0,rfl,js _,jj _,fun t ht=>by simp at ht,rfl⟩
  case round=>
   obtain ⟨k,rfl,hk,hkx,A⟩:=hrel
   obtain rfl:wr=w:=A.o.2
   by_cases hlt:k<l.length
   ·have d2:decide ((k:Int)<(l.length:Int))=true:=by simp;omega
    have wk:((k:Int)).toNat=k:=zi
    have pk:(0:Int)<=(k:Int):=zi
    have bk:(k:Int)<(l.length:Int):=zi
    obtain ⟨⟨ba,fr,t,b,n,kd,nd,o,s,v⟩,hx⟩:∃x,Aside (l[k]? =some x):=⟨l[k],ji hlt⟩
    obtain ⟨blk,off,hao,hc⟩:=HI.o.get encTr_len hx.o
    subst hao
    have r8:=hc 8 _ rfl
    have r9:=hc 9 _ rfl
    clear hc
    by_cases h1:s.size<=60
    ·have e1:decide ((60:Int)<(s.size:Int))=false:=by simp;omega
     have e1n:decide (60<s.size)=false:=zk
     by_cases h2:v.size<=60
     ·have e2:decide ((60:Int)<(v.size:Int))=false:=by simp;omega
      have e2n:decide (60<v.size)=false:=zk
      have HN:Aside (∀t∈l.take (k+1),TrnShort t):=fun t ht=>by
       rw [jL,hx.o] at ht
       rcases ju.1 ht with ht | ht
       ·exact A.o.1 t ht
       simp at ht
       subst ht
       exact ⟨h1,h2⟩
      clear A h1 h2
      go_wp2
      go_roundg (l.length - (k+1))
      case measure=>omega
      case rel=>exact ⟨k+1,zw,zi,jj _,HN.o,rfl⟩
     have e2:decide ((60:Int)<(v.size:Int))=true:=zk
     have e2n:decide (60<v.size)=true:=zk
     go_wp2
     go_ret
     exact ⟨true,rfl,⟨(fun h=>Bool.noConfusion h),rfl⟩⟩
    have e1:decide ((60:Int)<(s.size:Int))=true:=zk
    have e1n:decide (60<s.size)=true:=zk
    go_wp2
    go_ret
    exact ⟨true,rfl,⟨(fun h=>Bool.noConfusion h),rfl⟩⟩
   have d2:decide ((k:Int)<(l.length:Int))=false:=zk
   have ek:l.take k=l:=jJ zi
   rw [ek] at A
   go_wp2
   go_ret
   exact ⟨false,rfl,⟨fun _=>⟨hl,A.o.1⟩,rfl⟩⟩
 have d0:decide ((60:Int)<(l.length:Int))=true:=zk
 have d0n:decide (60<l.length)=true:=zk
 go_enter func29,ntmps29
 go_wp2
 go_ret
 exact ⟨true,rfl,⟨(fun h=>Bool.noConfusion h),rfl⟩⟩
end
section
open Go.ChangeShapes Go.WideShapes Go.RowKit Go.Deep
theorem cellsTurnT:prog.cellsOf 166=10:=zj
theorem i64Wf {z:Int} (h:(Lit.int .i64 z).wf=true): -9223372036854775808<=z/\z<=9223372036854775807:=by
 simp [Lit.wf,IntKind.min,IntKind.max,IntKind.signed,IntKind.bits] at h
 omega
theorem u8Wf {k:Nat} (h:(Lit.int .u8 (k:Int)).wf=true):k<256:=by
 simp [Lit.wf,IntKind.min,IntKind.max,IntKind.signed,IntKind.bits] at h
 omega
theorem trod_turn {H:Type} {enc:TypeId×Value->H} {base:Nat} {held:Bool} {fuel:Nat} {cs:List Value} {x:DataW H×List MemPlace} (h:DataW.trod enc prog W base sp held fuel 166 cs=some x):
  ∃t:Trn,cs=encTr t/\(TrnShort t->TrnOk t):=by
 obtain ⟨xs,m,_,rfl,hl,hlen,hf⟩:=DataW.trod_struct underlying166 h
 rw [cellsTurnT] at hl
 match cs,hl with
 | [c0,c1,c2,c3,c4,c5,c6,c7,c8,c9],_=>
 match xs,hlen with
 | [y0,y1,y2],_=>
  have g0:=hf 0 _ rfl
  have g1:=hf 1 _ rfl
  have g2:=hf 2 _ rfl
  simp [cellsInt,cellsOp] at g0 g1 g2
  obtain ⟨a,e0,rfl,w0⟩:=DataW.trod_int underlying3 g0
  obtain ⟨f,e1,rfl,w1⟩:=DataW.trod_int underlying3 g1
  obtain ⟨t,b,n,k,node,other,name,value,e2,-,wo⟩:=trod_op g2
  simp at e0 e1 e2
  obtain ⟨rfl,rfl,rfl,rfl,rfl,rfl,rfl,rfl⟩:=e2
  subst e0 e1
  exact ⟨(a,f,t,b,n,k,node,other,name,value),rfl,fun hs=>⟨hs.1,hs.2,u8Wf wo.k,i64Wf wo.node,i64Wf wo.other⟩⟩
theorem turns_in {H:Type} {enc:TypeId×Value->H} {base:Nat} {held:Bool} {len:Nat} {d:DataW H} {p:List MemPlace}
  (h:DataW.Trod enc prog W base sp held 77 (.slice ao len cap) d p):
  ∃xs:List Trn,xs.length=len/\len<=maxLen/\InRow encTr W ao xs/\∀t∈xs,TrnShort t->TrnOk t:=by
 obtain ⟨fuel,hf⟩:=h
 rcases open_slice underlying77 hf with ⟨hcs,_⟩ | ⟨a,len',cap',m,n,D,Pl,hcs,_,hl,hmax,hm,_,hx⟩
 ·simp [Value.cells] at hcs
  obtain ⟨rfl,rfl,rfl⟩:=hcs
  exact ⟨[],rfl,js _,.inl rfl,fun x hx=>yy⟩
 simp [Value.cells] at hcs
 obtain ⟨rfl,rfl,rfl⟩:=hcs
 have hmm:len<=m:=by subst hm;split<;>omega
 rcases ul len with h0 | hpos
 ·exact ⟨[],h0.symm,zi,.inl rfl,fun x hx=>yy⟩
 have key:∀i,i<len->∃o:Trn,(TrnShort o->TrnOk o)/\∀c,c<10->W.cell? ((a.add (i*10)).add c)=(encTr o)[c]? :=fun i hi=>by
  obtain ⟨cs',h1,h2⟩:=hx i zi
  rw [cellsTurnT] at h1
  obtain ⟨o,rfl,ho⟩:=trod_turn h2
  exact ⟨o,ho,fun c h10=>(World.cells?_some h1).2.2 c h10⟩
 obtain ⟨f,hf⟩:=choose_lt key
 obtain ⟨b,off,spot⟩:=a
 have h00:W.cell? ((Addr.add ⟨b,off,spot⟩ (0*10)).add 0)=some (.int .i64 (f 0).1):=(hf 0 hpos).2 0 zi
 have hspot:spot=none:=by simpa [Addr.add] using World.cell?_spot h00
 subst hspot
 refine ⟨(List.range len).map f,zm,zi,.inr ⟨b,off,rfl,fun j u hj=> ?_⟩,fun x hx=> ?_⟩
 ·have hjl:j<len*10:=by
   have:=(jh.1 hj).1
   rw [flat_len encTr_len] at this
   simpa using this
  have hi:j / 10<len:=zi
  have e:j / 10*10+j % 10=j:=zi
  have hm:((List.range len).map f)[j / 10]? =some (f (j / 10)):=by rw [jS,List.getElem?_range hi];rfl
  have h2:=flat_get (enc:=encTr) encTr_len hm (show j % 10<10 by omega)
  rw [e] at h2
  have h1:=(hf (j / 10) hi).2 (j % 10) zi
  rw [<-h2,hj,add_plain,add_plain,vG,e] at h1
  exact h1
 obtain ⟨i,hi,rfl⟩:=jO.1 hx
 exact (hf i (List.mem_range.1 hi)).1
