import Derived.Test.YtpdbnnimdkfajaaGreatDoorVS43
set_option linter.unusedSimpArgs false
set_option linter.unusedVariables false
set_option maxRecDepth 100000
set_option maxHeartbeats 64000000
namespace Go.Proofs.YtpdbnnimdkfajaaGreatDoor
section
open Go.RowKit Go.Lib Go.Sort
open scoped Classical
def LofOut (w:World) (xs:List OpX) (i:Int) (e:Ending) (w':World):Prop:=∃v' es,e= .returned v'/\Aside ((∃qs ms,ms.Perm (movsO xs)/\ByStamp ms/\IsPlaces (madeBy ms) qs/\qs.length<=200/\IsEnt qs i es)/\OwnE w' w.heap.size v' es/\Below w.heap.size w w')
theorem lessS (a b:ByteArray):Op.bytesLess a.toList b.toList=decide (a.data.toList<b.data.toList):=less_bytes _ _
theorem leqS (a b:ByteArray):(Op.bytesLess a.toList b.toList ||a.toList==b.toList)=true↔¬b.data.toList<a.data.toList:=by
 rw [lessS,strEq,uI,decide_eq_true_eq,decide_eq_true_eq]
 constructor
 ·rintro (h | h) k
  ·exact ue _ (List.lt_trans h k)
  subst h;exact ue _ k
 intro h
 by_cases e:a.data.toList=b.data.toList
 ·exact .inr (bytes_eq e)
 exact .inl ((bytesTotal e).resolve_right h)
theorem ownE_get {w:World} {B:Nat} {ao:Option Addr} {cap:Nat} {R:List Plc} (h:OwnE w B (.slice ao R.length cap) (R.map nk)) {k:Nat} {c i:Int} {nm:ByteArray} (hk:R[k]? =some (c,i,nm)):∃g,ao=some ⟨g,0,none⟩/\w.cell? ⟨g,k*2,none⟩=some (.string nm)/\w.cell? ⟨g,k*2+1,none⟩=some (.int .i64 c):=by
 have hl:k<R.length:=(jh.1 hk).1
 have h':OwnE w B (.slice ao (R.map nk).length cap) (R.map nk):=by rw [jG];exact h
 rcases ownE_nilv h' with ⟨_,q,_⟩ | ⟨g,rfl,_⟩
 ·have:=congrArg List.length q;simp at this;subst this;simp at hl
 have e:(R.map nk)[k]? =some (nm,c):=by rw [jS,hk];rfl
 have c0:=flat_get (enc:=encEn) (k:=2) encEn_len e (c:=0) zi
 have c1:=flat_get (enc:=encEn) (k:=2) encEn_len e (c:=1) zi
 refine ⟨g,rfl,?_,?_⟩
 ·rw [h'.cellAt (k*2) yo];simpa [encEn] using c0
 rw [h'.cellAt (k*2+1) yo];simpa [encEn] using c1
theorem movs_fine {xs:List OpX} (hw:WellK xs) {ms:List Mov} (hp:ms.Perm (movsO xs)):∀m∈ms,FineP m.2:=fun m hm=>by
 obtain ⟨x,hx,hk,e⟩:=mem_movs (hp.mem_iff.1 hm)
 have h2:=hw.ok x hx
 obtain ⟨t,b,n,kd,node,other,name,value⟩:=x
 have hk:kd=109:=hk
 subst hk
 rw [e]
 exact move_fine h2
theorem listOf_any (w:World) (b:Nat) (v:Value) (xs:List OpX) (hc:w.cell? ⟨b,1,none⟩=some v) (h:OpsAt w v xs) (hO:WellK xs) (hnd:xs.Nodup) (hn:xs.length<=200) (i:Int):
  Calls Tryz.prog 32 #[.pointer (some ⟨b,0,none⟩),.int .i64 i] w (LofOut w xs i):=by
 have hP:=placesOf_ref w v xs h hO hnd hn
 have HO:Aside (WellK xs):=hO
 clear h hO hnd hn
 go_enter Tryz.func32,Tryz.ntmps32
 go_wp2_with fail
 refine hP.mono ?_
 clear hP hc
 rintro e w1 ⟨v',qs,ms,rfl,h1,h2,h3,h4,h5,h6⟩
 obtain ⟨ap,cp,rfl⟩:=rowShape h5
 have Y:Aside (ms.Perm (movsO xs)/\ByStamp ms/\IsPlaces (madeBy ms) qs/\PlsAt w1 (.slice ap qs.length cp) qs/\Below w.heap.size w w1):=⟨h1,h2,h3,plsOwn h5,h6⟩
 clear h1 h2 h3 h5 h6
 go_wp2
 go_loopg [6,7] qs.length (fun kx s6 s7 wr=>∃(n:Nat) (R:List Plc) (ov:Value),ov=s6/\s7= .int .i64 (n:Int)/\n<=qs.length/\qs.length - n<=kx/\Aside (LofSt w1 qs i n R ov wr))
 case atStart=>exact ⟨0,[],_,rfl,rfl,js _,jj _,⟨LofAt.nil _ _,js _,ownE_nil _ _,jo _ _⟩⟩
 case round=>
  obtain ⟨n,R,ov,rfl,rfl,hnx,hkx,A⟩:=hrel
  obtain ⟨ao,co,hov⟩:=rowShape A.o.row
  rw [jG] at hov
  subst hov
  have hRn:R.length<=200:=by have:=A.o.len;omega
  by_cases hlt:n<qs.length
  ·have hltz:decide ((n:Int)<(qs.length:Int))=true:=by simp;omega
   have en:((n:Int)).toNat=n:=zi
   have pn:(0:Int)<=(n:Int):=zi
   have bn:(n:Int)<(qs.length:Int):=zi
   obtain ⟨⟨nd,j,s⟩,hp⟩:∃p:Plc,Aside (qs[n]? =some p):=⟨qs[n],ji hlt⟩
   obtain ⟨gp,hgp,r0,r1,r2⟩:=Y.o.2.2.2.1.three hp.o
   subst hgp
   have c0:=cellKept A.o.below r0
   have c1:=cellKept A.o.below r1
   have c2:=cellKept A.o.below r2
   have HC:Aside (w1.cell? ⟨gp,n*3,none⟩=some (.int .i64 nd)/\w1.cell? ⟨gp,n*3+2,none⟩=some (.string s)):=⟨r0,r2⟩
   clear r0 r1 r2
   by_cases hj:j=i
   ·have dj:(j !=i)=false:=by simp [hj]
    have HJ:=Lib.hid hj
    clear hj
    go_wp2
    clear c1
    obtain ⟨u,hu⟩:=za wr
    subst hu
    have HU:Aside (u.cell? ⟨gp,n*3,none⟩=some (.int .i64 nd)/\u.cell? ⟨gp,n*3+2,none⟩=some (.string s)):=⟨c0,c2⟩
    clear c0 c2
    go_loopg [8] R.length (fun ky s8 wr=>∃(k:Nat),s8= .int .i64 (k:Int)/\k<=R.length/\R.length - k<=ky/\Aside ((∀(m:Nat) q,m<k->R[m]? =some q->¬s.data.toList<q.2.2.data.toList)/\Below u.heap.size u wr))
    case atStart=>exact ⟨0,rfl,js _,jj _,⟨fun m q hm=>absurd hm (uv _),jo _ _⟩⟩
    case round=>
     obtain ⟨k,rfl,hkq,hky,K⟩:=hrel
     go_upto_region 8 with fail
     go_cut [47] (fun s47 wx=>∃z:Bool,s47= .bool z/\Aside ((z=true↔k<R.length/\∀q,R[k]? =some q->¬s.data.toList<q.2.2.data.toList)/\Below u.heap.size u wx))
     case first=>
      by_cases hkl:k<R.length
      ·have hkz:decide ((k:Int)<(R.length:Int))=true:=by simp;omega
       have ek:((k:Int)).toNat=k:=zi
       have pk:(0:Int)<=(k:Int):=zi
       have bk:(k:Int)<(R.length:Int):=zi
       obtain ⟨⟨qc,qi,qm⟩,hpk⟩:∃p:Plc,Aside (R[k]? =some p):=⟨R[k],ji hkl⟩
       obtain ⟨g,hg,y0,-⟩:=ownE_get (A.o.later K.o.2).row hpk.o
       subst hg
       have y2:=cellKept K.o.2 HU.o.2
       obtain ⟨b1,d1⟩:∃b1,Op.bytesLess qm.toList s.toList=b1:=⟨_,rfl⟩
       obtain ⟨b2,d2⟩:∃b2,(qm.toList==s.toList)=b2:=⟨_,rfl⟩
       have HB:Aside ((b1 ||b2)=true↔¬s.data.toList<qm.data.toList):=by
        show (b1 ||b2)=true↔_
        rw [<-d1,<-d2];exact leqS qm s
       go_quiet (fail)
       go_wp2
       go_meet
       exact ⟨(b1 ||b2),rfl,⟨fun h=>⟨hkl,fun q hq=>by rw [hpk.o] at hq;cases hq;exact HB.o.1 h⟩,fun h=>HB.o.2 (h.2 _ hpk.o)⟩,below_drewN K.o.2 _⟩
      have hkz:decide ((k:Int)<(R.length:Int))=false:=zk
      go_quiet (fail)
      go_wp2
      go_meet
      exact ⟨false,rfl,⟨fun h=>yA,fun h=>absurd h.1 hkl⟩,below_drewN K.o.2 _⟩
     obtain ⟨z,rfl,Z⟩:=hcut
     cases z with
     | true=>
      have Z1:Aside ((k<R.length/\∀q,R[k]? =some q->¬s.data.toList<q.2.2.data.toList)/\Below u.heap.size u wc):=⟨Z.o.1.1 rfl,Z.o.2⟩
      have hkl:=Z1.o.1.1
      clear Z
      go_wp2
      go_roundg (R.length - (k+1))
      case measure=>omega
      case rel=>
       refine ⟨k+1,zw,zi,jj _,⟨fun m q hm hq=> ?_,Z1.o.2⟩⟩
       rcases vh m k with h | h
       ·exact K.o.1 m q h hq
       obtain rfl:m=k:=zi
       exact Z1.o.1.2 q hq
     | false=>
      have KK:Aside (InsK R (nd,j,s) k/\LofSt w1 qs i n R (.slice ao R.length co) wc/\wc.cell? ⟨gp,n*3,none⟩=some (.int .i64 nd)/\wc.cell? ⟨gp,n*3+2,none⟩=some (.string s)):=
       ⟨⟨hkq,K.o.1,fun q hq=>Classical.not_not.1 fun hno=>by have:=Z.o.1.2 ⟨(jh.1 hq).1,fun q' hq'=>by rw [hq] at hq';cases hq';exact hno⟩;cases this⟩,A.o.later Z.o.2,cellKept Z.o.2 HU.o.1,cellKept Z.o.2 HU.o.2⟩
      clear Z K A HU
      have hk1:k<=R.length:=hkq
      obtain ⟨v1,w2,hrun1,H1⟩:=KK.o.2.1.two zi hk1 83
      have HX:Aside (w2.drew.cell? ⟨gp,n*3,none⟩=some (.int .i64 nd)/\w2.drew.cell? ⟨gp,n*3+2,none⟩=some (.string s)):=⟨cellKept H1.o.2.drew KK.o.2.2.1,cellKept H1.o.2.drew KK.o.2.2.2⟩
      obtain ⟨X,hX⟩:=za w2.drew
      obtain ⟨v2,w3,hrun2,H2⟩:=own_more H1.o zk (wx:=X) (by rw [hX];exact (jo _ w2).drew) (s,nd) 83
      have HY:Aside ((X.alloc (.cells #[.string s,.int .i64 nd] 87)).cell? ⟨gp,n*3,none⟩=some (.int .i64 nd)/\(X.alloc (.cells #[.string s,.int .i64 nd] 87)).cell? ⟨gp,n*3+2,none⟩=some (.string s)):=by
       have hb:Below X.heap.size X (X.alloc (.cells #[.string s,.int .i64 nd] 87)):=zg X _
       exact ⟨cellKept hb (by rw [hX];exact HX.o.1),cellKept hb (by rw [hX];exact HX.o.2)⟩
      have HZ:Aside (w3.cell? ⟨gp,n*3,none⟩=some (.int .i64 nd)/\w3.cell? ⟨gp,n*3+2,none⟩=some (.string s)):=⟨cellKept H2.o.2 KK.o.2.2.1,cellKept H2.o.2 KK.o.2.2.2⟩
      have HXX:=Lib.hid hX
      have dk0:(0:Int)<=(k:Int):=zi
      have ek:((k:Int)).toNat=k:=zi
      have dk2:(k:Int)<=(R.length:Int):=zi
      clear hX
      rcases ownE_nilv (show OwnE wc w1.heap.size (.slice ao (R.map nk).length co) (R.map nk) by rw [jG];exact KK.o.2.1.row) with ⟨rfl,hR0,rfl⟩ | ⟨g,rfl,hco⟩
      ·obtain rfl:R= []:=List.map_eq_nil_iff.1 hR0
       obtain rfl:k=0:=by simpa using hk1
       go_upto_region 12 with (at_builtin;refine Lib.wpList_append_run _ rfl _ _ _ _ rfl _ _ rfl rfl _ _ hrun1 ?_)
       clear hrun1
       refine wp_region_H (S:=fun w'=>w'.cell? ⟨gp,n*3,none⟩=some (.int .i64 nd)/\w'.cell? ⟨gp,n*3+2,none⟩=some (.string s)) zj HX.o (fun hHeld=> ?_)
       rw [<-HXX.o] at hHeld |-
       refine tk 0 hHeld ?_
       refine tk 1 hHeld ?_
       refine tk 2 hHeld ?_
       refine tk 3 hHeld ?_
       refine tk 4 hHeld ?_
       refine tk 5 hHeld ?_ (hy:=Or.inl ⟨zu,zT⟩)
       refine tk 6 hHeld ?_
       refine tk 7 hHeld ?_
       refine tk 8 hHeld ?_
       refine tk 9 hHeld ?_
       refine tk 10 hHeld ?_ (hy:=Or.inl ⟨zu,zT⟩)
       refine tk 11 hHeld ?_
       refine wpAnyH_one (i:=12) zj rfl (fun K hK=> ?_)
       go_simp
       refine hK _ _ HY.o ?_
       clear hK K
       refine qn ?_
       refine wpAnyH_one (i:=13) zj rfl (fun K hK=> ?_)
       rw [if_pos zu]
       simp only [vv,vT,vV]
       refine Lib.wp_append_run _ _ _ _ _ rfl v1 (.slice (some ⟨X.heap.size,0,none⟩) 1 1) rfl rfl _ w3 hrun2 ?_
       refine hK _ _ HZ.o ?_
       clear hK K hrun2
       refine qn ?_
       refine wpAnyH_one (i:=14) zj rfl (fun K hK=> ?_)
       go_simp
       refine hK _ _ HZ.o ?_
       clear hK K
       refine wpAnyH_done zj ?_ _
       clear hHeld
       obtain ⟨v3,w4,hrun3,H3⟩:=KK.o.2.1.three Y.o.2.2.1.rise zi hp.o HJ.o KK.o.1 H2.o none 0 (.inl rfl) (fun q=>rfl) 83
       go_wp2_with (at_builtin;refine Lib.wpList_append_run _ rfl _ _ _ _ rfl _ _ rfl rfl _ _ hrun3 ?_)
       clear hrun3
       go_wp2
       go_roundg (qs.length - (n+1))
       case measure=>omega
       case rel=>exact ⟨n+1,_,_,rfl,zw,zi,jj _,H3.o.1⟩
      rw [jG] at hco
      have dk1:(k:Int)<=(co:Int):=zi
      go_upto_region 12 with (at_builtin;refine Lib.wpList_append_run _ rfl _ _ _ _ rfl _ _ rfl rfl _ _ hrun1 ?_)
      clear hrun1
      refine wp_region_H (S:=fun w'=>w'.cell? ⟨gp,n*3,none⟩=some (.int .i64 nd)/\w'.cell? ⟨gp,n*3+2,none⟩=some (.string s)) zj HX.o (fun hHeld=> ?_)
      rw [<-HXX.o] at hHeld |-
      refine tk 0 hHeld ?_
      refine tk 1 hHeld ?_
      refine tk 2 hHeld ?_
      refine tk 3 hHeld ?_
      refine tk 4 hHeld ?_
      refine tk 5 hHeld ?_ (hy:=Or.inl ⟨zu,zT⟩)
      refine tk 6 hHeld ?_
      refine tk 7 hHeld ?_
      refine tk 8 hHeld ?_
      refine tk 9 hHeld ?_
      refine tk 10 hHeld ?_ (hy:=Or.inl ⟨zu,zT⟩)
      refine tk 11 hHeld ?_
      refine wpAnyH_one (i:=12) zj rfl (fun K hK=> ?_)
      go_simp
      refine hK _ _ HY.o ?_
      clear hK K
      refine qn ?_
      refine wpAnyH_one (i:=13) zj rfl (fun K hK=> ?_)
      rw [if_pos zu]
      simp only [vv,vT,vV]
      refine Lib.wp_append_run _ _ _ _ _ rfl v1 (.slice (some ⟨X.heap.size,0,none⟩) 1 1) rfl rfl _ w3 hrun2 ?_
      refine hK _ _ HZ.o ?_
      clear hK K hrun2
      refine qn ?_
      refine wpAnyH_one (i:=14) zj rfl (fun K hK=> ?_)
      go_simp
      refine hK _ _ HZ.o ?_
      clear hK K
      refine wpAnyH_done zj ?_ _
      clear hHeld
      by_cases hkc:k=co
      ·subst hkc
       obtain ⟨v3,w4,hrun3,H3⟩:=KK.o.2.1.three Y.o.2.2.1.rise zi hp.o HJ.o KK.o.1 H2.o (some ⟨g,0,none⟩) 0 (.inl (by rw [uG zi];rfl)) (fun q=>by cases q) 83
       have hl0:R.length - k=0:=zi
       rw [hl0] at hrun3
       go_wp2_with (at_builtin;refine Lib.wpList_append_run _ rfl _ _ _ _ rfl _ _ rfl rfl _ _ hrun3 ?_)
       clear hrun3
       go_wp2
       go_roundg (qs.length - (n+1))
       case measure=>omega
       case rel=>exact ⟨n+1,_,_,rfl,zw,zi,jj _,H3.o.1⟩
      have hne:¬co=k:=fun h=>hkc h.symm
      obtain ⟨v3,w4,hrun3,H3⟩:=KK.o.2.1.three Y.o.2.2.1.rise zi hp.o HJ.o KK.o.1 H2.o (some ⟨g,k*2,none⟩) (co - k) (by
       have h1:=(ownE_in (show OwnE wc w1.heap.size (.slice (some ⟨g,0,none⟩) (R.map nk).length co) (R.map nk) by rw [jG];exact KK.o.2.1.row)).later (H2.o.2)
       have h2:=inRow_drop h1 k yo
       rwa [<-List.map_drop] at h2) (fun q=>by cases q) 83
      go_wp2_with (at_builtin;refine Lib.wpList_append_run _ rfl _ _ _ _ rfl _ _ rfl rfl _ _ hrun3 ?_)
      clear hrun3
      go_wp2
      go_roundg (qs.length - (n+1))
      case measure=>omega
      case rel=>exact ⟨n+1,_,_,rfl,zw,zi,jj _,H3.o.1⟩
   have dj:(j !=i)=true:=by simp [hj]
   have A':Aside (LofSt w1 qs i (n+1) R (.slice ao R.length co) wr):=by
    have h1:=A.o
    exact ⟨h1.lof.skip hp.o hj,by have:=h1.len;omega,h1.row,h1.below⟩
   clear hj
   go_wp2
   go_roundg (qs.length - (n+1))
   case measure=>omega
   case rel=>exact ⟨n+1,R,_,rfl,zw,zi,jj _,A'⟩
  have hltz:decide ((n:Int)<(qs.length:Int))=false:=zk
  have A1:Aside (LofSt w1 qs i qs.length R (.slice ao R.length co) wr):=by
   have h1:=A.o
   obtain rfl:n=qs.length:=zi
   exact h1
  clear A
  go_wp2
  obtain ⟨u,hu⟩:=za wr
  subst hu
  have SH:Aside (∀p∈R,0<=p.1/\p.1<2^62/\p.2.2.size<=60):=by
   show ∀p∈R,0<=p.1/\p.1<2^62/\p.2.2.size<=60
   intro p hp
   have hm:=A1.o.lof.perm.mem_iff.1 hp
   rw [jX] at hm
   have hf:=(good_made (movs_fine HO.o Y.o.1)).fine p.1 p ((Y.o.2.2.1.mem p).1 (vx.1 hm).1)
   exact ⟨hf.lo,hf.hi,hf.sz⟩
  go_loopg [10,11] R.length (fun kx s10 s11 wr=>∃(m:Nat) (ov:Value),ov=s10/\s11= .int .i64 (m:Int)/\m<=R.length/\R.length - m<=kx/\Aside (OwnE wr u.heap.size ov ((R.take m).map (fun p=>(nmB qs p,p.1)))/\Below u.heap.size u wr))
  case atStart=>exact ⟨0,_,rfl,rfl,js _,jj _,⟨ownE_nil _ _,jo _ _⟩⟩
  case round=>
   obtain ⟨m,ov,rfl,rfl,hm,hmx,E⟩:=hrel
   by_cases hlt2:m<R.length
   ·have hltz2:decide ((m:Int)<(R.length:Int))=true:=by simp;omega
    have em:((m:Int)).toNat=m:=zi
    have pm:(0:Int)<=(m:Int):=zi
    have bm:(m:Int)<(R.length:Int):=zi
    obtain ⟨⟨nd,j,s⟩,hp⟩:∃p:Plc,Aside (R[m]? =some p):=⟨R[m],ji hlt2⟩
    obtain ⟨g,hg,y0,y1⟩:=ownE_get (A1.o.later E.o.2).row hp.o
    subst hg
    have FQ:Aside (0<=nd/\nd<2^62/\s.size<=60):=SH.o _ (jm hp.o)
    have NX:Aside (∀(wx:World) (ty:TypeId),Below wr.heap.size wr wx->∃v2 w2,(Builtin.append_ #[83,83] ty #[ov,.slice (some ⟨wx.heap.size,0,none⟩) 1 1]).run Tryz.prog (wx.alloc (.cells #[.string (nmB qs (nd,j,s)),.int .i64 nd] 87))= .ok v2 w2/\Aside (OwnE w2 u.heap.size v2 ((R.take (m+1)).map (fun p=>(nmB qs p,p.1)))/\Below u.heap.size u w2)):=by
     show ∀(wx:World) (ty:TypeId),_->_
     intro wx ty hb
     obtain ⟨v2,w2,h1,h2⟩:=own_more E.o zk hb (nmB qs (nd,j,s),nd) ty
     refine ⟨v2,w2,h1,?_,h2.o.2⟩
     have e:(R.take m).map (fun p=>(nmB qs p,p.1))++ [(nmB qs (nd,j,s),nd)]=(R.take (m+1)).map (fun p=>(nmB qs p,p.1)):=by
      rw [jL,hp.o,jY];rfl
     rw [<-e];exact h2.o.1
    by_cases h0:m=0
    ·have d0:decide ((0:Int)<(m:Int))=false:=by simp;omega
     have d0n:decide (0<m)=false:=zk
     have en:nmB qs (nd,j,s)=s:=by
      unfold nmB;rw [A1.o.lof.first (by rw [<-h0];exact hp.o)];rfl
     obtain ⟨v2,w2,hrun,H2⟩:=NX.o wr 83 (jo _ wr)
     rw [en] at hrun
     clear NX h0 en
     go_wp2_with (at_builtin;refine Lib.wpList_append_run _ rfl _ _ _ _ rfl _ _ rfl rfl _ _ hrun ?_)
     clear hrun
     go_wp2
     go_roundg (R.length - (m+1))
     case measure=>omega
     case rel=>exact ⟨m+1,_,rfl,zw,zi,jj _,H2⟩
    have d0:decide ((0:Int)<(m:Int))=true:=zk
    have d0n:decide (0<m)=true:=zk
    obtain ⟨q,hq⟩:∃q,m=q+1:=⟨m - 1,zi⟩
    obtain ⟨⟨qc,qi,qm⟩,hpq⟩:∃p:Plc,Aside (R[q]? =some p):=⟨R[q],ji zi⟩
    obtain ⟨g',hg',x0,-⟩:=ownE_get (A1.o.later E.o.2).row hpq.o
    cases hg'
    have hw:IntKind.i64.wrap ((m:Int) - 1)=(q:Int):=zq
    have eq':((q:Int)).toNat=q:=zi
    have pq:(0:Int)<=(q:Int):=zi
    have bq:(q:Int)<(R.length:Int):=zi
    have TW:Aside (qs.any (aheadB (nd,j,s))=decide (qm=s)):=A1.o.lof.twin (j:=q) (p:=(nd,j,s)) (q:=(qc,qi,qm)) (by rw [<-hq];exact hp.o) hpq.o
    obtain ⟨b2,d2⟩:∃b2,(qm.toList==s.toList)=b2:=⟨_,rfl⟩
    have TB:Aside (qs.any (aheadB (nd,j,s))=b2):=by
     show qs.any (aheadB (nd,j,s))=b2
     rw [TW.o,<-d2,strEq]
    clear TW h0 hq
    cases b2 with
    | true=>
     have en:nmB qs (nd,j,s)=(s++⟨#[126]⟩)++⟨(Lib.itoa nd).toArray⟩:=by unfold nmB;rw [TB.o];rfl
     have hIL:(Lib.itoa nd).length<=1000:=by have:=Lib.itoa_length_le nd yC yC;omega
     have n1:¬9223372036854775807<s.size+1:=yC
     have n2:¬9223372036854775807<s.size+1+(Lib.itoa nd).length:=yC
     have hdec:=decimal_any nd wr yC yC
     have EN:=Lib.hid en
     clear en TB
     go_wp2_with fail
     refine hdec.mono ?_
     clear hdec
     rintro e w5 ⟨rfl,hb5⟩
     obtain ⟨v2,w2,hrun,H2⟩:=NX.o w5 83 hb5
     rw [EN.o] at hrun
     have z1:=cellKept hb5 y1
     clear NX EN hb5 y0 y1 x0
     go_wp2_with (at_builtin;refine Lib.wpList_append_run _ rfl _ _ _ _ rfl _ _ rfl rfl _ _ hrun ?_)
     clear hrun
     go_wp2
     go_roundg (R.length - (m+1))
     case measure=>omega
     case rel=>exact ⟨m+1,_,rfl,zw,zi,jj _,H2⟩
    | false=>
     have en:nmB qs (nd,j,s)=s:=by unfold nmB;rw [TB.o];rfl
     obtain ⟨v2,w2,hrun,H2⟩:=NX.o wr 83 (jo _ wr)
     rw [en] at hrun
     clear NX en TB
     go_wp2_with (at_builtin;refine Lib.wpList_append_run _ rfl _ _ _ _ rfl _ _ rfl rfl _ _ hrun ?_)
     clear hrun
     go_wp2
     go_roundg (R.length - (m+1))
     case measure=>omega
     case rel=>exact ⟨m+1,_,rfl,zw,zi,jj _,H2⟩
   have hltz2:decide ((m:Int)<(R.length:Int))=false:=zk
   go_wp2
   go_ret
   obtain rfl:m=R.length:=zi
   have hE:=E.o.1
   rw [jX] at hE
   exact ⟨_,_,rfl,⟨qs,ms,Y.o.1,Y.o.2.1,Y.o.2.2.1,h4,A1.o.lof.ent⟩,owns_base hE qS,(zh Y.o.2.2.2.2 A1.o.below).trans (E.o.2.mono qS)⟩
