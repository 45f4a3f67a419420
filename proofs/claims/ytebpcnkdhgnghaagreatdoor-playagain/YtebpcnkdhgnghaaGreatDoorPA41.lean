import Derived.Test.YtebpcnkdhgnghaaGreatDoorPA39
set_option linter.unusedSimpArgs false
set_option linter.unusedVariables false
set_option maxRecDepth 100000
set_option maxHeartbeats 64000000
namespace Go.Proofs.YtebpcnkdhgnghaaGreatDoor
open Go.Proofs.Tryz
variable {N:List aO} {B Mb bm n pc pg:Nat} {ad:Nat→Addr} {st:Nat→DSt} {bp br d ow:Nat→Nat} {gd:Nat→Option Obj} {K:Nat→Rws} {dv:Nat→Value} {fv:Value}
section
open Go.RowKit Go.Lib Go.Sort Go.Maps
open scoped Classical
theorem Cj (w:World) (hn4:n<=4) (h:MeshS gd B n bm K st [] w) (hE:EnvM B ad w) (hK:∀r,r<n->(aX (K r)).length<=1000):
  Calls prog 44 #[.pointer (some ⟨bm,0,none⟩)] w fun e w'=>(∃u,e= .returned u)/\Aside (MeshS gd B n bm K st (bZ K n n) w'/\Below B w w'):=by
 have HM:Aside (MeshS gd B n bm K st [] w/\EnvM B ad w/\B<=w.heap.size):=⟨h,hE,hE.t.env.size⟩
 obtain ⟨ow,pv,fv,bp,br,d,dv,c,hm⟩:=h
 have m0:=hm.mesh.c0
 obtain ⟨po,pc,hpv⟩:=dV hm.peers
 subst hpv
 clear hm hE
 go_enter func44,ntmps44
 go_wp2
 clear m0
 go_loopg [9] n (fun kx s9 wr=>∃k:Nat,s9= .int .i64 (k:Int)/\k<=n/\n - k<=kx/\Aside (MeshS gd B n bm K st (bZ K n k) wr/\Below B w wr))
 case atStart=>exact ⟨0,rfl,jX _,jL _,HM.o.1,jN _ _⟩
 case round=>
  obtain ⟨k,rfl,hk,hkx,A⟩:=hrel
  by_cases hlt:k<n
  ·have d1:decide ((k:Int)<(n:Int))=true:=by simp;omega
   have d1n:decide (k<n)=true:=zl
   have HMK:Aside (MeshS gd B n bm K st (bZ K n k) wr/\Below B w wr):=A.o
   obtain ⟨ow1,pv1,fv1,bp1,br1,d1',dv1,c1,hm1⟩:=A.o.1
   have m1:=hm1.mesh.c0
   obtain ⟨po1,pc1,hpv1⟩:=dV hm1.peers
   subst hpv1
   obtain ⟨u,hu⟩:=za wr
   subst hu
   clear hm1 A
   go_wp2
   clear m1
   go_loopg [17] n (fun ky s17 wy=>∃m:Nat,s17= .int .i64 (m:Int)/\m<=n/\n - m<=ky/\Aside (MeshS gd B n bm K st (bZ K n k++bz K k m) wy/\Below B w wy))
   case atStart=>exact ⟨0,rfl,jX _,jL _,by rw [show bz K k 0= [] from rfl,vZ];exact HMK.o⟩
   case round=>
    obtain ⟨m,rfl,hm',hmx,A⟩:=hrel
    by_cases hlm:m<n
    ·have e1:decide ((m:Int)<(n:Int))=true:=by simp;omega
     have e1n:decide (m<n)=true:=zl
     by_cases hkm:k=m
     ·subst hkm
      have e2:((k:Int)==(k:Int))=true:=zq
      have e3:((k:Int) !=(k:Int))=false:=zq
      have HA:Aside (MeshS gd B n bm K st (bZ K n k++bz K k (k+1)) wr/\Below B w wr):=by rw [rR];exact A.o
      clear A
      go_wp2
      go_roundg (n - (k+1))
      case measure=>omega
      case rel=>exact ⟨k+1,zI,zj,jL _,HA.o⟩
     have e2:((k:Int)==(m:Int))=false:=zM
     have e3:((k:Int) !=(m:Int))=true:=by rw [bne_iff_ne];omega
     have e4:decide ((k:Int)=(m:Int))=false:=zJ
     have hask:=pO wr (k:Int) (m:Int) A.o.1 (HM.o.2.1.mono A.o.2) hK ⟨zj,zj⟩ ⟨zj,zj⟩
     have hlen:(bZ K n k++bz K k m).length<30:=by
      have h1:=gI K n k
      have h2:=mV K k m
      have h3:k*n<=3*4:=Nat.mul_le_mul zj hn4
      rw [jP]
      omega
     have HB:Aside (Below B w wr/\(bZ K n k++bz K k m).length<30/\k≠m):=⟨A.o.2,hlen,hkm⟩
     obtain ⟨u2,hu2⟩:=za wr
     subst hu2
     clear A hlen hkm
     go_wp2_with fail
     refine hask.mono ?_
     clear hask
     rintro e w2 ⟨v2,N2,rfl,H2,_⟩
     have HA:Aside (MeshS gd B n bm K st (bZ K n k++bz K k (m+1)) w2/\Below B w w2):=by
      refine ⟨?_,HB.o.1.trans H2.o.2.1⟩
      rcases H2.o.2.2 with ⟨_,_,a',b',_,_,_,e1,e2,e3⟩ | ⟨_,q⟩
      ·obtain rfl:k=a':=by omega
       obtain rfl:m=b':=zj
       rw [rI K HB.o.2.2,<-vn,<-e3]
       exact H2.o.1
      exact absurd ⟨⟨zj,zj⟩,⟨zj,zj⟩,fun e=>HB.o.2.2 zj,HB.o.2.1⟩ q
     clear H2 HB
     go_wp2
     go_roundg (n - (m+1))
     case measure=>omega
     case rel=>exact ⟨m+1,zI,zj,jL _,HA.o⟩
    have e1:decide ((m:Int)<(n:Int))=false:=zl
    have e1n:decide (m<n)=false:=zl
    obtain rfl:m=n:=zj
    have HA:Aside (MeshS gd B m bm K st (bZ K m (k+1)) wr/\Below B w wr):=by rw [kP];exact A.o
    clear A
    go_wp2
    go_roundg (m - (k+1))
    case measure=>omega
    case rel=>exact ⟨k+1,zI,zj,jL _,HA.o⟩
  have d1:decide ((k:Int)<(n:Int))=false:=zl
  have d1n:decide (k<n)=false:=zl
  obtain rfl:k=n:=zj
  have HA:Aside (MeshS gd B k bm K st (bZ K k k) wr/\Below B w wr):=A.o
  clear A
  go_wp2
  go_end0
  exact ⟨⟨_,rfl⟩,HA.o⟩
def Db (n:Nat) (K:Nat->Rws):Prop:=∀r,r<n->∀x,x∈aX (K r)↔x∈aX (K 0)
structure AgAt (w:World) (Mb bm pg n pc:Nat) (fv:Value) (bp br d:Nat->Nat):Prop where
 box:w.cell? ⟨Mb,0,none⟩=some (.pointer (some ⟨bm,0,none⟩))
 mesh:MeshC w bm (.slice (some ⟨pg,0,none⟩) n pc) fv
 row:∀r,r<n->w.cell? ⟨pg,r,none⟩=some (.pointer (some ⟨bp r,0,none⟩))
 peer:∀r,r<n->PeerC w (bp r) (br r) (d r)
theorem AgAt.later {w w':World} (h:AgAt w Mb bm pg n pc fv bp br d) (hb:Below w.heap.size w w'):AgAt w' Mb bm pg n pc fv bp br d:=
 ⟨dt hb h.box,(hb.block bm h.mesh.lt).trans h.mesh,fun r hr=>dt hb (h.row r hr),fun r hr=>(h.peer r hr).same (hb.block _ (h.peer r hr).lt)⟩
theorem Bv {c:Nat->Nat->Nat} (w:World) (r:Nat) (hr:r<n) (h:MeshAt gd B w ow n bm (.slice (some ⟨pg,0,none⟩) n pc) fv bp br d dv c K st N) (hE:EnvM B ad w) (hA:AgAt w Mb bm pg n pc fv bp br d) (hK:∀r,r<n->(aX (K r)).length<=300):
  Calls prog 91 #[.pointer (some ⟨bp r,0,none⟩),.pointer (some ⟨Mb,0,none⟩)] w fun e w'=>∃z:Bool,e= .returned (.bool z)/\Aside ((Db n K->z=false)/\Below w.heap.size w w'):=by
 have h0:0<n:=zj
 have hmD:=h.later (jN _ w).drew
 have hED:=hE.later (jN _ w).drew
 have hs1:=gh w.drew (c r) (br r) (r:Int) (K r) (hmD.rep r hr).1.rep hED.t.is (hK r hr)
 have SD:AgAt w.drew Mb bm pg n pc fv bp br d:=hA.later (jN _ w).drew
 have HM:Aside (MeshAt gd B w.drew ow n bm (.slice (some ⟨pg,0,none⟩) n pc) fv bp br d dv c K st N/\EnvM B ad w.drew):=⟨hmD,hED⟩
 have pn:(0:Int)<(n:Int):=zj
 clear h hE hA hmD hED
 go_enter func91,ntmps91
 go_upto_region 1 with fail
 refine aM (S:=(fun w'=>AgAt w' Mb bm pg n pc fv bp br d)) zk SD (fun hHeld=> ?_)
 refine tk 0 hHeld ?_
 refine tk 1 hHeld ?_
 refine tk 2 hHeld ?_
 refine tk 3 hHeld ?_ (hy:=Or.inl ⟨zt,by intro w' hSw;have q1:=(hSw.peer r hr).c0;clear hSw;go_simp;try with_reducible rfl⟩)
 refine tk 5 hHeld ?_ (hy:=Or.inl ⟨zt,by intro w' hSw;have q1:=hSw.box;clear hSw;go_simp;try with_reducible rfl⟩)
 refine tk 6 hHeld ?_
 refine tk 7 hHeld ?_
 refine tk 8 hHeld ?_ (hy:=Or.inl ⟨zt,by intro w' hSw;have q1:=hSw.mesh.c0;clear hSw;go_simp;try with_reducible rfl⟩)
 refine tk 9 hHeld ?_
 refine tk 10 hHeld ?_ (hy:=Or.inl ⟨zt,by intro w' hSw;have q1:=hSw.row 0 h0;clear hSw;go_simp;try with_reducible rfl⟩)
 refine tk 11 hHeld ?_
 refine tk 12 hHeld ?_
 refine tk 13 hHeld ?_ (hy:=Or.inl ⟨zt,by intro w' hSw;have q1:=(hSw.peer 0 h0).c0;clear hSw;go_simp;try with_reducible rfl⟩)
 refine aZ (i:=4) zk rfl (fun kQ hK'=> ?_)
 go_simp
 refine hs1.mono ?_
 clear hs1
 rintro e w2 ⟨s1,rfl,hS1,hb2⟩
 have S2:=SD.later hb2
 have hm2:=HM.o.1.later hb2
 have hs2:=gh w2 (c 0) (br 0) ((0:Nat):Int) (K 0) (hm2.rep 0 h0).1.rep (HM.o.2.later hb2).t.is (hK 0 h0)
 obtain ⟨X,hX⟩:∃X:ByteArray,Aside (X=⟨s1.toArray⟩):=⟨_,rfl⟩
 rw [<-hX.o]
 have HB2:Aside (Below w.heap.size w w2/\StateIs (aX (K r)) s1):=⟨(jN _ w).drew.trans hb2,hS1⟩
 refine hK' _ _ S2 ?_
 clear hK' kQ hHeld hm2 hb2 hS1
 refine qn ?_
 refine aZ (i:=14) zk rfl (fun kQ hK'=> ?_)
 go_simp
 refine hs2.mono ?_
 clear hs2
 rintro e w3 ⟨s2,rfl,hS2,hb3⟩
 have S3:=S2.later hb3
 obtain ⟨Y,hY⟩:∃Y:ByteArray,Aside (Y=⟨s2.toArray⟩):=⟨_,rfl⟩
 rw [<-hY.o]
 have HB3:Aside (Below w.heap.size w w3/\StateIs (aX (K 0)) s2):=⟨zi HB2.o.1 hb3,hS2⟩
 refine hK' _ _ S3 ?_
 clear hK' kQ hb3 hS2 S2
 have hHeld:=S3
 refine qn ?_
 refine tk 15 hHeld ?_
 refine aZ (i:=16) zk rfl (fun kQ hK=> ?_)
 go_simp
 refine hK _ _ S3 ?_
 clear hK kQ
 refine wpAnyH_done zk ?_ _
 refine qn ?_
 go_wp2
 go_ret
 refine ⟨_,rfl,fun hal=> ?_,HB3.o.1⟩
 have k1:=(HM.o.1.rep r hr).1.wellK
 have k2:=(HM.o.1.rep 0 h0).1.wellK
 have hst:s1=s2:=StateIs.same k1.well ((List.perm_ext_iff_of_nodup k1.num.nodup k2.num.nodup).2 (hal r hr)) HB2.o.2 HB3.o.2
 have hXY:X=Y:=by rw [hX.o,hY.o,hst]
 subst hXY
 simp
theorem FC {c:Nat->Nat->Nat} (w:World) (eg:∀args w,(callFunc 91 args).run prog w= .ok (.enter 91 args) w) (h:MeshAt gd B w ow n bm (.slice (some ⟨pg,0,none⟩) n pc) fv bp br d dv c K st N) (hE:EnvM B ad w) (hA:AgAt w Mb bm pg n pc fv bp br d) (hK:∀r,r<n->(aX (K r)).length<=300):
  Calls prog 164 #[.slice (some ⟨pg,0,none⟩) n pc,.func (.func 91) #[] #[.pointer (some ⟨Mb,0,none⟩)]] w fun e w'=>∃z:Int,e= .returned (.int .i64 z)/\Aside ((Db n K->z= -1)/\Below w.heap.size w w'):=by
 have HM:Aside (MeshAt gd B w ow n bm (.slice (some ⟨pg,0,none⟩) n pc) fv bp br d dv c K st N/\EnvM B ad w/\AgAt w Mb bm pg n pc fv bp br d):=⟨h,hE,hA⟩
 have hn4:=h.few
 clear h hE hA
 go_enter func164,ntmps164
 go_wp2
 go_loopg [5,8] n (fun kx _ s8 wr=>∃(k:Nat),s8= .int .i64 (k:Int)/\k<=n/\n - k<=kx/\Aside (Below w.heap.size w wr))
 case atStart=>exact ⟨0,rfl,jX _,jL _,jN _ w⟩
 case round=>
  obtain ⟨k,rfl,hk,hkx,A⟩:=hrel
  by_cases hlt:k<n
  ·have hltz:decide ((k:Int)<(n:Int))=true:=by simp;omega
   have hltn:decide (k<n)=true:=zl
   have ek:((k:Int)).toNat=k:=zj
   have pk:(0:Int)<=(k:Int):=zj
   have bk:(k:Int)<(n:Int):=zj
   have r0:=(HM.o.2.2.later A.o).row k hlt
   have hcall:=Bv wr k hlt (HM.o.1.later A.o) (HM.o.2.1.later A.o) (HM.o.2.2.later A.o) hK
   have HA:Aside (Below w.heap.size w wr):=A.o
   clear A
   go_wp2_with fail
   go_at_fn 91
   refine hcall.mono ?_
   clear hcall r0
   rintro e w1 ⟨z,rfl,HZ⟩
   have HB1:Aside (Below w.heap.size w w1):=zi HA.o HZ.o.2
   cases z with
   | true=>
    go_wp2
    go_ret
    exact ⟨_,rfl,fun q=>absurd (HZ.o.1 q) zo,HB1.o⟩
   | false=>
    go_wp2
    go_roundg (n - (k+1))
    case measure=>omega
    case rel=>exact ⟨k+1,zI,zj,jL _,HB1.o⟩
  have hltz:decide ((k:Int)<(n:Int))=false:=zl
  have hltn:decide (k<n)=false:=zl
  have HA:Aside (Below w.heap.size w wr):=A.o
  clear A
  go_wp2
  go_ret
  exact ⟨_,rfl,fun _=>rfl,HA.o⟩
theorem DG {c:Nat->Nat->Nat} (w:World) (h:MeshAt gd B w ow n bm (.slice (some ⟨pg,0,none⟩) n pc) fv bp br d dv c K st N) (hE:EnvM B ad w) (hA:AgAt w Mb bm pg n pc fv bp br d) (hK:∀r,r<n->(aX (K r)).length<=300):
  Calls prog 90 #[.slice (some ⟨pg,0,none⟩) n pc,.func (.func 91) #[] #[.pointer (some ⟨Mb,0,none⟩)]] w fun e w'=>∃z:Bool,e= .returned (.bool z)/\Aside ((Db n K->z=false)/\Below w.heap.size w w'):=by
 have eg:∀args w,(callFunc 91 args).run prog w= .ok (.enter 91 args) w:=enters_of func91 zk rfl
 have hix:=FC w eg h hE hA hK
 clear h hE hA eg
 go_enter func90,ntmps90
 go_wp2_with fail
 refine hix.mono ?_
 clear hix
 rintro e w1 ⟨z,rfl,HZ⟩
 go_wp2
 go_ret
 exact ⟨_,rfl,fun q=>by rw [HZ.o.1 q];rfl,HZ.o.2⟩
theorem Ei (w:World) (hn:1<=n) (h:MeshS gd B n bm K st N w) (hE:EnvM B ad w) (hK:∀r,r<n->(aX (K r)).length<=300):
  Calls prog 46 #[.pointer (some ⟨bm,0,none⟩)] w fun e w'=>∃z:Bool,e= .returned (.bool z)/\Aside ((Db n K->z=true)/\Below w.heap.size w w'):=by
 obtain ⟨ow,pv,fv,bp,br,d,dv,c,hm⟩:=h
 have hpv:∃pg pc,pv= .slice (some ⟨pg,0,none⟩) n pc:=by
  rcases hm.peers.2 with ⟨_,q⟩ | ⟨g,cap,cur,q,_⟩
  ·omega
  exact ⟨g,cap,q⟩
 obtain ⟨pg,pc,rfl⟩:=hpv
 obtain ⟨Mb,hMb⟩:=ze w.heap.size
 obtain ⟨U,hU⟩:=ze (w.alloc (.cells #[.pointer (some ⟨bm,0,none⟩)] 43))
 have hbU:Below w.heap.size w U:=yg
 have hmU:=hm.later hbU
 have hbox:U.cell? ⟨Mb,0,none⟩=some (.pointer (some ⟨bm,0,none⟩)):=by
  have:=heap_alloc_new w (.cells #[.pointer (some ⟨bm,0,none⟩)] 43)
  unfold World.cell?
  dsimp only
  rw [hU.o,hMb.o,this]
  rfl
 have hA:AgAt U Mb bm pg n pc fv bp br d:=⟨hbox,hmU.mesh,fun r hr=>by rw [hmU.peers.cellAt r zj,lI bp hr],fun r hr=>(hmU.peer r hr).1⟩
 have hhs:=DG U hmU (hE.later hbU) hA hK
 have m0:=hmU.mesh.c0
 have HB:Aside (Below w.heap.size w U):=hbU
 clear hbU hmU hA hm hE
 go_enter func46,ntmps46
 go_upto_region 1 with fail
 rw [<-hU.o,<-hMb.o]
 go_wp2_with fail
 refine hhs.mono ?_
 clear hhs
 rintro e w1 ⟨z,rfl,HZ⟩
 go_wp2
 go_ret
 exact ⟨_,rfl,fun q=>by rw [HZ.o.1 q];rfl,zi HB.o HZ.o.2⟩
end
section
open Go.RowKit Go.Lib Go.Sort Go.Maps
open scoped Classical
def Kr (gd:Nat->Option Obj) (B n bm i:Nat) (G:List OpX) (K:Nat->Rws) (w:World) (e:Ending) (w':World):Prop:=∃(K':Nat->Rws) (D':Nat->List OpX) (st':Nat->DSt),e= .returned (.bool true)/\Aside (MeshS gd B n bm K' st' [] w'/\Below B w w'/\MeshI n i G K' D' st' []/\(∀r,r<n->∀x∈aX (K r),x∈aX (K' r))/\∀r,r<n->∀x∈G,x∈aX (K' r))
theorem IE {i:Nat} {G:List OpX} {D:Nat->List OpX} (w:World) (hn:1<=n) (h:MeshS gd B n bm K st N w) (hI:MeshI n i G K D st N) (hE:EnvM B ad w) (hi:i<=155):
  Calls prog 17 #[.pointer (some ⟨bm,0,none⟩)] w (Kr gd B n bm i G K w):=by
 obtain ⟨ow,pv,fv,bp,br,d,dv,c,hm⟩:=h
 have hn4:=hm.few
 have m1:=hm.mesh.c1
 have mf:=hm.mesh.fz 1
 obtain ⟨hmF,hkF⟩:=hm.flyAct (w1:=w) (v:=.slice none 0 0) (N':=[]) (Keeps.refl _ w) (vD _ _ _ _) (fun g hg=>qI) (fun x hx=>zP)
 obtain ⟨po,pc,hpv⟩:=dV hm.peers
 subst hpv
 obtain ⟨W,hW⟩:=ze (w.setCell ⟨bm,1,none⟩ (.slice none 0 0))
 rw [<-hW.o] at hmF hkF
 have m0:=hmF.mesh.c0
 have hI0:MeshI n i G K D st []:=hI.fly (fun x hx=>zP)
 have HW:Aside (MeshS gd B n bm K st [] W/\Below B w W/\MeshI n i G K D st []/\EnvM B ad w):=⟨⟨_,_,_,_,_,_,_,_,hmF⟩,hm.below hkF (fun k e=>xh),hI0,hE⟩
 clear hm hmF hkF hI hI0 hE
 go_enter func17,ntmps17
 go_upto_region 2 with fail
 rw [<-hW.o]
 clear m1 mf
 go_wp2
 clear m0
 go_loopg [11] n (fun kx s11 wr=>∃(k:Nat) (K1:Nat->Rws) (D1:Nat->List OpX) (st1:Nat->DSt),s11= .int .i64 (k:Int)/\k<=n/\n - k<=kx/\Aside (MeshS gd B n bm K1 st1 [] wr/\Below B w wr/\MeshI n i G K1 D1 st1 []/\(∀r,r<n->∀x∈aX (K r),x∈aX (K1 r))/\(1<=k->∀r,r<n->∀x∈G,x∈aX (K1 r))))
 case atStart=>exact ⟨0,K,D,st,rfl,jX _,jL _,HW.o.1,HW.o.2.1,HW.o.2.2.1,fun r _ x hx=>hx,fun q=>absurd q zj⟩
 case round=>
  obtain ⟨k,K1,D1,st1,rfl,hk,hkx,A⟩:=hrel
  by_cases hlt:k<n
  ·have d1:decide ((k:Int)<(n:Int))=true:=by simp;omega
   have d1n:decide (k<n)=true:=zl
   have hask:=Cj wr hn4 A.o.1 (HW.o.2.2.2.mono A.o.2.1) (fun r hr=>by have:=A.o.2.2.1.len hr;omega)
   have HA:Aside (Below B w wr/\MeshI n i G K1 D1 st1 []/\∀r,r<n->∀x∈aX (K r),x∈aX (K1 r)):=⟨A.o.2.1,A.o.2.2.1,A.o.2.2.2.1⟩
   obtain ⟨u0,hu0⟩:=za wr
   subst hu0
   clear A
   go_wp2_with fail
   refine hask.mono ?_
   clear hask
   rintro e w2 ⟨⟨u,rfl⟩,H2⟩
   have HS:Aside (MeshS gd B n bm K1 st1 (bZ K1 n n) w2/\Below B w w2/\MeshI n i G K1 D1 st1 (bZ K1 n n)/\(bZ K1 n n).length<=30/\Rnd n G K1 K1 (bZ K1 n n)):=by
    have hr:=Rnd.start (G:=G) (K:=K1) hn4
    refine ⟨H2.o.1,HA.o.1.trans H2.o.2,HA.o.2.1.fly (fun x hx=>.inr ?_),by have:=hr.short;omega,hr⟩
    obtain ⟨a,b,_,_,_,rfl⟩:=mem_asks.1 hx
    exact ⟨fun y hy=>absurd hy (by show ¬(y∈([]:List OpX));simp),jX _⟩
   clear H2
   go_wp2
   go_loopg [22] (left (bZ K1 n n)) (fun ky _ wy=>∃(K2:Nat->Rws) (D2:Nat->List OpX) (st2:Nat->DSt) (N2:List aO),left N2<=ky/\Aside (MeshS gd B n bm K2 st2 N2 wy/\Below B w wy/\MeshI n i G K2 D2 st2 N2/\N2.length<=30/\Rnd n G K1 K2 N2))
   case atStart=>exact ⟨K1,D1,st1,_,jL _,HS.o⟩
   case round=>
    obtain ⟨K2,D2,st2,N2,hleft,A⟩:=hrel
    clear HS
    obtain ⟨ow2,pv2,fv2,bp2,br2,d2,dv2,c2,hm2⟩:=A.o.1
    have n1:=hm2.mesh.c1
    obtain ⟨fo2,fc2,hfv2⟩:=dV hm2.fly
    subst hfv2
    clear hm2
    by_cases hN:N2= []
    ·have hN0:N2.length=0:=by rw [hN];rfl
     have e1:decide ((0:Int)<(N2.length:Int))=false:=by rw [hN0];rfl
     have e1n:decide (0<N2.length)=false:=by rw [hN0];rfl
     have HD:Aside (MeshS gd B n bm K2 st2 [] wr/\Below B w wr/\MeshI n i G K2 D2 st2 []/\(∀r,r<n->∀x∈aX (K r),x∈aX (K2 r))/\(1<=k+1->∀r,r<n->∀x∈G,x∈aX (K2 r))):=by
      have hR:=A.o.2.2.2.2
      have h1:=A.o.1
      have h3:=A.o.2.2.1
      rw [hN] at hR h1 h3
      exact ⟨h1,A.o.2.1,h3,fun r hr x hx=>hR.grows r hr x (HA.o.2.2 r hr x hx),fun _=>hR.done HA.o.2.1⟩
     clear A hN hN0 hleft
     go_wp2
     go_roundg (n - (k+1))
     case measure=>omega
     case rel=>exact ⟨k+1,K2,D2,st2,zI,zj,jL _,HD.o⟩
    have hNp:0<N2.length:=uF.2 hN
    have e1:decide ((0:Int)<(N2.length:Int))=true:=zl
    have e1n:decide (0<N2.length)=true:=zl
    have hdl:=mu wr 0 A.o.1 A.o.2.2.1 A.o.2.2.2.1 (HW.o.2.2.2.mono A.o.2.1) hi ⟨zj,zj⟩
    have HB:Aside (Below B w wr/\Rnd n G K1 K2 N2/\N2≠ []):=⟨A.o.2.1,A.o.2.2.2.2,hN⟩
    obtain ⟨u1,hu1⟩:=za wr
    subst hu1
    clear A hN hNp
    go_wp2_with fail
    refine hdl.mono ?_
    clear hdl
    rintro e w3 ⟨v3,K3,D3,st3,N3,rfl,H3,_⟩
    have hnx:=HB.o.2.1.next HA.o.2.1 HB.o.2.2 H3.o.2.2.2.2.1 H3.o.2.2.2.1
    have H4:Aside (MeshS gd B n bm K3 st3 N3 w3/\Below B w w3/\MeshI n i G K3 D3 st3 N3/\N3.length<=30/\Rnd n G K1 K3 N3):=⟨H3.o.1,HB.o.1.trans H3.o.2.1,H3.o.2.2.1,H3.o.2.2.2.1,hnx.1⟩
    have hlt3:=hnx.2
    clear hnx H3 HB
    go_wp2
    go_roundg (left N3)
    case measure=>omega
    case rel=>exact ⟨K3,D3,st3,N3,jL _,H4.o⟩
  have d1:decide ((k:Int)<(n:Int))=false:=zl
  have d1n:decide (k<n)=false:=zl
  obtain rfl:k=n:=zj
  have hag:=Ei wr hn A.o.1 (HW.o.2.2.2.mono A.o.2.1) (fun r hr=>by have:=A.o.2.2.1.len hr;omega)
  have HA:Aside (MeshS gd B k bm K1 st1 [] wr/\Below B w wr/\MeshI k i G K1 D1 st1 []/\(∀r,r<k->∀x∈aX (K r),x∈aX (K1 r))/\(∀r,r<k->∀x∈G,x∈aX (K1 r))):=⟨A.o.1,A.o.2.1,A.o.2.2.1,A.o.2.2.2.1,A.o.2.2.2.2 hn⟩
  obtain ⟨u0,hu0⟩:=za wr
  subst hu0
  clear A
  go_wp2_with fail
  refine hag.mono ?_
  clear hag
  rintro e w2 ⟨z,rfl,HZ⟩
  have hal:Db k K1:=fun r hr x=>⟨fun q=>HA.o.2.2.2.2 0 zj x (HA.o.2.2.1.inv.sub r hr x q),fun q=>HA.o.2.2.2.2 r hr x (HA.o.2.2.1.inv.sub 0 zj x q)⟩
  obtain rfl:z=true:=HZ.o.1 hal
  clear hal
  go_wp2
  go_ret
  obtain ⟨_,_,_,_,_,_,_,_,hmz⟩:=HA.o.1
  exact ⟨K1,D1,st1,rfl,⟨_,_,_,_,_,_,_,_,hmz.later HZ.o.2⟩,HA.o.2.1.trans (HZ.o.2.mono hmz.base),HA.o.2.2.1,HA.o.2.2.2.1,HA.o.2.2.2.2⟩
