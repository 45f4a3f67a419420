import Derived.Test.YtfkekfibjnjcnaaGreatDoorMZ38
set_option linter.unusedSimpArgs false
set_option linter.unusedVariables false
set_option maxRecDepth 100000
set_option maxHeartbeats 64000000
namespace Go.Proofs.YtfkekfibjnjcnaaGreatDoor
open Go.Proofs.Tryz
variable {N:List NoteX} {B Mb bm n pc pg:Nat} {ad:Nat→Addr} {st:Nat→DSt} {bp br d ow:Nat→Nat} {gd:Nat→Option Obj} {K:Nat→Rws} {dv:Nat→Value} {fv:Value}
section
open Go.RowKit Go.Lib Go.Sort Go.Maps
open scoped Classical
theorem askAll_any (w:World) (hn4:n<=4) (h:MeshS gd B n bm K st [] w) (hE:EnvM B ad w) (hK:∀r,r<n->(allR (K r)).length<=1000):
  Calls prog 28 #[.pointer (some ⟨bm,0,none⟩)] w fun e w'=>(∃u,e= .returned u)/\Aside (MeshS gd B n bm K st (asksAll K n n) w'/\Below B w w'):=by
 have HM:Aside (MeshS gd B n bm K st [] w/\EnvM B ad w/\B<=w.heap.size):=⟨h,hE,hE.t.env.size⟩
 obtain ⟨ow,pv,fv,bp,br,d,dv,c,hm⟩:=h
 have m0:=hm.mesh.c0
 obtain ⟨po,pc,hpv⟩:=rowIs hm.peers
 subst hpv
 clear hm hE
 go_enter func28,ntmps28
 go_wp2
 clear m0
 go_loopg [9] n (fun kx s9 wr=>∃k:Nat,s9= .int .i64 (k:Int)/\k<=n/\n - k<=kx/\Aside (MeshS gd B n bm K st (asksAll K n k) wr/\Below B w wr))
 case atStart=>exact ⟨0,rfl,vD _,vm _,HM.o.1,vu _ _⟩
 case round=>
  obtain ⟨k,rfl,hk,hkx,A⟩:=hrel
  by_cases hlt:k<n
  ·have d1:decide ((k:Int)<(n:Int))=true:=by simp;omega
   have d1n:decide (k<n)=true:=zl
   have HMK:Aside (MeshS gd B n bm K st (asksAll K n k) wr/\Below B w wr):=A.o
   obtain ⟨ow1,pv1,fv1,bp1,br1,d1',dv1,c1,hm1⟩:=A.o.1
   have m1:=hm1.mesh.c0
   obtain ⟨po1,pc1,hpv1⟩:=rowIs hm1.peers
   subst hpv1
   obtain ⟨u,hu⟩:=za wr
   subst hu
   clear hm1 A
   go_wp2
   clear m1
   go_loopg [17] n (fun ky s17 wy=>∃m:Nat,s17= .int .i64 (m:Int)/\m<=n/\n - m<=ky/\Aside (MeshS gd B n bm K st (asksAll K n k++asksRow K k m) wy/\Below B w wy))
   case atStart=>exact ⟨0,rfl,vD _,vm _,by rw [show asksRow K k 0= [] from rfl,ur];exact HMK.o⟩
   case round=>
    obtain ⟨m,rfl,hm',hmx,A⟩:=hrel
    by_cases hlm:m<n
    ·have e1:decide ((m:Int)<(n:Int))=true:=by simp;omega
     have e1n:decide (m<n)=true:=zl
     by_cases hkm:k=m
     ·subst hkm
      have e2:((k:Int)==(k:Int))=true:=zm
      have e3:((k:Int) !=(k:Int))=false:=zm
      have HA:Aside (MeshS gd B n bm K st (asksAll K n k++asksRow K k (k+1)) wr/\Below B w wr):=by rw [asksRow_same];exact A.o
      clear A
      go_wp2
      go_roundg (n - (k+1))
      case measure=>omega
      case rel=>exact ⟨k+1,zL,zj,vm _,HA.o⟩
     have e2:((k:Int)==(m:Int))=false:=qd
     have e3:((k:Int) !=(m:Int))=true:=by rw [bne_iff_ne];omega
     have e4:decide ((k:Int)=(m:Int))=false:=yW
     have hask:=ask_any wr (k:Int) (m:Int) A.o.1 (HM.o.2.1.mono A.o.2) hK ⟨zj,zj⟩ ⟨zj,zj⟩
     have hlen:(asksAll K n k++asksRow K k m).length<30:=by
      have h1:=asksAll_len K n k
      have h2:=asksRow_len K k m
      have h3:k*n<=3*4:=Nat.mul_le_mul zj hn4
      rw [vw]
      omega
     have HB:Aside (Below B w wr/\(asksAll K n k++asksRow K k m).length<30/\k≠m):=⟨A.o.2,hlen,hkm⟩
     obtain ⟨u2,hu2⟩:=za wr
     subst hu2
     clear A hlen hkm
     go_wp2_with fail
     refine hask.mono ?_
     clear hask
     rintro e w2 ⟨v2,N2,rfl,H2⟩
     have HA:Aside (MeshS gd B n bm K st (asksAll K n k++asksRow K k (m+1)) w2/\Below B w w2):=by
      refine ⟨?_,HB.o.1.trans H2.o.2.1⟩
      rcases H2.o.2.2 with ⟨_,_,a',b',_,_,_,e1,e2,e3⟩ | ⟨_,q⟩
      ·obtain rfl:k=a':=by omega
       obtain rfl:m=b':=zj
       rw [asksRow_succ K HB.o.2.2,<-vR,<-e3]
       exact H2.o.1
      exact absurd ⟨⟨zj,zj⟩,⟨zj,zj⟩,fun e=>HB.o.2.2 zj,HB.o.2.1⟩ q
     clear H2 HB
     go_wp2
     go_roundg (n - (m+1))
     case measure=>omega
     case rel=>exact ⟨m+1,zL,zj,vm _,HA.o⟩
    have e1:decide ((m:Int)<(n:Int))=false:=zl
    have e1n:decide (m<n)=false:=zl
    obtain rfl:m=n:=zj
    have HA:Aside (MeshS gd B m bm K st (asksAll K m (k+1)) wr/\Below B w wr):=by rw [asksAll_succ];exact A.o
    clear A
    go_wp2
    go_roundg (m - (k+1))
    case measure=>omega
    case rel=>exact ⟨k+1,zL,zj,vm _,HA.o⟩
  have d1:decide ((k:Int)<(n:Int))=false:=zl
  have d1n:decide (k<n)=false:=zl
  obtain rfl:k=n:=zj
  have HA:Aside (MeshS gd B k bm K st (asksAll K k k) wr/\Below B w wr):=A.o
  clear A
  go_wp2
  go_end0
  exact ⟨⟨_,rfl⟩,HA.o⟩
def Alike (n:Nat) (K:Nat->Rws):Prop:=∀r,r<n->∀x,x∈allR (K r)↔x∈allR (K 0)
structure AgAt (w:World) (Mb bm pg n pc:Nat) (fv:Value) (bp br d:Nat->Nat):Prop where
 box:w.cell? ⟨Mb,0,none⟩=some (.pointer (some ⟨bm,0,none⟩))
 mesh:MeshC w bm (.slice (some ⟨pg,0,none⟩) n pc) fv
 row:∀r,r<n->w.cell? ⟨pg,r,none⟩=some (.pointer (some ⟨bp r,0,none⟩))
 peer:∀r,r<n->PeerC w (bp r) (br r) (d r)
theorem AgAt.later {w w':World} (h:AgAt w Mb bm pg n pc fv bp br d) (hb:Below w.heap.size w w'):AgAt w' Mb bm pg n pc fv bp br d:=
 ⟨cellHeld hb h.box,(hb.block bm h.mesh.lt).trans h.mesh,fun r hr=>cellHeld hb (h.row r hr),fun r hr=>(h.peer r hr).same (hb.block _ (h.peer r hr).lt)⟩
theorem agree1_any {c:Nat->Nat->Nat} (w:World) (r:Nat) (hr:r<n) (h:MeshAt gd B w ow n bm (.slice (some ⟨pg,0,none⟩) n pc) fv bp br d dv c K st N) (hE:EnvM B ad w) (hA:AgAt w Mb bm pg n pc fv bp br d) (hK:∀r,r<n->(allR (K r)).length<=300):
  Calls prog 52 #[.pointer (some ⟨bp r,0,none⟩),.pointer (some ⟨Mb,0,none⟩)] w fun e w'=>∃z:Bool,e= .returned (.bool z)/\Aside ((Alike n K->z=false)/\Below w.heap.size w w'):=by
 have h0:0<n:=zj
 have hmD:=h.later (vu _ w).drew
 have hED:=hE.later (vu _ w).drew
 have hs1:=state_any w.drew (c r) (br r) (r:Int) (K r) (hmD.rep r hr).1.rep hED.t.is (hK r hr)
 have SD:AgAt w.drew Mb bm pg n pc fv bp br d:=hA.later (vu _ w).drew
 have HM:Aside (MeshAt gd B w.drew ow n bm (.slice (some ⟨pg,0,none⟩) n pc) fv bp br d dv c K st N/\EnvM B ad w.drew):=⟨hmD,hED⟩
 have pn:(0:Int)<(n:Int):=zj
 clear h hE hA hmD hED
 go_enter func52,ntmps52
 go_upto_region 1 with fail
 refine wp_region_H (S:=(fun w'=>AgAt w' Mb bm pg n pc fv bp br d)) zk SD (fun hHeld=> ?_)
 refine tk 0 hHeld ?_
 refine tk 1 hHeld ?_
 refine tk 2 hHeld ?_
 refine tk 3 hHeld ?_ (hy:=Or.inl ⟨zu,by intro w' hSw;have q1:=(hSw.peer r hr).c0;clear hSw;go_simp;try with_reducible rfl⟩)
 refine tk 5 hHeld ?_ (hy:=Or.inl ⟨zu,by intro w' hSw;have q1:=hSw.box;clear hSw;go_simp;try with_reducible rfl⟩)
 refine tk 6 hHeld ?_
 refine tk 7 hHeld ?_
 refine tk 8 hHeld ?_ (hy:=Or.inl ⟨zu,by intro w' hSw;have q1:=hSw.mesh.c0;clear hSw;go_simp;try with_reducible rfl⟩)
 refine tk 9 hHeld ?_
 refine tk 10 hHeld ?_ (hy:=Or.inl ⟨zu,by intro w' hSw;have q1:=hSw.row 0 h0;clear hSw;go_simp;try with_reducible rfl⟩)
 refine tk 11 hHeld ?_
 refine tk 12 hHeld ?_
 refine tk 13 hHeld ?_ (hy:=Or.inl ⟨zu,by intro w' hSw;have q1:=(hSw.peer 0 h0).c0;clear hSw;go_simp;try with_reducible rfl⟩)
 refine wpAnyH_one (i:=4) zk rfl (fun kQ hK'=> ?_)
 go_simp
 refine hs1.mono ?_
 clear hs1
 rintro e w2 ⟨s1,rfl,hS1,hb2⟩
 have S2:=SD.later hb2
 have hm2:=HM.o.1.later hb2
 have hs2:=state_any w2 (c 0) (br 0) ((0:Nat):Int) (K 0) (hm2.rep 0 h0).1.rep (HM.o.2.later hb2).t.is (hK 0 h0)
 obtain ⟨X,hX⟩:∃X:ByteArray,Aside (X=⟨s1.toArray⟩):=⟨_,rfl⟩
 rw [<-hX.o]
 have HB2:Aside (Below w.heap.size w w2/\StateIs (allR (K r)) s1):=⟨(vu _ w).drew.trans hb2,hS1⟩
 refine hK' _ _ S2 ?_
 clear hK' kQ hHeld hm2 hb2 hS1
 refine qn ?_
 refine wpAnyH_one (i:=14) zk rfl (fun kQ hK'=> ?_)
 go_simp
 refine hs2.mono ?_
 clear hs2
 rintro e w3 ⟨s2,rfl,hS2,hb3⟩
 have S3:=S2.later hb3
 obtain ⟨Y,hY⟩:∃Y:ByteArray,Aside (Y=⟨s2.toArray⟩):=⟨_,rfl⟩
 rw [<-hY.o]
 have HB3:Aside (Below w.heap.size w w3/\StateIs (allR (K 0)) s2):=⟨zi HB2.o.1 hb3,hS2⟩
 refine hK' _ _ S3 ?_
 clear hK' kQ hb3 hS2 S2
 have hHeld:=S3
 refine qn ?_
 refine tk 15 hHeld ?_
 refine wpAnyH_one (i:=16) zk rfl (fun kQ hK=> ?_)
 go_simp
 refine hK _ _ S3 ?_
 clear hK kQ
 refine wpAnyH_done zk ?_ _
 refine qn ?_
 go_wp2
 go_ret
 refine ⟨_,rfl,fun hal=> ?_,HB3.o.1⟩
 have k1:=(HM.o.1.rep r hr).1.wellK
 have k2:=(HM.o.1.rep 0 h0).1.wellK
 have hst:s1=s2:=StateIs.same k1.well ((Zw k1.num.nodup k2.num.nodup).2 (hal r hr)) HB2.o.2 HB3.o.2
 have hXY:X=Y:=by rw [hX.o,hY.o,hst]
 subst hXY
 simp
theorem agIdx_any {c:Nat->Nat->Nat} (w:World) (eg:∀args w,(callFunc 52 args).run prog w= .ok (.enter 52 args) w) (h:MeshAt gd B w ow n bm (.slice (some ⟨pg,0,none⟩) n pc) fv bp br d dv c K st N) (hE:EnvM B ad w) (hA:AgAt w Mb bm pg n pc fv bp br d) (hK:∀r,r<n->(allR (K r)).length<=300):
  Calls prog 84 #[.slice (some ⟨pg,0,none⟩) n pc,.func (.func 52) #[] #[.pointer (some ⟨Mb,0,none⟩)]] w fun e w'=>∃z:Int,e= .returned (.int .i64 z)/\Aside ((Alike n K->z= -1)/\Below w.heap.size w w'):=by
 have HM:Aside (MeshAt gd B w ow n bm (.slice (some ⟨pg,0,none⟩) n pc) fv bp br d dv c K st N/\EnvM B ad w/\AgAt w Mb bm pg n pc fv bp br d):=⟨h,hE,hA⟩
 have hn4:=h.few
 clear h hE hA
 go_enter func84,ntmps84
 go_wp2
 go_loopg [5,8] n (fun kx _ s8 wr=>∃(k:Nat),s8= .int .i64 (k:Int)/\k<=n/\n - k<=kx/\Aside (Below w.heap.size w wr))
 case atStart=>exact ⟨0,rfl,vD _,vm _,vu _ w⟩
 case round=>
  obtain ⟨k,rfl,hk,hkx,A⟩:=hrel
  by_cases hlt:k<n
  ·have hltz:decide ((k:Int)<(n:Int))=true:=by simp;omega
   have hltn:decide (k<n)=true:=zl
   have ek:((k:Int)).toNat=k:=zj
   have pk:(0:Int)<=(k:Int):=zj
   have bk:(k:Int)<(n:Int):=zj
   have r0:=(HM.o.2.2.later A.o).row k hlt
   have hcall:=agree1_any wr k hlt (HM.o.1.later A.o) (HM.o.2.1.later A.o) (HM.o.2.2.later A.o) hK
   have HA:Aside (Below w.heap.size w wr):=A.o
   clear A
   go_wp2_with fail
   go_at_fn 52
   refine hcall.mono ?_
   clear hcall r0
   rintro e w1 ⟨z,rfl,HZ⟩
   have HB1:Aside (Below w.heap.size w w1):=zi HA.o HZ.o.2
   cases z with
   | true=>
    go_wp2
    go_ret
    exact ⟨_,rfl,fun q=>absurd (HZ.o.1 q) zt,HB1.o⟩
   | false=>
    go_wp2
    go_roundg (n - (k+1))
    case measure=>omega
    case rel=>exact ⟨k+1,zL,zj,vm _,HB1.o⟩
  have hltz:decide ((k:Int)<(n:Int))=false:=zl
  have hltn:decide (k<n)=false:=zl
  have HA:Aside (Below w.heap.size w wr):=A.o
  clear A
  go_wp2
  go_ret
  exact ⟨_,rfl,fun _=>rfl,HA.o⟩
theorem agHas_any {c:Nat->Nat->Nat} (w:World) (h:MeshAt gd B w ow n bm (.slice (some ⟨pg,0,none⟩) n pc) fv bp br d dv c K st N) (hE:EnvM B ad w) (hA:AgAt w Mb bm pg n pc fv bp br d) (hK:∀r,r<n->(allR (K r)).length<=300):
  Calls prog 51 #[.slice (some ⟨pg,0,none⟩) n pc,.func (.func 52) #[] #[.pointer (some ⟨Mb,0,none⟩)]] w fun e w'=>∃z:Bool,e= .returned (.bool z)/\Aside ((Alike n K->z=false)/\Below w.heap.size w w'):=by
 have eg:∀args w,(callFunc 52 args).run prog w= .ok (.enter 52 args) w:=enters_of func52 zk rfl
 have hix:=agIdx_any w eg h hE hA hK
 clear h hE hA eg
 go_enter func51,ntmps51
 go_wp2_with fail
 refine hix.mono ?_
 clear hix
 rintro e w1 ⟨z,rfl,HZ⟩
 go_wp2
 go_ret
 exact ⟨_,rfl,fun q=>by rw [HZ.o.1 q];rfl,HZ.o.2⟩
theorem agree_any (w:World) (hn:1<=n) (h:MeshS gd B n bm K st N w) (hE:EnvM B ad w) (hK:∀r,r<n->(allR (K r)).length<=300):
  Calls prog 29 #[.pointer (some ⟨bm,0,none⟩)] w fun e w'=>∃z:Bool,e= .returned (.bool z)/\Aside ((Alike n K->z=true)/\Below w.heap.size w w'):=by
 obtain ⟨ow,pv,fv,bp,br,d,dv,c,hm⟩:=h
 have hpv:∃pg pc,pv= .slice (some ⟨pg,0,none⟩) n pc:=by
  rcases hm.peers.2 with ⟨_,q⟩ | ⟨g,cap,cur,q,_⟩
  ·omega
  exact ⟨g,cap,q⟩
 obtain ⟨pg,pc,rfl⟩:=hpv
 obtain ⟨Mb,hMb⟩:=ze w.heap.size
 obtain ⟨U,hU⟩:=ze (w.alloc (.cells #[.pointer (some ⟨bm,0,none⟩)] 25))
 have hbU:Below w.heap.size w U:=yA
 have hmU:=hm.later hbU
 have hbox:U.cell? ⟨Mb,0,none⟩=some (.pointer (some ⟨bm,0,none⟩)):=by
  have:=heap_alloc_new w (.cells #[.pointer (some ⟨bm,0,none⟩)] 25)
  unfold World.cell?
  dsimp only
  rw [hU.o,hMb.o,this]
  rfl
 have hA:AgAt U Mb bm pg n pc fv bp br d:=⟨hbox,hmU.mesh,fun r hr=>by rw [hmU.peers.cellAt r zj,ptrsP_get bp hr],fun r hr=>(hmU.peer r hr).1⟩
 have hhs:=agHas_any U hmU (hE.later hbU) hA hK
 have m0:=hmU.mesh.c0
 have HB:Aside (Below w.heap.size w U):=hbU
 clear hbU hmU hA hm hE
 go_enter func29,ntmps29
 go_upto_region 1 with fail
 rw [<-hU.o,<-hMb.o]
 go_wp2_with fail
 refine hhs.mono ?_
 clear hhs
 rintro e w1 ⟨z,rfl,HZ⟩
 go_wp2
 go_ret
 exact ⟨_,rfl,fun q=>by rw [HZ.o.1 q];rfl,zi HB.o HZ.o.2⟩
