import Derived.Test.YtfkekfibjnjcnaaGreatDoorMZ39
set_option linter.unusedSimpArgs false
set_option linter.unusedVariables false
set_option maxRecDepth 100000
set_option maxHeartbeats 64000000
namespace Go.Proofs.YtfkekfibjnjcnaaGreatDoor
section
open Go.RowKit Go.Lib Go.Sort Go.Maps
open scoped Classical
def CalmOut (gd:Nat->Option Obj) (B n bm i:Nat) (G:List OpX) (K:Nat->Rws) (w:World) (e:Ending) (w':World):Prop:=∃(K':Nat->Rws) (D':Nat->List OpX) (st':Nat->DSt),e= .returned (.bool true)/\Aside (MeshS gd B n bm K' st' [] w'/\Below B w w'/\MeshI n i G K' D' st' []/\(∀r,r<n->∀x∈allR (K r),x∈allR (K' r))/\∀r,r<n->∀x∈G,x∈allR (K' r))
theorem calm_any {gd:Nat->Option Obj} {B:Nat} {ad:Nat->Addr} {n bm:Nat} {K:Nat->Rws} {st:Nat->DSt} {N:List NoteX} {i:Nat} {G:List OpX} {D:Nat->List OpX} (w:World) (hn:1<=n) (h:MeshS gd B n bm K st N w) (hI:MeshI n i G K D st N) (hE:EnvM B ad w) (hi:i<=125):
  Calls Tryz.prog 13 #[.pointer (some ⟨bm,0,none⟩)] w (CalmOut gd B n bm i G K w):=by
 obtain ⟨ow,pv,fv,bp,br,d,dv,c,hm⟩:=h
 have hn4:=hm.few
 have m1:=hm.mesh.c1
 have mf:=hm.mesh.fz 1
 obtain ⟨hmF,hkF⟩:=hm.flyAct (w1:=w) (v:=.slice none 0 0) (N':=[]) (Keeps.refl _ w) (ud _ _ _ _) (fun g hg=>qr) (fun x hx=>zO)
 obtain ⟨po,pc,hpv⟩:=rowIs hm.peers
 subst hpv
 obtain ⟨W,hW⟩:=ze (w.setCell ⟨bm,1,none⟩ (.slice none 0 0))
 rw [<-hW.o] at hmF hkF
 have m0:=hmF.mesh.c0
 have hI0:MeshI n i G K D st []:=hI.fly (fun x hx=>zO)
 have HW:Aside (MeshS gd B n bm K st [] W/\Below B w W/\MeshI n i G K D st []/\EnvM B ad w):=⟨⟨_,_,_,_,_,_,_,_,hmF⟩,hm.below hkF (fun k e=>xH),hI0,hE⟩
 clear hm hmF hkF hI hI0 hE
 go_enter Tryz.func13,Tryz.ntmps13
 go_upto_region 2 with fail
 rw [<-hW.o]
 clear m1 mf
 go_wp2
 clear m0
 go_loopg [11] n (fun kx s11 wr=>∃(k:Nat) (K1:Nat->Rws) (D1:Nat->List OpX) (st1:Nat->DSt),s11= .int .i64 (k:Int)/\k<=n/\n - k<=kx/\Aside (MeshS gd B n bm K1 st1 [] wr/\Below B w wr/\MeshI n i G K1 D1 st1 []/\(∀r,r<n->∀x∈allR (K r),x∈allR (K1 r))/\(1<=k->∀r,r<n->∀x∈G,x∈allR (K1 r))))
 case atStart=>exact ⟨0,K,D,st,rfl,vD _,vm _,HW.o.1,HW.o.2.1,HW.o.2.2.1,fun r _ x hx=>hx,fun q=>absurd q zj⟩
 case round=>
  obtain ⟨k,K1,D1,st1,rfl,hk,hkx,A⟩:=hrel
  by_cases hlt:k<n
  ·have d1:decide ((k:Int)<(n:Int))=true:=by simp;omega
   have d1n:decide (k<n)=true:=zl
   have hask:=askAll_any wr hn4 A.o.1 (HW.o.2.2.2.mono A.o.2.1) (fun r hr=>by have:=A.o.2.2.1.len hr;omega)
   have HA:Aside (Below B w wr/\MeshI n i G K1 D1 st1 []/\∀r,r<n->∀x∈allR (K r),x∈allR (K1 r)):=⟨A.o.2.1,A.o.2.2.1,A.o.2.2.2.1⟩
   obtain ⟨u0,hu0⟩:=za wr
   subst hu0
   clear A
   go_wp2_with fail
   refine hask.mono ?_
   clear hask
   rintro e w2 ⟨⟨u,rfl⟩,H2⟩
   have HS:Aside (MeshS gd B n bm K1 st1 (asksAll K1 n n) w2/\Below B w w2/\MeshI n i G K1 D1 st1 (asksAll K1 n n)/\(asksAll K1 n n).length<=30/\Rnd n G K1 K1 (asksAll K1 n n)):=by
    have hr:=Rnd.start (G:=G) (K:=K1) hn4
    refine ⟨H2.o.1,HA.o.1.trans H2.o.2,HA.o.2.1.fly (fun x hx=>.inr ?_),by have:=hr.short;omega,hr⟩
    obtain ⟨a,b,_,_,_,rfl⟩:=mem_asks.1 hx
    exact ⟨fun y hy=>absurd hy yX,vD _⟩
   clear H2
   go_wp2
   go_loopg [22] (left (asksAll K1 n n)) (fun ky _ wy=>∃(K2:Nat->Rws) (D2:Nat->List OpX) (st2:Nat->DSt) (N2:List NoteX),left N2<=ky/\Aside (MeshS gd B n bm K2 st2 N2 wy/\Below B w wy/\MeshI n i G K2 D2 st2 N2/\N2.length<=30/\Rnd n G K1 K2 N2))
   case atStart=>exact ⟨K1,D1,st1,_,vm _,HS.o⟩
   case round=>
    obtain ⟨K2,D2,st2,N2,hleft,A⟩:=hrel
    clear HS
    obtain ⟨ow2,pv2,fv2,bp2,br2,d2,dv2,c2,hm2⟩:=A.o.1
    have n1:=hm2.mesh.c1
    obtain ⟨fo2,fc2,hfv2⟩:=rowIs hm2.fly
    subst hfv2
    clear hm2
    by_cases hN:N2= []
    ·have hN0:N2.length=0:=by rw [hN];rfl
     have e1:decide ((0:Int)<(N2.length:Int))=false:=by rw [hN0];rfl
     have e1n:decide (0<N2.length)=false:=by rw [hN0];rfl
     have HD:Aside (MeshS gd B n bm K2 st2 [] wr/\Below B w wr/\MeshI n i G K2 D2 st2 []/\(∀r,r<n->∀x∈allR (K r),x∈allR (K2 r))/\(1<=k+1->∀r,r<n->∀x∈G,x∈allR (K2 r))):=by
      have hR:=A.o.2.2.2.2
      have h1:=A.o.1
      have h3:=A.o.2.2.1
      rw [hN] at hR h1 h3
      exact ⟨h1,A.o.2.1,h3,fun r hr x hx=>hR.grows r hr x (HA.o.2.2 r hr x hx),fun _=>hR.done HA.o.2.1⟩
     clear A hN hN0 hleft
     go_wp2
     go_roundg (n - (k+1))
     case measure=>omega
     case rel=>exact ⟨k+1,K2,D2,st2,zL,zj,vm _,HD.o⟩
    have hNp:0<N2.length:=uN.2 hN
    have e1:decide ((0:Int)<(N2.length:Int))=true:=zl
    have e1n:decide (0<N2.length)=true:=zl
    have hdl:=deliver_any wr 0 A.o.1 A.o.2.2.1 A.o.2.2.2.1 (HW.o.2.2.2.mono A.o.2.1) hi ⟨zj,zj⟩
    have HB:Aside (Below B w wr/\Rnd n G K1 K2 N2/\N2≠ []):=⟨A.o.2.1,A.o.2.2.2.2,hN⟩
    obtain ⟨u1,hu1⟩:=za wr
    subst hu1
    clear A hN hNp
    go_wp2_with fail
    refine hdl.mono ?_
    clear hdl
    rintro e w3 ⟨v3,K3,D3,st3,N3,rfl,H3⟩
    have hnx:=HB.o.2.1.next HA.o.2.1 HB.o.2.2 H3.o.2.2.2.2.1 H3.o.2.2.2.1
    have H4:Aside (MeshS gd B n bm K3 st3 N3 w3/\Below B w w3/\MeshI n i G K3 D3 st3 N3/\N3.length<=30/\Rnd n G K1 K3 N3):=⟨H3.o.1,HB.o.1.trans H3.o.2.1,H3.o.2.2.1,H3.o.2.2.2.1,hnx.1⟩
    have hlt3:=hnx.2
    clear hnx H3 HB
    go_wp2
    go_roundg (left N3)
    case measure=>omega
    case rel=>exact ⟨K3,D3,st3,N3,vm _,H4.o⟩
  have d1:decide ((k:Int)<(n:Int))=false:=zl
  have d1n:decide (k<n)=false:=zl
  obtain rfl:k=n:=zj
  have hag:=agree_any wr hn A.o.1 (HW.o.2.2.2.mono A.o.2.1) (fun r hr=>by have:=A.o.2.2.1.len hr;omega)
  have HA:Aside (MeshS gd B k bm K1 st1 [] wr/\Below B w wr/\MeshI k i G K1 D1 st1 []/\(∀r,r<k->∀x∈allR (K r),x∈allR (K1 r))/\(∀r,r<k->∀x∈G,x∈allR (K1 r))):=⟨A.o.1,A.o.2.1,A.o.2.2.1,A.o.2.2.2.1,A.o.2.2.2.2 hn⟩
  obtain ⟨u0,hu0⟩:=za wr
  subst hu0
  clear A
  go_wp2_with fail
  refine hag.mono ?_
  clear hag
  rintro e w2 ⟨z,rfl,HZ⟩
  have hal:Alike k K1:=fun r hr x=>⟨fun q=>HA.o.2.2.2.2 0 zj x (HA.o.2.2.1.inv.sub r hr x q),fun q=>HA.o.2.2.2.2 r hr x (HA.o.2.2.1.inv.sub 0 zj x q)⟩
  obtain rfl:z=true:=HZ.o.1 hal
  clear hal
  go_wp2
  go_ret
  obtain ⟨_,_,_,_,_,_,_,_,hmz⟩:=HA.o.1
  exact ⟨K1,D1,st1,rfl,⟨_,_,_,_,_,_,_,_,hmz.later HZ.o.2⟩,HA.o.2.1.trans (HZ.o.2.mono hmz.base),HA.o.2.2.1,HA.o.2.2.2.1,HA.o.2.2.2.2⟩
