import Derived.Test.YtebpcnkdhgnghaaGreatDoorPA39
set_option linter.unusedSimpArgs false
set_option linter.unusedVariables false
set_option maxRecDepth 100000
set_option maxHeartbeats 64000000
namespace Go.Proofs.YtebpcnkdhgnghaaGreatDoor
open Go.Proofs.Tryz
variable {N:List aO} {B bm i n:Nat} {ad:Nat→Addr} {st:Nat→DSt} {gd:Nat→Option Obj} {K:Nat→Rws}
section
open Go.RowKit Go.Lib Go.Sort Go.Maps
open scoped Classical
def Oa (kd r k:Nat):Obj:=.cells #[.int .i64 (kd:Int),.int .i64 (r:Int),.int .i64 (k:Int)] 170 (0,0)
def MT (gd:Nat->Option Obj) (B bm i:Nat) (ad:Nat->Addr) (K:Nat->Rws) (st:Nat->DSt) (N:List aO) (kd r k:Nat) (w:World) (e:Ending) (w':World):Prop:=∃(cd:Nat) (G':List OpX) (K':Nat->Rws) (D':Nat->List OpX) (st':Nat->DSt) (N':List aO),e= .returned (eV ad cd)/\Aside (MeshS gd B 3 bm K' st' N' w'/\Below B w w'/\MeshI 3 (i+1) G' K' D' st' N'/\N'.length<=30)/\Aside (cd<=12/\PX K st N kd r k K' st' N' cd)
theorem MeshS.bare_of {q:Nat} {o:Obj} {w:World} (hq:gd q=none) (h:MeshS (fun k=>if k=q then some o else gd k) B n bm K st N w):MeshS gd B n bm K st N w:=
 h.free (q:=q) (o:=o) (if_pos rfl) (Keeps.refl _ w) (fun k u e=>by
  have hk:k≠q:=fun e'=>by rw [e',hq] at e;cases e
  exact ⟨(if_neg hk).trans e,hk⟩)
theorem sS (w:World) (r:Nat) (hr:r<n) (h:MeshS gd B n bm K st N w) (hE:EnvM B ad w) (hl:(aX (K r)).length<=300):
  Calls prog 158 #[.pointer (some ⟨bm,0,none⟩),.int .i64 (r:Int)] w (wB w (K r)):=by
 obtain ⟨ow,pv,fv,bp,br,d,dv,c,hm⟩:=h
 exact tu w r hr hm hE hl
theorem Nx {A:List OpX} {T:Int} {x y0 y:OpX} {cd0 cd a:Nat} {K':Nat->Rws} {st':Nat->DSt} (h:mg A T i n x (y0,cd0)) (hd:DoX K K' st st' a y0 cd0 y cd):cd<=12:=by
 have h1:=NY h
 rcases hd with ⟨_,e,_⟩ | ⟨_,_,e,_⟩ | ⟨_,_,e,_⟩
 ·rw [e];exact h1
 ·rw [e];exact FV _ _
 rw [e];omega
theorem Hw {G:List OpX} {D:Nat->List OpX} (w:World) (kd r k:Nat) (hkd:kd<16) (hr:r<3) (hk:k<9223372036854775808) (h:MeshS gd B 3 bm K st N w) (hI:MeshI 3 i G K D st N) (hN:N.length<=30) (hE:EnvM B ad w) (hi:i<=154):
  Calls prog 84 #[.agg #[.int .i64 (kd:Int),.int .i64 (r:Int),.int .i64 (k:Int)],.pointer (some ⟨bm,0,none⟩)] w (MT gd B bm i ad K st N kd r k w):=by
 obtain ⟨SB,hSB⟩:=ze w.heap.size
 obtain ⟨U,hU⟩:=ze (w.alloc (.cells #[.int .i64 (kd:Int),.int .i64 (r:Int),.int .i64 (k:Int)] 170))
 have hbU:Below w.heap.size w U:=yg
 have BU:StpBlk U SB kd r k:=by rw [hU.o,hSB.o];exact heap_alloc_new w _
 have hgn:gd SB=none:=by
  cases e:gd SB with
  | none=>rfl
  | some o=>
   have:=(jJ.1 (h.held e)).1
   rw [hSB.o] at this
   omega
 have hB0:B<=w.heap.size:=by
  obtain ⟨_,_,_,_,_,_,_,_,hm⟩:=h
  exact hm.base
 obtain ⟨gU,hgU⟩:∃gU:Nat->Option Obj,Aside (gU=fun q=>if q=SB then some (Oa kd r k) else gd q):=⟨_,rfl⟩
 have hmU:MeshS gU B 3 bm K st N U:=by rw [hgU.o];exact h.ward hbU (q:=SB) (o:=Oa kd r k) (by rw [hSB.o];exact jL _) BU
 have HB:Aside (Below B w U):=hbU.mono hB0
 have HGL:Aside (∀k o,gd k=some o->k<w.heap.size):=fun k o e=>(jJ.1 (h.held e)).1
 have hEU:=hE.later hbU
 have HBK:Aside (∀(W:World) (K':Nat->Rws) (st':Nat->DSt) (N':List aO),MeshS gU B 3 bm K' st' N' W->MeshS gd B 3 bm K' st' N' W/\StpBlk W SB kd r k):=fun W K' st' N' q=>by
  rw [hgU.o] at q
  exact ⟨q.bare_of hgn,q.held (if_pos rfl)⟩
 have HI:Aside (MeshI 3 i G K D st N):=hI
 obtain ⟨s0,s1,s2⟩:=BU.cells
 have HU:Aside (U=w.alloc (.cells #[.int .i64 (kd:Int),.int .i64 (r:Int),.int .i64 (k:Int)] 170)/\SB=w.heap.size/\StpBlk U SB kd r k/\MeshS gU B 3 bm K st N U/\EnvM B ad U):=⟨hU.o,hSB.o,BU,hmU,hEU⟩
 clear hbU BU hU hSB h hE hI hgn hmU hEU
 by_cases hk8:kd<=8
 case neg=>
  have hc:kd=9\/kd=10\/kd=11\/kd=12\/kd=13\/kd=14\/kd=15:=zj
  rcases hc with rfl | rfl | rfl | rfl | rfl | rfl | rfl
  ·obtain ⟨s,hs⟩:=ze ((r+1) % 3)
   have hs3:s<3:=yM
   have hsr:s≠r:=yM
   have t1:Int.tmod ((r:Int)+1) 3=(s:Int):=by rw [hs.o];exact ft (r+1) 3
   have hask:=pO U (r:Int) (s:Int) HU.o.2.2.2.1 HU.o.2.2.2.2 (fun q hq=>xw) ⟨zj,zj⟩ ⟨zj,zj⟩
   have d0:((9:Nat):Int)=9:=rfl
   rw [d0] at s0
   go_enter func84,ntmps84
   go_upto_region 1 with fail
   rw [show ((9:Nat):Int)=9 from rfl] at HU
   rw [<-HU.o.1,<-HU.o.2.1]
   go_wp2_with fail
   refine hask.mono ?_
   clear hask
   rintro e w2 ⟨v2,N2,rfl,H2,HV⟩
   go_wp2
   go_ret
   obtain ⟨hm2,hb2,h2⟩:=H2.o
   have hback:=(HBK.o w2 K st N2 hm2).1
   have hcd:Ib 3 N.length (r:Int) (s:Int)=if N.length<30 then 0 else 8:=if_pos ⟨⟨zj,zj⟩,⟨zj,zj⟩,zj⟩
   rw [hcd] at HV
   rcases h2 with ⟨e1,h30,a,b,_,_,_,ea,eb,e2⟩ | ⟨e2,hn⟩
   ·obtain rfl:r=a:=by omega
    obtain rfl:s=b:=zj
    refine ⟨0,G,K,D,st,N2,?_,⟨hback,HB.o.trans hb2,?_,qh⟩,zj,.inr (.inl (⟨.inl rfl,yu⟩))⟩
    ·exact kn2
    exact kb8
   have h30:30<=N.length:=by
    by_cases q:N.length<30
    ·exact kh9
    omega
   rw [if_neg zj] at HV
   refine ⟨8,G,K,D,st,N2,by rw [<-HV.o];rfl,⟨hback,HB.o.trans hb2,by rw [e2];exact HI.o.up zj,by rw [e2];exact hN⟩,zj,.inr (.inl (⟨.inl rfl,⟨rfl,rfl,.inr ⟨h30,rfl,e2⟩⟩⟩))⟩
  ·obtain ⟨s,hs⟩:=ze ((r+1) % 3)
   have hs3:s<3:=yM
   have hsr:s≠r:=yM
   have t1:Int.tmod ((r:Int)+1) 3=(s:Int):=by rw [hs.o];exact ft (r+1) 3
   have hask:=pO U (r:Int) (s:Int) HU.o.2.2.2.1 HU.o.2.2.2.2 (fun q hq=>xw) ⟨zj,zj⟩ ⟨zj,zj⟩
   have d0:((10:Nat):Int)=10:=rfl
   rw [d0] at s0
   go_enter func84,ntmps84
   go_upto_region 1 with fail
   rw [show ((10:Nat):Int)=10 from rfl] at HU
   rw [<-HU.o.1,<-HU.o.2.1]
   go_wp2_with fail
   refine hask.mono ?_
   clear hask
   rintro e w2 ⟨v2,N2,rfl,H2,HV⟩
   go_wp2
   go_ret
   obtain ⟨hm2,hb2,h2⟩:=H2.o
   have hback:=(HBK.o w2 K st N2 hm2).1
   have hcd:Ib 3 N.length (r:Int) (s:Int)=if N.length<30 then 0 else 8:=if_pos ⟨⟨zj,zj⟩,⟨zj,zj⟩,zj⟩
   rw [hcd] at HV
   rcases h2 with ⟨e1,h30,a,b,_,_,_,ea,eb,e2⟩ | ⟨e2,hn⟩
   ·obtain rfl:r=a:=by omega
    obtain rfl:s=b:=zj
    refine ⟨0,G,K,D,st,N2,?_,⟨hback,HB.o.trans hb2,?_,qh⟩,zj,.inr (.inl (⟨.inr rfl,yu⟩))⟩
    ·exact kn2
    exact kb8
   have h30:30<=N.length:=by
    by_cases q:N.length<30
    ·exact kh9
    omega
   rw [if_neg zj] at HV
   refine ⟨8,G,K,D,st,N2,by rw [<-HV.o];rfl,⟨hback,HB.o.trans hb2,by rw [e2];exact HI.o.up zj,by rw [e2];exact hN⟩,zj,.inr (.inl (⟨.inr rfl,⟨rfl,rfl,.inr ⟨h30,rfl,e2⟩⟩⟩))⟩
  ·obtain ⟨s,hs⟩:=ze ((r+2) % 3)
   have hs3:s<3:=yM
   have hsr:s≠r:=yM
   have t1:Int.tmod ((r:Int)+3 - 1) 3=(s:Int):=by rw [hs.o];rw [show (r:Int)+3 - 1=((r+2:Nat):Int) by omega];exact ft (r+2) 3
   have hask:=pO U (r:Int) (s:Int) HU.o.2.2.2.1 HU.o.2.2.2.2 (fun q hq=>xw) ⟨zj,zj⟩ ⟨zj,zj⟩
   have d0:((11:Nat):Int)=11:=rfl
   rw [d0] at s0
   go_enter func84,ntmps84
   go_upto_region 1 with fail
   rw [show ((11:Nat):Int)=11 from rfl] at HU
   rw [<-HU.o.1,<-HU.o.2.1]
   go_wp2_with fail
   refine hask.mono ?_
   clear hask
   rintro e w2 ⟨v2,N2,rfl,H2,HV⟩
   go_wp2
   go_ret
   obtain ⟨hm2,hb2,h2⟩:=H2.o
   have hback:=(HBK.o w2 K st N2 hm2).1
   have hcd:Ib 3 N.length (r:Int) (s:Int)=if N.length<30 then 0 else 8:=if_pos ⟨⟨zj,zj⟩,⟨zj,zj⟩,zj⟩
   rw [hcd] at HV
   rcases h2 with ⟨e1,h30,a,b,_,_,_,ea,eb,e2⟩ | ⟨e2,hn⟩
   ·obtain rfl:r=a:=by omega
    obtain rfl:s=b:=zj
    refine ⟨0,G,K,D,st,N2,?_,⟨hback,HB.o.trans hb2,?_,qh⟩,zj,.inr (.inr (.inl (⟨rfl,yu⟩)))⟩
    ·exact kn2
    exact kb8
   have h30:30<=N.length:=by
    by_cases q:N.length<30
    ·exact kh9
    omega
   rw [if_neg zj] at HV
   refine ⟨8,G,K,D,st,N2,by rw [<-HV.o];rfl,⟨hback,HB.o.trans hb2,by rw [e2];exact HI.o.up zj,by rw [e2];exact hN⟩,zj,.inr (.inr (.inl (⟨rfl,⟨rfl,rfl,.inr ⟨h30,rfl,e2⟩⟩⟩)))⟩
  ·obtain ⟨m,hm⟩:=ze (k % 4)
   have hm4:m<4:=xe
   have t1:Int.tmod (k:Int) 4=(m:Int):=by rw [hm.o];exact ft k 4
   have hdl:=mu U (m:Int) HU.o.2.2.2.1 HI.o hN HU.o.2.2.2.2 zj ⟨zj,zj⟩
   have d0:((12:Nat):Int)=12:=rfl
   rw [d0] at s0
   go_enter func84,ntmps84
   go_upto_region 1 with fail
   rw [show ((12:Nat):Int)=12 from rfl] at HU
   rw [<-HU.o.1,<-HU.o.2.1]
   go_wp2_with fail
   refine hdl.mono ?_
   clear hdl
   rintro e w2 ⟨v2,K2,D2,st2,N2,rfl,H2,HV⟩
   go_wp2
   go_ret
   obtain ⟨cd,hv,hc,hx⟩:=OD H2.o.2.2.2.2.1 H2.o.2.2.2.2.2 HV.o
   refine ⟨cd,G,K2,D2,st2,N2,by rw [<-hv];rfl,⟨(HBK.o w2 K2 st2 N2 H2.o.1).1,HB.o.trans H2.o.2.1,H2.o.2.2.1.up zj,H2.o.2.2.2.1⟩,hc,.inr (.inr (.inr (.inl (⟨rfl,by rw [hm.o] at hx;exact hx⟩))))⟩
  ·by_cases hodd:k % 2=1
   ·obtain ⟨h2,hh2⟩:=ze (k / 2)
    obtain ⟨m,hm⟩:=ze (h2 % 4)
    have hm4:m<4:=xe
    have h2l:h2<9223372036854775808:=by have:=hh2.o;omega
    have t1:Int.tdiv (k:Int) 2=(h2:Int):=by rw [hh2.o];exact Ex k 2
    have t2:Int.tmod (h2:Int) 4=(m:Int):=by rw [hm.o];exact ft h2 4
    have w8:IntKind.i64.wrap (h2:Int)=(h2:Int):=zr
    have hme:Aside (m=k / 2 % 4):=by show m=k / 2 % 4;rw [hm.o,hh2.o]
    have t0:Int.tmod (k:Int) 2=1:=by rw [show (1:Int)=((k % 2:Nat):Int) by omega];exact ft k 2
    have htw:=Dt U (m:Int) HU.o.2.2.2.1 HU.o.2.2.2.2 hN ⟨zj,zj⟩
    have d0:((13:Nat):Int)=13:=rfl
    rw [d0] at s0
    go_enter func84,ntmps84
    go_upto_region 1 with fail
    rw [show ((13:Nat):Int)=13 from rfl] at HU
    rw [<-HU.o.1,<-HU.o.2.1]
    go_wp2_with fail
    refine htw.mono ?_
    clear htw
    rintro e w2 ⟨v2,N2,rfl,H2,HV⟩
    go_wp2
    go_ret
    obtain ⟨cd,hv,hc,hx⟩:∃cd,v2=eV ad cd/\cd<=12/\Ng K st N m K st N2 cd:=by
     rcases HV.o with ⟨q,e1,e2⟩ | ⟨j,x,ej,hx,⟨h30,e1,e2⟩ | ⟨h30,e1,e2⟩⟩
     ·exact ⟨6,e1,zj,rfl,rfl,.inl ⟨zj,rfl,e2⟩⟩
     ·obtain rfl:m=j:=by omega
      exact ⟨0,e1,zj,rfl,rfl,.inr ⟨x,hx,.inl ⟨h30,rfl,e2⟩⟩⟩
     obtain rfl:m=j:=zj
     exact ⟨8,e1,zj,rfl,rfl,.inr ⟨x,hx,.inr ⟨h30,rfl,e2⟩⟩⟩
    refine ⟨cd,G,K,D,st,N2,by rw [<-hv];rfl,⟨(HBK.o w2 K st N2 H2.o.1).1,HB.o.trans H2.o.2.1,(HI.o.fly (fun u hu=>.inl (H2.o.2.2.2 u hu))).up zj,H2.o.2.2.1⟩,hc,.inr (.inr (.inr (.inr (.inl (⟨rfl,hodd,by rw [hme.o] at hx;exact hx⟩)))))⟩
   obtain ⟨h2,hh2⟩:=ze (k / 2)
   obtain ⟨m,hm⟩:=ze (h2 % 4)
   have hm4:m<4:=xe
   have h2l:h2<9223372036854775808:=by have:=hh2.o;omega
   have t1:Int.tdiv (k:Int) 2=(h2:Int):=by rw [hh2.o];exact Ex k 2
   have t2:Int.tmod (h2:Int) 4=(m:Int):=by rw [hm.o];exact ft h2 4
   have w8:IntKind.i64.wrap (h2:Int)=(h2:Int):=zr
   have hme:Aside (m=k / 2 % 4):=by show m=k / 2 % 4;rw [hm.o,hh2.o]
   have t0:Int.tmod (k:Int) 2=0:=by rw [show (0:Int)=((k % 2:Nat):Int) by omega];exact ft k 2
   have hdr:=Gk U (m:Int) HU.o.2.2.2.1 HU.o.2.2.2.2 hN ⟨zj,zj⟩
   have d0:((13:Nat):Int)=13:=rfl
   rw [d0] at s0
   go_enter func84,ntmps84
   go_upto_region 1 with fail
   rw [show ((13:Nat):Int)=13 from rfl] at HU
   rw [<-HU.o.1,<-HU.o.2.1]
   go_wp2_with fail
   refine hdr.mono ?_
   clear hdr
   rintro e w2 (⟨q,⟨t2,v2,rfl,e6⟩,HD⟩ | ⟨j,ej,hjl,rfl,HD⟩)
   ·go_wp2
    go_ret
    refine ⟨6,G,K,D,st,N,by rw [<-e6];rfl,⟨(HBK.o w2 K st N HD.o.1).1,HB.o.trans HD.o.2,HI.o.up zj,hN⟩,zj,.inr (.inr (.inr (.inr (.inr (.inl (⟨rfl,zj,rfl,rfl,.inl ⟨by have:=hme.o;omega,rfl,rfl⟩⟩))))))⟩
   go_wp2
   go_ret
   obtain rfl:m=j:=zj
   refine ⟨0,G,K,D,st,N.eraseIdx m,rfl,⟨(HBK.o w2 K st _ HD.o.1).1,HB.o.trans HD.o.2,(HI.o.fly (fun u hu=>.inl (uh hu))).up zj,by rw [List.length_eraseIdx,if_pos hjl];omega⟩,zj,.inr (.inr (.inr (.inr (.inr (.inl (⟨rfl,zj,rfl,rfl,.inr ⟨by have:=hme.o;omega,rfl,by rw [hme.o]⟩⟩))))))⟩
  ·obtain ⟨m,hm⟩:=ze (k % 200)
   have hm4:m<200:=xe
   have t1:Int.tmod (k:Int) 200=(m:Int):=by rw [hm.o];exact ft k 200
   have hcut:=Gq U (r:Int) (m:Int) HU.o.2.2.2.1 HI.o hN HU.o.2.2.2.2 ⟨zj,zj⟩ ⟨zj,zj⟩
   have d0:((14:Nat):Int)=14:=rfl
   rw [d0] at s0
   go_enter func84,ntmps84
   go_upto_region 1 with fail
   rw [show ((14:Nat):Int)=14 from rfl] at HU
   rw [<-HU.o.1,<-HU.o.2.1]
   go_wp2_with fail
   refine hcut.mono ?_
   clear hcut
   rintro e w2 ⟨v2,K2,D2,st2,N2,rfl,H2,HV⟩
   go_wp2
   go_ret
   obtain ⟨hK,hN2,hq⟩:=HV.o
   obtain ⟨hv,hst⟩:v2=eV ad (AU (st r).2.1 (m:Int))/\st2=aN st r (kt (st r) (m:Int)):=by
    rcases hq with ⟨q,_,_⟩ | ⟨a,_,ea,q1,q2⟩
    ·exact absurd ⟨zj,zj⟩ q
    obtain rfl:r=a:=zj
    exact ⟨q1,q2⟩
   refine ⟨_,G,K2,D2,st2,N2,by rw [<-hv];rfl,⟨(HBK.o w2 K2 st2 N2 H2.o.1).1,HB.o.trans H2.o.2.1,H2.o.2.2.1.up zj,H2.o.2.2.2.1⟩,by unfold AU;split<;>(try split)<;>omega,.inr (.inr (.inr (.inr (.inr (.inr (.inl (⟨rfl,hK,hN2,by rw [hm.o],by rw [hst,hm.o]⟩)))))))⟩
  have hboot:=Dy U (r:Int) HU.o.2.2.2.1 HI.o hN HU.o.2.2.2.2 zj ⟨zj,zj⟩
  have d0:((15:Nat):Int)=15:=rfl
  rw [d0] at s0
  go_enter func84,ntmps84
  go_upto_region 1 with fail
  rw [show ((15:Nat):Int)=15 from rfl] at HU
  rw [<-HU.o.1,<-HU.o.2.1]
  go_wp2_with fail
  refine hboot.mono ?_
  clear hboot
  rintro e w2 ⟨v2,K2,D2,st2,N2,rfl,H2,HV⟩
  go_wp2
  go_ret
  obtain ⟨hN2,hq⟩:=HV.o
  obtain ⟨hv,hx⟩:v2= .nilIface/\Gl K K2 st st2 r:=by
   rcases hq with ⟨q,_,_⟩ | ⟨a,_,ea,q1,q2⟩
   ·exact absurd ⟨zj,zj⟩ q
   obtain rfl:r=a:=zj
   exact ⟨q1,q2⟩
  refine ⟨0,G,K2,D2,st2,N2,by rw [hv];rfl,⟨(HBK.o w2 K2 st2 N2 H2.o.1).1,HB.o.trans H2.o.2.1,H2.o.2.2.1.up zj,H2.o.2.2.2.1⟩,zj,.inr (.inr (.inr (.inr (.inr (.inr (.inr (⟨rfl,rfl,hN2,hx⟩)))))))⟩
 have hSB:StpBlk U.drew SB kd r k:=HU.o.2.2.1
 obtain ⟨ow,pv,fv,bp,br,d,dv,c,hmA⟩:=HU.o.2.2.2.1
 have hmD:=hmA.later (jN _ U).drew
 have hED:=HU.o.2.2.2.2.later (jN _ U).drew
 have hnd:True:=trivial
 have HD:Aside (MeshS gU B 3 bm K st N U.drew/\EnvM B ad U.drew/\Below B w U.drew/\B<=U.drew.heap.size):=⟨⟨_,_,_,_,_,_,_,_,hmD⟩,hED,HB.o.drew,hmD.base⟩
 have HGD:Aside (∀k o,gd k=some o->gU k=some o/\k<U.drew.heap.size):=fun k o e=>by
  have q:k<w.heap.size:=HGL.o k o e
  have hk:k≠SB:=by rw [HU.o.2.1];omega
  rw [hgU.o]
  exact ⟨(if_neg hk).trans e,jW q (by rw [HU.o.1];simp)⟩
 clear hmA hmD hED
 have d9:((kd:Int)==9)=false:=zM
 have e9:decide ((kd:Int)=9)=false:=zJ
 have d10:((kd:Int)==10)=false:=zM
 have e10:decide ((kd:Int)=10)=false:=zJ
 have d11:((kd:Int)==11)=false:=zM
 have e11:decide ((kd:Int)=11)=false:=zJ
 have d12:((kd:Int)==12)=false:=zM
 have e12:decide ((kd:Int)=12)=false:=zJ
 have d13:((kd:Int)==13)=false:=zM
 have e13:decide ((kd:Int)=13)=false:=zJ
 have d14:((kd:Int)==14)=false:=zM
 have e14:decide ((kd:Int)=14)=false:=zJ
 have d15:((kd:Int)==15)=false:=zM
 have e15:decide ((kd:Int)=15)=false:=zJ
 go_enter func84,ntmps84
 go_upto_region 1 with fail
 rw [<-HU.o.1,<-HU.o.2.1]
 go_upto_region 17 with fail
 refine aM (S:=(fun w'=>StpBlk w' SB kd r k)) zk hSB (fun hHeld=> ?_)
 refine tk 0 hHeld ?_
 refine tk 1 hHeld ?_
 refine tk 2 hHeld ?_ (hy:=Or.inl ⟨zt,zv⟩)
 refine tk 3 hHeld ?_ (hy:=Or.inl ⟨zt,zv⟩)
 refine tk 4 hHeld ?_
 refine tk 5 hHeld ?_
 refine tk 6 hHeld ?_ (hy:=Or.inl ⟨zt,zv⟩)
 have HS0:Aside (MeshS gU B 3 bm K st N U.drew/\EnvM B ad U.drew/\Below B w U.drew/\B<=U.drew.heap.size):=HD.o
 have HG0:Aside (∀(W:World) (K':Nat->Rws) (st':Nat->DSt) (N':List aO),MeshS gU B 3 bm K' st' N' W->StpBlk W SB kd r k):=fun W K' st' N' q=>(HBK.o W K' st' N' q).2
 have HL0:Aside (∀k o,gd k=some o->gU k=some o/\k<U.drew.heap.size):=fun k o e=>HGD.o k o e
 have SD0:StpBlk U.drew SB kd r k:=hSB
 obtain ⟨W0,hW0⟩:∃W,Aside (W=U.drew):=⟨_,rfl⟩
 rw [<-hW0.o] at HS0 HL0 SD0 |-
 clear hHeld hSB HD
 refine iv (i:=7) (j:=13) zk rfl rfl (fun kQ hK=> ?_) (fun kQ hK=> ?_)
 ·go_simp
  refine (sS W0 r hr HS0.o.1 HS0.o.2.1 (by have:=HI.o.len hr;omega)).mono ?_
  rintro e c1 ⟨gn,cap,qs,rfl,HN⟩
  have HSc1:Aside (MeshS gU B 3 bm K st N c1/\EnvM B ad c1/\Below B w c1/\B<=c1.heap.size):=⟨HS0.o.1.later HN.o.2.1,HS0.o.2.1.later HN.o.2.1,HS0.o.2.2.1.trans (HN.o.2.1.mono HS0.o.2.2.2),jM HS0.o.2.2.2 HN.o.2.1.size⟩
  have SDc1:=SD0.later HN.o.2.1
  have HLn:Aside (Below W0.heap.size W0 c1):=HN.o.2.1
  have hlen:0<(aj qs).length:=by unfold aj;simp
  obtain ⟨x,hx⟩:∃x,Aside ((aj qs)[k % (aj qs).length]? =some x):=⟨_,jK (uV _ hlen)⟩
  obtain ⟨y,hy⟩:∃y,Aside ((aj qs)[k / 8 % (aj qs).length]? =some y):=⟨_,jK (uV _ hlen)⟩
  have HNQ:Aside (NumsAt c1 gn 0 (aj qs)/\dl (aX (K r)) qs/\(aj qs).length<=2000/\∀p∈qs,FineP p):=⟨HN.o.1,HN.o.2.2.1,xQ,HN.o.2.2.2.2⟩
  refine hK _ _ SDc1 ?_
  clear hK kQ HN SD0
  refine qn ?_
  have HLc1:Aside (∀k o,gd k=some o->gU k=some o/\k<c1.heap.size):=fun k o e=>⟨(HL0.o k o e).1,jW (HL0.o k o e).2 HLn.o.size⟩
  refine iv (i:=8) (j:=13) zk rfl rfl (fun kQ hK=> ?_) (fun kQ hK=> ?_)
  ·go_simp
   refine (oU kd r k (aj qs) x y gn 0 cap c1 hk8 hk qZ hx.o hy.o HNQ.o.1 (fun U' hb=>HSc1.o.2.1.t.tab U' (hb.mono HSc1.o.2.2.2))).mono ?_
   rintro e c2 ⟨rfl,hb⟩
   have HSc2:Aside (MeshS gU B 3 bm K st N c2/\EnvM B ad c2/\Below B w c2/\B<=c2.heap.size):=⟨HSc1.o.1.later hb,HSc1.o.2.1.later hb,HSc1.o.2.2.1.trans (hb.mono HSc1.o.2.2.2),jM HSc1.o.2.2.2 hb.size⟩
   have SDc2:=SDc1.later hb
   have HLw:Aside (Below c1.heap.size c1 c2):=hb
   obtain ⟨wv,hwv⟩:=ze (ar (cV kd k x y))
   rw [<-hwv.o]
   refine hK _ _ SDc2 ?_
   clear hK kQ hb SDc1
   refine qn ?_
   have HLc2:Aside (∀k o,gd k=some o->gU k=some o/\k<c2.heap.size):=fun k o e=>⟨(HLc1.o k o e).1,jW (HLc1.o k o e).2 HLw.o.size⟩
   refine iv (i:=9) (j:=13) zk rfl rfl (fun kQ hK=> ?_) (fun kQ hK=> ?_)
   ·go_simp
    have hxy:=oB HNQ.o.2.2.2
    have hdo:=IC c2 (r:Int) (cV kd k x y) HSc2.o.1 HI.o hN HSc2.o.2.1 zj ⟨zj,zj⟩ (fun r' y0 cd0=>∃T,cD (aX (K r')) T/\mg (aX (K r')) T r' (K r' r').length (cV kd k x y) (y0,cd0)) (fun U' c0 p b0 d0 r' hr' e' hP hR hE'=>Av U' c0 p b0 d0 r' (K r') (cV kd k x y) hP hR hE' zj yR (oq kd k x y (hxy _ _ hx.o) (hxy _ _ hy.o)))
    rw [<-hwv.o] at hdo
    refine hdo.mono ?_
    clear hdo hxy
    rintro e c3 ⟨⟨t',b',m',kd',nd',o',s',v'⟩,cd5,G5,K5,D5,st5,N5,rfl,H5⟩
    have SDc3:=(HG0.o c3 K5 st5 N5 H5.o.1)
    have HSc3:Aside (MeshS gU B 3 bm K5 st5 N5 c3/\EnvM B ad c3/\Below B w c3/\B<=c3.heap.size):=⟨H5.o.1,HSc2.o.2.1.mono H5.o.2.1,HSc2.o.2.2.1.trans H5.o.2.1,jM HSc2.o.2.2.2 H5.o.2.1.size⟩
    obtain ⟨er,her⟩:=ze (eV ad cd5)
    rw [<-her.o]
    unfold ar
    dsimp only
    refine hK _ _ SDc3 ?_
    clear hK kQ SDc2
    refine qn ?_
    have HLc3:Aside (∀k o,gd k=some o->gU k=some o/\k<c3.heap.size):=fun k o e=>⟨(HLc2.o k o e).1,jW (HLc2.o k o e).2 H5.o.2.1.size⟩
    have hHeld:=SDc3
    refine tk 10 hHeld ?_
    refine tk 11 hHeld ?_
    refine tk 12 hHeld ?_
    clear hHeld
    refine aZ (i:=13) zk rfl (fun kQ hK=> ?_)
    go_simp
    obtain ⟨Va5,hVa5⟩:∃V,Aside (V=c3.alloc (.cells #[.int .i64 0,.int .i64 0,.int .i64 0,.int .u8 0,.int .i64 0,.int .i64 0,.string ⟨#[]⟩,.string ⟨#[]⟩] 61)):=⟨_,rfl⟩
    obtain ⟨ba5,hba5⟩:∃b,Aside (b=c3.heap.size):=⟨_,rfl⟩
    have hbVa5:Below c3.heap.size c3 Va5:=by rw [hVa5.o];exact zh c3 _
    have OBa5:OpBlk Va5 ba5 aT:=by rw [hVa5.o,hba5.o];exact OpBlk.new c3 aT
    obtain ⟨ga5,hga5⟩:∃g':Nat->Option Obj,Aside (g'=fun q=>if q=ba5 then some (.cells #[.int .i64 0,.int .i64 0,.int .i64 0,.int .u8 0,.int .i64 0,.int .i64 0,.string ⟨#[]⟩,.string ⟨#[]⟩] 61 (0,0)) else gU q):=⟨_,rfl⟩
    have hna5:gU ba5=none:=by
     cases e:gU ba5 with
     | none=>rfl
     | some o=>
      have:=(jJ.1 (HSc3.o.1.held e)).1
      rw [hba5.o] at this
      omega
    have hma5:MeshS ga5 B 3 bm K5 st5 N5 Va5:=by rw [hga5.o];exact HSc3.o.1.ward hbVa5 (by rw [hba5.o];exact jL _) OBa5
    have HSa5:Aside (MeshS ga5 B 3 bm K5 st5 N5 Va5/\EnvM B ad Va5/\Below B w Va5/\B<=Va5.heap.size):=⟨hma5,HSc3.o.2.1.later hbVa5,HSc3.o.2.2.1.trans (hbVa5.mono HSc3.o.2.2.2),jM HSc3.o.2.2.2 hbVa5.size⟩
    have HGa5:Aside (∀(W:World) (K':Nat->Rws) (st':Nat->DSt) (N':List aO),MeshS ga5 B 3 bm K' st' N' W->StpBlk W SB kd r k/\OpBlk W ba5 aT):=fun W K' st' N' q=>by
     rw [hga5.o] at q
     exact ⟨HG0.o W K' st' N' (q.bare_of hna5),q.held (if_pos rfl)⟩
    have HLa5:Aside (∀k o,gd k=some o->ga5 k=some o/\k≠ba5):=fun k o e=>by
     have q:=HLc3.o k o e
     have hk:k≠ba5:=by rw [hba5.o];omega
     rw [hga5.o]
     exact kl7
    have HFa5:Aside (ga5 ba5=some (.cells #[.int .i64 0,.int .i64 0,.int .i64 0,.int .u8 0,.int .i64 0,.int .i64 0,.string ⟨#[]⟩,.string ⟨#[]⟩] 61 (0,0))):=by rw [hga5.o];exact if_pos rfl
    have SDa5:=SDc3.later hbVa5
    rw [<-hVa5.o,<-hba5.o]
    refine hK _ _ SDa5 ?_
    clear hK kQ hna5 hma5 OBa5 hbVa5 SDc3
    refine qn ?_
    obtain ⟨z0,z1,z2,z3,z4,z5,z6,z7,zf⟩:=(HGa5.o Va5 K5 st5 N5 HSa5.o.1).2.cells
    unfold aT at z0 z1 z2 z3 z4 z5 z6 z7
    dsimp only at z0 z1 z2 z3 z4 z5 z6 z7
    obtain ⟨X,hX⟩:=ze (Va5.setCells ba5 0 [.int .i64 t',.int .i64 b',.int .i64 m',.int .u8 (kd':Int),.int .i64 nd',.int .i64 o',.string s',.string v'])
    have hkX:Keeps (fun q=>q=ba5) Va5 X:=by rw [hX.o];exact aY ba5 _ 0 Va5
    have hneS:SB≠ba5:=fun e=>by
     have h1:=SDa5
     have h2:=(HGa5.o Va5 K5 st5 N5 HSa5.o.1).2
     exact kc5
    have SX:StpBlk X SB kd r k:=(hkX.block SB SDa5.lt hneS).trans SDa5
    have HXX:Aside (MeshS gd B 3 bm K5 st5 N5 X/\Below B w X):=⟨HSa5.o.1.free HFa5.o hkX HLa5.o,HSa5.o.2.2.1.trans (hkX.below HSa5.o.2.2.2 (fun q e=>by
     have e':q=ba5:=e
     obtain ⟨ow',_,_,_,_,_,_,_,hm'⟩:=HSa5.o.1
     rw [e']
     exact hm'.low ba5 (by rw [(hm'.guard ba5 _ HFa5.o).1];omega)))⟩
    refine aZ (i:=14) zk rfl (fun kQ hK=> ?_)
    go_simp
    have hW:Va5.setCells ba5 0 [.int .i64 t',.int .i64 b',.int .i64 m',.int .u8 (kd':Int),.int .i64 nd',.int .i64 o',.string s',.string v']=X:=hX.o.symm
    exact ka3
   go_simp
   obtain ⟨Va6,hVa6⟩:∃V,Aside (V=c2.alloc (.cells #[.int .i64 0,.int .i64 0,.int .i64 0,.int .u8 0,.int .i64 0,.int .i64 0,.string ⟨#[]⟩,.string ⟨#[]⟩] 61)):=⟨_,rfl⟩
   obtain ⟨ba6,hba6⟩:∃b,Aside (b=c2.heap.size):=⟨_,rfl⟩
   have hbVa6:Below c2.heap.size c2 Va6:=by rw [hVa6.o];exact zh c2 _
   have OBa6:OpBlk Va6 ba6 aT:=by rw [hVa6.o,hba6.o];exact OpBlk.new c2 aT
   obtain ⟨ga6,hga6⟩:∃g':Nat->Option Obj,Aside (g'=fun q=>if q=ba6 then some (.cells #[.int .i64 0,.int .i64 0,.int .i64 0,.int .u8 0,.int .i64 0,.int .i64 0,.string ⟨#[]⟩,.string ⟨#[]⟩] 61 (0,0)) else gU q):=⟨_,rfl⟩
   have hna6:gU ba6=none:=by
    cases e:gU ba6 with
    | none=>rfl
    | some o=>
     have:=(jJ.1 (HSc2.o.1.held e)).1
     rw [hba6.o] at this
     omega
   have hma6:MeshS ga6 B 3 bm K st N Va6:=by rw [hga6.o];exact HSc2.o.1.ward hbVa6 (by rw [hba6.o];exact jL _) OBa6
   have HSa6:Aside (MeshS ga6 B 3 bm K st N Va6/\EnvM B ad Va6/\Below B w Va6/\B<=Va6.heap.size):=⟨hma6,HSc2.o.2.1.later hbVa6,HSc2.o.2.2.1.trans (hbVa6.mono HSc2.o.2.2.2),jM HSc2.o.2.2.2 hbVa6.size⟩
   have HGa6:Aside (∀(W:World) (K':Nat->Rws) (st':Nat->DSt) (N':List aO),MeshS ga6 B 3 bm K' st' N' W->StpBlk W SB kd r k/\OpBlk W ba6 aT):=fun W K' st' N' q=>by
    rw [hga6.o] at q
    exact ⟨HG0.o W K' st' N' (q.bare_of hna6),q.held (if_pos rfl)⟩
   have HLa6:Aside (∀k o,gd k=some o->ga6 k=some o/\k≠ba6):=fun k o e=>by
    have q:=HLc2.o k o e
    have hk:k≠ba6:=by rw [hba6.o];omega
    rw [hga6.o]
    exact kl7
   have HFa6:Aside (ga6 ba6=some (.cells #[.int .i64 0,.int .i64 0,.int .i64 0,.int .u8 0,.int .i64 0,.int .i64 0,.string ⟨#[]⟩,.string ⟨#[]⟩] 61 (0,0))):=by rw [hga6.o];exact if_pos rfl
   have SDa6:=SDc2.later hbVa6
   rw [<-hVa6.o,<-hba6.o]
   refine hK _ _ SDa6 ?_
   clear hK kQ hna6 hma6 OBa6 hbVa6 SDc2
   refine qn ?_
   refine aZ (i:=9) zk rfl (fun kQ hK=> ?_)
   go_simp
   have hxy:=oB HNQ.o.2.2.2
   have hdo:=IC Va6 (r:Int) (cV kd k x y) HSa6.o.1 HI.o hN HSa6.o.2.1 zj ⟨zj,zj⟩ (fun r' y0 cd0=>∃T,cD (aX (K r')) T/\mg (aX (K r')) T r' (K r' r').length (cV kd k x y) (y0,cd0)) (fun U' c0 p b0 d0 r' hr' e' hP hR hE'=>Av U' c0 p b0 d0 r' (K r') (cV kd k x y) hP hR hE' zj yR (oq kd k x y (hxy _ _ hx.o) (hxy _ _ hy.o)))
   rw [<-hwv.o] at hdo
   refine hdo.mono ?_
   clear hdo hxy
   rintro e c7 ⟨⟨t',b',m',kd',nd',o',s',v'⟩,cd5,G5,K5,D5,st5,N5,rfl,H5⟩
   have SDc7:=(HGa6.o c7 K5 st5 N5 H5.o.1).1
   have HSc7:Aside (MeshS ga6 B 3 bm K5 st5 N5 c7/\EnvM B ad c7/\Below B w c7/\B<=c7.heap.size):=⟨H5.o.1,HSa6.o.2.1.mono H5.o.2.1,HSa6.o.2.2.1.trans H5.o.2.1,jM HSa6.o.2.2.2 H5.o.2.1.size⟩
   obtain ⟨er,her⟩:=ze (eV ad cd5)
   rw [<-her.o]
   unfold ar
   dsimp only
   refine hK _ _ SDc7 ?_
   clear hK kQ SDa6
   refine qn ?_
   have hHeld:=SDc7
   refine tk 10 hHeld ?_
   refine tk 11 hHeld ?_
   refine tk 12 hHeld ?_
   clear hHeld
   obtain ⟨z0,z1,z2,z3,z4,z5,z6,z7,zf⟩:=(HGa6.o c7 K5 st5 N5 HSc7.o.1).2.cells
   unfold aT at z0 z1 z2 z3 z4 z5 z6 z7
   dsimp only at z0 z1 z2 z3 z4 z5 z6 z7
   obtain ⟨X,hX⟩:=ze (c7.setCells ba6 0 [.int .i64 t',.int .i64 b',.int .i64 m',.int .u8 (kd':Int),.int .i64 nd',.int .i64 o',.string s',.string v'])
   have hkX:Keeps (fun q=>q=ba6) c7 X:=by rw [hX.o];exact aY ba6 _ 0 c7
   have hneS:SB≠ba6:=fun e=>by
    have h1:=SDc7
    have h2:=(HGa6.o c7 K5 st5 N5 HSc7.o.1).2
    exact kc5
   have SX:StpBlk X SB kd r k:=(hkX.block SB SDc7.lt hneS).trans SDc7
   have HXX:Aside (MeshS gd B 3 bm K5 st5 N5 X/\Below B w X):=⟨HSc7.o.1.free HFa6.o hkX HLa6.o,HSc7.o.2.2.1.trans (hkX.below HSc7.o.2.2.2 (fun q e=>by
    have e':q=ba6:=e
    obtain ⟨ow',_,_,_,_,_,_,_,hm'⟩:=HSc7.o.1
    rw [e']
    exact hm'.low ba6 (by rw [(hm'.guard ba6 _ HFa6.o).1];omega)))⟩
   refine aZ (i:=14) zk rfl (fun kQ hK=> ?_)
   go_simp
   have hW:c7.setCells ba6 0 [.int .i64 t',.int .i64 b',.int .i64 m',.int .u8 (kd':Int),.int .i64 nd',.int .i64 o',.string s',.string v']=X:=hX.o.symm
   exact ka3
  go_simp
  obtain ⟨Va9,hVa9⟩:∃V,Aside (V=c1.alloc (.cells #[.int .i64 0,.int .i64 0,.int .i64 0,.int .u8 0,.int .i64 0,.int .i64 0,.string ⟨#[]⟩,.string ⟨#[]⟩] 61)):=⟨_,rfl⟩
  obtain ⟨ba9,hba9⟩:∃b,Aside (b=c1.heap.size):=⟨_,rfl⟩
  have hbVa9:Below c1.heap.size c1 Va9:=by rw [hVa9.o];exact zh c1 _
  have OBa9:OpBlk Va9 ba9 aT:=by rw [hVa9.o,hba9.o];exact OpBlk.new c1 aT
  obtain ⟨ga9,hga9⟩:∃g':Nat->Option Obj,Aside (g'=fun q=>if q=ba9 then some (.cells #[.int .i64 0,.int .i64 0,.int .i64 0,.int .u8 0,.int .i64 0,.int .i64 0,.string ⟨#[]⟩,.string ⟨#[]⟩] 61 (0,0)) else gU q):=⟨_,rfl⟩
  have hna9:gU ba9=none:=by
   cases e:gU ba9 with
   | none=>rfl
   | some o=>
    have:=(jJ.1 (HSc1.o.1.held e)).1
    rw [hba9.o] at this
    omega
  have hma9:MeshS ga9 B 3 bm K st N Va9:=by rw [hga9.o];exact HSc1.o.1.ward hbVa9 (by rw [hba9.o];exact jL _) OBa9
  have HSa9:Aside (MeshS ga9 B 3 bm K st N Va9/\EnvM B ad Va9/\Below B w Va9/\B<=Va9.heap.size):=⟨hma9,HSc1.o.2.1.later hbVa9,HSc1.o.2.2.1.trans (hbVa9.mono HSc1.o.2.2.2),jM HSc1.o.2.2.2 hbVa9.size⟩
  have HGa9:Aside (∀(W:World) (K':Nat->Rws) (st':Nat->DSt) (N':List aO),MeshS ga9 B 3 bm K' st' N' W->StpBlk W SB kd r k/\OpBlk W ba9 aT):=fun W K' st' N' q=>by
   rw [hga9.o] at q
   exact ⟨HG0.o W K' st' N' (q.bare_of hna9),q.held (if_pos rfl)⟩
  have HLa9:Aside (∀k o,gd k=some o->ga9 k=some o/\k≠ba9):=fun k o e=>by
   have q:=HLc1.o k o e
   have hk:k≠ba9:=by rw [hba9.o];omega
   rw [hga9.o]
   exact kl7
  have HFa9:Aside (ga9 ba9=some (.cells #[.int .i64 0,.int .i64 0,.int .i64 0,.int .u8 0,.int .i64 0,.int .i64 0,.string ⟨#[]⟩,.string ⟨#[]⟩] 61 (0,0))):=by rw [hga9.o];exact if_pos rfl
  have SDa9:=SDc1.later hbVa9
  rw [<-hVa9.o,<-hba9.o]
  refine hK _ _ SDa9 ?_
  clear hK kQ hna9 hma9 OBa9 hbVa9 SDc1
  refine qn ?_
  refine aZ (i:=8) zk rfl (fun kQ hK=> ?_)
  go_simp
  refine (oU kd r k (aj qs) x y gn 0 cap Va9 hk8 hk qZ hx.o hy.o (HNQ.o.1.later (by rw [hVa9.o];exact zh c1 _)) (fun U' hb=>HSa9.o.2.1.t.tab U' (hb.mono HSa9.o.2.2.2))).mono ?_
  rintro e c10 ⟨rfl,hb⟩
  have HSc10:Aside (MeshS ga9 B 3 bm K st N c10/\EnvM B ad c10/\Below B w c10/\B<=c10.heap.size):=⟨HSa9.o.1.later hb,HSa9.o.2.1.later hb,HSa9.o.2.2.1.trans (hb.mono HSa9.o.2.2.2),jM HSa9.o.2.2.2 hb.size⟩
  have SDc10:=SDa9.later hb
  have HLw:Aside (Below Va9.heap.size Va9 c10):=hb
  obtain ⟨wv,hwv⟩:=ze (ar (cV kd k x y))
  rw [<-hwv.o]
  refine hK _ _ SDc10 ?_
  clear hK kQ hb SDa9
  refine qn ?_
  refine aZ (i:=9) zk rfl (fun kQ hK=> ?_)
  go_simp
  have hxy:=oB HNQ.o.2.2.2
  have hdo:=IC c10 (r:Int) (cV kd k x y) HSc10.o.1 HI.o hN HSc10.o.2.1 zj ⟨zj,zj⟩ (fun r' y0 cd0=>∃T,cD (aX (K r')) T/\mg (aX (K r')) T r' (K r' r').length (cV kd k x y) (y0,cd0)) (fun U' c0 p b0 d0 r' hr' e' hP hR hE'=>Av U' c0 p b0 d0 r' (K r') (cV kd k x y) hP hR hE' zj yR (oq kd k x y (hxy _ _ hx.o) (hxy _ _ hy.o)))
  rw [<-hwv.o] at hdo
  refine hdo.mono ?_
  clear hdo hxy
  rintro e c11 ⟨⟨t',b',m',kd',nd',o',s',v'⟩,cd5,G5,K5,D5,st5,N5,rfl,H5⟩
  have SDc11:=(HGa9.o c11 K5 st5 N5 H5.o.1).1
  have HSc11:Aside (MeshS ga9 B 3 bm K5 st5 N5 c11/\EnvM B ad c11/\Below B w c11/\B<=c11.heap.size):=⟨H5.o.1,HSc10.o.2.1.mono H5.o.2.1,HSc10.o.2.2.1.trans H5.o.2.1,jM HSc10.o.2.2.2 H5.o.2.1.size⟩
  obtain ⟨er,her⟩:=ze (eV ad cd5)
  rw [<-her.o]
  unfold ar
  dsimp only
  refine hK _ _ SDc11 ?_
  clear hK kQ SDc10
  refine qn ?_
  have hHeld:=SDc11
  refine tk 10 hHeld ?_
  refine tk 11 hHeld ?_
  refine tk 12 hHeld ?_
  clear hHeld
  obtain ⟨z0,z1,z2,z3,z4,z5,z6,z7,zf⟩:=(HGa9.o c11 K5 st5 N5 HSc11.o.1).2.cells
  unfold aT at z0 z1 z2 z3 z4 z5 z6 z7
  dsimp only at z0 z1 z2 z3 z4 z5 z6 z7
  obtain ⟨X,hX⟩:=ze (c11.setCells ba9 0 [.int .i64 t',.int .i64 b',.int .i64 m',.int .u8 (kd':Int),.int .i64 nd',.int .i64 o',.string s',.string v'])
  have hkX:Keeps (fun q=>q=ba9) c11 X:=by rw [hX.o];exact aY ba9 _ 0 c11
  have hneS:SB≠ba9:=fun e=>by
   have h1:=SDc11
   have h2:=(HGa9.o c11 K5 st5 N5 HSc11.o.1).2
   exact kc5
  have SX:StpBlk X SB kd r k:=(hkX.block SB SDc11.lt hneS).trans SDc11
  have HXX:Aside (MeshS gd B 3 bm K5 st5 N5 X/\Below B w X):=⟨HSc11.o.1.free HFa9.o hkX HLa9.o,HSc11.o.2.2.1.trans (hkX.below HSc11.o.2.2.2 (fun q e=>by
   have e':q=ba9:=e
   obtain ⟨ow',_,_,_,_,_,_,_,hm'⟩:=HSc11.o.1
   rw [e']
   exact hm'.low ba9 (by rw [(hm'.guard ba9 _ HFa9.o).1];omega)))⟩
  refine aZ (i:=14) zk rfl (fun kQ hK=> ?_)
  go_simp
  have hW:c11.setCells ba9 0 [.int .i64 t',.int .i64 b',.int .i64 m',.int .u8 (kd':Int),.int .i64 nd',.int .i64 o',.string s',.string v']=X:=hX.o.symm
  exact ka3
 go_simp
 obtain ⟨Va13,hVa13⟩:∃V,Aside (V=W0.alloc (.cells #[.int .i64 0,.int .i64 0,.int .i64 0,.int .u8 0,.int .i64 0,.int .i64 0,.string ⟨#[]⟩,.string ⟨#[]⟩] 61)):=⟨_,rfl⟩
 obtain ⟨ba13,hba13⟩:∃b,Aside (b=W0.heap.size):=⟨_,rfl⟩
 have hbVa13:Below W0.heap.size W0 Va13:=by rw [hVa13.o];exact zh W0 _
 have OBa13:OpBlk Va13 ba13 aT:=by rw [hVa13.o,hba13.o];exact OpBlk.new W0 aT
 obtain ⟨ga13,hga13⟩:∃g':Nat->Option Obj,Aside (g'=fun q=>if q=ba13 then some (.cells #[.int .i64 0,.int .i64 0,.int .i64 0,.int .u8 0,.int .i64 0,.int .i64 0,.string ⟨#[]⟩,.string ⟨#[]⟩] 61 (0,0)) else gU q):=⟨_,rfl⟩
 have hna13:gU ba13=none:=by
  cases e:gU ba13 with
  | none=>rfl
  | some o=>
   have:=(jJ.1 (HS0.o.1.held e)).1
   rw [hba13.o] at this
   omega
 have hma13:MeshS ga13 B 3 bm K st N Va13:=by rw [hga13.o];exact HS0.o.1.ward hbVa13 (by rw [hba13.o];exact jL _) OBa13
 have HSa13:Aside (MeshS ga13 B 3 bm K st N Va13/\EnvM B ad Va13/\Below B w Va13/\B<=Va13.heap.size):=⟨hma13,HS0.o.2.1.later hbVa13,HS0.o.2.2.1.trans (hbVa13.mono HS0.o.2.2.2),jM HS0.o.2.2.2 hbVa13.size⟩
 have HGa13:Aside (∀(W:World) (K':Nat->Rws) (st':Nat->DSt) (N':List aO),MeshS ga13 B 3 bm K' st' N' W->StpBlk W SB kd r k/\OpBlk W ba13 aT):=fun W K' st' N' q=>by
  rw [hga13.o] at q
  exact ⟨HG0.o W K' st' N' (q.bare_of hna13),q.held (if_pos rfl)⟩
 have HLa13:Aside (∀k o,gd k=some o->ga13 k=some o/\k≠ba13):=fun k o e=>by
  have q:=HL0.o k o e
  have hk:k≠ba13:=by rw [hba13.o];omega
  rw [hga13.o]
  exact kl7
 have HFa13:Aside (ga13 ba13=some (.cells #[.int .i64 0,.int .i64 0,.int .i64 0,.int .u8 0,.int .i64 0,.int .i64 0,.string ⟨#[]⟩,.string ⟨#[]⟩] 61 (0,0))):=by rw [hga13.o];exact if_pos rfl
 have SDa13:=SD0.later hbVa13
 rw [<-hVa13.o,<-hba13.o]
 refine hK _ _ SDa13 ?_
 clear hK kQ hna13 hma13 OBa13 hbVa13 SD0
 refine qn ?_
 refine aZ (i:=7) zk rfl (fun kQ hK=> ?_)
 go_simp
 refine (sS Va13 r hr HSa13.o.1 HSa13.o.2.1 (by have:=HI.o.len hr;omega)).mono ?_
 rintro e c14 ⟨gn,cap,qs,rfl,HN⟩
 have HSc14:Aside (MeshS ga13 B 3 bm K st N c14/\EnvM B ad c14/\Below B w c14/\B<=c14.heap.size):=⟨HSa13.o.1.later HN.o.2.1,HSa13.o.2.1.later HN.o.2.1,HSa13.o.2.2.1.trans (HN.o.2.1.mono HSa13.o.2.2.2),jM HSa13.o.2.2.2 HN.o.2.1.size⟩
 have SDc14:=SDa13.later HN.o.2.1
 have HLn:Aside (Below Va13.heap.size Va13 c14):=HN.o.2.1
 have hlen:0<(aj qs).length:=by unfold aj;simp
 obtain ⟨x,hx⟩:∃x,Aside ((aj qs)[k % (aj qs).length]? =some x):=⟨_,jK (uV _ hlen)⟩
 obtain ⟨y,hy⟩:∃y,Aside ((aj qs)[k / 8 % (aj qs).length]? =some y):=⟨_,jK (uV _ hlen)⟩
 have HNQ:Aside (NumsAt c14 gn 0 (aj qs)/\dl (aX (K r)) qs/\(aj qs).length<=2000/\∀p∈qs,FineP p):=⟨HN.o.1,HN.o.2.2.1,xQ,HN.o.2.2.2.2⟩
 refine hK _ _ SDc14 ?_
 clear hK kQ HN SDa13
 refine qn ?_
 refine aZ (i:=8) zk rfl (fun kQ hK=> ?_)
 go_simp
 refine (oU kd r k (aj qs) x y gn 0 cap c14 hk8 hk qZ hx.o hy.o HNQ.o.1 (fun U' hb=>HSc14.o.2.1.t.tab U' (hb.mono HSc14.o.2.2.2))).mono ?_
 rintro e c15 ⟨rfl,hb⟩
 have HSc15:Aside (MeshS ga13 B 3 bm K st N c15/\EnvM B ad c15/\Below B w c15/\B<=c15.heap.size):=⟨HSc14.o.1.later hb,HSc14.o.2.1.later hb,HSc14.o.2.2.1.trans (hb.mono HSc14.o.2.2.2),jM HSc14.o.2.2.2 hb.size⟩
 have SDc15:=SDc14.later hb
 have HLw:Aside (Below c14.heap.size c14 c15):=hb
 obtain ⟨wv,hwv⟩:=ze (ar (cV kd k x y))
 rw [<-hwv.o]
 refine hK _ _ SDc15 ?_
 clear hK kQ hb SDc14
 refine qn ?_
 refine aZ (i:=9) zk rfl (fun kQ hK=> ?_)
 go_simp
 have hxy:=oB HNQ.o.2.2.2
 have hdo:=IC c15 (r:Int) (cV kd k x y) HSc15.o.1 HI.o hN HSc15.o.2.1 zj ⟨zj,zj⟩ (fun r' y0 cd0=>∃T,cD (aX (K r')) T/\mg (aX (K r')) T r' (K r' r').length (cV kd k x y) (y0,cd0)) (fun U' c0 p b0 d0 r' hr' e' hP hR hE'=>Av U' c0 p b0 d0 r' (K r') (cV kd k x y) hP hR hE' zj yR (oq kd k x y (hxy _ _ hx.o) (hxy _ _ hy.o)))
 rw [<-hwv.o] at hdo
 refine hdo.mono ?_
 clear hdo hxy
 rintro e c16 ⟨⟨t',b',m',kd',nd',o',s',v'⟩,cd5,G5,K5,D5,st5,N5,rfl,H5⟩
 have SDc16:=(HGa13.o c16 K5 st5 N5 H5.o.1).1
 have HSc16:Aside (MeshS ga13 B 3 bm K5 st5 N5 c16/\EnvM B ad c16/\Below B w c16/\B<=c16.heap.size):=⟨H5.o.1,HSc15.o.2.1.mono H5.o.2.1,HSc15.o.2.2.1.trans H5.o.2.1,jM HSc15.o.2.2.2 H5.o.2.1.size⟩
 obtain ⟨er,her⟩:=ze (eV ad cd5)
 rw [<-her.o]
 unfold ar
 dsimp only
 refine hK _ _ SDc16 ?_
 clear hK kQ SDc15
 refine qn ?_
 have hHeld:=SDc16
 refine tk 10 hHeld ?_
 refine tk 11 hHeld ?_
 refine tk 12 hHeld ?_
 clear hHeld
 obtain ⟨z0,z1,z2,z3,z4,z5,z6,z7,zf⟩:=(HGa13.o c16 K5 st5 N5 HSc16.o.1).2.cells
 unfold aT at z0 z1 z2 z3 z4 z5 z6 z7
 dsimp only at z0 z1 z2 z3 z4 z5 z6 z7
 obtain ⟨X,hX⟩:=ze (c16.setCells ba13 0 [.int .i64 t',.int .i64 b',.int .i64 m',.int .u8 (kd':Int),.int .i64 nd',.int .i64 o',.string s',.string v'])
 have hkX:Keeps (fun q=>q=ba13) c16 X:=by rw [hX.o];exact aY ba13 _ 0 c16
 have hneS:SB≠ba13:=fun e=>by
  have h1:=SDc16
  have h2:=(HGa13.o c16 K5 st5 N5 HSc16.o.1).2
  exact kc5
 have SX:StpBlk X SB kd r k:=(hkX.block SB SDc16.lt hneS).trans SDc16
 have HXX:Aside (MeshS gd B 3 bm K5 st5 N5 X/\Below B w X):=⟨HSc16.o.1.free HFa13.o hkX HLa13.o,HSc16.o.2.2.1.trans (hkX.below HSc16.o.2.2.2 (fun q e=>by
  have e':q=ba13:=e
  obtain ⟨ow',_,_,_,_,_,_,_,hm'⟩:=HSc16.o.1
  rw [e']
  exact hm'.low ba13 (by rw [(hm'.guard ba13 _ HFa13.o).1];omega)))⟩
 refine aZ (i:=14) zk rfl (fun kQ hK=> ?_)
 go_simp
 have hW:c16.setCells ba13 0 [.int .i64 t',.int .i64 b',.int .i64 m',.int .u8 (kd':Int),.int .i64 nd',.int .i64 o',.string s',.string v']=X:=hX.o.symm
 exact ka3
