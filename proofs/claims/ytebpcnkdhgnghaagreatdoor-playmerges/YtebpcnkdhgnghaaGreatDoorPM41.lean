import Derived.Test.YtebpcnkdhgnghaaGreatDoorPM40
set_option linter.unusedSimpArgs false
set_option linter.unusedVariables false
set_option maxRecDepth 100000
set_option maxHeartbeats 64000000
namespace Go.Proofs.YtebpcnkdhgnghaaGreatDoor
open Go.Proofs.Tryz
section
open Go.RowKit Go.Lib Go.Sort Go.Maps
open scoped Classical
theorem Eb {B:Nat} {ad:Nat->Addr} (w:World) (c:Nat->Nat) (p br d:Nat) (i:Nat) (R:Rws) (x:OpX) (hP:PeerC w p br d) (h:RepOwn B w c br (i:Int) R) (hE:EnvT B ad w) (hi:i<4) (T:Int) (hT:dM (aQ R) T) (hm:T<=1073741824) (hn:(aQ R).length<=250)
  (k1:x.2.2.2.1=109) (k0:aM x=0) (hs1:x.2.2.2.2.2.2.1.size<=1000000) (h4: -9223372036854775808<=aN x/\aN x<=9223372036854775807):
  Calls prog 270 #[.pointer (some ⟨p,0,none⟩),bT x] w (Kw ad w (fun y cd=>sJ (aQ R) T i (R i).length x (y,cd))):=by
 obtain ⟨t,b,m,kd,nd,o,s,v⟩:=x
 dsimp only at hs1 k1 h4
 have K1:Aside (kd=109/\nd=0):=⟨k1,k0⟩
 clear k1 k0
 obtain ⟨S,hS⟩:=zc w.heap.size
 obtain ⟨U,hU⟩:=zc ((w.alloc (.cells #[.int .i64 t,.int .i64 b,.int .i64 m,.int .u8 (kd:Int),.int .i64 nd,.int .i64 o,.string s,.string v] 61)).alloc (.cells #[.int .i64 0,.int .i64 0,.int .i64 0,.int .u8 0,.int .i64 0,.int .i64 0,.string ⟨#[]⟩,.string ⟨#[]⟩] 61))
 have hbU:Below w.heap.size w U:=zI
 have O0:OpBlk U S (t,b,m,kd,nd,o,s,v):=qo
 have Z0:OpBlk U (S+1) aR:=by
  rw [hU,hS]
  have:=OpBlk.new (w.alloc (.cells #[.int .i64 t,.int .i64 b,.int .i64 m,.int .u8 (kd:Int),.int .i64 nd,.int .i64 o,.string s,.string v] 61)) aR
  exact kd4
 obtain ⟨j0,j1,j2,j3,j4,j5,j6,j7,-⟩:=O0.cells
 dsimp only at j0 j1 j2 j3 j4 j5 j6 j7
 have hbD:Below w.heap.size w U.drew:=hbU.drew
 have hR:=h.later hbD
 have hEU:=hE.later hbD
 have SD:PeerC U.drew p br d/\OpBlk U.drew S (t,b,m,kd,nd,o,s,v):=⟨PeerC.same hP (hbU.block p hP.lt),O0⟩
 have HPL:Aside (p<S):=by rw [hS];exact hP.lt
 have c1:=MM U.drew c br i R T o s hR hEU hi hT hm hn hs1 h4.1 h4.2
 have H0:Aside (U=(w.alloc (.cells #[.int .i64 t,.int .i64 b,.int .i64 m,.int .u8 (kd:Int),.int .i64 nd,.int .i64 o,.string s,.string v] 61)).alloc (.cells #[.int .i64 0,.int .i64 0,.int .i64 0,.int .u8 0,.int .i64 0,.int .i64 0,.string ⟨#[]⟩,.string ⟨#[]⟩] 61)/\OpBlk U.drew (S+1) aR/\Below w.heap.size w U.drew/\S=w.heap.size):=⟨hU,Z0,hbD,hS⟩
 have HC1:=Lib.hid c1
 clear hU hbU hbD hS O0 hR hEU h hE c1 h4 hP
 obtain ⟨y0,y1,y2,y3,y4,y5,y6,y7,yf⟩:=Z0.cells
 unfold aR at y0 y1 y2 y3 y4 y5 y6 y7
 dsimp only at y0 y1 y2 y3 y4 y5 y6 y7
 clear Z0
 unfold bT
 dsimp only
 go_enter func270,ntmps270
 go_upto_region 1 with fail
 rw [<-H0.o.1,<-H0.o.2.2.2]
 obtain ⟨k1,k0⟩:=K1.o
 have d1:((kd:Int)==109)=true:=zq
 have d0:(nd==0)=true:=by simp [k0]
 have HKK:Aside (∀a:OpX×Nat,a=rd (wy (aQ R) o) (fD T i (R i).length 109 0 o s ⟨#[]⟩)->sJ (aQ R) T i (R i).length (t,b,m,kd,nd,o,s,v) a):=fun a q=>.inl ⟨.inl k1,.inl ⟨k1,k0,q⟩⟩
 clear k1 k0
 go_upto_region 4 with fail
 refine aL (S:=(fun w'=>PeerC w' p br d/\OpBlk w' S (t,b,m,kd,nd,o,s,v))) zo SD (fun hHeld=> ?_)
 refine tk 0 hHeld ?_
 refine tk 1 hHeld ?_
 refine tk 2 hHeld ?_
 refine tk 3 hHeld ?_ (hy:=Or.inl ⟨zv,qT⟩)
 refine tk 4 hHeld ?_
 refine tk 5 hHeld ?_ (hy:=Or.inl ⟨zv,yI⟩)
 refine tk 6 hHeld ?_
 refine tk 7 hHeld ?_ (hy:=Or.inl ⟨zv,yI⟩)
 refine aW (i:=8) zo rfl (fun kQ hK=> ?_)
 go_simp
 refine HC1.o.mono ?_
 rintro e w2 ⟨⟨t',b',m',kd',nd',o',s',v'⟩,cd,rfl,H2⟩
 obtain ⟨er,her⟩:=zc (eV ad cd)
 rw [<-her]
 unfold bT
 dsimp only
 have S2:PeerC w2 p br d/\OpBlk w2 S (t,b,m,kd,nd,o,s,v):=⟨SD.1.same (H2.o.1.block p SD.1.lt),SD.2.later H2.o.1⟩
 obtain ⟨z0,z1,z2,z3,z4,z5,z6,z7,zf⟩:=(H0.o.2.1.later H2.o.1).cells
 unfold aR at z0 z1 z2 z3 z4 z5 z6 z7
 dsimp only at z0 z1 z2 z3 z4 z5 z6 z7
 have HER:Aside (er=eV ad cd/\Below w.heap.size w w2):=⟨her,zi H0.o.2.2.1 H2.o.1⟩
 clear her
 refine hK _ _ S2 ?_
 clear hK kQ hHeld
 have hHeld:=S2
 refine qn ?_
 refine tk 9 hHeld ?_
 refine tk 10 hHeld ?_
 refine aW (i:=11) zo rfl (fun kQ hK=> ?_)
 go_simp
 have S3:PeerC (w2.setCells (S+1) 0 [.int .i64 t',.int .i64 b',.int .i64 m',.int .u8 (kd':Int),.int .i64 nd',.int .i64 o',.string s',.string v']) p br d/\OpBlk (w2.setCells (S+1) 0 [.int .i64 t',.int .i64 b',.int .i64 m',.int .u8 (kd':Int),.int .i64 nd',.int .i64 o',.string s',.string v']) S (t,b,m,kd,nd,o,s,v):=⟨S2.1.same (eL (S+1) _ 0 w2 p (by have:=HPL.o;omega)),(eL (S+1) _ 0 w2 S zj).trans S2.2⟩
 refine hK _ _ S3 ?_
 clear hK kQ
 refine qn ?_
 refine aW (i:=12) zo rfl (fun kQ hK=> ?_)
 go_simp
 refine hK _ _ S3 ?_
 clear hK kQ
 refine wpAnyH_done zo ?_ _
 refine qn ?_
 clear S3 S2 hHeld
 go_wp2
 (try simp only [Exit.inBlock,Exit.then])
 refine bodyPost_ret (v:=.tuple #[.agg #[.int .i64 t',.int .i64 b',.int .i64 m',.int .u8 (kd':Int),.int .i64 nd',.int .i64 o',.string s',.string v'],er]) ?_ rfl ⟨(t',b',m',kd',nd',o',s',v'),cd,by rw [<-HER.o.1];rfl,?_,HKK.o _ H2.o.2⟩
 ·exact kf7
 exact aH (b:=S+1) HER.o.2 yY 0 [.int .i64 t',.int .i64 b',.int .i64 m',.int .u8 (kd':Int),.int .i64 nd',.int .i64 o',.string s',.string v']
end
section
open Go.RowKit Go.Lib Go.Sort Go.Maps
open scoped Classical
theorem lV {B:Nat} {ad:Nat->Addr} (w:World) (c:Nat->Nat) (p br d:Nat) (i:Nat) (R:Rws) (kd k:Nat) (x y:Int) (hkd:kd=0) (hP:PeerC w p br d) (h:RepOwn B w c br (i:Int) R) (hE:EnvM B ad w) (hi:i<4) (hn:(aQ R).length<=250) (hx: -9223372036854775808<=x/\x<=9223372036854775807):
  Calls prog 270 #[.pointer (some ⟨p,0,none⟩),bT (dN kd k x y)] w (Ia ad w R i (fun y0 cd=>∃T,dM (aQ R) T/\sJ (aQ R) T i (R i).length (dN kd k x y) (y0,cd))):=by
 subst hkd
 obtain ⟨T,kv,bt,bx,bc,A,hm',hp,ht⟩:=h.rep.time
 refine (Eb w c p br d i R (dN 0 k x y) hP h hE.t hi T ht (DO h.wellK.well.ok ht).2 hn rfl rfl (by show (1:Nat)<=1000000;omega) hx).mono fun e w' q=> ?_
 obtain ⟨y,cd,e1,e2⟩:=q
 refine ⟨y,cd,e1,⟨e2.o.1,Mc e2.o.2,?_⟩,⟨T,ht,e2.o.2⟩⟩
 by_cases hc:cd=0
 ·subst hc
  exact .inr ⟨rfl,T,ht,Jg h.wellK e2.o.2⟩
 exact .inl ⟨hc,LP e2.o.2 hc⟩
theorem Hs {gd:Nat->Option Obj} {B:Nat} {ad:Nat->Addr} {bm:Nat} {K:Nat->Rws} {st:Nat->DSt} {N:List ae} {i:Nat} {G:List OpX} {D:Nat->List OpX} (w:World) (kd r k:Nat) (hkd:kd=0) (hr:r<3) (hk:k<9223372036854775808) (h:MeshS gd B 3 bm K st N w) (hI:MeshI 3 i G K D st N) (hN:N.length<=30) (hE:EnvM B ad w) (hi:i<=154):
  Calls prog 84 #[.agg #[.int .i64 (kd:Int),.int .i64 (r:Int),.int .i64 (k:Int)],.pointer (some ⟨bm,0,none⟩)] w (KP gd B bm i ad K st N kd r k w):=by
 have HKD:Aside (kd=0):=hkd
 have hk8:kd<=8:=zj
 clear hkd
 obtain ⟨SB,hSB⟩:=ze w.heap.size
 obtain ⟨U,hU⟩:=ze (w.alloc (.cells #[.int .i64 (kd:Int),.int .i64 (r:Int),.int .i64 (k:Int)] 170))
 have hbU:Below w.heap.size w U:=yq
 have BU:StpBlk U SB kd r k:=by rw [hU.o,hSB.o];exact heap_alloc_new w _
 have hgn:gd SB=none:=by
  cases e:gd SB with
  | none=>rfl
  | some o=>
   have:=(vD.1 (h.held e)).1
   rw [hSB.o] at this
   omega
 have hB0:B<=w.heap.size:=by
  obtain ⟨_,_,_,_,_,_,_,_,hm⟩:=h
  exact hm.base
 obtain ⟨gU,hgU⟩:∃gU:Nat->Option Obj,Aside (gU=fun q=>if q=SB then some (Ox kd r k) else gd q):=⟨_,rfl⟩
 have hmU:MeshS gU B 3 bm K st N U:=by rw [hgU.o];exact h.ward hbU (q:=SB) (o:=Ox kd r k) (by rw [hSB.o];exact vB _) BU
 have HB:Aside (Below B w U):=hbU.mono hB0
 have HGL:Aside (∀k o,gd k=some o->k<w.heap.size):=fun k o e=>(vD.1 (h.held e)).1
 have hEU:=hE.later hbU
 have HBK:Aside (∀(W:World) (K':Nat->Rws) (st':Nat->DSt) (N':List ae),MeshS gU B 3 bm K' st' N' W->MeshS gd B 3 bm K' st' N' W/\StpBlk W SB kd r k):=fun W K' st' N' q=>by
  rw [hgU.o] at q
  exact ⟨q.bare_of hgn,q.held (if_pos rfl)⟩
 have HI:Aside (MeshI 3 i G K D st N):=hI
 obtain ⟨s0,s1,s2⟩:=BU.cells
 have HU:Aside (U=w.alloc (.cells #[.int .i64 (kd:Int),.int .i64 (r:Int),.int .i64 (k:Int)] 170)/\SB=w.heap.size/\StpBlk U SB kd r k/\MeshS gU B 3 bm K st N U/\EnvM B ad U):=⟨hU.o,hSB.o,BU,hmU,hEU⟩
 clear hbU BU hU hSB h hE hI hgn hmU hEU
 have hSB:StpBlk U.drew SB kd r k:=HU.o.2.2.1
 obtain ⟨ow,pv,fv,bp,br,d,dv,c,hmA⟩:=HU.o.2.2.2.1
 have hmD:=hmA.later (vG _ U).drew
 have hED:=HU.o.2.2.2.2.later (vG _ U).drew
 have hnd:True:=trivial
 have HD:Aside (MeshS gU B 3 bm K st N U.drew/\EnvM B ad U.drew/\Below B w U.drew/\B<=U.drew.heap.size):=⟨⟨_,_,_,_,_,_,_,_,hmD⟩,hED,HB.o.drew,hmD.base⟩
 have HGD:Aside (∀k o,gd k=some o->gU k=some o/\k<U.drew.heap.size):=fun k o e=>by
  have q:k<w.heap.size:=HGL.o k o e
  have hk:k≠SB:=by rw [HU.o.2.1];omega
  rw [hgU.o]
  exact ⟨(if_neg hk).trans e,vV q (by rw [HU.o.1];simp)⟩
 clear hmA hmD hED
 have d9:((kd:Int)==9)=false:=yc
 have e9:decide ((kd:Int)=9)=false:=zR
 have d10:((kd:Int)==10)=false:=yc
 have e10:decide ((kd:Int)=10)=false:=zR
 have d11:((kd:Int)==11)=false:=yc
 have e11:decide ((kd:Int)=11)=false:=zR
 have d12:((kd:Int)==12)=false:=yc
 have e12:decide ((kd:Int)=12)=false:=zR
 have d13:((kd:Int)==13)=false:=yc
 have e13:decide ((kd:Int)=13)=false:=zR
 have d14:((kd:Int)==14)=false:=yc
 have e14:decide ((kd:Int)=14)=false:=zR
 have d15:((kd:Int)==15)=false:=yc
 have e15:decide ((kd:Int)=15)=false:=zR
 go_enter func84,ntmps84
 go_upto_region 1 with fail
 rw [<-HU.o.1,<-HU.o.2.1]
 go_upto_region 17 with fail
 refine aL (S:=(fun w'=>StpBlk w' SB kd r k)) zo hSB (fun hHeld=> ?_)
 refine tk 0 hHeld ?_
 refine tk 1 hHeld ?_
 refine tk 2 hHeld ?_ (hy:=Or.inl ⟨zv,yr⟩)
 refine tk 3 hHeld ?_ (hy:=Or.inl ⟨zv,yr⟩)
 refine tk 4 hHeld ?_
 refine tk 5 hHeld ?_
 refine tk 6 hHeld ?_ (hy:=Or.inl ⟨zv,yr⟩)
 have HS0:Aside (MeshS gU B 3 bm K st N U.drew/\EnvM B ad U.drew/\Below B w U.drew/\B<=U.drew.heap.size):=HD.o
 have HG0:Aside (∀(W:World) (K':Nat->Rws) (st':Nat->DSt) (N':List ae),MeshS gU B 3 bm K' st' N' W->StpBlk W SB kd r k):=fun W K' st' N' q=>(HBK.o W K' st' N' q).2
 have HL0:Aside (∀k o,gd k=some o->gU k=some o/\k<U.drew.heap.size):=fun k o e=>HGD.o k o e
 have SD0:StpBlk U.drew SB kd r k:=hSB
 obtain ⟨W0,hW0⟩:∃W,Aside (W=U.drew):=⟨_,rfl⟩
 rw [<-hW0.o] at HS0 HL0 SD0 |-
 clear hHeld hSB HD
 refine eB (i:=7) (j:=13) zo rfl rfl (fun kQ hK=> ?_) (fun kQ hK=> ?_)
 ·go_simp
  refine (rJ W0 r hr HS0.o.1 HS0.o.2.1 (by have:=HI.o.len hr;omega)).mono ?_
  rintro e c1 ⟨gn,cap,qs,rfl,HN⟩
  have HSc1:Aside (MeshS gU B 3 bm K st N c1/\EnvM B ad c1/\Below B w c1/\B<=c1.heap.size):=⟨HS0.o.1.later HN.o.2.1,HS0.o.2.1.later HN.o.2.1,HS0.o.2.2.1.trans (HN.o.2.1.mono HS0.o.2.2.2),vI HS0.o.2.2.2 HN.o.2.1.size⟩
  have SDc1:=SD0.later HN.o.2.1
  have HLn:Aside (Below W0.heap.size W0 c1):=HN.o.2.1
  have hlen:0<(af qs).length:=by unfold af;simp
  obtain ⟨x,hx⟩:∃x,Aside ((af qs)[k % (af qs).length]? =some x):=⟨_,vF (Nat.mod_lt _ hlen)⟩
  obtain ⟨y,hy⟩:∃y,Aside ((af qs)[k / 8 % (af qs).length]? =some y):=⟨_,vF (Nat.mod_lt _ hlen)⟩
  have HNQ:Aside (NumsAt c1 gn 0 (af qs)/\dh (aQ (K r)) qs/\(af qs).length<=2000/\∀p∈qs,FineP p):=⟨HN.o.1,HN.o.2.2.1,jC,HN.o.2.2.2.2⟩
  refine hK _ _ SDc1 ?_
  clear hK kQ HN SD0
  refine qn ?_
  have HLc1:Aside (∀k o,gd k=some o->gU k=some o/\k<c1.heap.size):=fun k o e=>⟨(HL0.o k o e).1,vV (HL0.o k o e).2 HLn.o.size⟩
  refine eB (i:=8) (j:=13) zo rfl rfl (fun kQ hK=> ?_) (fun kQ hK=> ?_)
  ·go_simp
   refine (pV kd r k (af qs) x y gn 0 cap c1 HKD.o hk xM hx.o hy.o HNQ.o.1).mono ?_
   rintro e c2 ⟨rfl,hb⟩
   have HSc2:Aside (MeshS gU B 3 bm K st N c2/\EnvM B ad c2/\Below B w c2/\B<=c2.heap.size):=⟨HSc1.o.1.later hb,HSc1.o.2.1.later hb,HSc1.o.2.2.1.trans (hb.mono HSc1.o.2.2.2),vI HSc1.o.2.2.2 hb.size⟩
   have SDc2:=SDc1.later hb
   have HLw:Aside (Below c1.heap.size c1 c2):=hb
   obtain ⟨wv,hwv⟩:=ze (bT (dN kd k x y))
   rw [<-hwv.o]
   refine hK _ _ SDc2 ?_
   clear hK kQ hb SDc1
   refine qn ?_
   have HLc2:Aside (∀k o,gd k=some o->gU k=some o/\k<c2.heap.size):=fun k o e=>⟨(HLc1.o k o e).1,vV (HLc1.o k o e).2 HLw.o.size⟩
   refine eB (i:=9) (j:=13) zo rfl rfl (fun kQ hK=> ?_) (fun kQ hK=> ?_)
   ·go_simp
    have hxy:=ni HNQ.o.2.2.2
    have hdo:=Ir c2 (r:Int) (dN kd k x y) HSc2.o.1 HI.o hN HSc2.o.2.1 zj ⟨zj,zj⟩ (fun r' y0 cd0=>∃T,dM (aQ (K r')) T/\sJ (aQ (K r')) T r' (K r' r').length (dN kd k x y) (y0,cd0)) (fun U' c0 p b0 d0 r' hr' e' hP hR hE'=>lV U' c0 p b0 d0 r' (K r') kd k x y HKD.o hP hR hE' zj qr (hxy _ _ hx.o))
    rw [<-hwv.o] at hdo
    refine hdo.mono ?_
    clear hdo hxy
    rintro e c3 ⟨⟨t',b',m',kd',nd',o',s',v'⟩,cd5,G5,K5,D5,st5,N5,rfl,H5⟩
    have SDc3:=(HG0.o c3 K5 st5 N5 H5.o.1)
    have HSc3:Aside (MeshS gU B 3 bm K5 st5 N5 c3/\EnvM B ad c3/\Below B w c3/\B<=c3.heap.size):=⟨H5.o.1,HSc2.o.2.1.mono H5.o.2.1,HSc2.o.2.2.1.trans H5.o.2.1,vI HSc2.o.2.2.2 H5.o.2.1.size⟩
    obtain ⟨er,her⟩:=ze (eV ad cd5)
    rw [<-her.o]
    unfold bT
    dsimp only
    refine hK _ _ SDc3 ?_
    clear hK kQ SDc2
    refine qn ?_
    have HLc3:Aside (∀k o,gd k=some o->gU k=some o/\k<c3.heap.size):=fun k o e=>⟨(HLc2.o k o e).1,vV (HLc2.o k o e).2 H5.o.2.1.size⟩
    have hHeld:=SDc3
    refine tk 10 hHeld ?_
    refine tk 11 hHeld ?_
    refine tk 12 hHeld ?_
    clear hHeld
    refine aW (i:=13) zo rfl (fun kQ hK=> ?_)
    go_simp
    obtain ⟨Va5,hVa5⟩:∃V,Aside (V=c3.alloc (.cells #[.int .i64 0,.int .i64 0,.int .i64 0,.int .u8 0,.int .i64 0,.int .i64 0,.string ⟨#[]⟩,.string ⟨#[]⟩] 61)):=⟨_,rfl⟩
    obtain ⟨ba5,hba5⟩:∃b,Aside (b=c3.heap.size):=⟨_,rfl⟩
    have hbVa5:Below c3.heap.size c3 Va5:=by rw [hVa5.o];exact zh c3 _
    have OBa5:OpBlk Va5 ba5 aR:=by rw [hVa5.o,hba5.o];exact OpBlk.new c3 aR
    obtain ⟨ga5,hga5⟩:∃g':Nat->Option Obj,Aside (g'=fun q=>if q=ba5 then some (.cells #[.int .i64 0,.int .i64 0,.int .i64 0,.int .u8 0,.int .i64 0,.int .i64 0,.string ⟨#[]⟩,.string ⟨#[]⟩] 61 (0,0)) else gU q):=⟨_,rfl⟩
    have hna5:gU ba5=none:=by
     cases e:gU ba5 with
     | none=>rfl
     | some o=>
      have:=(vD.1 (HSc3.o.1.held e)).1
      rw [hba5.o] at this
      omega
    have hma5:MeshS ga5 B 3 bm K5 st5 N5 Va5:=by rw [hga5.o];exact HSc3.o.1.ward hbVa5 (by rw [hba5.o];exact vB _) OBa5
    have HSa5:Aside (MeshS ga5 B 3 bm K5 st5 N5 Va5/\EnvM B ad Va5/\Below B w Va5/\B<=Va5.heap.size):=⟨hma5,HSc3.o.2.1.later hbVa5,HSc3.o.2.2.1.trans (hbVa5.mono HSc3.o.2.2.2),vI HSc3.o.2.2.2 hbVa5.size⟩
    have HGa5:Aside (∀(W:World) (K':Nat->Rws) (st':Nat->DSt) (N':List ae),MeshS ga5 B 3 bm K' st' N' W->StpBlk W SB kd r k/\OpBlk W ba5 aR):=fun W K' st' N' q=>by
     rw [hga5.o] at q
     exact ⟨HG0.o W K' st' N' (q.bare_of hna5),q.held (if_pos rfl)⟩
    have HLa5:Aside (∀k o,gd k=some o->ga5 k=some o/\k≠ba5):=fun k o e=>by
     have q:=HLc3.o k o e
     have hk:k≠ba5:=by rw [hba5.o];omega
     rw [hga5.o]
     exact kn5
    have HFa5:Aside (ga5 ba5=some (.cells #[.int .i64 0,.int .i64 0,.int .i64 0,.int .u8 0,.int .i64 0,.int .i64 0,.string ⟨#[]⟩,.string ⟨#[]⟩] 61 (0,0))):=by rw [hga5.o];exact if_pos rfl
    have SDa5:=SDc3.later hbVa5
    rw [<-hVa5.o,<-hba5.o]
    refine hK _ _ SDa5 ?_
    clear hK kQ hna5 hma5 OBa5 hbVa5 SDc3
    refine qn ?_
    obtain ⟨z0,z1,z2,z3,z4,z5,z6,z7,zf⟩:=(HGa5.o Va5 K5 st5 N5 HSa5.o.1).2.cells
    unfold aR at z0 z1 z2 z3 z4 z5 z6 z7
    dsimp only at z0 z1 z2 z3 z4 z5 z6 z7
    obtain ⟨X,hX⟩:=ze (Va5.setCells ba5 0 [.int .i64 t',.int .i64 b',.int .i64 m',.int .u8 (kd':Int),.int .i64 nd',.int .i64 o',.string s',.string v'])
    have hkX:Keeps (fun q=>q=ba5) Va5 X:=by rw [hX.o];exact aZ ba5 _ 0 Va5
    have hneS:SB≠ba5:=fun e=>by
     have h1:=SDa5
     have h2:=(HGa5.o Va5 K5 st5 N5 HSa5.o.1).2
     exact kc8
    have SX:StpBlk X SB kd r k:=(hkX.block SB SDa5.lt hneS).trans SDa5
    have HXX:Aside (MeshS gd B 3 bm K5 st5 N5 X/\Below B w X):=⟨HSa5.o.1.free HFa5.o hkX HLa5.o,HSa5.o.2.2.1.trans (hkX.below HSa5.o.2.2.2 (fun q e=>by
     have e':q=ba5:=e
     obtain ⟨ow',_,_,_,_,_,_,_,hm'⟩:=HSa5.o.1
     rw [e']
     exact hm'.low ba5 (by rw [(hm'.guard ba5 _ HFa5.o).1];omega)))⟩
    refine aW (i:=14) zo rfl (fun kQ hK=> ?_)
    go_simp
    have hW:Va5.setCells ba5 0 [.int .i64 t',.int .i64 b',.int .i64 m',.int .u8 (kd':Int),.int .i64 nd',.int .i64 o',.string s',.string v']=X:=hX.o.symm
    exact ka6
   go_simp
   obtain ⟨Va6,hVa6⟩:∃V,Aside (V=c2.alloc (.cells #[.int .i64 0,.int .i64 0,.int .i64 0,.int .u8 0,.int .i64 0,.int .i64 0,.string ⟨#[]⟩,.string ⟨#[]⟩] 61)):=⟨_,rfl⟩
   obtain ⟨ba6,hba6⟩:∃b,Aside (b=c2.heap.size):=⟨_,rfl⟩
   have hbVa6:Below c2.heap.size c2 Va6:=by rw [hVa6.o];exact zh c2 _
   have OBa6:OpBlk Va6 ba6 aR:=by rw [hVa6.o,hba6.o];exact OpBlk.new c2 aR
   obtain ⟨ga6,hga6⟩:∃g':Nat->Option Obj,Aside (g'=fun q=>if q=ba6 then some (.cells #[.int .i64 0,.int .i64 0,.int .i64 0,.int .u8 0,.int .i64 0,.int .i64 0,.string ⟨#[]⟩,.string ⟨#[]⟩] 61 (0,0)) else gU q):=⟨_,rfl⟩
   have hna6:gU ba6=none:=by
    cases e:gU ba6 with
    | none=>rfl
    | some o=>
     have:=(vD.1 (HSc2.o.1.held e)).1
     rw [hba6.o] at this
     omega
   have hma6:MeshS ga6 B 3 bm K st N Va6:=by rw [hga6.o];exact HSc2.o.1.ward hbVa6 (by rw [hba6.o];exact vB _) OBa6
   have HSa6:Aside (MeshS ga6 B 3 bm K st N Va6/\EnvM B ad Va6/\Below B w Va6/\B<=Va6.heap.size):=⟨hma6,HSc2.o.2.1.later hbVa6,HSc2.o.2.2.1.trans (hbVa6.mono HSc2.o.2.2.2),vI HSc2.o.2.2.2 hbVa6.size⟩
   have HGa6:Aside (∀(W:World) (K':Nat->Rws) (st':Nat->DSt) (N':List ae),MeshS ga6 B 3 bm K' st' N' W->StpBlk W SB kd r k/\OpBlk W ba6 aR):=fun W K' st' N' q=>by
    rw [hga6.o] at q
    exact ⟨HG0.o W K' st' N' (q.bare_of hna6),q.held (if_pos rfl)⟩
   have HLa6:Aside (∀k o,gd k=some o->ga6 k=some o/\k≠ba6):=fun k o e=>by
    have q:=HLc2.o k o e
    have hk:k≠ba6:=by rw [hba6.o];omega
    rw [hga6.o]
    exact kn5
   have HFa6:Aside (ga6 ba6=some (.cells #[.int .i64 0,.int .i64 0,.int .i64 0,.int .u8 0,.int .i64 0,.int .i64 0,.string ⟨#[]⟩,.string ⟨#[]⟩] 61 (0,0))):=by rw [hga6.o];exact if_pos rfl
   have SDa6:=SDc2.later hbVa6
   rw [<-hVa6.o,<-hba6.o]
   refine hK _ _ SDa6 ?_
   clear hK kQ hna6 hma6 OBa6 hbVa6 SDc2
   refine qn ?_
   refine aW (i:=9) zo rfl (fun kQ hK=> ?_)
   go_simp
   have hxy:=ni HNQ.o.2.2.2
   have hdo:=Ir Va6 (r:Int) (dN kd k x y) HSa6.o.1 HI.o hN HSa6.o.2.1 zj ⟨zj,zj⟩ (fun r' y0 cd0=>∃T,dM (aQ (K r')) T/\sJ (aQ (K r')) T r' (K r' r').length (dN kd k x y) (y0,cd0)) (fun U' c0 p b0 d0 r' hr' e' hP hR hE'=>lV U' c0 p b0 d0 r' (K r') kd k x y HKD.o hP hR hE' zj qr (hxy _ _ hx.o))
   rw [<-hwv.o] at hdo
   refine hdo.mono ?_
   clear hdo hxy
   rintro e c7 ⟨⟨t',b',m',kd',nd',o',s',v'⟩,cd5,G5,K5,D5,st5,N5,rfl,H5⟩
   have SDc7:=(HGa6.o c7 K5 st5 N5 H5.o.1).1
   have HSc7:Aside (MeshS ga6 B 3 bm K5 st5 N5 c7/\EnvM B ad c7/\Below B w c7/\B<=c7.heap.size):=⟨H5.o.1,HSa6.o.2.1.mono H5.o.2.1,HSa6.o.2.2.1.trans H5.o.2.1,vI HSa6.o.2.2.2 H5.o.2.1.size⟩
   obtain ⟨er,her⟩:=ze (eV ad cd5)
   rw [<-her.o]
   unfold bT
   dsimp only
   refine hK _ _ SDc7 ?_
   clear hK kQ SDa6
   refine qn ?_
   have hHeld:=SDc7
   refine tk 10 hHeld ?_
   refine tk 11 hHeld ?_
   refine tk 12 hHeld ?_
   clear hHeld
   obtain ⟨z0,z1,z2,z3,z4,z5,z6,z7,zf⟩:=(HGa6.o c7 K5 st5 N5 HSc7.o.1).2.cells
   unfold aR at z0 z1 z2 z3 z4 z5 z6 z7
   dsimp only at z0 z1 z2 z3 z4 z5 z6 z7
   obtain ⟨X,hX⟩:=ze (c7.setCells ba6 0 [.int .i64 t',.int .i64 b',.int .i64 m',.int .u8 (kd':Int),.int .i64 nd',.int .i64 o',.string s',.string v'])
   have hkX:Keeps (fun q=>q=ba6) c7 X:=by rw [hX.o];exact aZ ba6 _ 0 c7
   have hneS:SB≠ba6:=fun e=>by
    have h1:=SDc7
    have h2:=(HGa6.o c7 K5 st5 N5 HSc7.o.1).2
    exact kc8
   have SX:StpBlk X SB kd r k:=(hkX.block SB SDc7.lt hneS).trans SDc7
   have HXX:Aside (MeshS gd B 3 bm K5 st5 N5 X/\Below B w X):=⟨HSc7.o.1.free HFa6.o hkX HLa6.o,HSc7.o.2.2.1.trans (hkX.below HSc7.o.2.2.2 (fun q e=>by
    have e':q=ba6:=e
    obtain ⟨ow',_,_,_,_,_,_,_,hm'⟩:=HSc7.o.1
    rw [e']
    exact hm'.low ba6 (by rw [(hm'.guard ba6 _ HFa6.o).1];omega)))⟩
   refine aW (i:=14) zo rfl (fun kQ hK=> ?_)
   go_simp
   have hW:c7.setCells ba6 0 [.int .i64 t',.int .i64 b',.int .i64 m',.int .u8 (kd':Int),.int .i64 nd',.int .i64 o',.string s',.string v']=X:=hX.o.symm
   exact ka6
  go_simp
  obtain ⟨Va9,hVa9⟩:∃V,Aside (V=c1.alloc (.cells #[.int .i64 0,.int .i64 0,.int .i64 0,.int .u8 0,.int .i64 0,.int .i64 0,.string ⟨#[]⟩,.string ⟨#[]⟩] 61)):=⟨_,rfl⟩
  obtain ⟨ba9,hba9⟩:∃b,Aside (b=c1.heap.size):=⟨_,rfl⟩
  have hbVa9:Below c1.heap.size c1 Va9:=by rw [hVa9.o];exact zh c1 _
  have OBa9:OpBlk Va9 ba9 aR:=by rw [hVa9.o,hba9.o];exact OpBlk.new c1 aR
  obtain ⟨ga9,hga9⟩:∃g':Nat->Option Obj,Aside (g'=fun q=>if q=ba9 then some (.cells #[.int .i64 0,.int .i64 0,.int .i64 0,.int .u8 0,.int .i64 0,.int .i64 0,.string ⟨#[]⟩,.string ⟨#[]⟩] 61 (0,0)) else gU q):=⟨_,rfl⟩
  have hna9:gU ba9=none:=by
   cases e:gU ba9 with
   | none=>rfl
   | some o=>
    have:=(vD.1 (HSc1.o.1.held e)).1
    rw [hba9.o] at this
    omega
  have hma9:MeshS ga9 B 3 bm K st N Va9:=by rw [hga9.o];exact HSc1.o.1.ward hbVa9 (by rw [hba9.o];exact vB _) OBa9
  have HSa9:Aside (MeshS ga9 B 3 bm K st N Va9/\EnvM B ad Va9/\Below B w Va9/\B<=Va9.heap.size):=⟨hma9,HSc1.o.2.1.later hbVa9,HSc1.o.2.2.1.trans (hbVa9.mono HSc1.o.2.2.2),vI HSc1.o.2.2.2 hbVa9.size⟩
  have HGa9:Aside (∀(W:World) (K':Nat->Rws) (st':Nat->DSt) (N':List ae),MeshS ga9 B 3 bm K' st' N' W->StpBlk W SB kd r k/\OpBlk W ba9 aR):=fun W K' st' N' q=>by
   rw [hga9.o] at q
   exact ⟨HG0.o W K' st' N' (q.bare_of hna9),q.held (if_pos rfl)⟩
  have HLa9:Aside (∀k o,gd k=some o->ga9 k=some o/\k≠ba9):=fun k o e=>by
   have q:=HLc1.o k o e
   have hk:k≠ba9:=by rw [hba9.o];omega
   rw [hga9.o]
   exact kn5
  have HFa9:Aside (ga9 ba9=some (.cells #[.int .i64 0,.int .i64 0,.int .i64 0,.int .u8 0,.int .i64 0,.int .i64 0,.string ⟨#[]⟩,.string ⟨#[]⟩] 61 (0,0))):=by rw [hga9.o];exact if_pos rfl
  have SDa9:=SDc1.later hbVa9
  rw [<-hVa9.o,<-hba9.o]
  refine hK _ _ SDa9 ?_
  clear hK kQ hna9 hma9 OBa9 hbVa9 SDc1
  refine qn ?_
  refine aW (i:=8) zo rfl (fun kQ hK=> ?_)
  go_simp
  refine (pV kd r k (af qs) x y gn 0 cap Va9 HKD.o hk xM hx.o hy.o (HNQ.o.1.later (by rw [hVa9.o];exact zh c1 _))).mono ?_
  rintro e c10 ⟨rfl,hb⟩
  have HSc10:Aside (MeshS ga9 B 3 bm K st N c10/\EnvM B ad c10/\Below B w c10/\B<=c10.heap.size):=⟨HSa9.o.1.later hb,HSa9.o.2.1.later hb,HSa9.o.2.2.1.trans (hb.mono HSa9.o.2.2.2),vI HSa9.o.2.2.2 hb.size⟩
  have SDc10:=SDa9.later hb
  have HLw:Aside (Below Va9.heap.size Va9 c10):=hb
  obtain ⟨wv,hwv⟩:=ze (bT (dN kd k x y))
  rw [<-hwv.o]
  refine hK _ _ SDc10 ?_
  clear hK kQ hb SDa9
  refine qn ?_
  refine aW (i:=9) zo rfl (fun kQ hK=> ?_)
  go_simp
  have hxy:=ni HNQ.o.2.2.2
  have hdo:=Ir c10 (r:Int) (dN kd k x y) HSc10.o.1 HI.o hN HSc10.o.2.1 zj ⟨zj,zj⟩ (fun r' y0 cd0=>∃T,dM (aQ (K r')) T/\sJ (aQ (K r')) T r' (K r' r').length (dN kd k x y) (y0,cd0)) (fun U' c0 p b0 d0 r' hr' e' hP hR hE'=>lV U' c0 p b0 d0 r' (K r') kd k x y HKD.o hP hR hE' zj qr (hxy _ _ hx.o))
  rw [<-hwv.o] at hdo
  refine hdo.mono ?_
  clear hdo hxy
  rintro e c11 ⟨⟨t',b',m',kd',nd',o',s',v'⟩,cd5,G5,K5,D5,st5,N5,rfl,H5⟩
  have SDc11:=(HGa9.o c11 K5 st5 N5 H5.o.1).1
  have HSc11:Aside (MeshS ga9 B 3 bm K5 st5 N5 c11/\EnvM B ad c11/\Below B w c11/\B<=c11.heap.size):=⟨H5.o.1,HSc10.o.2.1.mono H5.o.2.1,HSc10.o.2.2.1.trans H5.o.2.1,vI HSc10.o.2.2.2 H5.o.2.1.size⟩
  obtain ⟨er,her⟩:=ze (eV ad cd5)
  rw [<-her.o]
  unfold bT
  dsimp only
  refine hK _ _ SDc11 ?_
  clear hK kQ SDc10
  refine qn ?_
  have hHeld:=SDc11
  refine tk 10 hHeld ?_
  refine tk 11 hHeld ?_
  refine tk 12 hHeld ?_
  clear hHeld
  obtain ⟨z0,z1,z2,z3,z4,z5,z6,z7,zf⟩:=(HGa9.o c11 K5 st5 N5 HSc11.o.1).2.cells
  unfold aR at z0 z1 z2 z3 z4 z5 z6 z7
  dsimp only at z0 z1 z2 z3 z4 z5 z6 z7
  obtain ⟨X,hX⟩:=ze (c11.setCells ba9 0 [.int .i64 t',.int .i64 b',.int .i64 m',.int .u8 (kd':Int),.int .i64 nd',.int .i64 o',.string s',.string v'])
  have hkX:Keeps (fun q=>q=ba9) c11 X:=by rw [hX.o];exact aZ ba9 _ 0 c11
  have hneS:SB≠ba9:=fun e=>by
   have h1:=SDc11
   have h2:=(HGa9.o c11 K5 st5 N5 HSc11.o.1).2
   exact kc8
  have SX:StpBlk X SB kd r k:=(hkX.block SB SDc11.lt hneS).trans SDc11
  have HXX:Aside (MeshS gd B 3 bm K5 st5 N5 X/\Below B w X):=⟨HSc11.o.1.free HFa9.o hkX HLa9.o,HSc11.o.2.2.1.trans (hkX.below HSc11.o.2.2.2 (fun q e=>by
   have e':q=ba9:=e
   obtain ⟨ow',_,_,_,_,_,_,_,hm'⟩:=HSc11.o.1
   rw [e']
   exact hm'.low ba9 (by rw [(hm'.guard ba9 _ HFa9.o).1];omega)))⟩
  refine aW (i:=14) zo rfl (fun kQ hK=> ?_)
  go_simp
  have hW:c11.setCells ba9 0 [.int .i64 t',.int .i64 b',.int .i64 m',.int .u8 (kd':Int),.int .i64 nd',.int .i64 o',.string s',.string v']=X:=hX.o.symm
  exact ka6
 go_simp
 obtain ⟨Va13,hVa13⟩:∃V,Aside (V=W0.alloc (.cells #[.int .i64 0,.int .i64 0,.int .i64 0,.int .u8 0,.int .i64 0,.int .i64 0,.string ⟨#[]⟩,.string ⟨#[]⟩] 61)):=⟨_,rfl⟩
 obtain ⟨ba13,hba13⟩:∃b,Aside (b=W0.heap.size):=⟨_,rfl⟩
 have hbVa13:Below W0.heap.size W0 Va13:=by rw [hVa13.o];exact zh W0 _
 have OBa13:OpBlk Va13 ba13 aR:=by rw [hVa13.o,hba13.o];exact OpBlk.new W0 aR
 obtain ⟨ga13,hga13⟩:∃g':Nat->Option Obj,Aside (g'=fun q=>if q=ba13 then some (.cells #[.int .i64 0,.int .i64 0,.int .i64 0,.int .u8 0,.int .i64 0,.int .i64 0,.string ⟨#[]⟩,.string ⟨#[]⟩] 61 (0,0)) else gU q):=⟨_,rfl⟩
 have hna13:gU ba13=none:=by
  cases e:gU ba13 with
  | none=>rfl
  | some o=>
   have:=(vD.1 (HS0.o.1.held e)).1
   rw [hba13.o] at this
   omega
 have hma13:MeshS ga13 B 3 bm K st N Va13:=by rw [hga13.o];exact HS0.o.1.ward hbVa13 (by rw [hba13.o];exact vB _) OBa13
 have HSa13:Aside (MeshS ga13 B 3 bm K st N Va13/\EnvM B ad Va13/\Below B w Va13/\B<=Va13.heap.size):=⟨hma13,HS0.o.2.1.later hbVa13,HS0.o.2.2.1.trans (hbVa13.mono HS0.o.2.2.2),vI HS0.o.2.2.2 hbVa13.size⟩
 have HGa13:Aside (∀(W:World) (K':Nat->Rws) (st':Nat->DSt) (N':List ae),MeshS ga13 B 3 bm K' st' N' W->StpBlk W SB kd r k/\OpBlk W ba13 aR):=fun W K' st' N' q=>by
  rw [hga13.o] at q
  exact ⟨HG0.o W K' st' N' (q.bare_of hna13),q.held (if_pos rfl)⟩
 have HLa13:Aside (∀k o,gd k=some o->ga13 k=some o/\k≠ba13):=fun k o e=>by
  have q:=HL0.o k o e
  have hk:k≠ba13:=by rw [hba13.o];omega
  rw [hga13.o]
  exact kn5
 have HFa13:Aside (ga13 ba13=some (.cells #[.int .i64 0,.int .i64 0,.int .i64 0,.int .u8 0,.int .i64 0,.int .i64 0,.string ⟨#[]⟩,.string ⟨#[]⟩] 61 (0,0))):=by rw [hga13.o];exact if_pos rfl
 have SDa13:=SD0.later hbVa13
 rw [<-hVa13.o,<-hba13.o]
 refine hK _ _ SDa13 ?_
 clear hK kQ hna13 hma13 OBa13 hbVa13 SD0
 refine qn ?_
 refine aW (i:=7) zo rfl (fun kQ hK=> ?_)
 go_simp
 refine (rJ Va13 r hr HSa13.o.1 HSa13.o.2.1 (by have:=HI.o.len hr;omega)).mono ?_
 rintro e c14 ⟨gn,cap,qs,rfl,HN⟩
 have HSc14:Aside (MeshS ga13 B 3 bm K st N c14/\EnvM B ad c14/\Below B w c14/\B<=c14.heap.size):=⟨HSa13.o.1.later HN.o.2.1,HSa13.o.2.1.later HN.o.2.1,HSa13.o.2.2.1.trans (HN.o.2.1.mono HSa13.o.2.2.2),vI HSa13.o.2.2.2 HN.o.2.1.size⟩
 have SDc14:=SDa13.later HN.o.2.1
 have HLn:Aside (Below Va13.heap.size Va13 c14):=HN.o.2.1
 have hlen:0<(af qs).length:=by unfold af;simp
 obtain ⟨x,hx⟩:∃x,Aside ((af qs)[k % (af qs).length]? =some x):=⟨_,vF (Nat.mod_lt _ hlen)⟩
 obtain ⟨y,hy⟩:∃y,Aside ((af qs)[k / 8 % (af qs).length]? =some y):=⟨_,vF (Nat.mod_lt _ hlen)⟩
 have HNQ:Aside (NumsAt c14 gn 0 (af qs)/\dh (aQ (K r)) qs/\(af qs).length<=2000/\∀p∈qs,FineP p):=⟨HN.o.1,HN.o.2.2.1,jC,HN.o.2.2.2.2⟩
 refine hK _ _ SDc14 ?_
 clear hK kQ HN SDa13
 refine qn ?_
 refine aW (i:=8) zo rfl (fun kQ hK=> ?_)
 go_simp
 refine (pV kd r k (af qs) x y gn 0 cap c14 HKD.o hk xM hx.o hy.o HNQ.o.1).mono ?_
 rintro e c15 ⟨rfl,hb⟩
 have HSc15:Aside (MeshS ga13 B 3 bm K st N c15/\EnvM B ad c15/\Below B w c15/\B<=c15.heap.size):=⟨HSc14.o.1.later hb,HSc14.o.2.1.later hb,HSc14.o.2.2.1.trans (hb.mono HSc14.o.2.2.2),vI HSc14.o.2.2.2 hb.size⟩
 have SDc15:=SDc14.later hb
 have HLw:Aside (Below c14.heap.size c14 c15):=hb
 obtain ⟨wv,hwv⟩:=ze (bT (dN kd k x y))
 rw [<-hwv.o]
 refine hK _ _ SDc15 ?_
 clear hK kQ hb SDc14
 refine qn ?_
 refine aW (i:=9) zo rfl (fun kQ hK=> ?_)
 go_simp
 have hxy:=ni HNQ.o.2.2.2
 have hdo:=Ir c15 (r:Int) (dN kd k x y) HSc15.o.1 HI.o hN HSc15.o.2.1 zj ⟨zj,zj⟩ (fun r' y0 cd0=>∃T,dM (aQ (K r')) T/\sJ (aQ (K r')) T r' (K r' r').length (dN kd k x y) (y0,cd0)) (fun U' c0 p b0 d0 r' hr' e' hP hR hE'=>lV U' c0 p b0 d0 r' (K r') kd k x y HKD.o hP hR hE' zj qr (hxy _ _ hx.o))
 rw [<-hwv.o] at hdo
 refine hdo.mono ?_
 clear hdo hxy
 rintro e c16 ⟨⟨t',b',m',kd',nd',o',s',v'⟩,cd5,G5,K5,D5,st5,N5,rfl,H5⟩
 have SDc16:=(HGa13.o c16 K5 st5 N5 H5.o.1).1
 have HSc16:Aside (MeshS ga13 B 3 bm K5 st5 N5 c16/\EnvM B ad c16/\Below B w c16/\B<=c16.heap.size):=⟨H5.o.1,HSc15.o.2.1.mono H5.o.2.1,HSc15.o.2.2.1.trans H5.o.2.1,vI HSc15.o.2.2.2 H5.o.2.1.size⟩
 obtain ⟨er,her⟩:=ze (eV ad cd5)
 rw [<-her.o]
 unfold bT
 dsimp only
 refine hK _ _ SDc16 ?_
 clear hK kQ SDc15
 refine qn ?_
 have hHeld:=SDc16
 refine tk 10 hHeld ?_
 refine tk 11 hHeld ?_
 refine tk 12 hHeld ?_
 clear hHeld
 obtain ⟨z0,z1,z2,z3,z4,z5,z6,z7,zf⟩:=(HGa13.o c16 K5 st5 N5 HSc16.o.1).2.cells
 unfold aR at z0 z1 z2 z3 z4 z5 z6 z7
 dsimp only at z0 z1 z2 z3 z4 z5 z6 z7
 obtain ⟨X,hX⟩:=ze (c16.setCells ba13 0 [.int .i64 t',.int .i64 b',.int .i64 m',.int .u8 (kd':Int),.int .i64 nd',.int .i64 o',.string s',.string v'])
 have hkX:Keeps (fun q=>q=ba13) c16 X:=by rw [hX.o];exact aZ ba13 _ 0 c16
 have hneS:SB≠ba13:=fun e=>by
  have h1:=SDc16
  have h2:=(HGa13.o c16 K5 st5 N5 HSc16.o.1).2
  exact kc8
 have SX:StpBlk X SB kd r k:=(hkX.block SB SDc16.lt hneS).trans SDc16
 have HXX:Aside (MeshS gd B 3 bm K5 st5 N5 X/\Below B w X):=⟨HSc16.o.1.free HFa13.o hkX HLa13.o,HSc16.o.2.2.1.trans (hkX.below HSc16.o.2.2.2 (fun q e=>by
  have e':q=ba13:=e
  obtain ⟨ow',_,_,_,_,_,_,_,hm'⟩:=HSc16.o.1
  rw [e']
  exact hm'.low ba13 (by rw [(hm'.guard ba13 _ HFa13.o).1];omega)))⟩
 refine aW (i:=14) zo rfl (fun kQ hK=> ?_)
 go_simp
 have hW:c16.setCells ba13 0 [.int .i64 t',.int .i64 b',.int .i64 m',.int .u8 (kd':Int),.int .i64 nd',.int .i64 o',.string s',.string v']=X:=hX.o.symm
 exact ka6
