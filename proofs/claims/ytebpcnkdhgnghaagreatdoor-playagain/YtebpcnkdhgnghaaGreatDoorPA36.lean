import Derived.Test.YtebpcnkdhgnghaaGreatDoorPA34
set_option linter.unusedSimpArgs false
set_option linter.unusedVariables false
set_option maxRecDepth 100000
set_option maxHeartbeats 64000000
namespace Go.Proofs.YtebpcnkdhgnghaaGreatDoor
open Go.Proofs.Tryz
section
open Go.RowKit Go.Lib Go.Sort Go.Maps
open scoped Classical
def mg (A:List OpX) (T:Int) (i n:Nat) (x:OpX) (a:OpX×Nat):Prop:=((kdO x=109\/kdO x=105\/kdO x=100\/kdO x=115)/\MkIs A T i n x a)\/(kdO x≠109/\kdO x≠105/\kdO x≠100/\kdO x≠115/\a=(aT,5))
theorem pB (v:ByteArray) (w:World):Calls prog 318 #[.string v] w fun e w'=>e= .returned (.int .u8 ((chO v).toNat:Int))/\w'=w:=by
 by_cases kv0:v.size=0
 ·have he:=ox kv0
  rw [Iq kv0]
  go_enter func318,ntmps318
  exact ka9
 have he:=tW kv0
 have hch:=Hd v kv0
 obtain ⟨cv,hcv⟩:=ze (((chO v).toNat:Int))
 rw [<-hcv.o] at hch |-
 go_enter func318,ntmps318
 exact ka9
theorem IB {B:Nat} {ad:Nat->Addr} (w:World) (c:Nat->Nat) (p br d:Nat) (i:Nat) (R:Rws) (x:OpX) (hP:PeerC w p br d) (h:RepOwn B w c br (i:Int) R) (hE:EnvT B ad w) (hcy:Aside (Cyc ad)) (hi:i<4) (T:Int) (hT:cD (aX R) T) (hm:T<=1073741824) (hn:(aX R).length<=250)
  (hs1:x.2.2.2.2.2.2.1.size<=1000000) (hs2:x.2.2.2.2.2.2.2.size<=1000000) (hk:x.2.2.2.1<256) (h2: -9223372036854775808<=aG x/\aG x<=9223372036854775807) (h4: -9223372036854775808<=aF x/\aF x<=9223372036854775807):
  Calls prog 270 #[.pointer (some ⟨p,0,none⟩),ar x] w (MkOut ad w (fun y cd=>mg (aX R) T i (R i).length x (y,cd))):=by
 obtain ⟨t,b,m,kd,nd,o,s,v⟩:=x
 dsimp only at hs1 hs2 hk h2 h4
 obtain ⟨S,hS⟩:=za w.heap.size
 obtain ⟨U,hU⟩:=za ((w.alloc (.cells #[.int .i64 t,.int .i64 b,.int .i64 m,.int .u8 (kd:Int),.int .i64 nd,.int .i64 o,.string s,.string v] 61)).alloc (.cells #[.int .i64 0,.int .i64 0,.int .i64 0,.int .u8 0,.int .i64 0,.int .i64 0,.string ⟨#[]⟩,.string ⟨#[]⟩] 61))
 have hbU:Below w.heap.size w U:=zH
 have O0:OpBlk U S (t,b,m,kd,nd,o,s,v):=yO
 have Z0:OpBlk U (S+1) aT:=by
  rw [hU,hS]
  have:=OpBlk.new (w.alloc (.cells #[.int .i64 t,.int .i64 b,.int .i64 m,.int .u8 (kd:Int),.int .i64 nd,.int .i64 o,.string s,.string v] 61)) aT
  exact kc8
 obtain ⟨j0,j1,j2,j3,j4,j5,j6,j7,-⟩:=O0.cells
 dsimp only at j0 j1 j2 j3 j4 j5 j6 j7
 have p0:U.cell? ⟨p,0,none⟩=some (.pointer (some ⟨br,0,none⟩)):=(PeerC.same hP (hbU.block p hP.lt)).c0
 have hbD:Below w.heap.size w U.drew:=hbU.drew
 have hR:=h.later hbD
 have hEU:=hE.later hbD
 have SD:PeerC U.drew p br d/\OpBlk U.drew S (t,b,m,kd,nd,o,s,v):=⟨PeerC.same hP (hbU.block p hP.lt),O0⟩
 have HLOW:Aside (6<S):=by have h1:=hE.env.low;have h2:=hE.env.size;rw [hS];show _<_;omega
 have HPL:Aside (p<S):=by rw [hS];exact hP.lt
 have ek:U.cell? ⟨6,0,none⟩=some (.iface 450 (.pointer (some (ad 4)))):=hEU.env.op4.c4
 have c1:=NG U.drew c br i R T o s hR hEU hi hT hm hn hs1 h4.1 h4.2
 have c2:=NC U.drew c br i R T nd o s hR hEU hcy hi hT hm hn hs1 h2.1 h2.2 h4.1 h4.2
 have c3:=LM U.drew c br i R T nd o (chO v) hR hEU hi hT hm hn h2.1 h2.2 h4.1 h4.2
 have c4:=Kh U.drew c br i R T nd o hR hEU hi hT hm hn h2.1 h2.2 h4.1 h4.2
 have c5:=Ns U.drew c br i R T nd s v hR hEU hi hT hm hn hs1 hs2 h2.1 h2.2
 have H0:Aside (U=(w.alloc (.cells #[.int .i64 t,.int .i64 b,.int .i64 m,.int .u8 (kd:Int),.int .i64 nd,.int .i64 o,.string s,.string v] 61)).alloc (.cells #[.int .i64 0,.int .i64 0,.int .i64 0,.int .u8 0,.int .i64 0,.int .i64 0,.string ⟨#[]⟩,.string ⟨#[]⟩] 61)/\OpBlk U.drew (S+1) aT/\Below w.heap.size w U.drew/\S=w.heap.size):=⟨hU,Z0,hbD,hS⟩
 have HC1:=Lib.hid c1
 have HC2:=Lib.hid c2
 have HC3:=Lib.hid c3
 have HC4:=Lib.hid c4
 have HC5:=Lib.hid c5
 have hfb:=pB v U.drew
 have HFB:=Lib.hid hfb
 clear hU hbU hbD hS O0 hR hEU h hE c1 c2 c3 c4 c5 h2 h4 hP hfb
 obtain ⟨y0,y1,y2,y3,y4,y5,y6,y7,yf⟩:=Z0.cells
 unfold aT at y0 y1 y2 y3 y4 y5 y6 y7
 dsimp only at y0 y1 y2 y3 y4 y5 y6 y7
 clear Z0
 unfold ar
 dsimp only
 go_enter func270,ntmps270
 go_upto_region 1 with fail
 rw [<-H0.o.1,<-H0.o.2.2.2]
 by_cases k1:kd=109
 ·have d1:((kd:Int)==109)=true:=by simp;omega
  by_cases k0:nd=0
  ·have d0:(nd==0)=true:=by simp [k0]
   have HKK:Aside (∀a:OpX×Nat,a=mU (CH (aX R) o) (bE T i (R i).length 109 0 o s ⟨#[]⟩)->mg (aX R) T i (R i).length (t,b,m,kd,nd,o,s,v) a):=fun a q=>.inl ⟨.inl k1,.inl ⟨k1,k0,q⟩⟩
   clear k1 k0
   go_upto_region 4 with fail
   refine aM (S:=(fun w'=>PeerC w' p br d/\OpBlk w' S (t,b,m,kd,nd,o,s,v))) zk SD (fun hHeld=> ?_)
   refine tk 0 hHeld ?_
   refine tk 1 hHeld ?_
   refine tk 2 hHeld ?_
   refine tk 3 hHeld ?_ (hy:=Or.inl ⟨zt,zB⟩)
   refine tk 4 hHeld ?_
   refine tk 5 hHeld ?_ (hy:=Or.inl ⟨zt,zm⟩)
   refine tk 6 hHeld ?_
   refine tk 7 hHeld ?_ (hy:=Or.inl ⟨zt,zm⟩)
   refine aZ (i:=8) zk rfl (fun kQ hK=> ?_)
   go_simp
   refine HC1.o.mono ?_
   rintro e w2 ⟨⟨t',b',m',kd',nd',o',s',v'⟩,cd,rfl,H2⟩
   obtain ⟨er,her⟩:=za (eV ad cd)
   rw [<-her]
   unfold ar
   dsimp only
   have S2:PeerC w2 p br d/\OpBlk w2 S (t,b,m,kd,nd,o,s,v):=⟨SD.1.same (H2.o.1.block p SD.1.lt),SD.2.later H2.o.1⟩
   obtain ⟨z0,z1,z2,z3,z4,z5,z6,z7,zf⟩:=(H0.o.2.1.later H2.o.1).cells
   unfold aT at z0 z1 z2 z3 z4 z5 z6 z7
   dsimp only at z0 z1 z2 z3 z4 z5 z6 z7
   have HER:Aside (er=eV ad cd/\Below w.heap.size w w2):=⟨her,zi H0.o.2.2.1 H2.o.1⟩
   clear her
   refine hK _ _ S2 ?_
   clear hK kQ hHeld
   have hHeld:=S2
   refine qn ?_
   refine tk 9 hHeld ?_
   refine tk 10 hHeld ?_
   refine aZ (i:=11) zk rfl (fun kQ hK=> ?_)
   go_simp
   have S3:PeerC (w2.setCells (S+1) 0 [.int .i64 t',.int .i64 b',.int .i64 m',.int .u8 (kd':Int),.int .i64 nd',.int .i64 o',.string s',.string v']) p br d/\OpBlk (w2.setCells (S+1) 0 [.int .i64 t',.int .i64 b',.int .i64 m',.int .u8 (kd':Int),.int .i64 nd',.int .i64 o',.string s',.string v']) S (t,b,m,kd,nd,o,s,v):=⟨S2.1.same (aJ (S+1) _ 0 w2 p yQ),(aJ (S+1) _ 0 w2 S zj).trans S2.2⟩
   refine hK _ _ S3 ?_
   clear hK kQ
   refine qn ?_
   refine aZ (i:=12) zk rfl (fun kQ hK=> ?_)
   go_simp
   refine hK _ _ S3 ?_
   clear hK kQ
   refine wpAnyH_done zk ?_ _
   refine qn ?_
   clear S3 S2 hHeld
   go_wp2
   (try simp only [Exit.inBlock,Exit.then])
   refine bodyPost_ret (v:=.tuple #[.agg #[.int .i64 t',.int .i64 b',.int .i64 m',.int .u8 (kd':Int),.int .i64 nd',.int .i64 o',.string s',.string v'],er]) ?_ rfl ⟨(t',b',m',kd',nd',o',s',v'),cd,by rw [<-HER.o.1];rfl,?_,HKK.o _ H2.o.2⟩
   ·exact kc4
   exact kb3
  have d0:(nd==0)=false:=by simp [k0]
  have HKK:Aside (∀a:OpX×Nat,(∃ms,ms.Perm (eu (aX R))/\bL ms/\AnsC (fW (aX R) nd &&CH (aX R) o) (o=nd\/Ins (aH ms) o nd) (bE T i (R i).length 109 nd o s ⟨#[]⟩) a)->mg (aX R) T i (R i).length (t,b,m,kd,nd,o,s,v) a):=fun a q=>.inl ⟨.inl k1,.inr (.inl ⟨k1,k0,q⟩)⟩
  clear k1 k0
  go_upto_region 5 with fail
  refine aM (S:=(fun w'=>PeerC w' p br d/\OpBlk w' S (t,b,m,kd,nd,o,s,v))) zk SD (fun hHeld=> ?_)
  refine tk 0 hHeld ?_
  refine tk 1 hHeld ?_
  refine tk 2 hHeld ?_
  refine tk 3 hHeld ?_ (hy:=Or.inl ⟨zt,zB⟩)
  refine tk 4 hHeld ?_
  refine tk 5 hHeld ?_ (hy:=Or.inl ⟨zt,zm⟩)
  refine tk 6 hHeld ?_
  refine tk 7 hHeld ?_ (hy:=Or.inl ⟨zt,zm⟩)
  refine tk 8 hHeld ?_
  refine tk 9 hHeld ?_ (hy:=Or.inl ⟨zt,zm⟩)
  refine aZ (i:=10) zk rfl (fun kQ hK=> ?_)
  go_simp
  refine HC2.o.mono ?_
  rintro e w2 ⟨⟨t',b',m',kd',nd',o',s',v'⟩,cd,rfl,H2⟩
  obtain ⟨er,her⟩:=za (eV ad cd)
  rw [<-her]
  unfold ar
  dsimp only
  have S2:PeerC w2 p br d/\OpBlk w2 S (t,b,m,kd,nd,o,s,v):=⟨SD.1.same (H2.o.1.block p SD.1.lt),SD.2.later H2.o.1⟩
  obtain ⟨z0,z1,z2,z3,z4,z5,z6,z7,zf⟩:=(H0.o.2.1.later H2.o.1).cells
  unfold aT at z0 z1 z2 z3 z4 z5 z6 z7
  dsimp only at z0 z1 z2 z3 z4 z5 z6 z7
  have HER:Aside (er=eV ad cd/\Below w.heap.size w w2):=⟨her,zi H0.o.2.2.1 H2.o.1⟩
  clear her
  refine hK _ _ S2 ?_
  clear hK kQ hHeld
  have hHeld:=S2
  refine qn ?_
  refine tk 11 hHeld ?_
  refine tk 12 hHeld ?_
  refine aZ (i:=13) zk rfl (fun kQ hK=> ?_)
  go_simp
  have S3:PeerC (w2.setCells (S+1) 0 [.int .i64 t',.int .i64 b',.int .i64 m',.int .u8 (kd':Int),.int .i64 nd',.int .i64 o',.string s',.string v']) p br d/\OpBlk (w2.setCells (S+1) 0 [.int .i64 t',.int .i64 b',.int .i64 m',.int .u8 (kd':Int),.int .i64 nd',.int .i64 o',.string s',.string v']) S (t,b,m,kd,nd,o,s,v):=⟨S2.1.same (aJ (S+1) _ 0 w2 p yQ),(aJ (S+1) _ 0 w2 S zj).trans S2.2⟩
  refine hK _ _ S3 ?_
  clear hK kQ
  refine qn ?_
  refine aZ (i:=14) zk rfl (fun kQ hK=> ?_)
  go_simp
  refine hK _ _ S3 ?_
  clear hK kQ
  refine wpAnyH_done zk ?_ _
  refine qn ?_
  clear S3 S2 hHeld
  go_wp2
  (try simp only [Exit.inBlock,Exit.then])
  refine bodyPost_ret (v:=.tuple #[.agg #[.int .i64 t',.int .i64 b',.int .i64 m',.int .u8 (kd':Int),.int .i64 nd',.int .i64 o',.string s',.string v'],er]) ?_ rfl ⟨(t',b',m',kd',nd',o',s',v'),cd,by rw [<-HER.o.1];rfl,?_,HKK.o _ H2.o.2⟩
  ·exact kc4
  exact kb3
 have d1:((kd:Int)==109)=false:=zl
 by_cases k2:kd=105
 ·have d2:((kd:Int)==105)=true:=by simp;omega
  have HKK:Aside (∀a:OpX×Nat,(∃b:Int×Bool,WriteAt (aX R) nd o b/\a=mU b.2 (bE T i (R i).length 105 nd b.1 ⟨#[]⟩ ⟨#[chO v]⟩))->mg (aX R) T i (R i).length (t,b,m,kd,nd,o,s,v) a):=fun a q=>.inl ⟨.inr (.inl k2),.inr (.inr (.inl ⟨k2,q⟩))⟩
  clear k1 k2
  go_upto_region 7 with fail
  refine aM (S:=(fun w'=>PeerC w' p br d/\OpBlk w' S (t,b,m,kd,nd,o,s,v))) zk SD (fun hHeld=> ?_)
  refine tk 0 hHeld ?_
  refine tk 1 hHeld ?_
  refine tk 2 hHeld ?_
  refine tk 3 hHeld ?_ (hy:=Or.inl ⟨zt,zB⟩)
  refine tk 4 hHeld ?_
  refine tk 5 hHeld ?_ (hy:=Or.inl ⟨zt,zm⟩)
  refine tk 6 hHeld ?_
  refine tk 7 hHeld ?_ (hy:=Or.inl ⟨zt,zm⟩)
  refine tk 8 hHeld ?_
  refine tk 9 hHeld ?_ (hy:=Or.inl ⟨zt,zm⟩)
  refine aZ (i:=10) zk rfl (fun kQ hK=> ?_)
  go_simp
  refine HFB.o.mono ?_
  rintro e w1 ⟨rfl,rfl⟩
  refine hK _ _ SD ?_
  clear hK kQ
  refine qn ?_
  refine aZ (i:=11) zk rfl (fun kQ hK=> ?_)
  go_simp
  refine HC3.o.mono ?_
  rintro e w2 ⟨⟨t',b',m',kd',nd',o',s',v'⟩,cd,rfl,H2⟩
  obtain ⟨er,her⟩:=za (eV ad cd)
  rw [<-her]
  unfold ar
  dsimp only
  have S2:PeerC w2 p br d/\OpBlk w2 S (t,b,m,kd,nd,o,s,v):=⟨SD.1.same (H2.o.1.block p SD.1.lt),SD.2.later H2.o.1⟩
  obtain ⟨z0,z1,z2,z3,z4,z5,z6,z7,zf⟩:=(H0.o.2.1.later H2.o.1).cells
  unfold aT at z0 z1 z2 z3 z4 z5 z6 z7
  dsimp only at z0 z1 z2 z3 z4 z5 z6 z7
  have HER:Aside (er=eV ad cd/\Below w.heap.size w w2):=⟨her,zi H0.o.2.2.1 H2.o.1⟩
  clear her
  refine hK _ _ S2 ?_
  clear hK kQ hHeld
  have hHeld:=S2
  refine qn ?_
  refine tk 12 hHeld ?_
  refine tk 13 hHeld ?_
  refine aZ (i:=14) zk rfl (fun kQ hK=> ?_)
  go_simp
  have S3:PeerC (w2.setCells (S+1) 0 [.int .i64 t',.int .i64 b',.int .i64 m',.int .u8 (kd':Int),.int .i64 nd',.int .i64 o',.string s',.string v']) p br d/\OpBlk (w2.setCells (S+1) 0 [.int .i64 t',.int .i64 b',.int .i64 m',.int .u8 (kd':Int),.int .i64 nd',.int .i64 o',.string s',.string v']) S (t,b,m,kd,nd,o,s,v):=⟨S2.1.same (aJ (S+1) _ 0 w2 p yQ),(aJ (S+1) _ 0 w2 S zj).trans S2.2⟩
  refine hK _ _ S3 ?_
  clear hK kQ
  refine qn ?_
  refine aZ (i:=15) zk rfl (fun kQ hK=> ?_)
  go_simp
  refine hK _ _ S3 ?_
  clear hK kQ
  refine wpAnyH_done zk ?_ _
  refine qn ?_
  clear S3 S2 hHeld
  go_wp2
  (try simp only [Exit.inBlock,Exit.then])
  refine bodyPost_ret (v:=.tuple #[.agg #[.int .i64 t',.int .i64 b',.int .i64 m',.int .u8 (kd':Int),.int .i64 nd',.int .i64 o',.string s',.string v'],er]) ?_ rfl ⟨(t',b',m',kd',nd',o',s',v'),cd,by rw [<-HER.o.1];rfl,?_,HKK.o _ H2.o.2⟩
  ·exact kc4
  exact kb3
 have d2:((kd:Int)==105)=false:=zl
 by_cases k3:kd=100
 ·have d3:((kd:Int)==100)=true:=by simp;omega
  have HKK:Aside (∀a:OpX×Nat,(∃b:Int×Bool,EraseAt (aX R) nd o b/\a=mU b.2 (bE T i (R i).length 100 nd b.1 ⟨#[]⟩ ⟨#[]⟩))->mg (aX R) T i (R i).length (t,b,m,kd,nd,o,s,v) a):=fun a q=>.inl ⟨.inr (.inr (.inl k3)),.inr (.inr (.inr (.inl ⟨k3,q⟩)))⟩
  clear k1 k2 k3
  go_upto_region 9 with fail
  refine aM (S:=(fun w'=>PeerC w' p br d/\OpBlk w' S (t,b,m,kd,nd,o,s,v))) zk SD (fun hHeld=> ?_)
  refine tk 0 hHeld ?_
  refine tk 1 hHeld ?_
  refine tk 2 hHeld ?_
  refine tk 3 hHeld ?_ (hy:=Or.inl ⟨zt,zB⟩)
  refine tk 4 hHeld ?_
  refine tk 5 hHeld ?_ (hy:=Or.inl ⟨zt,zm⟩)
  refine tk 6 hHeld ?_
  refine tk 7 hHeld ?_ (hy:=Or.inl ⟨zt,zm⟩)
  refine aZ (i:=8) zk rfl (fun kQ hK=> ?_)
  go_simp
  refine HC4.o.mono ?_
  rintro e w2 ⟨⟨t',b',m',kd',nd',o',s',v'⟩,cd,rfl,H2⟩
  obtain ⟨er,her⟩:=za (eV ad cd)
  rw [<-her]
  unfold ar
  dsimp only
  have S2:PeerC w2 p br d/\OpBlk w2 S (t,b,m,kd,nd,o,s,v):=⟨SD.1.same (H2.o.1.block p SD.1.lt),SD.2.later H2.o.1⟩
  obtain ⟨z0,z1,z2,z3,z4,z5,z6,z7,zf⟩:=(H0.o.2.1.later H2.o.1).cells
  unfold aT at z0 z1 z2 z3 z4 z5 z6 z7
  dsimp only at z0 z1 z2 z3 z4 z5 z6 z7
  have HER:Aside (er=eV ad cd/\Below w.heap.size w w2):=⟨her,zi H0.o.2.2.1 H2.o.1⟩
  clear her
  refine hK _ _ S2 ?_
  clear hK kQ hHeld
  have hHeld:=S2
  refine qn ?_
  refine tk 9 hHeld ?_
  refine tk 10 hHeld ?_
  refine aZ (i:=11) zk rfl (fun kQ hK=> ?_)
  go_simp
  have S3:PeerC (w2.setCells (S+1) 0 [.int .i64 t',.int .i64 b',.int .i64 m',.int .u8 (kd':Int),.int .i64 nd',.int .i64 o',.string s',.string v']) p br d/\OpBlk (w2.setCells (S+1) 0 [.int .i64 t',.int .i64 b',.int .i64 m',.int .u8 (kd':Int),.int .i64 nd',.int .i64 o',.string s',.string v']) S (t,b,m,kd,nd,o,s,v):=⟨S2.1.same (aJ (S+1) _ 0 w2 p yQ),(aJ (S+1) _ 0 w2 S zj).trans S2.2⟩
  refine hK _ _ S3 ?_
  clear hK kQ
  refine qn ?_
  refine aZ (i:=12) zk rfl (fun kQ hK=> ?_)
  go_simp
  refine hK _ _ S3 ?_
  clear hK kQ
  refine wpAnyH_done zk ?_ _
  refine qn ?_
  clear S3 S2 hHeld
  go_wp2
  (try simp only [Exit.inBlock,Exit.then])
  refine bodyPost_ret (v:=.tuple #[.agg #[.int .i64 t',.int .i64 b',.int .i64 m',.int .u8 (kd':Int),.int .i64 nd',.int .i64 o',.string s',.string v'],er]) ?_ rfl ⟨(t',b',m',kd',nd',o',s',v'),cd,by rw [<-HER.o.1];rfl,?_,HKK.o _ H2.o.2⟩
  ·exact kc4
  exact kb3
 have d3:((kd:Int)==100)=false:=zl
 by_cases k4:kd=115
 ·have d4:((kd:Int)==115)=true:=by simp;omega
  have HKK:Aside (∀a:OpX×Nat,a=mU (fW (aX R) nd) (bE T i (R i).length 115 nd 0 s v)->mg (aX R) T i (R i).length (t,b,m,kd,nd,o,s,v) a):=fun a q=>.inl ⟨.inr (.inr (.inr k4)),.inr (.inr (.inr (.inr ⟨k1,k2,k3,q⟩)))⟩
  clear k1 k2 k3 k4
  go_upto_region 11 with fail
  refine aM (S:=(fun w'=>PeerC w' p br d/\OpBlk w' S (t,b,m,kd,nd,o,s,v))) zk SD (fun hHeld=> ?_)
  refine tk 0 hHeld ?_
  refine tk 1 hHeld ?_
  refine tk 2 hHeld ?_
  refine tk 3 hHeld ?_ (hy:=Or.inl ⟨zt,zB⟩)
  refine tk 4 hHeld ?_
  refine tk 5 hHeld ?_ (hy:=Or.inl ⟨zt,zm⟩)
  refine tk 6 hHeld ?_
  refine tk 7 hHeld ?_ (hy:=Or.inl ⟨zt,zm⟩)
  refine tk 8 hHeld ?_
  refine tk 9 hHeld ?_ (hy:=Or.inl ⟨zt,zm⟩)
  refine aZ (i:=10) zk rfl (fun kQ hK=> ?_)
  go_simp
  refine HC5.o.mono ?_
  rintro e w2 ⟨⟨t',b',m',kd',nd',o',s',v'⟩,cd,rfl,H2⟩
  obtain ⟨er,her⟩:=za (eV ad cd)
  rw [<-her]
  unfold ar
  dsimp only
  have S2:PeerC w2 p br d/\OpBlk w2 S (t,b,m,kd,nd,o,s,v):=⟨SD.1.same (H2.o.1.block p SD.1.lt),SD.2.later H2.o.1⟩
  obtain ⟨z0,z1,z2,z3,z4,z5,z6,z7,zf⟩:=(H0.o.2.1.later H2.o.1).cells
  unfold aT at z0 z1 z2 z3 z4 z5 z6 z7
  dsimp only at z0 z1 z2 z3 z4 z5 z6 z7
  have HER:Aside (er=eV ad cd/\Below w.heap.size w w2):=⟨her,zi H0.o.2.2.1 H2.o.1⟩
  clear her
  refine hK _ _ S2 ?_
  clear hK kQ hHeld
  have hHeld:=S2
  refine qn ?_
  refine tk 11 hHeld ?_
  refine tk 12 hHeld ?_
  refine aZ (i:=13) zk rfl (fun kQ hK=> ?_)
  go_simp
  have S3:PeerC (w2.setCells (S+1) 0 [.int .i64 t',.int .i64 b',.int .i64 m',.int .u8 (kd':Int),.int .i64 nd',.int .i64 o',.string s',.string v']) p br d/\OpBlk (w2.setCells (S+1) 0 [.int .i64 t',.int .i64 b',.int .i64 m',.int .u8 (kd':Int),.int .i64 nd',.int .i64 o',.string s',.string v']) S (t,b,m,kd,nd,o,s,v):=⟨S2.1.same (aJ (S+1) _ 0 w2 p yQ),(aJ (S+1) _ 0 w2 S zj).trans S2.2⟩
  refine hK _ _ S3 ?_
  clear hK kQ
  refine qn ?_
  refine aZ (i:=14) zk rfl (fun kQ hK=> ?_)
  go_simp
  refine hK _ _ S3 ?_
  clear hK kQ
  refine wpAnyH_done zk ?_ _
  refine qn ?_
  clear S3 S2 hHeld
  go_wp2
  (try simp only [Exit.inBlock,Exit.then])
  refine bodyPost_ret (v:=.tuple #[.agg #[.int .i64 t',.int .i64 b',.int .i64 m',.int .u8 (kd':Int),.int .i64 nd',.int .i64 o',.string s',.string v'],er]) ?_ rfl ⟨(t',b',m',kd',nd',o',s',v'),cd,by rw [<-HER.o.1];rfl,?_,HKK.o _ H2.o.2⟩
  ·exact kc4
  exact kb3
 have d4:((kd:Int)==115)=false:=zl
 have HKK:Aside (mg (aX R) T i (R i).length (t,b,m,kd,nd,o,s,v) (aT,5)):=.inr ⟨k1,k2,k3,k4,rfl⟩
 clear k1 k2 k3 k4
 obtain ⟨V,hV⟩:=ze U.drew
 have HB:Aside (Below w.heap.size w V):=by rw [hV.o];exact H0.o.2.2.1
 have Z1:OpBlk V (S+1) aT:=by rw [hV.o];exact H0.o.2.1
 have SV0:U.drew.cell? ⟨6,0,none⟩=some (.iface 450 (.pointer (some (ad 4)))):=ek
 have SV:V.cell? ⟨6,0,none⟩=some (.iface 450 (.pointer (some (ad 4)))):=by rw [hV.o];exact ek
 have SW:(V.setCells (S+1) 0 [.int .i64 0,.int .i64 0,.int .i64 0,.int .u8 0,.int .i64 0,.int .i64 0,.string ⟨#[]⟩,.string ⟨#[]⟩]).cell? ⟨6,0,none⟩=some (.iface 450 (.pointer (some (ad 4)))):=(vi (a:=⟨6,0,none⟩) (aJ (S+1) _ 0 V 6 (by have:=HLOW.o;omega))).trans SV
 clear y0 y1 y2 y3 y4 y5 y6 y7 yf p0
 obtain ⟨y0,y1,y2,y3,y4,y5,y6,y7,yf⟩:=Z1.cells
 unfold aT at y0 y1 y2 y3 y4 y5 y6 y7
 dsimp only at y0 y1 y2 y3 y4 y5 y6 y7
 clear Z1 ek
 go_upto_region 12 with fail
 refine aM (S:=(fun w'=>w'.cell? ⟨6,0,none⟩=some (.iface 450 (.pointer (some (ad 4)))))) zk SV0 (fun hHeld=> ?_)
 rw [<-hV.o]
 clear hHeld
 have hHeld:=SV
 refine tk 0 hHeld ?_
 refine tk 1 hHeld ?_ (hy:=Or.inl ⟨zt,qH⟩)
 refine aZ (i:=2) zk rfl (fun kQ hK=> ?_)
 go_simp
 refine hK _ _ SW ?_
 clear hK kQ
 refine qn ?_
 refine aZ (i:=3) zk rfl (fun kQ hK=> ?_)
 go_simp
 refine hK _ _ SW ?_
 clear hK kQ
 refine wpAnyH_done zk ?_ _
 refine qn ?_
 clear SW SV SV0 hHeld
 go_wp2
 (try simp only [Exit.inBlock,Exit.then])
 refine bodyPost_ret (v:=.tuple #[.agg #[.int .i64 0,.int .i64 0,.int .i64 0,.int .u8 0,.int .i64 0,.int .i64 0,.string ⟨#[]⟩,.string ⟨#[]⟩],.iface 450 (.pointer (some (ad 4)))]) ?_ rfl ⟨aT,5,rfl,?_,HKK.o⟩
 ·exact kc4
 exact aL (b:=S+1) HB.o yE 0 [.int .i64 0,.int .i64 0,.int .i64 0,.int .u8 0,.int .i64 0,.int .i64 0,.string ⟨#[]⟩,.string ⟨#[]⟩]
