import Derived.Test.YtfkekfibjnjcnaaGreatDoorMZ28
import Derived.Test.YtfkekfibjnjcnaaGreatDoorMZ29
set_option linter.unusedSimpArgs false
set_option linter.unusedVariables false
set_option maxRecDepth 100000
set_option maxHeartbeats 64000000
namespace Go.Proofs.YtfkekfibjnjcnaaGreatDoor
open Go.Proofs.Tryz
section
open Go.RowKit Go.Lib Go.Sort Go.Maps
open scoped Classical
theorem firstByte_any (v:ByteArray) (w:World):Calls prog 101 #[.string v] w fun e w'=>∃ch:UInt8,e= .returned (.int .u8 (ch.toNat:Int))/\w'=w:=by
 by_cases kv0:v.size=0
 ·have he:=emptyYes kv0
  go_enter func101,ntmps101
  go_wp2
  go_ret
  exact ⟨0,rfl,rfl⟩
 have he:=emptyNo kv0
 obtain ⟨ch,hch⟩:∃ch:UInt8,∀w:World,(Instr.index 9 (.string v) (.int .i64 0)).run prog w= .ok (.int .u8 (ch.toNat:Int)) w:=first_byte v kv0
 go_enter func101,ntmps101
 go_wp2
 go_ret
 exact ⟨ch,rfl,rfl⟩
theorem pnext_any {B:Nat} {ad:Nat->Addr} (w:World) (c:Nat->Nat) (p br d:Nat) (i:Nat) (R:Rws) (x:OpX) (hP:PeerC w p br d) (h:RepOwn B w c br (i:Int) R) (hE:EnvT B ad w) (hcy:Aside (Cyc ad)) (hi:i<4) (hT:∀T,timeO (allR R) T->T<1073741824) (hn:(allR R).length<=140)
  (hs1:x.2.2.2.2.2.2.1.size<=1000000) (hs2:x.2.2.2.2.2.2.2.size<=1000000) (hk:x.2.2.2.1<256) (h2: -9223372036854775808<=nodeO x/\nodeO x<=9223372036854775807) (h4: -9223372036854775808<=otherO x/\otherO x<=9223372036854775807):
  Calls prog 60 #[.pointer (some ⟨p,0,none⟩),encO x] w (Make1Out ad w R i):=by
 obtain ⟨t,b,m,kd,nd,o,s,v⟩:=x
 dsimp only at hs1 hs2 hk h2 h4
 obtain ⟨S,hS⟩:=za w.heap.size
 obtain ⟨U,hU⟩:=za ((w.alloc (.cells #[.int .i64 t,.int .i64 b,.int .i64 m,.int .u8 (kd:Int),.int .i64 nd,.int .i64 o,.string s,.string v] 41)).alloc (.cells #[.int .i64 0,.int .i64 0,.int .i64 0,.int .u8 0,.int .i64 0,.int .i64 0,.string ⟨#[]⟩,.string ⟨#[]⟩] 41))
 have hbU:Below w.heap.size w U:=zI
 have O0:OpBlk U S (t,b,m,kd,nd,o,s,v):=qg
 have Z0:OpBlk U (S+1) zeroO:=by
  rw [hU,hS]
  have:=OpBlk.new (w.alloc (.cells #[.int .i64 t,.int .i64 b,.int .i64 m,.int .u8 (kd:Int),.int .i64 nd,.int .i64 o,.string s,.string v] 41)) zeroO
  rw [vQ] at this
  exact this
 obtain ⟨j0,j1,j2,j3,j4,j5,j6,j7,-⟩:=O0.cells
 dsimp only at j0 j1 j2 j3 j4 j5 j6 j7
 have p0:U.cell? ⟨p,0,none⟩=some (.pointer (some ⟨br,0,none⟩)):=(PeerC.same hP (hbU.block p hP.lt)).c0
 have hbD:Below w.heap.size w U.drew:=hbU.drew
 have hR:=h.later hbD
 have hEU:=hE.later hbD
 have SD:PeerC U.drew p br d/\OpBlk U.drew S (t,b,m,kd,nd,o,s,v):=⟨PeerC.same hP (hbU.block p hP.lt),O0⟩
 have HLOW:Aside (5<S):=by have h1:=hE.env.low;have h2:=hE.env.size;rw [hS];show _<_;omega
 have HPL:Aside (p<S):=by rw [hS];exact hP.lt
 have ek:U.cell? ⟨5,0,none⟩=some (.iface 350 (.pointer (some (ad 4)))):=hEU.env.op4.c4
 have c1:=m_make U.drew c br i R o s hR hEU hi hT hn hs1 h4.1 h4.2
 have c2:=m_move U.drew c br i R nd o s hR hEU hcy hi hT hn hs1 h2.1 h2.2 h4.1 h4.2
 have c3:=fun ch=>m_write U.drew c br i R nd o ch hR hEU hi hT hn h2.1 h2.2 h4.1 h4.2
 have c4:=m_erase U.drew c br i R nd o hR hEU hi hT hn h2.1 h2.2 h4.1 h4.2
 have c5:=m_mark U.drew c br i R nd s v hR hEU hi hT hn hs1 hs2 h2.1 h2.2
 have H0:Aside (U=(w.alloc (.cells #[.int .i64 t,.int .i64 b,.int .i64 m,.int .u8 (kd:Int),.int .i64 nd,.int .i64 o,.string s,.string v] 41)).alloc (.cells #[.int .i64 0,.int .i64 0,.int .i64 0,.int .u8 0,.int .i64 0,.int .i64 0,.string ⟨#[]⟩,.string ⟨#[]⟩] 41)/\OpBlk U.drew (S+1) zeroO/\Below w.heap.size w U.drew/\S=w.heap.size):=⟨hU,Z0,hbD,hS⟩
 have HC1:=Lib.hid c1
 have HC2:=Lib.hid c2
 have HC3:=Lib.hid c3
 have HC4:=Lib.hid c4
 have HC5:=Lib.hid c5
 have hfb:=firstByte_any v U.drew
 have HFB:=Lib.hid hfb
 clear hU hbU hbD hS O0 hR hEU h hE c1 c2 c3 c4 c5 h2 h4 hP hfb
 obtain ⟨y0,y1,y2,y3,y4,y5,y6,y7,yf⟩:=Z0.cells
 unfold zeroO at y0 y1 y2 y3 y4 y5 y6 y7
 dsimp only at y0 y1 y2 y3 y4 y5 y6 y7
 clear Z0
 unfold encO
 dsimp only
 go_enter func60,ntmps60
 go_upto_region 1 with fail
 rw [<-H0.o.1,<-H0.o.2.2.2]
 by_cases k1:kd=109
 ·have d1:((kd:Int)==109)=true:=by simp;omega
  by_cases k0:nd=0
  ·have d0:(nd==0)=true:=by simp [k0]
   clear k1 k0
   go_upto_region 4 with fail
   refine wp_region_H (S:=(fun w'=>PeerC w' p br d/\OpBlk w' S (t,b,m,kd,nd,o,s,v))) zk SD (fun hHeld=> ?_)
   refine tk 0 hHeld ?_
   refine tk 1 hHeld ?_
   refine tk 2 hHeld ?_
   refine tk 3 hHeld ?_ (hy:=Or.inl ⟨zu,zA⟩)
   refine tk 4 hHeld ?_
   refine tk 5 hHeld ?_ (hy:=Or.inl ⟨zu,zo⟩)
   refine tk 6 hHeld ?_
   refine tk 7 hHeld ?_ (hy:=Or.inl ⟨zu,zo⟩)
   refine wpAnyH_one (i:=8) zk rfl (fun kQ hK=> ?_)
   go_simp
   refine HC1.o.mono ?_
   rintro e w2 ⟨⟨t',b',m',kd',nd',o',s',v'⟩,cd,rfl,H2⟩
   obtain ⟨er,her⟩:=za (eV ad cd)
   rw [<-her]
   unfold encO
   dsimp only
   have S2:PeerC w2 p br d/\OpBlk w2 S (t,b,m,kd,nd,o,s,v):=⟨SD.1.same (H2.o.1.block p SD.1.lt),SD.2.later H2.o.1⟩
   obtain ⟨z0,z1,z2,z3,z4,z5,z6,z7,zf⟩:=(H0.o.2.1.later H2.o.1).cells
   unfold zeroO at z0 z1 z2 z3 z4 z5 z6 z7
   dsimp only at z0 z1 z2 z3 z4 z5 z6 z7
   have HER:Aside (er=eV ad cd/\Below w.heap.size w w2):=⟨her,zi H0.o.2.2.1 H2.o.1⟩
   clear her
   refine hK _ _ S2 ?_
   clear hK kQ hHeld
   have hHeld:=S2
   refine qn ?_
   refine tk 9 hHeld ?_
   refine tk 10 hHeld ?_
   refine wpAnyH_one (i:=11) zk rfl (fun kQ hK=> ?_)
   go_simp
   have S3:PeerC (w2.setCells (S+1) 0 [.int .i64 t',.int .i64 b',.int .i64 m',.int .u8 (kd':Int),.int .i64 nd',.int .i64 o',.string s',.string v']) p br d/\OpBlk (w2.setCells (S+1) 0 [.int .i64 t',.int .i64 b',.int .i64 m',.int .u8 (kd':Int),.int .i64 nd',.int .i64 o',.string s',.string v']) S (t,b,m,kd,nd,o,s,v):=⟨S2.1.same (setCells_other (S+1) _ 0 w2 p yO),(setCells_other (S+1) _ 0 w2 S zj).trans S2.2⟩
   refine hK _ _ S3 ?_
   clear hK kQ
   refine qn ?_
   refine wpAnyH_one (i:=12) zk rfl (fun kQ hK=> ?_)
   go_simp
   refine hK _ _ S3 ?_
   clear hK kQ
   refine wpAnyH_done zk ?_ _
   refine qn ?_
   clear S3 S2 hHeld
   go_wp2
   (try simp only [Exit.inBlock,Exit.then])
   refine bodyPost_ret (v:=.tuple #[.agg #[.int .i64 t',.int .i64 b',.int .i64 m',.int .u8 (kd':Int),.int .i64 nd',.int .i64 o',.string s',.string v'],er]) ?_ rfl ⟨(t',b',m',kd',nd',o',s',v'),cd,by rw [<-HER.o.1];rfl,?_,H2.o.2⟩
   ·rw [results_ct rfl]
    go_simp
   exact below_cells (b:=S+1) HER.o.2 zQ 0 [.int .i64 t',.int .i64 b',.int .i64 m',.int .u8 (kd':Int),.int .i64 nd',.int .i64 o',.string s',.string v']
  have d0:(nd==0)=false:=by simp [k0]
  clear k1 k0
  go_upto_region 5 with fail
  refine wp_region_H (S:=(fun w'=>PeerC w' p br d/\OpBlk w' S (t,b,m,kd,nd,o,s,v))) zk SD (fun hHeld=> ?_)
  refine tk 0 hHeld ?_
  refine tk 1 hHeld ?_
  refine tk 2 hHeld ?_
  refine tk 3 hHeld ?_ (hy:=Or.inl ⟨zu,zA⟩)
  refine tk 4 hHeld ?_
  refine tk 5 hHeld ?_ (hy:=Or.inl ⟨zu,zo⟩)
  refine tk 6 hHeld ?_
  refine tk 7 hHeld ?_ (hy:=Or.inl ⟨zu,zo⟩)
  refine tk 8 hHeld ?_
  refine tk 9 hHeld ?_ (hy:=Or.inl ⟨zu,zo⟩)
  refine wpAnyH_one (i:=10) zk rfl (fun kQ hK=> ?_)
  go_simp
  refine HC2.o.mono ?_
  rintro e w2 ⟨⟨t',b',m',kd',nd',o',s',v'⟩,cd,rfl,H2⟩
  obtain ⟨er,her⟩:=za (eV ad cd)
  rw [<-her]
  unfold encO
  dsimp only
  have S2:PeerC w2 p br d/\OpBlk w2 S (t,b,m,kd,nd,o,s,v):=⟨SD.1.same (H2.o.1.block p SD.1.lt),SD.2.later H2.o.1⟩
  obtain ⟨z0,z1,z2,z3,z4,z5,z6,z7,zf⟩:=(H0.o.2.1.later H2.o.1).cells
  unfold zeroO at z0 z1 z2 z3 z4 z5 z6 z7
  dsimp only at z0 z1 z2 z3 z4 z5 z6 z7
  have HER:Aside (er=eV ad cd/\Below w.heap.size w w2):=⟨her,zi H0.o.2.2.1 H2.o.1⟩
  clear her
  refine hK _ _ S2 ?_
  clear hK kQ hHeld
  have hHeld:=S2
  refine qn ?_
  refine tk 11 hHeld ?_
  refine tk 12 hHeld ?_
  refine wpAnyH_one (i:=13) zk rfl (fun kQ hK=> ?_)
  go_simp
  have S3:PeerC (w2.setCells (S+1) 0 [.int .i64 t',.int .i64 b',.int .i64 m',.int .u8 (kd':Int),.int .i64 nd',.int .i64 o',.string s',.string v']) p br d/\OpBlk (w2.setCells (S+1) 0 [.int .i64 t',.int .i64 b',.int .i64 m',.int .u8 (kd':Int),.int .i64 nd',.int .i64 o',.string s',.string v']) S (t,b,m,kd,nd,o,s,v):=⟨S2.1.same (setCells_other (S+1) _ 0 w2 p yO),(setCells_other (S+1) _ 0 w2 S zj).trans S2.2⟩
  refine hK _ _ S3 ?_
  clear hK kQ
  refine qn ?_
  refine wpAnyH_one (i:=14) zk rfl (fun kQ hK=> ?_)
  go_simp
  refine hK _ _ S3 ?_
  clear hK kQ
  refine wpAnyH_done zk ?_ _
  refine qn ?_
  clear S3 S2 hHeld
  go_wp2
  (try simp only [Exit.inBlock,Exit.then])
  refine bodyPost_ret (v:=.tuple #[.agg #[.int .i64 t',.int .i64 b',.int .i64 m',.int .u8 (kd':Int),.int .i64 nd',.int .i64 o',.string s',.string v'],er]) ?_ rfl ⟨(t',b',m',kd',nd',o',s',v'),cd,by rw [<-HER.o.1];rfl,?_,H2.o.2⟩
  ·rw [results_ct rfl]
   go_simp
  exact below_cells (b:=S+1) HER.o.2 zQ 0 [.int .i64 t',.int .i64 b',.int .i64 m',.int .u8 (kd':Int),.int .i64 nd',.int .i64 o',.string s',.string v']
 have d1:((kd:Int)==109)=false:=zl
 by_cases k2:kd=105
 ·have d2:((kd:Int)==105)=true:=by simp;omega
  clear k1 k2
  go_upto_region 7 with fail
  refine wp_region_H (S:=(fun w'=>PeerC w' p br d/\OpBlk w' S (t,b,m,kd,nd,o,s,v))) zk SD (fun hHeld=> ?_)
  refine tk 0 hHeld ?_
  refine tk 1 hHeld ?_
  refine tk 2 hHeld ?_
  refine tk 3 hHeld ?_ (hy:=Or.inl ⟨zu,zA⟩)
  refine tk 4 hHeld ?_
  refine tk 5 hHeld ?_ (hy:=Or.inl ⟨zu,zo⟩)
  refine tk 6 hHeld ?_
  refine tk 7 hHeld ?_ (hy:=Or.inl ⟨zu,zo⟩)
  refine tk 8 hHeld ?_
  refine tk 9 hHeld ?_ (hy:=Or.inl ⟨zu,zo⟩)
  refine wpAnyH_one (i:=10) zk rfl (fun kQ hK=> ?_)
  go_simp
  refine HFB.o.mono ?_
  rintro e w1 ⟨ch,rfl,rfl⟩
  refine hK _ _ SD ?_
  clear hK kQ
  refine qn ?_
  refine wpAnyH_one (i:=11) zk rfl (fun kQ hK=> ?_)
  go_simp
  refine (HC3.o ch).mono ?_
  rintro e w2 ⟨⟨t',b',m',kd',nd',o',s',v'⟩,cd,rfl,H2⟩
  obtain ⟨er,her⟩:=za (eV ad cd)
  rw [<-her]
  unfold encO
  dsimp only
  have S2:PeerC w2 p br d/\OpBlk w2 S (t,b,m,kd,nd,o,s,v):=⟨SD.1.same (H2.o.1.block p SD.1.lt),SD.2.later H2.o.1⟩
  obtain ⟨z0,z1,z2,z3,z4,z5,z6,z7,zf⟩:=(H0.o.2.1.later H2.o.1).cells
  unfold zeroO at z0 z1 z2 z3 z4 z5 z6 z7
  dsimp only at z0 z1 z2 z3 z4 z5 z6 z7
  have HER:Aside (er=eV ad cd/\Below w.heap.size w w2):=⟨her,zi H0.o.2.2.1 H2.o.1⟩
  clear her
  refine hK _ _ S2 ?_
  clear hK kQ hHeld
  have hHeld:=S2
  refine qn ?_
  refine tk 12 hHeld ?_
  refine tk 13 hHeld ?_
  refine wpAnyH_one (i:=14) zk rfl (fun kQ hK=> ?_)
  go_simp
  have S3:PeerC (w2.setCells (S+1) 0 [.int .i64 t',.int .i64 b',.int .i64 m',.int .u8 (kd':Int),.int .i64 nd',.int .i64 o',.string s',.string v']) p br d/\OpBlk (w2.setCells (S+1) 0 [.int .i64 t',.int .i64 b',.int .i64 m',.int .u8 (kd':Int),.int .i64 nd',.int .i64 o',.string s',.string v']) S (t,b,m,kd,nd,o,s,v):=⟨S2.1.same (setCells_other (S+1) _ 0 w2 p yO),(setCells_other (S+1) _ 0 w2 S zj).trans S2.2⟩
  refine hK _ _ S3 ?_
  clear hK kQ
  refine qn ?_
  refine wpAnyH_one (i:=15) zk rfl (fun kQ hK=> ?_)
  go_simp
  refine hK _ _ S3 ?_
  clear hK kQ
  refine wpAnyH_done zk ?_ _
  refine qn ?_
  clear S3 S2 hHeld
  go_wp2
  (try simp only [Exit.inBlock,Exit.then])
  refine bodyPost_ret (v:=.tuple #[.agg #[.int .i64 t',.int .i64 b',.int .i64 m',.int .u8 (kd':Int),.int .i64 nd',.int .i64 o',.string s',.string v'],er]) ?_ rfl ⟨(t',b',m',kd',nd',o',s',v'),cd,by rw [<-HER.o.1];rfl,?_,H2.o.2⟩
  ·rw [results_ct rfl]
   go_simp
  exact below_cells (b:=S+1) HER.o.2 zQ 0 [.int .i64 t',.int .i64 b',.int .i64 m',.int .u8 (kd':Int),.int .i64 nd',.int .i64 o',.string s',.string v']
 have d2:((kd:Int)==105)=false:=zl
 by_cases k3:kd=100
 ·have d3:((kd:Int)==100)=true:=by simp;omega
  clear k1 k2 k3
  go_upto_region 9 with fail
  refine wp_region_H (S:=(fun w'=>PeerC w' p br d/\OpBlk w' S (t,b,m,kd,nd,o,s,v))) zk SD (fun hHeld=> ?_)
  refine tk 0 hHeld ?_
  refine tk 1 hHeld ?_
  refine tk 2 hHeld ?_
  refine tk 3 hHeld ?_ (hy:=Or.inl ⟨zu,zA⟩)
  refine tk 4 hHeld ?_
  refine tk 5 hHeld ?_ (hy:=Or.inl ⟨zu,zo⟩)
  refine tk 6 hHeld ?_
  refine tk 7 hHeld ?_ (hy:=Or.inl ⟨zu,zo⟩)
  refine wpAnyH_one (i:=8) zk rfl (fun kQ hK=> ?_)
  go_simp
  refine HC4.o.mono ?_
  rintro e w2 ⟨⟨t',b',m',kd',nd',o',s',v'⟩,cd,rfl,H2⟩
  obtain ⟨er,her⟩:=za (eV ad cd)
  rw [<-her]
  unfold encO
  dsimp only
  have S2:PeerC w2 p br d/\OpBlk w2 S (t,b,m,kd,nd,o,s,v):=⟨SD.1.same (H2.o.1.block p SD.1.lt),SD.2.later H2.o.1⟩
  obtain ⟨z0,z1,z2,z3,z4,z5,z6,z7,zf⟩:=(H0.o.2.1.later H2.o.1).cells
  unfold zeroO at z0 z1 z2 z3 z4 z5 z6 z7
  dsimp only at z0 z1 z2 z3 z4 z5 z6 z7
  have HER:Aside (er=eV ad cd/\Below w.heap.size w w2):=⟨her,zi H0.o.2.2.1 H2.o.1⟩
  clear her
  refine hK _ _ S2 ?_
  clear hK kQ hHeld
  have hHeld:=S2
  refine qn ?_
  refine tk 9 hHeld ?_
  refine tk 10 hHeld ?_
  refine wpAnyH_one (i:=11) zk rfl (fun kQ hK=> ?_)
  go_simp
  have S3:PeerC (w2.setCells (S+1) 0 [.int .i64 t',.int .i64 b',.int .i64 m',.int .u8 (kd':Int),.int .i64 nd',.int .i64 o',.string s',.string v']) p br d/\OpBlk (w2.setCells (S+1) 0 [.int .i64 t',.int .i64 b',.int .i64 m',.int .u8 (kd':Int),.int .i64 nd',.int .i64 o',.string s',.string v']) S (t,b,m,kd,nd,o,s,v):=⟨S2.1.same (setCells_other (S+1) _ 0 w2 p yO),(setCells_other (S+1) _ 0 w2 S zj).trans S2.2⟩
  refine hK _ _ S3 ?_
  clear hK kQ
  refine qn ?_
  refine wpAnyH_one (i:=12) zk rfl (fun kQ hK=> ?_)
  go_simp
  refine hK _ _ S3 ?_
  clear hK kQ
  refine wpAnyH_done zk ?_ _
  refine qn ?_
  clear S3 S2 hHeld
  go_wp2
  (try simp only [Exit.inBlock,Exit.then])
  refine bodyPost_ret (v:=.tuple #[.agg #[.int .i64 t',.int .i64 b',.int .i64 m',.int .u8 (kd':Int),.int .i64 nd',.int .i64 o',.string s',.string v'],er]) ?_ rfl ⟨(t',b',m',kd',nd',o',s',v'),cd,by rw [<-HER.o.1];rfl,?_,H2.o.2⟩
  ·rw [results_ct rfl]
   go_simp
  exact below_cells (b:=S+1) HER.o.2 zQ 0 [.int .i64 t',.int .i64 b',.int .i64 m',.int .u8 (kd':Int),.int .i64 nd',.int .i64 o',.string s',.string v']
 have d3:((kd:Int)==100)=false:=zl
 by_cases k4:kd=115
 ·have d4:((kd:Int)==115)=true:=by simp;omega
  clear k1 k2 k3 k4
  go_upto_region 11 with fail
  refine wp_region_H (S:=(fun w'=>PeerC w' p br d/\OpBlk w' S (t,b,m,kd,nd,o,s,v))) zk SD (fun hHeld=> ?_)
  refine tk 0 hHeld ?_
  refine tk 1 hHeld ?_
  refine tk 2 hHeld ?_
  refine tk 3 hHeld ?_ (hy:=Or.inl ⟨zu,zA⟩)
  refine tk 4 hHeld ?_
  refine tk 5 hHeld ?_ (hy:=Or.inl ⟨zu,zo⟩)
  refine tk 6 hHeld ?_
  refine tk 7 hHeld ?_ (hy:=Or.inl ⟨zu,zo⟩)
  refine tk 8 hHeld ?_
  refine tk 9 hHeld ?_ (hy:=Or.inl ⟨zu,zo⟩)
  refine wpAnyH_one (i:=10) zk rfl (fun kQ hK=> ?_)
  go_simp
  refine HC5.o.mono ?_
  rintro e w2 ⟨⟨t',b',m',kd',nd',o',s',v'⟩,cd,rfl,H2⟩
  obtain ⟨er,her⟩:=za (eV ad cd)
  rw [<-her]
  unfold encO
  dsimp only
  have S2:PeerC w2 p br d/\OpBlk w2 S (t,b,m,kd,nd,o,s,v):=⟨SD.1.same (H2.o.1.block p SD.1.lt),SD.2.later H2.o.1⟩
  obtain ⟨z0,z1,z2,z3,z4,z5,z6,z7,zf⟩:=(H0.o.2.1.later H2.o.1).cells
  unfold zeroO at z0 z1 z2 z3 z4 z5 z6 z7
  dsimp only at z0 z1 z2 z3 z4 z5 z6 z7
  have HER:Aside (er=eV ad cd/\Below w.heap.size w w2):=⟨her,zi H0.o.2.2.1 H2.o.1⟩
  clear her
  refine hK _ _ S2 ?_
  clear hK kQ hHeld
  have hHeld:=S2
  refine qn ?_
  refine tk 11 hHeld ?_
  refine tk 12 hHeld ?_
  refine wpAnyH_one (i:=13) zk rfl (fun kQ hK=> ?_)
  go_simp
  have S3:PeerC (w2.setCells (S+1) 0 [.int .i64 t',.int .i64 b',.int .i64 m',.int .u8 (kd':Int),.int .i64 nd',.int .i64 o',.string s',.string v']) p br d/\OpBlk (w2.setCells (S+1) 0 [.int .i64 t',.int .i64 b',.int .i64 m',.int .u8 (kd':Int),.int .i64 nd',.int .i64 o',.string s',.string v']) S (t,b,m,kd,nd,o,s,v):=⟨S2.1.same (setCells_other (S+1) _ 0 w2 p yO),(setCells_other (S+1) _ 0 w2 S zj).trans S2.2⟩
  refine hK _ _ S3 ?_
  clear hK kQ
  refine qn ?_
  refine wpAnyH_one (i:=14) zk rfl (fun kQ hK=> ?_)
  go_simp
  refine hK _ _ S3 ?_
  clear hK kQ
  refine wpAnyH_done zk ?_ _
  refine qn ?_
  clear S3 S2 hHeld
  go_wp2
  (try simp only [Exit.inBlock,Exit.then])
  refine bodyPost_ret (v:=.tuple #[.agg #[.int .i64 t',.int .i64 b',.int .i64 m',.int .u8 (kd':Int),.int .i64 nd',.int .i64 o',.string s',.string v'],er]) ?_ rfl ⟨(t',b',m',kd',nd',o',s',v'),cd,by rw [<-HER.o.1];rfl,?_,H2.o.2⟩
  ·rw [results_ct rfl]
   go_simp
  exact below_cells (b:=S+1) HER.o.2 zQ 0 [.int .i64 t',.int .i64 b',.int .i64 m',.int .u8 (kd':Int),.int .i64 nd',.int .i64 o',.string s',.string v']
 have d4:((kd:Int)==115)=false:=zl
 clear k1 k2 k3 k4
 obtain ⟨V,hV⟩:=ze U.drew
 have HB:Aside (Below w.heap.size w V):=by rw [hV.o];exact H0.o.2.2.1
 have Z1:OpBlk V (S+1) zeroO:=by rw [hV.o];exact H0.o.2.1
 have SV0:U.drew.cell? ⟨5,0,none⟩=some (.iface 350 (.pointer (some (ad 4)))):=ek
 have SV:V.cell? ⟨5,0,none⟩=some (.iface 350 (.pointer (some (ad 4)))):=by rw [hV.o];exact ek
 have SW:(V.setCells (S+1) 0 [.int .i64 0,.int .i64 0,.int .i64 0,.int .u8 0,.int .i64 0,.int .i64 0,.string ⟨#[]⟩,.string ⟨#[]⟩]).cell? ⟨5,0,none⟩=some (.iface 350 (.pointer (some (ad 4)))):=(vI (a:=⟨5,0,none⟩) (setCells_other (S+1) _ 0 V 5 (by have:=HLOW.o;omega))).trans SV
 clear y0 y1 y2 y3 y4 y5 y6 y7 yf p0
 obtain ⟨y0,y1,y2,y3,y4,y5,y6,y7,yf⟩:=Z1.cells
 unfold zeroO at y0 y1 y2 y3 y4 y5 y6 y7
 dsimp only at y0 y1 y2 y3 y4 y5 y6 y7
 clear Z1 ek
 go_upto_region 12 with fail
 refine wp_region_H (S:=(fun w'=>w'.cell? ⟨5,0,none⟩=some (.iface 350 (.pointer (some (ad 4)))))) zk SV0 (fun hHeld=> ?_)
 rw [<-hV.o]
 clear hHeld
 have hHeld:=SV
 refine tk 0 hHeld ?_
 refine tk 1 hHeld ?_ (hy:=Or.inl ⟨zu,yg⟩)
 refine wpAnyH_one (i:=2) zk rfl (fun kQ hK=> ?_)
 go_simp
 refine hK _ _ SW ?_
 clear hK kQ
 refine qn ?_
 refine wpAnyH_one (i:=3) zk rfl (fun kQ hK=> ?_)
 go_simp
 refine hK _ _ SW ?_
 clear hK kQ
 refine wpAnyH_done zk ?_ _
 refine qn ?_
 clear SW SV SV0 hHeld
 go_wp2
 (try simp only [Exit.inBlock,Exit.then])
 refine bodyPost_ret (v:=.tuple #[.agg #[.int .i64 0,.int .i64 0,.int .i64 0,.int .u8 0,.int .i64 0,.int .i64 0,.string ⟨#[]⟩,.string ⟨#[]⟩],.iface 350 (.pointer (some (ad 4)))]) ?_ rfl ⟨zeroO,5,rfl,?_,zj,.inl ⟨zj,rfl⟩⟩
 ·rw [results_ct rfl]
  go_simp
 exact below_cells (b:=S+1) HB.o zQ 0 [.int .i64 0,.int .i64 0,.int .i64 0,.int .u8 0,.int .i64 0,.int .i64 0,.string ⟨#[]⟩,.string ⟨#[]⟩]
