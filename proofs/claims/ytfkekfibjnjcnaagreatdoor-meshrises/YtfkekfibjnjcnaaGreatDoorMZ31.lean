import Derived.Test.YtfkekfibjnjcnaaGreatDoorMZ30
set_option linter.unusedSimpArgs false
set_option linter.unusedVariables false
set_option maxRecDepth 100000
set_option maxHeartbeats 64000000
namespace Go.Proofs.YtfkekfibjnjcnaaGreatDoor
section
open Go.RowKit Go.Lib Go.Sort Go.Maps
open scoped Classical
def NextQ (ad:Nat->Addr) (w:World) (R:Rws) (i:Nat) (P:OpX->Nat->Prop) (e:Ending) (w':World):Prop:=∃(y:OpX) (cd:Nat),e= .returned (.tuple #[encO y,eV ad cd])/\Aside (Below w.heap.size w w'/\cd<=12/\((cd≠0/\y=zeroO)\/(cd=0/\∃T,timeO (allR R) T/\NextOp R i T y)))/\Aside (P y cd)
theorem nextQ_of {ad:Nat->Addr} {w:World} {R:Rws} {i:Nat} {e:Ending} {w':World} (h:Make1Out ad w R i e w'):NextQ ad w R i (fun _ _=>True) e w':=by
 obtain ⟨y,cd,h1,h2⟩:=h
 exact ⟨y,cd,h1,h2,trivial⟩
def MadeP (R:Rws) (i:Nat) (s:ByteArray) (y:OpX) (cd:Nat):Prop:=∃T,timeO (allR R) T/\(errO (ownX T i (R i).length 109 0 0 s ⟨#[]⟩)=0->cd=0/\y=ownX T i (R i).length 109 0 0 s ⟨#[]⟩)
theorem m_make0 {B:Nat} {ad:Nat->Addr} (w:World) (c:Nat->Nat) (br:Nat) (i:Nat) (R:Rws) (name:ByteArray) (h:RepOwn B w c br (i:Int) R) (hE:EnvT B ad w) (hi:i<4) (hT:∀T,timeO (allR R) T->T<1073741824) (hn:(allR R).length<=140) (hs1:name.size<=1000000):
  Calls Tryz.prog 98 #[.pointer (some ⟨br,0,none⟩),.int .i64 0,.string name] w (NextQ ad w R i (MadeP R i name)):=by
 obtain ⟨T,kv,bt,bx,bc,A,hm,hp,ht⟩:=h.rep.time
 obtain ⟨ao,cap,hM⟩:=hm.norm
 refine (make_any w c br T i ao cap bt bx bc R 0 name hM.cell hM.rows h.wellK hE.env hi ht.2.2 (Zk (hT T ht)) hn hs1 zj zj).mono fun e w' q=> ?_
 have hF:=errF_own (kd:=109) (nd:=0) (o:=0) (s:=name) (v:=⟨#[]⟩) (m:=(R i).length) (i:=i) (hT T ht)
 rcases q with ⟨h1,h2,h3⟩ | ⟨h1,_,_⟩
 ·rw [hF] at h2
  by_cases he:errO (ownX T i (R i).length 109 0 0 name ⟨#[]⟩)=0
  ·rw [if_pos he,he] at h2
   refine ⟨_,0,h2,⟨h3,zj,.inr ⟨rfl,T,ht,next_own he ?_⟩⟩,⟨T,ht,fun _=>⟨rfl,rfl⟩⟩⟩
   refine ⟨.inl ⟨rfl,rfl⟩,fun _=>.inl rfl,fun q=> ?_⟩
   rcases q with ⟨q,_⟩ | q<;>exact absurd q ji
  rw [if_neg he] at h2
  exact ⟨zeroO,_,h2,⟨h3,by have:=err_le (ownX T i (R i).length 109 0 0 name ⟨#[]⟩);omega,.inl ⟨he,rfl⟩⟩,⟨T,ht,fun q=>absurd q he⟩⟩
 exact absurd (.inl rfl) h1
theorem pnext_made {B:Nat} {ad:Nat->Addr} (w:World) (c:Nat->Nat) (p br d:Nat) (i:Nat) (R:Rws) (s:ByteArray) (hP:PeerC w p br d) (h:RepOwn B w c br (i:Int) R) (hE:EnvT B ad w) (hi:i<4) (hT:∀T,timeO (allR R) T->T<1073741824) (hn:(allR R).length<=140) (hs1:s.size<=1000000):
  Calls Tryz.prog 60 #[.pointer (some ⟨p,0,none⟩),encO (0,0,0,109,0,0,s,⟨#[]⟩)] w (NextQ ad w R i (MadeP R i s)):=by
 obtain ⟨t,ht0⟩:∃t:Int,Aside (t=0):=⟨_,rfl⟩
 obtain ⟨b,hb0⟩:∃t:Int,Aside (t=0):=⟨_,rfl⟩
 obtain ⟨m,hm0⟩:∃t:Int,Aside (t=0):=⟨_,rfl⟩
 obtain ⟨v,hv0⟩:∃t:ByteArray,Aside (t=⟨#[]⟩):=⟨_,rfl⟩
 have ex:((0,0,0,109,0,0,s,⟨#[]⟩):OpX)=(t,b,m,109,0,0,s,v):=by rw [ht0.o,hb0.o,hm0.o,hv0.o]
 rw [ex]
 obtain ⟨S,hS⟩:=za w.heap.size
 obtain ⟨U,hU⟩:=za ((w.alloc (.cells #[.int .i64 t,.int .i64 b,.int .i64 m,.int .u8 109,.int .i64 0,.int .i64 0,.string s,.string v] 41)).alloc (.cells #[.int .i64 0,.int .i64 0,.int .i64 0,.int .u8 0,.int .i64 0,.int .i64 0,.string ⟨#[]⟩,.string ⟨#[]⟩] 41))
 have hbU:Below w.heap.size w U:=zI
 have O0:OpBlk U S (t,b,m,109,0,0,s,v):=by rw [hU,hS];exact (vy _ _ _ zm).trans (OpBlk.new w (t,b,m,109,0,0,s,v))
 have Z0:OpBlk U (S+1) zeroO:=by
  rw [hU,hS]
  have:=OpBlk.new (w.alloc (.cells #[.int .i64 t,.int .i64 b,.int .i64 m,.int .u8 109,.int .i64 0,.int .i64 0,.string s,.string v] 41)) zeroO
  rw [vQ] at this
  exact this
 obtain ⟨j0,j1,j2,j3,j4,j5,j6,j7,-⟩:=O0.cells
 dsimp only at j0 j1 j2 j3 j4 j5 j6 j7
 have hbD:Below w.heap.size w U.drew:=hbU.drew
 have SD:PeerC U.drew p br d/\OpBlk U.drew S (t,b,m,109,0,0,s,v):=⟨PeerC.same hP (hbU.block p hP.lt),O0⟩
 have HPL:Aside (p<S):=by rw [hS];exact hP.lt
 have c1:=m_make0 U.drew c br i R s (h.later hbD) (hE.later hbD) hi hT hn hs1
 have H0:Aside (U=(w.alloc (.cells #[.int .i64 t,.int .i64 b,.int .i64 m,.int .u8 109,.int .i64 0,.int .i64 0,.string s,.string v] 41)).alloc (.cells #[.int .i64 0,.int .i64 0,.int .i64 0,.int .u8 0,.int .i64 0,.int .i64 0,.string ⟨#[]⟩,.string ⟨#[]⟩] 41)/\OpBlk U.drew (S+1) zeroO/\Below w.heap.size w U.drew/\S=w.heap.size):=⟨hU,Z0,hbD,hS⟩
 have HC1:=Lib.hid c1
 have HP:Aside (∀y cd,MadeP R i s y cd->MadeP R i s y cd):=fun _ _ q=>q
 clear hU hbU hbD hS O0 h hE c1 hP Z0 ex
 unfold encO
 dsimp only
 go_enter Tryz.func60,Tryz.ntmps60
 go_upto_region 1 with fail
 have eU:U=(w.alloc (.cells #[.int .i64 t,.int .i64 b,.int .i64 m,.int .u8 109,.int .i64 0,.int .i64 0,.string s,.string v] 41)).alloc (.cells #[.int .i64 0,.int .i64 0,.int .i64 0,.int .u8 0,.int .i64 0,.int .i64 0,.string ⟨#[]⟩,.string ⟨#[]⟩] 41):=H0.o.1
 rw [<-eU,<-H0.o.2.2.2]
 clear eU
 go_upto_region 4 with fail
 refine wp_region_H (S:=(fun w'=>PeerC w' p br d/\OpBlk w' S (t,b,m,109,0,0,s,v))) zk SD (fun hHeld=> ?_)
 refine tk 0 hHeld ?_
 refine tk 1 hHeld ?_
 refine tk 2 hHeld ?_
 refine tk 3 hHeld ?_ (hy:=Or.inl ⟨zu,zA⟩)
 refine tk 4 hHeld ?_
 refine tk 5 hHeld ?_ (hy:=Or.inl ⟨zu,zo⟩)
 refine tk 6 hHeld ?_
 refine tk 7 hHeld ?_ (hy:=Or.inl ⟨zu,zo⟩)
 refine wpAnyH_one (i:=8) zk rfl (fun kQ hK=> ?_)
 go_simp
 refine HC1.o.mono ?_
 rintro e w2 ⟨⟨t',b',m',kd',nd',o',s',v'⟩,cd,rfl,H2,HQ⟩
 obtain ⟨er,her⟩:=za (eV ad cd)
 rw [<-her]
 unfold encO
 dsimp only
 have S2:PeerC w2 p br d/\OpBlk w2 S (t,b,m,109,0,0,s,v):=⟨SD.1.same (H2.o.1.block p SD.1.lt),SD.2.later H2.o.1⟩
 obtain ⟨z0,z1,z2,z3,z4,z5,z6,z7,zf⟩:=(H0.o.2.1.later H2.o.1).cells
 unfold zeroO at z0 z1 z2 z3 z4 z5 z6 z7
 dsimp only at z0 z1 z2 z3 z4 z5 z6 z7
 have HER:Aside (er=eV ad cd/\Below w.heap.size w w2):=⟨her,zi H0.o.2.2.1 H2.o.1⟩
 clear her
 refine hK _ _ S2 ?_
 clear hK kQ hHeld
 have hHeld:=S2
 refine qn ?_
 refine tk 9 hHeld ?_
 refine tk 10 hHeld ?_
 refine wpAnyH_one (i:=11) zk rfl (fun kQ hK=> ?_)
 go_simp
 have S3:PeerC (w2.setCells (S+1) 0 [.int .i64 t',.int .i64 b',.int .i64 m',.int .u8 (kd':Int),.int .i64 nd',.int .i64 o',.string s',.string v']) p br d/\OpBlk (w2.setCells (S+1) 0 [.int .i64 t',.int .i64 b',.int .i64 m',.int .u8 (kd':Int),.int .i64 nd',.int .i64 o',.string s',.string v']) S (t,b,m,109,0,0,s,v):=⟨S2.1.same (setCells_other (S+1) _ 0 w2 p yO),(setCells_other (S+1) _ 0 w2 S zj).trans S2.2⟩
 refine hK _ _ S3 ?_
 clear hK kQ
 refine qn ?_
 refine wpAnyH_one (i:=12) zk rfl (fun kQ hK=> ?_)
 go_simp
 refine hK _ _ S3 ?_
 clear hK kQ
 refine wpAnyH_done zk ?_ _
 refine qn ?_
 clear S3 S2 hHeld
 go_wp2
 (try simp only [Exit.inBlock,Exit.then])
 refine bodyPost_ret (v:=.tuple #[.agg #[.int .i64 t',.int .i64 b',.int .i64 m',.int .u8 (kd':Int),.int .i64 nd',.int .i64 o',.string s',.string v'],er]) ?_ rfl ⟨(t',b',m',kd',nd',o',s',v'),cd,by rw [<-HER.o.1];rfl,⟨?_,H2.o.2⟩,HQ⟩
 ·rw [results_ct rfl]
  go_simp
 exact below_cells (b:=S+1) HER.o.2 zQ 0 [.int .i64 t',.int .i64 b',.int .i64 m',.int .u8 (kd':Int),.int .i64 nd',.int .i64 o',.string s',.string v']
