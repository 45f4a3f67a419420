import Derived.Test.YtebpcnkdhgnghaaGreatDoorPA28
set_option linter.unusedSimpArgs false
set_option linter.unusedVariables false
set_option maxRecDepth 100000
set_option maxHeartbeats 64000000
namespace Go.Proofs.YtebpcnkdhgnghaaGreatDoor
open Go.Proofs.Tryz
section
open Go.RowKit Go.Lib Go.Sort Go.Maps
theorem Hi {B:Nat} {ad:Nat->Addr} (w:World) (c:Nat->Nat) (br:Nat) (T:Int) (i:Nat) (ao:Nat->Option Addr) (cap:Nat->Nat) (bt bx bc:Nat) (R:Rws) (nd:Int) (name value:ByteArray) (hc:RepCell w br T (i:Int) (kvs ao cap R) bt bx bc) (hrows:RowsAt w c (kvs ao cap R) R) (hR:RowsK R) (hE:EnvE B ad w) (hi:i<4) (hT:0<=T) (hm:T<=1073741824) (hn:(aX R).length<=250) (hs1:name.size<=1000000) (hs2:value.size<=1000000) (h2: -9223372036854775808<=nd) (h3:nd<=9223372036854775807):
  Calls prog 320 #[.pointer (some ⟨br,0,none⟩),.int .i64 nd,.string name,.string value] w (mD ad w (KnownN (aX R) nd) (bE T i (R i).length 115 nd 0 name value)):=by
 have hrl:∀i,i<4->(R i).length<=1000:=fun i hi=>yk
 obtain ⟨S,hS⟩:=za w.heap.size
 obtain ⟨U,hU⟩:=za (w.alloc (.cells #[.int .i64 0,.int .i64 0,.int .i64 0,.int .u8 0,.int .i64 0,.int .i64 0,.string ⟨#[]⟩,.string ⟨#[]⟩] 61))
 have hbU:Below w.heap.size w U:=zN
 have Z0:OpBlk U S aT:=yl
 have hcU:RepCell U br T (i:Int) (kvs ao cap R) bt bx bc:=hc.same (hbU.block _ hc.lt)
 obtain ⟨zb,hzb⟩:∃zb:Bool,zb=true↔(KnownN (aX R) nd):=⟨@decide _ (Classical.propDecidable _),@decide_eq_true_iff _ (Classical.propDecidable _)⟩
 have hplace:=eP U ao cap R nd zb hzb ((hE.later hbU).op4) ((KnownAt.of_rows hrows).later hbU) hR.toN hrl h2 h3
 unfold kV at hplace
 have k2:U.cell? ⟨br,2,none⟩=some (.slice (ao 0) (R 0).length (cap 0)):=hcU.c2
 have k3:U.cell? ⟨br,3,none⟩=some (.slice (ao 1) (R 1).length (cap 1)):=hcU.c3
 have k4:U.cell? ⟨br,4,none⟩=some (.slice (ao 2) (R 2).length (cap 2)):=hcU.c4
 have k5:U.cell? ⟨br,5,none⟩=some (.slice (ao 3) (R 3).length (cap 3)):=hcU.c5
 have H0:Aside (RepCell U br T (i:Int) (kvs ao cap R) bt bx bc/\OpBlk U S aT/\Below w.heap.size w U/\S=w.heap.size/\EnvE B ad U/\B<=w.heap.size/\(zb=true↔(KnownN (aX R) nd))):=⟨hcU,Z0,hbU,hS,hE.later hbU,hE.size,hzb⟩
 have HU:Aside (U=w.alloc (.cells #[.int .i64 0,.int .i64 0,.int .i64 0,.int .u8 0,.int .i64 0,.int .i64 0,.string ⟨#[]⟩,.string ⟨#[]⟩] 61)):=hU
 clear hU hcU Z0 hbU hE hc hS hzb hrows hR
 go_enter func320,ntmps320
 go_upto_region 1 with fail
 rw [<-HU.o,<-H0.o.2.2.2.1]
 go_wp2_with fail
 refine hplace.mono ?_
 clear hplace k2 k3 k4 k5
 rintro e w1 ⟨rfl,hb1⟩
 have Z1:=H0.o.2.1.later hb1
 have H1:Aside (OpBlk w1 S aT/\Below w.heap.size w w1/\EnvE B ad w1/\RepCell w1 br T (i:Int) (kvs ao cap R) bt bx bc):=⟨Z1,zi H0.o.2.2.1 hb1,H0.o.2.2.2.2.1.later hb1,H0.o.1.same (hb1.block _ H0.o.1.lt)⟩
 clear hb1 Z1
 cases zb with
 | false=>
  have hno:¬(KnownN (aX R) nd):=fun q=>jz
  obtain ⟨z0,z1,z2,z3,z4,z5,z6,z7,zf⟩:=H1.o.1.cells
  unfold aT at z0 z1 z2 z3 z4 z5 z6 z7
  dsimp only at z0 z1 z2 z3 z4 z5 z6 z7
  have eg:=H1.o.2.2.1.c5
  have hlo:=H1.o.2.2.1.low
  have hSw:=H0.o.2.2.2.1
  have hBw:=H0.o.2.2.2.2.2.1
  have n1:1≠S:=zj
  have n2:S≠1:=zj
  have HNO:=Lib.hid hno
  clear hlo hSw hBw hno
  go_wp2_with fail
  go_region
  all_goals
   go_wp2
   (try simp only [Exit.inBlock,Exit.then])
   refine bodyPost_ret (v:=.tuple #[ar aT,eV ad 6]) ?_ rfl (.inr ⟨HNO.o,rfl,?_⟩)
   ·exact kd1
   exact kc2
 | true=>
  have HOK:Aside (KnownN (aX R) nd):=H0.o.2.2.2.2.2.2.1 rfl
  have hown:=kU w1 br T i ao cap bt bx bc R 115 nd 0 name value H1.o.2.2.2 H1.o.2.2.1 hi hT hm hn hs1 hs2
  unfold ar at hown
  dsimp only at hown
  go_wp2_with fail
  refine hown.mono ?_
  clear hown
  rintro e w2 ⟨he,hb2⟩
  obtain ⟨y,hy⟩:=za ((if dU (bE T i (R i).length 115 nd 0 name value)=0 then bE T i (R i).length 115 nd 0 name value else aT))
  obtain ⟨er,her⟩:=za (eV ad (dU (bE T i (R i).length 115 nd 0 name value)))
  rw [<-hy,<-her] at he
  subst he
  have HY:Aside (y=(if dU (bE T i (R i).length 115 nd 0 name value)=0 then bE T i (R i).length 115 nd 0 name value else aT)/\er=eV ad (dU (bE T i (R i).length 115 nd 0 name value))):=⟨hy,her⟩
  clear hy her
  obtain ⟨t,b,n,kd,nd',o,s,v⟩:=y
  unfold ar
  dsimp only
  have Z2:=H1.o.1.later hb2
  obtain ⟨z0,z1,z2,z3,z4,z5,z6,z7,zf⟩:=Z2.cells
  unfold aT at z0 z1 z2 z3 z4 z5 z6 z7
  dsimp only at z0 z1 z2 z3 z4 z5 z6 z7
  have B2:Aside (Below w.heap.size w w2):=zi H1.o.2.1 hb2
  clear hb2 Z2
  go_wp2
  (try simp only [Exit.inBlock,Exit.then])
  refine bodyPost_ret (v:=.tuple #[.agg #[.int .i64 t,.int .i64 b,.int .i64 n,.int .u8 (kd:Int),.int .i64 nd',.int .i64 o,.string s,.string v],er]) ?_ rfl (.inl ⟨HOK.o,⟨by rw [<-HY.o.1,<-HY.o.2];rfl,?_⟩⟩)
  ·exact kc4
  exact aL (b:=S) B2.o yc 0 [.int .i64 t,.int .i64 b,.int .i64 n,.int .u8 (kd:Int),.int .i64 nd',.int .i64 o,.string s,.string v]
theorem Ep {B:Nat} {ad:Nat->Addr} (w:World) (c:Nat->Nat) (br:Nat) (T:Int) (i:Nat) (ao:Nat->Option Addr) (cap:Nat->Nat) (bt bx bc:Nat) (R:Rws) (A:List OpX) (nd n:Int) (hc:RepCell w br T (i:Int) (kvs ao cap R) bt bx bc) (htext:TextC w c bx A) (hperm:A.Perm (aX R)) (hE:EnvE B ad w) (hi:i<4) (hT:0<=T) (hm:T<=1073741824) (hn:(aX R).length<=250) (h2: -9223372036854775808<=nd) (h3:nd<=9223372036854775807) (hn1: -9223372036854775808<=n) (hn2:n<=9223372036854775807):
  Calls prog 319 #[.pointer (some ⟨br,0,none⟩),.int .i64 nd,.int .i64 n] w fun e w'=>∃a:Int×Bool,((¬KnownN A nd->a=(0,false))/\(KnownN A nd->∃L,LineIs A nd L/\a=atL n L))/\mD ad w (a.2=true) (bE T i (R i).length 100 nd a.1 ⟨#[]⟩ ⟨#[]⟩) e w':=by
 have hAl:A.length<=250:=xg
 obtain ⟨S,hS⟩:=za w.heap.size
 obtain ⟨U,hU⟩:=za (w.alloc (.cells #[.int .i64 0,.int .i64 0,.int .i64 0,.int .u8 0,.int .i64 0,.int .i64 0,.string ⟨#[]⟩,.string ⟨#[]⟩] 61))
 have hbU:Below w.heap.size w U:=zN
 have Z0:OpBlk U S aT:=yl
 have hcU:RepCell U br T (i:Int) (kvs ao cap R) bt bx bc:=hc.same (hbU.block _ hc.lt)
 have htU:TextC U c bx A:=htext.kept ⟨fun k hk _=>hbU.block k hk,fun _ _=>rfl⟩ (fun _ _=>⟨fun k hk _=>hbU.block k hk,fun _ _=>rfl⟩)
 have hlet:=nN U c br T (i:Int) (kvs ao cap R) bt bx bc A nd n hcU htU zj zj zj ⟨hn1,hn2⟩
 have H0:Aside (RepCell U br T (i:Int) (kvs ao cap R) bt bx bc/\OpBlk U S aT/\Below w.heap.size w U/\S=w.heap.size/\EnvE B ad U/\B<=w.heap.size):=⟨hcU,Z0,hbU,hS,hE.later hbU,hE.size⟩
 have HU:Aside (U=w.alloc (.cells #[.int .i64 0,.int .i64 0,.int .i64 0,.int .u8 0,.int .i64 0,.int .i64 0,.string ⟨#[]⟩,.string ⟨#[]⟩] 61)):=hU
 clear hU hcU Z0 hbU hE hc hS htext htU
 go_enter func319,ntmps319
 go_upto_region 1 with fail
 rw [<-HU.o,<-H0.o.2.2.2.1]
 go_wp2_with fail
 refine hlet.mono ?_
 clear hlet
 rintro e w1 ⟨⟨into,zb⟩,rfl,ha1,ha2,hb1⟩
 dsimp only
 have HA:Aside ((¬KnownN A nd->(into,zb)=((0:Int),false))/\(KnownN A nd->∃L,LineIs A nd L/\(into,zb)=atL n L)):=⟨ha1,ha2⟩
 have Z1:=H0.o.2.1.later hb1
 have H1:Aside (OpBlk w1 S aT/\Below w.heap.size w w1/\EnvE B ad w1/\RepCell w1 br T (i:Int) (kvs ao cap R) bt bx bc):=⟨Z1,zi H0.o.2.2.1 hb1,H0.o.2.2.2.2.1.later hb1,H0.o.1.same (hb1.block _ H0.o.1.lt)⟩
 clear hb1 Z1 ha1 ha2
 cases zb with
 | false=>
  have hno:¬(((into,false):Int×Bool).2=true):=zq
  obtain ⟨z0,z1,z2,z3,z4,z5,z6,z7,zf⟩:=H1.o.1.cells
  unfold aT at z0 z1 z2 z3 z4 z5 z6 z7
  dsimp only at z0 z1 z2 z3 z4 z5 z6 z7
  have eg:=H1.o.2.2.1.c5
  have hlo:=H1.o.2.2.1.low
  have hSw:=H0.o.2.2.2.1
  have hBw:=H0.o.2.2.2.2.2
  have n1:1≠S:=zj
  have n2:S≠1:=zj
  have HNO:=Lib.hid hno
  clear hlo hSw hBw hno
  go_wp2_with fail
  go_region
  all_goals
   go_wp2
   (try simp only [Exit.inBlock,Exit.then])
   refine bodyPost_ret (v:=.tuple #[ar aT,eV ad 6]) ?_ rfl ⟨(into,false),HA.o,.inr ⟨HNO.o,rfl,?_⟩⟩
   ·exact kd1
   exact kc2
 | true=>
  have HOK:Aside (((into,true):Int×Bool).2=true):=rfl
  have hown:=kU w1 br T i ao cap bt bx bc R 100 nd into ⟨#[]⟩ ⟨#[]⟩ H1.o.2.2.2 H1.o.2.2.1 hi hT hm hn zo zo
  unfold ar at hown
  dsimp only at hown
  go_wp2_with fail
  refine hown.mono ?_
  clear hown
  rintro e w2 ⟨he,hb2⟩
  obtain ⟨y,hy⟩:=za ((if dU (bE T i (R i).length 100 nd into ⟨#[]⟩ ⟨#[]⟩)=0 then bE T i (R i).length 100 nd into ⟨#[]⟩ ⟨#[]⟩ else aT))
  obtain ⟨er,her⟩:=za (eV ad (dU (bE T i (R i).length 100 nd into ⟨#[]⟩ ⟨#[]⟩)))
  rw [<-hy,<-her] at he
  subst he
  have HY:Aside (y=(if dU (bE T i (R i).length 100 nd into ⟨#[]⟩ ⟨#[]⟩)=0 then bE T i (R i).length 100 nd into ⟨#[]⟩ ⟨#[]⟩ else aT)/\er=eV ad (dU (bE T i (R i).length 100 nd into ⟨#[]⟩ ⟨#[]⟩))):=⟨hy,her⟩
  clear hy her
  obtain ⟨t,b,m,kd,nd',o,s,v⟩:=y
  unfold ar
  dsimp only
  have Z2:=H1.o.1.later hb2
  obtain ⟨z0,z1,z2,z3,z4,z5,z6,z7,zf⟩:=Z2.cells
  unfold aT at z0 z1 z2 z3 z4 z5 z6 z7
  dsimp only at z0 z1 z2 z3 z4 z5 z6 z7
  have B2:Aside (Below w.heap.size w w2):=zi H1.o.2.1 hb2
  clear hb2 Z2
  go_wp2
  (try simp only [Exit.inBlock,Exit.then])
  refine bodyPost_ret (v:=.tuple #[.agg #[.int .i64 t,.int .i64 b,.int .i64 m,.int .u8 (kd:Int),.int .i64 nd',.int .i64 o,.string s,.string v],er]) ?_ rfl ⟨(into,true),HA.o,.inl ⟨rfl,⟨by dsimp only;rw [<-HY.o.1,<-HY.o.2];rfl,?_⟩⟩⟩
  ·exact kc4
  exact kd7
