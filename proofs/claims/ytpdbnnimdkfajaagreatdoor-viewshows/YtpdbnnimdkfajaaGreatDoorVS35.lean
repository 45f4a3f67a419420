import Derived.Test.YtpdbnnimdkfajaaGreatDoorVS32
set_option linter.unusedSimpArgs false
set_option linter.unusedVariables false
set_option maxRecDepth 100000
set_option maxHeartbeats 64000000
namespace Go.Proofs.YtpdbnnimdkfajaaGreatDoor
open Go.Proofs.Tryz
section
open Go.RowKit Go.Lib Go.Sort Go.Maps
theorem mark_any {B:Nat} {ad:Nat->Addr} (w:World) (c:Nat->Nat) (br:Nat) (T:Int) (i:Nat) (ao:Nat->Option Addr) (cap:Nat->Nat) (bt bx bc:Nat) (R:Rws) (nd:Int) (name value:ByteArray) (hc:RepCell w br T (i:Int) (kvs ao cap R) bt bx bc) (hrows:RowsAt w c (kvs ao cap R) R) (hR:RowsK R) (hE:EnvE B ad w) (hi:i<4) (hT:0<=T) (hm:T<=1073741824) (hn:(allR R).length<=140) (hs1:name.size<=1000000) (hs2:value.size<=1000000) (h2: -9223372036854775808<=nd) (h3:nd<=9223372036854775807):
  Calls prog 68 #[.pointer (some ⟨br,0,none⟩),.int .i64 nd,.string name,.string value] w (MadeOut ad w (KnownN (allR R) nd) (ownX T i (R i).length 115 nd 0 name value)):=by
 have hrl:∀i,i<4->(R i).length<=1000:=fun i hi=>yh
 obtain ⟨S,hS⟩:=za w.heap.size
 obtain ⟨U,hU⟩:=za (w.alloc (.cells #[.int .i64 0,.int .i64 0,.int .i64 0,.int .u8 0,.int .i64 0,.int .i64 0,.string ⟨#[]⟩,.string ⟨#[]⟩] 38))
 have hbU:Below w.heap.size w U:=zJ
 have Z0:OpBlk U S zeroO:=yj
 have hcU:RepCell U br T (i:Int) (kvs ao cap R) bt bx bc:=hc.same (hbU.block _ hc.lt)
 obtain ⟨zb,hzb⟩:∃zb:Bool,zb=true↔(KnownN (allR R) nd):=⟨@decide _ (Classical.propDecidable _),@decide_eq_true_iff _ (Classical.propDecidable _)⟩
 have hplace:=isNode_any U ao cap R nd zb hzb ((hE.later hbU).op4) ((KnownAt.of_rows hrows).later hbU) hR.toN hrl h2 h3
 unfold kV at hplace
 have k2:U.cell? ⟨br,2,none⟩=some (.slice (ao 0) (R 0).length (cap 0)):=hcU.c2
 have k3:U.cell? ⟨br,3,none⟩=some (.slice (ao 1) (R 1).length (cap 1)):=hcU.c3
 have k4:U.cell? ⟨br,4,none⟩=some (.slice (ao 2) (R 2).length (cap 2)):=hcU.c4
 have k5:U.cell? ⟨br,5,none⟩=some (.slice (ao 3) (R 3).length (cap 3)):=hcU.c5
 have H0:Aside (RepCell U br T (i:Int) (kvs ao cap R) bt bx bc/\OpBlk U S zeroO/\Below w.heap.size w U/\S=w.heap.size/\EnvE B ad U/\B<=w.heap.size/\(zb=true↔(KnownN (allR R) nd))):=⟨hcU,Z0,hbU,hS,hE.later hbU,hE.size,hzb⟩
 have HU:Aside (U=w.alloc (.cells #[.int .i64 0,.int .i64 0,.int .i64 0,.int .u8 0,.int .i64 0,.int .i64 0,.string ⟨#[]⟩,.string ⟨#[]⟩] 38)):=hU
 clear hU hcU Z0 hbU hE hc hS hzb hrows hR
 go_enter func68,ntmps68
 go_upto_region 1 with fail
 rw [<-HU.o,<-H0.o.2.2.2.1]
 go_wp2_with fail
 refine hplace.mono ?_
 clear hplace k2 k3 k4 k5
 rintro e w1 ⟨rfl,hb1⟩
 have Z1:=H0.o.2.1.later hb1
 have H1:Aside (OpBlk w1 S zeroO/\Below w.heap.size w w1/\EnvE B ad w1/\RepCell w1 br T (i:Int) (kvs ao cap R) bt bx bc):=⟨Z1,zh H0.o.2.2.1 hb1,H0.o.2.2.2.2.1.later hb1,H0.o.1.same (hb1.block _ H0.o.1.lt)⟩
 clear hb1 Z1
 cases zb with
 | false=>
  have hno:¬(KnownN (allR R) nd):=fun q=>ja
  obtain ⟨z0,z1,z2,z3,z4,z5,z6,z7,zf⟩:=H1.o.1.cells
  unfold zeroO at z0 z1 z2 z3 z4 z5 z6 z7
  dsimp only at z0 z1 z2 z3 z4 z5 z6 z7
  have eg:=H1.o.2.2.1.c5
  have hlo:=H1.o.2.2.1.low
  have hSw:=H0.o.2.2.2.1
  have hBw:=H0.o.2.2.2.2.2.1
  have n1:0≠S:=zi
  have n2:S≠0:=zi
  have HNO:=Lib.hid hno
  clear hlo hSw hBw hno
  go_wp2_with fail
  go_region
  all_goals
   go_wp2
   (try simp only [Exit.inBlock,Exit.then])
   refine bodyPost_ret (v:=.tuple #[encO zeroO,eV ad 6]) ?_ rfl (.inr ⟨HNO.o,rfl,?_⟩)
   ·rw [results_ct rfl]
    unfold encO zeroO eV
    go_simp
   exact (below_cells (b:=S) H1.o.2.1 zF 0 [.int .i64 0,.int .i64 0,.int .i64 0,.int .u8 0,.int .i64 0,.int .i64 0,.string ⟨#[]⟩,.string ⟨#[]⟩]).drew
 | true=>
  have HOK:Aside (KnownN (allR R) nd):=H0.o.2.2.2.2.2.2.1 rfl
  have hown:=own_any w1 br T i ao cap bt bx bc R 115 nd 0 name value H1.o.2.2.2 H1.o.2.2.1 hi hT hm hn hs1 hs2
  unfold encO at hown
  dsimp only at hown
  go_wp2_with fail
  refine hown.mono ?_
  clear hown
  rintro e w2 ⟨he,hb2⟩
  obtain ⟨y,hy⟩:=za ((if errF (ownX T i (R i).length 115 nd 0 name value)=0 then ownX T i (R i).length 115 nd 0 name value else zeroO))
  obtain ⟨er,her⟩:=za (eV ad (errF (ownX T i (R i).length 115 nd 0 name value)))
  rw [<-hy,<-her] at he
  subst he
  have HY:Aside (y=(if errF (ownX T i (R i).length 115 nd 0 name value)=0 then ownX T i (R i).length 115 nd 0 name value else zeroO)/\er=eV ad (errF (ownX T i (R i).length 115 nd 0 name value))):=⟨hy,her⟩
  clear hy her
  obtain ⟨t,b,n,kd,nd',o,s,v⟩:=y
  unfold encO
  dsimp only
  have Z2:=H1.o.1.later hb2
  obtain ⟨z0,z1,z2,z3,z4,z5,z6,z7,zf⟩:=Z2.cells
  unfold zeroO at z0 z1 z2 z3 z4 z5 z6 z7
  dsimp only at z0 z1 z2 z3 z4 z5 z6 z7
  have B2:Aside (Below w.heap.size w w2):=zh H1.o.2.1 hb2
  clear hb2 Z2
  go_wp2
  (try simp only [Exit.inBlock,Exit.then])
  refine bodyPost_ret (v:=.tuple #[.agg #[.int .i64 t,.int .i64 b,.int .i64 n,.int .u8 (kd:Int),.int .i64 nd',.int .i64 o,.string s,.string v],er]) ?_ rfl (.inl ⟨HOK.o,⟨by rw [<-HY.o.1,<-HY.o.2];rfl,?_⟩⟩)
  ·rw [results_ct rfl]
   go_simp
  exact below_cells (b:=S) B2.o zF 0 [.int .i64 t,.int .i64 b,.int .i64 n,.int .u8 (kd:Int),.int .i64 nd',.int .i64 o,.string s,.string v]
theorem erase_any {B:Nat} {ad:Nat->Addr} (w:World) (c:Nat->Nat) (br:Nat) (T:Int) (i:Nat) (ao:Nat->Option Addr) (cap:Nat->Nat) (bt bx bc:Nat) (R:Rws) (A:List OpX) (nd n:Int) (hc:RepCell w br T (i:Int) (kvs ao cap R) bt bx bc) (htext:TextC w c bx A) (hperm:A.Perm (allR R)) (hE:EnvE B ad w) (hi:i<4) (hT:0<=T) (hm:T<=1073741824) (hn:(allR R).length<=140) (h2: -9223372036854775808<=nd) (h3:nd<=9223372036854775807) (hn1: -9223372036854775808<=n) (hn2:n<=9223372036854775807):
  Calls prog 67 #[.pointer (some ⟨br,0,none⟩),.int .i64 nd,.int .i64 n] w fun e w'=>∃a:Int×Bool,((¬KnownN A nd->a=(0,false))/\(KnownN A nd->∃L,LineIs A nd L/\a=atL n L))/\MadeOut ad w (a.2=true) (ownX T i (R i).length 100 nd a.1 ⟨#[]⟩ ⟨#[]⟩) e w':=by
 have hAl:A.length<=140:=by have:=hperm.length_eq;omega
 obtain ⟨S,hS⟩:=za w.heap.size
 obtain ⟨U,hU⟩:=za (w.alloc (.cells #[.int .i64 0,.int .i64 0,.int .i64 0,.int .u8 0,.int .i64 0,.int .i64 0,.string ⟨#[]⟩,.string ⟨#[]⟩] 38))
 have hbU:Below w.heap.size w U:=zJ
 have Z0:OpBlk U S zeroO:=yj
 have hcU:RepCell U br T (i:Int) (kvs ao cap R) bt bx bc:=hc.same (hbU.block _ hc.lt)
 have htU:TextC U c bx A:=htext.kept ⟨fun k hk _=>hbU.block k hk,fun _ _=>rfl⟩ (fun _ _=>⟨fun k hk _=>hbU.block k hk,fun _ _=>rfl⟩)
 have hlet:=letter_any U c br T (i:Int) (kvs ao cap R) bt bx bc A nd n hcU htU zi zi zi ⟨hn1,hn2⟩
 have H0:Aside (RepCell U br T (i:Int) (kvs ao cap R) bt bx bc/\OpBlk U S zeroO/\Below w.heap.size w U/\S=w.heap.size/\EnvE B ad U/\B<=w.heap.size):=⟨hcU,Z0,hbU,hS,hE.later hbU,hE.size⟩
 have HU:Aside (U=w.alloc (.cells #[.int .i64 0,.int .i64 0,.int .i64 0,.int .u8 0,.int .i64 0,.int .i64 0,.string ⟨#[]⟩,.string ⟨#[]⟩] 38)):=hU
 clear hU hcU Z0 hbU hE hc hS htext htU
 go_enter func67,ntmps67
 go_upto_region 1 with fail
 rw [<-HU.o,<-H0.o.2.2.2.1]
 go_wp2_with fail
 refine hlet.mono ?_
 clear hlet
 rintro e w1 ⟨⟨into,zb⟩,rfl,ha1,ha2,hb1⟩
 dsimp only
 have HA:Aside ((¬KnownN A nd->(into,zb)=((0:Int),false))/\(KnownN A nd->∃L,LineIs A nd L/\(into,zb)=atL n L)):=⟨ha1,ha2⟩
 have Z1:=H0.o.2.1.later hb1
 have H1:Aside (OpBlk w1 S zeroO/\Below w.heap.size w w1/\EnvE B ad w1/\RepCell w1 br T (i:Int) (kvs ao cap R) bt bx bc):=⟨Z1,zh H0.o.2.2.1 hb1,H0.o.2.2.2.2.1.later hb1,H0.o.1.same (hb1.block _ H0.o.1.lt)⟩
 clear hb1 Z1 ha1 ha2
 cases zb with
 | false=>
  have hno:¬(((into,false):Int×Bool).2=true):=zm
  obtain ⟨z0,z1,z2,z3,z4,z5,z6,z7,zf⟩:=H1.o.1.cells
  unfold zeroO at z0 z1 z2 z3 z4 z5 z6 z7
  dsimp only at z0 z1 z2 z3 z4 z5 z6 z7
  have eg:=H1.o.2.2.1.c5
  have hlo:=H1.o.2.2.1.low
  have hSw:=H0.o.2.2.2.1
  have hBw:=H0.o.2.2.2.2.2
  have n1:0≠S:=zi
  have n2:S≠0:=zi
  have HNO:=Lib.hid hno
  clear hlo hSw hBw hno
  go_wp2_with fail
  go_region
  all_goals
   go_wp2
   (try simp only [Exit.inBlock,Exit.then])
   refine bodyPost_ret (v:=.tuple #[encO zeroO,eV ad 6]) ?_ rfl ⟨(into,false),HA.o,.inr ⟨HNO.o,rfl,?_⟩⟩
   ·rw [results_ct rfl]
    unfold encO zeroO eV
    go_simp
   exact (below_cells (b:=S) H1.o.2.1 zF 0 [.int .i64 0,.int .i64 0,.int .i64 0,.int .u8 0,.int .i64 0,.int .i64 0,.string ⟨#[]⟩,.string ⟨#[]⟩]).drew
 | true=>
  have HOK:Aside (((into,true):Int×Bool).2=true):=rfl
  have hown:=own_any w1 br T i ao cap bt bx bc R 100 nd into ⟨#[]⟩ ⟨#[]⟩ H1.o.2.2.2 H1.o.2.2.1 hi hT hm hn zo zo
  unfold encO at hown
  dsimp only at hown
  go_wp2_with fail
  refine hown.mono ?_
  clear hown
  rintro e w2 ⟨he,hb2⟩
  obtain ⟨y,hy⟩:=za ((if errF (ownX T i (R i).length 100 nd into ⟨#[]⟩ ⟨#[]⟩)=0 then ownX T i (R i).length 100 nd into ⟨#[]⟩ ⟨#[]⟩ else zeroO))
  obtain ⟨er,her⟩:=za (eV ad (errF (ownX T i (R i).length 100 nd into ⟨#[]⟩ ⟨#[]⟩)))
  rw [<-hy,<-her] at he
  subst he
  have HY:Aside (y=(if errF (ownX T i (R i).length 100 nd into ⟨#[]⟩ ⟨#[]⟩)=0 then ownX T i (R i).length 100 nd into ⟨#[]⟩ ⟨#[]⟩ else zeroO)/\er=eV ad (errF (ownX T i (R i).length 100 nd into ⟨#[]⟩ ⟨#[]⟩))):=⟨hy,her⟩
  clear hy her
  obtain ⟨t,b,m,kd,nd',o,s,v⟩:=y
  unfold encO
  dsimp only
  have Z2:=H1.o.1.later hb2
  obtain ⟨z0,z1,z2,z3,z4,z5,z6,z7,zf⟩:=Z2.cells
  unfold zeroO at z0 z1 z2 z3 z4 z5 z6 z7
  dsimp only at z0 z1 z2 z3 z4 z5 z6 z7
  have B2:Aside (Below w.heap.size w w2):=zh H1.o.2.1 hb2
  clear hb2 Z2
  go_wp2
  (try simp only [Exit.inBlock,Exit.then])
  refine bodyPost_ret (v:=.tuple #[.agg #[.int .i64 t,.int .i64 b,.int .i64 m,.int .u8 (kd:Int),.int .i64 nd',.int .i64 o,.string s,.string v],er]) ?_ rfl ⟨(into,true),HA.o,.inl ⟨rfl,⟨by dsimp only;rw [<-HY.o.1,<-HY.o.2];rfl,?_⟩⟩⟩
  ·rw [results_ct rfl]
   go_simp
  exact below_cells (b:=S) B2.o zF 0 [.int .i64 t,.int .i64 b,.int .i64 m,.int .u8 (kd:Int),.int .i64 nd',.int .i64 o,.string s,.string v]
