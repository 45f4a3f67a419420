import Derived.Test.YtpdbnnimdkfajaaGreatDoorVS32
set_option linter.unusedSimpArgs false
set_option linter.unusedVariables false
set_option maxRecDepth 100000
set_option maxHeartbeats 64000000
namespace Go.Proofs.YtpdbnnimdkfajaaGreatDoor
open Go.Proofs.Tryz
variable {cs xs ys:List OpX} {c g i j k:Nat} {v:Nat→Int} {x:OpX} {p:OpX→Bool} {u:Value} {w w':World}
section
open Go.RowKit Go.Lib Go.Sort Go.Maps
def WriteAt (A:List OpX) (nd n:Int) (a:Int×Bool):Prop:=(n=0/\a.1=0/\(a.2=true↔KnownN A nd))\/(n≠0/\(¬KnownN A nd->a=(0,false))/\(KnownN A nd->∃L,LineIs A nd L/\a=atL (n - 1) L))
theorem knownN_perm {A S:List OpX} (h:A.Perm S) (nd:Int):KnownN A nd↔KnownN S nd:=⟨fun q=>q.mono (fun x hx=>h.mem_iff.1 hx),fun q=>q.mono (fun x hx=>h.mem_iff.2 hx)⟩
theorem atL_wrap {mw n:Int} {L:List Ltr} (h:mw=n - 1\/(mw=9223372036854775807/\n= -9223372036854775808)) (hl:L.length<=1000):atL mw L=atL (n - 1) L:=by
 rcases h with h | ⟨h1,h2⟩
 ·rw [h]
 subst h1 h2
 unfold atL
 rw [if_pos zi,if_neg zi]
 have:(seenOf L).length<=L.length:=vF _ _
 rw [uJ zi]
theorem byte_row (w:World) (ch:UInt8):(w.alloc (.cells #[.int .u8 (ch.toNat:Int)] 5)).ownsRow 0 5 1 (.slice (some ⟨w.heap.size,0,none⟩) 1 1) 1 (bytesW [ch]):=
 ⟨rfl,.inr ⟨w.heap.size,1,#[.int .u8 (ch.toNat:Int)],rfl,js _,heap_alloc_new w _,jj _,zD,rfl,rfl⟩⟩
theorem write_any {B:Nat} {ad:Nat->Addr} (w:World) (c:Nat->Nat) (br:Nat) (T:Int) (i:Nat) (ao:Nat->Option Addr) (cap:Nat->Nat) (bt bx bc:Nat) (R:Rws) (A:List OpX) (nd n:Int) (ch:UInt8) (hc:RepCell w br T (i:Int) (kvs ao cap R) bt bx bc) (hrows:RowsAt w c (kvs ao cap R) R) (htext:TextC w c bx A) (hperm:A.Perm (allR R)) (hR:RowsK R) (hE:EnvE B ad w) (hi:i<4) (hT:0<=T) (hm:T<=1073741824) (hn:(allR R).length<=140) (h2: -9223372036854775808<=nd) (h3:nd<=9223372036854775807) (hn1: -9223372036854775808<=n) (hn2:n<=9223372036854775807):
  Calls prog 66 #[.pointer (some ⟨br,0,none⟩),.int .i64 nd,.int .i64 n,.int .u8 (ch.toNat:Int)] w fun e w'=>∃a,WriteAt A nd n a/\MadeOut ad w (a.2=true) (ownX T i (R i).length 105 nd a.1 ⟨#[]⟩ ⟨#[ch]⟩) e w':=by
 have hrl:∀i,i<4->(R i).length<=1000:=fun i hi=>yh
 have hAl:A.length<=140:=by have:=hperm.length_eq;omega
 obtain ⟨S,hS⟩:=za w.heap.size
 obtain ⟨U,hU⟩:=za (w.alloc (.cells #[.int .i64 0,.int .i64 0,.int .i64 0,.int .u8 0,.int .i64 0,.int .i64 0,.string ⟨#[]⟩,.string ⟨#[]⟩] 38))
 have hbU:Below w.heap.size w U:=zJ
 have Z0:OpBlk U S zeroO:=yj
 have hcU:RepCell U br T (i:Int) (kvs ao cap R) bt bx bc:=hc.same (hbU.block _ hc.lt)
 obtain ⟨zb,hzb⟩:∃zb:Bool,zb=true↔KnownN (allR R) nd:=⟨@decide _ (Classical.propDecidable _),@decide_eq_true_iff _ (Classical.propDecidable _)⟩
 have hnode:=isNode_any U ao cap R nd zb hzb ((hE.later hbU).op4) ((KnownAt.of_rows hrows).later hbU) hR.toN hrl h2 h3
 unfold kV at hnode
 have k2:U.cell? ⟨br,2,none⟩=some (.slice (ao 0) (R 0).length (cap 0)):=hcU.c2
 have k3:U.cell? ⟨br,3,none⟩=some (.slice (ao 1) (R 1).length (cap 1)):=hcU.c3
 have k4:U.cell? ⟨br,4,none⟩=some (.slice (ao 2) (R 2).length (cap 2)):=hcU.c4
 have k5:U.cell? ⟨br,5,none⟩=some (.slice (ao 3) (R 3).length (cap 3)):=hcU.c5
 have htU:TextC U c bx A:=htext.kept ⟨fun k hk _=>hbU.block k hk,fun _ _=>rfl⟩ (fun _ _=>⟨fun k hk _=>hbU.block k hk,fun _ _=>rfl⟩)
 have H0:Aside (RepCell U br T (i:Int) (kvs ao cap R) bt bx bc/\OpBlk U S zeroO/\Below w.heap.size w U/\S=w.heap.size/\EnvE B ad U/\B<=w.heap.size/\(zb=true↔KnownN A nd)/\TextC U c bx A):=⟨hcU,Z0,hbU,hS,hE.later hbU,hE.size,hzb.trans (knownN_perm hperm nd).symm,htU⟩
 have HU:Aside (U=w.alloc (.cells #[.int .i64 0,.int .i64 0,.int .i64 0,.int .u8 0,.int .i64 0,.int .i64 0,.string ⟨#[]⟩,.string ⟨#[]⟩] 38)):=hU
 clear hU hcU Z0 hbU hE hc hS hzb hrows hR htext htU
 go_enter func66,ntmps66
 go_upto_region 1 with fail
 rw [<-HU.o,<-H0.o.2.2.2.1]
 go_wp2_with fail
 refine hnode.mono ?_
 clear hnode k2 k3 k4 k5
 rintro e w1 ⟨rfl,hb1⟩
 have Z1:=H0.o.2.1.later hb1
 have H1:Aside (OpBlk w1 S zeroO/\Below w.heap.size w w1/\EnvE B ad w1/\RepCell w1 br T (i:Int) (kvs ao cap R) bt bx bc/\TextC w1 c bx A):=⟨Z1,zh H0.o.2.2.1 hb1,H0.o.2.2.2.2.1.later hb1,H0.o.1.same (hb1.block _ H0.o.1.lt),H0.o.2.2.2.2.2.2.2.kept ⟨fun k hk _=>hb1.block k hk,fun _ _=>rfl⟩ (fun _ _=>⟨fun k hk _=>hb1.block k hk,fun _ _=>rfl⟩)⟩
 clear hb1 Z1
 obtain ⟨mw,hmw⟩:=za (IntKind.i64.wrap (n - 1))
 have hmb: -9223372036854775808<=mw/\mw<=9223372036854775807/\(mw=n - 1\/(mw=9223372036854775807/\n= -9223372036854775808)):=by rw [hmw,IntKind.wrap_i64];omega
 have wrapn:IntKind.i64.wrap (n - 1)=mw:=hmw.symm
 have HMB:Aside (mw=n - 1\/(mw=9223372036854775807/\n= -9223372036854775808)):=hmb.2.2
 clear hmw
 by_cases hn0:n=0
 ·subst hn0
  clear hmb HMB wrapn
  have HX:Aside (OpBlk w1 S zeroO/\Below w.heap.size w w1/\EnvE B ad w1/\RepCell w1 br T (i:Int) (kvs ao cap R) bt bx bc):=⟨H1.o.1,H1.o.2.1,H1.o.2.2.1,H1.o.2.2.2.1⟩
  have HA:Aside (WriteAt A nd 0 (0,zb)):=.inl ⟨rfl,rfl,H0.o.2.2.2.2.2.2.1⟩
  cases zb with
  | false=>
   obtain ⟨z0,z1,z2,z3,z4,z5,z6,z7,zf⟩:=HX.o.1.cells
   unfold zeroO at z0 z1 z2 z3 z4 z5 z6 z7
   dsimp only at z0 z1 z2 z3 z4 z5 z6 z7
   have eg:=HX.o.2.2.1.c5
   have hlo:=HX.o.2.2.1.low
   have hSw:=H0.o.2.2.2.1
   have hBw:=H0.o.2.2.2.2.2.1
   have n1:0≠S:=zi
   have n2:S≠0:=zi
   clear hlo hSw hBw
   go_wp2_with fail
   go_region
   all_goals
    go_wp2
    (try simp only [Exit.inBlock,Exit.then])
    refine bodyPost_ret (v:=.tuple #[encO zeroO,eV ad 6]) ?_ rfl ⟨_,HA.o,.inr ⟨zm,rfl,?_⟩⟩
    ·rw [results_ct rfl]
     unfold encO zeroO eV
     go_simp
    exact (below_cells (b:=S) HX.o.2.1 zF 0 [.int .i64 0,.int .i64 0,.int .i64 0,.int .u8 0,.int .i64 0,.int .i64 0,.string ⟨#[]⟩,.string ⟨#[]⟩]).drew
  | true=>
   have hbB:Below w1.heap.size w1 (w1.alloc (.cells #[.int .u8 (ch.toNat:Int)] 5)):=zg w1 _
   have hconv:=conv_row (byte_row w1 ch) rfl
   have hown:=own_any (w1.alloc (.cells #[.int .u8 (ch.toNat:Int)] 5)) br T i ao cap bt bx bc R 105 nd 0 ⟨#[]⟩ ⟨#[ch]⟩ (HX.o.2.2.2.same (hbB.block _ HX.o.2.2.2.lt)) (HX.o.2.2.1.later hbB) hi hT hm hn zo (by show (1:Nat)<=1000000;omega)
   have HB:Aside (Below w.heap.size w (w1.alloc (.cells #[.int .u8 (ch.toNat:Int)] 5))/\OpBlk (w1.alloc (.cells #[.int .u8 (ch.toNat:Int)] 5)) S zeroO):=⟨zh HX.o.2.1 hbB,HX.o.1.later hbB⟩
   unfold encO at hown
   dsimp only at hown
   clear hbB
   go_wp2_with fail
   refine hown.mono ?_
   clear hown hconv
   rintro e w3 ⟨he,hb3⟩
   obtain ⟨y,hy⟩:=za ((if errF (ownX T i (R i).length 105 nd 0 ⟨#[]⟩ ⟨#[ch]⟩)=0 then ownX T i (R i).length 105 nd 0 ⟨#[]⟩ ⟨#[ch]⟩ else zeroO))
   obtain ⟨er,her⟩:=za (eV ad (errF (ownX T i (R i).length 105 nd 0 ⟨#[]⟩ ⟨#[ch]⟩)))
   rw [<-hy,<-her] at he
   subst he
   have HY:Aside (y=(if errF (ownX T i (R i).length 105 nd 0 ⟨#[]⟩ ⟨#[ch]⟩)=0 then ownX T i (R i).length 105 nd 0 ⟨#[]⟩ ⟨#[ch]⟩ else zeroO)/\er=eV ad (errF (ownX T i (R i).length 105 nd 0 ⟨#[]⟩ ⟨#[ch]⟩))):=⟨hy,her⟩
   clear hy her
   obtain ⟨t,b,m,kd,nd',o,s,v⟩:=y
   unfold encO
   dsimp only
   have Z2:=HB.o.2.later hb3
   obtain ⟨z0,z1,z2,z3,z4,z5,z6,z7,zf⟩:=Z2.cells
   unfold zeroO at z0 z1 z2 z3 z4 z5 z6 z7
   dsimp only at z0 z1 z2 z3 z4 z5 z6 z7
   have B2:Aside (Below w.heap.size w w3):=zh HB.o.1 hb3
   clear hb3 Z2
   go_wp2
   (try simp only [Exit.inBlock,Exit.then])
   refine bodyPost_ret (v:=.tuple #[.agg #[.int .i64 t,.int .i64 b,.int .i64 m,.int .u8 (kd:Int),.int .i64 nd',.int .i64 o,.string s,.string v],er]) ?_ rfl ⟨_,HA.o,.inl ⟨rfl,⟨by rw [<-HY.o.1,<-HY.o.2];rfl,?_⟩⟩⟩
   ·rw [results_ct rfl]
    go_simp
   exact below_cells (b:=S) B2.o zF 0 [.int .i64 t,.int .i64 b,.int .i64 m,.int .u8 (kd:Int),.int .i64 nd',.int .i64 o,.string s,.string v]
 have dn0:(n !=0)=true:=by simp [hn0]
 have hlet:=letter_any w1 c br T (i:Int) (kvs ao cap R) bt bx bc A nd mw H1.o.2.2.2.1 H1.o.2.2.2.2 zi zi zi ⟨hmb.1,hmb.2.1⟩
 have HN0:=Lib.hid hn0
 clear hn0 hmb
 go_wp2_with fail
 refine hlet.mono ?_
 clear hlet
 rintro e w2 ⟨⟨bh,zz⟩,rfl,ha1,ha2,hb2⟩
 have HX:Aside (OpBlk w2 S zeroO/\Below w.heap.size w w2/\EnvE B ad w2/\RepCell w2 br T (i:Int) (kvs ao cap R) bt bx bc):=⟨H1.o.1.later hb2,zh H1.o.2.1 hb2,H1.o.2.2.1.later hb2,H1.o.2.2.2.1.same (hb2.block _ H1.o.2.2.2.1.lt)⟩
 have HA:Aside (WriteAt A nd n (bh,zz)):=.inr ⟨HN0.o,ha1,fun q=>by obtain ⟨L,hL,e⟩:=ha2 q;exact ⟨L,hL,e.trans (atL_wrap HMB.o (by have:=hL.len;omega))⟩⟩
 clear hb2 ha1 ha2
 dsimp only
 cases zz with
 | false=>
  obtain ⟨z0,z1,z2,z3,z4,z5,z6,z7,zf⟩:=HX.o.1.cells
  unfold zeroO at z0 z1 z2 z3 z4 z5 z6 z7
  dsimp only at z0 z1 z2 z3 z4 z5 z6 z7
  have eg:=HX.o.2.2.1.c5
  have hlo:=HX.o.2.2.1.low
  have hSw:=H0.o.2.2.2.1
  have hBw:=H0.o.2.2.2.2.2.1
  have n1:0≠S:=zi
  have n2:S≠0:=zi
  clear hlo hSw hBw
  go_wp2_with fail
  go_region
  all_goals
   go_wp2
   (try simp only [Exit.inBlock,Exit.then])
   refine bodyPost_ret (v:=.tuple #[encO zeroO,eV ad 6]) ?_ rfl ⟨_,HA.o,.inr ⟨zm,rfl,?_⟩⟩
   ·rw [results_ct rfl]
    unfold encO zeroO eV
    go_simp
   exact (below_cells (b:=S) HX.o.2.1 zF 0 [.int .i64 0,.int .i64 0,.int .i64 0,.int .u8 0,.int .i64 0,.int .i64 0,.string ⟨#[]⟩,.string ⟨#[]⟩]).drew
 | true=>
  have hbB:Below w2.heap.size w2 (w2.alloc (.cells #[.int .u8 (ch.toNat:Int)] 5)):=zg w2 _
  have hconv:=conv_row (byte_row w2 ch) rfl
  have hown:=own_any (w2.alloc (.cells #[.int .u8 (ch.toNat:Int)] 5)) br T i ao cap bt bx bc R 105 nd bh ⟨#[]⟩ ⟨#[ch]⟩ (HX.o.2.2.2.same (hbB.block _ HX.o.2.2.2.lt)) (HX.o.2.2.1.later hbB) hi hT hm hn zo (by show (1:Nat)<=1000000;omega)
  have HB:Aside (Below w.heap.size w (w2.alloc (.cells #[.int .u8 (ch.toNat:Int)] 5))/\OpBlk (w2.alloc (.cells #[.int .u8 (ch.toNat:Int)] 5)) S zeroO):=⟨zh HX.o.2.1 hbB,HX.o.1.later hbB⟩
  unfold encO at hown
  dsimp only at hown
  clear hbB
  go_wp2_with fail
  refine hown.mono ?_
  clear hown hconv
  rintro e w3 ⟨he,hb3⟩
  obtain ⟨y,hy⟩:=za ((if errF (ownX T i (R i).length 105 nd bh ⟨#[]⟩ ⟨#[ch]⟩)=0 then ownX T i (R i).length 105 nd bh ⟨#[]⟩ ⟨#[ch]⟩ else zeroO))
  obtain ⟨er,her⟩:=za (eV ad (errF (ownX T i (R i).length 105 nd bh ⟨#[]⟩ ⟨#[ch]⟩)))
  rw [<-hy,<-her] at he
  subst he
  have HY:Aside (y=(if errF (ownX T i (R i).length 105 nd bh ⟨#[]⟩ ⟨#[ch]⟩)=0 then ownX T i (R i).length 105 nd bh ⟨#[]⟩ ⟨#[ch]⟩ else zeroO)/\er=eV ad (errF (ownX T i (R i).length 105 nd bh ⟨#[]⟩ ⟨#[ch]⟩))):=⟨hy,her⟩
  clear hy her
  obtain ⟨t,b,m,kd,nd',o,s,v⟩:=y
  unfold encO
  dsimp only
  have Z2:=HB.o.2.later hb3
  obtain ⟨z0,z1,z2,z3,z4,z5,z6,z7,zf⟩:=Z2.cells
  unfold zeroO at z0 z1 z2 z3 z4 z5 z6 z7
  dsimp only at z0 z1 z2 z3 z4 z5 z6 z7
  have B2:Aside (Below w.heap.size w w3):=zh HB.o.1 hb3
  clear hb3 Z2
  go_wp2
  (try simp only [Exit.inBlock,Exit.then])
  refine bodyPost_ret (v:=.tuple #[.agg #[.int .i64 t,.int .i64 b,.int .i64 m,.int .u8 (kd:Int),.int .i64 nd',.int .i64 o,.string s,.string v],er]) ?_ rfl ⟨_,HA.o,.inl ⟨rfl,⟨by rw [<-HY.o.1,<-HY.o.2];rfl,?_⟩⟩⟩
  ·rw [results_ct rfl]
   go_simp
  exact below_cells (b:=S) B2.o zF 0 [.int .i64 t,.int .i64 b,.int .i64 m,.int .u8 (kd:Int),.int .i64 nd',.int .i64 o,.string s,.string v]
end
section
open Go.RowKit Go.Lib Go.Sort Go.Maps
theorem growOps_any (n:Nat) (w:World) (hn:n<=1000):Calls prog 207 #[.slice none 0 0,.int .i64 (n:Int)] w fun e w'=>∃v,e= .returned v/\w'.ownsRow w.heap.size 38 8 v 0 []/\Below w.heap.size w w':=by
 by_cases h0:n=0
 ·subst h0
  go_enter func207,ntmps207
  go_wp2
  go_ret
  exact ⟨_,rfl,jQ _ _ _ _,jo _ w⟩
 have d0:decide ((n:Int)<0)=false:=zm
 have d1:decide ((0:Int)<(n:Int))=true:=zk
 have d1':decide (0<n)=true:=zk
 have e1:((n:Int) - 0)=(n:Int):=zi
 obtain ⟨i0,hi,hz0,hz1,hz2⟩:=info_parts infoOp
 have hrun:=fun ty=>Lib.run_append_nil_zeros (P:=prog) w 32 3 ty 38 i0 _ .i64 .i64 underlying32 underlying3 hi hz0 n zi zi zi (by rw [hz2];omega)
 obtain ⟨cp,hcp⟩:=za (grownCap w n 0 38)
 rw [<-hcp] at hrun
 have hge:n<=cp:=by rw [hcp];exact grownCap_ge w n 0 _
 have hle:cp<=maxLen:=by rw [hcp];exact grownCap_le_maxLen w n 0 _ zD
 have HC:Aside (cp=grownCap w n 0 38/\n<=cp/\cp<=maxLen):=⟨hcp,hge,hle⟩
 have hc63:(cp:Int)<=9223372036854775807:=by simp only [maxLen] at hle;omega
 clear hcp hge hle
 go_enter func207,ntmps207
 go_wp2_with (at_builtin;refine Lib.wpList_append_run _ rfl _ _ _ _ rfl _ _ rfl rfl _ _ (hrun _) ?_)
 go_ret
 refine ⟨_,rfl,⟨rfl,.inr ⟨w.heap.size,cp,_,rfl,jj _,heap_alloc_new w _,js _,HC.o.2.2,?_,?_⟩⟩,(zg w _).drew⟩
 ·have:=HC.o.2.1
  simp [size_zeroCells]
  omega
 simp
theorem opsRow {ao:Option Addr} (h:OpsIn w ao xs):InRow encX w ao xs:=h
theorem concat_any (w:World) (Bk:Nat) (ao:Nat->Option Addr) (cap:Nat->Nat) (R:Rws) (hk:KBox w Bk ao cap R) (hK:KnownAt w ao R) (hnil:∀i,i<4->ao i=none->cap i=0) (hn:(allR R).length<=1000):
  Calls prog 151 #[.slice (some ⟨Bk,0,none⟩) 4 4] w fun e w'=>∃v,e= .returned v/\w'.ownsRow w.heap.size 38 8 v (allR R).length (cellsOf (allR R))/\Below w.heap.size w w':=by
 have hl0:=row_le R (i:=0) zi
 have hl1:=row_le R (i:=1) zi
 have hl2:=row_le R (i:=2) zi
 have hl3:=row_le R (i:=3) zi
 have c0:=hk.at (i:=0) zi
 have c1:=hk.at (i:=1) zi
 have c2:=hk.at (i:=2) zi
 have c3:=hk.at (i:=3) zi
 have hsum:(allR R).length=(R 0).length+(R 1).length+(R 2).length+(R 3).length:=by unfold allR;simp;omega
 have hgr:=growOps_any ((R 0).length+(R 1).length+(R 2).length+(R 3).length) w zi
 have HK:Aside (KnownAt w ao R/\∀i,i<4->ao i=none->cap i=0):=⟨hK,hnil⟩
 have HS:Aside ((allR R).length=(R 0).length+(R 1).length+(R 2).length+(R 3).length):=hsum
 have g0:(((R 0).length+(R 1).length+(R 2).length+(R 3).length:Nat):Int)=(R 0).length+(R 1).length+(R 2).length+(R 3).length:=zi
 rw [g0] at hgr
 have hT:(R 0).length+(R 1).length+(R 2).length+(R 3).length<=1000:=zi
 have n1:decide (((R 0).length:Int)<0)=false:=zm
 have n2:decide (((R 0).length:Int)+(R 1).length<0)=false:=zk
 have n3:decide (((R 0).length:Int)+(R 1).length+(R 2).length<0)=false:=zk
 have n4:decide (((R 0).length:Int)+(R 1).length+(R 2).length+(R 3).length<0)=false:=zk
 clear hk hK hnil hsum g0
 go_enter func151,ntmps151
 go_wp2
 refine wp_loop_rounds 5 ?_
 iterate 4
  rw [rounds_succ]
  go_wp2
 rw [rounds_succ]
 go_wp2_with fail
 refine hgr.mono ?_
 clear hgr
 rintro e w0 ⟨v0,rfl,hown0,hb0⟩
 have HB0:Aside (Below w.heap.size w w0):=hb0
 have hown0:w0.ownsRow w.heap.size 38 8 v0 0 []:=hown0
 obtain ⟨x0,y0,rfl⟩:=rowIs hown0
 clear hb0
 go_wp2
 refine wp_loop_rounds 5 ?_
 rw [rounds_succ]
 obtain ⟨v1,w1,hrun,hown1,hgrow⟩:=append_row (enc:=encX) (k:=8) (S:=32) (T:=38) underlying32 infoOp zi zi rfl encX_len encX_one hown0 zi HB0.o.size (ao 0) (cap 0) (R 0) zi (opsRow (HK.o.1.later HB0.o 0 zi)) (HK.o.2 0 zi) 32
 have HB1:Aside (Below w.heap.size w w1):=HB0.o.grown hgrow HB0.o.size (fun g hg=>(hown0.lt g hg).1)
 have f0:=cell_later HB0.o c0
 have f1:=cell_later HB0.o c1
 have f2:=cell_later HB0.o c2
 have f3:=cell_later HB0.o c3
 rw [jt] at hown1
 obtain ⟨x1,y1,rfl⟩:=rowIs hown1
 go_wp2_with (at_builtin;refine Lib.wpList_append_run _ rfl _ _ _ _ rfl _ _ rfl rfl _ _ hrun ?_)
 clear hrun hgrow f0 f1 f2 f3
 rw [rounds_succ]
 obtain ⟨v2,w2,hrun,hown2,hgrow⟩:=append_row (enc:=encX) (k:=8) (S:=32) (T:=38) underlying32 infoOp zi zi rfl encX_len encX_one hown1 zi HB1.o.size (ao 1) (cap 1) (R 1) zi (opsRow (HK.o.1.later HB1.o 1 zi)) (HK.o.2 1 zi) 32
 have HB2:Aside (Below w.heap.size w w2):=HB1.o.grown hgrow HB1.o.size (fun g hg=>(hown1.lt g hg).1)
 have f0:=cell_later HB1.o c0
 have f1:=cell_later HB1.o c1
 have f2:=cell_later HB1.o c2
 have f3:=cell_later HB1.o c3
 obtain ⟨x2,y2,rfl⟩:=rowIs hown2
 go_wp2_with (at_builtin;refine Lib.wpList_append_run _ rfl _ _ _ _ rfl _ _ rfl rfl _ _ hrun ?_)
 clear hrun hgrow f0 f1 f2 f3
 rw [rounds_succ]
 obtain ⟨v3,w3,hrun,hown3,hgrow⟩:=append_row (enc:=encX) (k:=8) (S:=32) (T:=38) underlying32 infoOp zi zi rfl encX_len encX_one hown2 zi HB2.o.size (ao 2) (cap 2) (R 2) zi (opsRow (HK.o.1.later HB2.o 2 zi)) (HK.o.2 2 zi) 32
 have HB3:Aside (Below w.heap.size w w3):=HB2.o.grown hgrow HB2.o.size (fun g hg=>(hown2.lt g hg).1)
 have f0:=cell_later HB2.o c0
 have f1:=cell_later HB2.o c1
 have f2:=cell_later HB2.o c2
 have f3:=cell_later HB2.o c3
 obtain ⟨x3,y3,rfl⟩:=rowIs hown3
 go_wp2_with (at_builtin;refine Lib.wpList_append_run _ rfl _ _ _ _ rfl _ _ rfl rfl _ _ hrun ?_)
 clear hrun hgrow f0 f1 f2 f3
 rw [rounds_succ]
 obtain ⟨v4,w4,hrun,hown4,hgrow⟩:=append_row (enc:=encX) (k:=8) (S:=32) (T:=38) underlying32 infoOp zi zi rfl encX_len encX_one hown3 zi HB3.o.size (ao 3) (cap 3) (R 3) zi (opsRow (HK.o.1.later HB3.o 3 zi)) (HK.o.2 3 zi) 32
 have HB4:Aside (Below w.heap.size w w4):=HB3.o.grown hgrow HB3.o.size (fun g hg=>(hown3.lt g hg).1)
 have f0:=cell_later HB3.o c0
 have f1:=cell_later HB3.o c1
 have f2:=cell_later HB3.o c2
 have f3:=cell_later HB3.o c3
 obtain ⟨x4,y4,rfl⟩:=rowIs hown4
 go_wp2_with (at_builtin;refine Lib.wpList_append_run _ rfl _ _ _ _ rfl _ _ rfl rfl _ _ hrun ?_)
 clear hrun hgrow f0 f1 f2 f3
 rw [rounds_succ]
 go_wp2
 go_ret
 refine ⟨_,rfl,?_,HB4.o⟩
 rw [HS.o]
 rw [show cellsOf (allR R)= []++cellsOf (R 0)++cellsOf (R 1)++cellsOf (R 2)++cellsOf (R 3) by unfold allR;simp [cellsOf_app]]
 exact hown4
end
section
open Go.RowKit Go.Lib Go.Sort Go.Maps
def AllOut (w:World) (R:Rws) (e:Ending) (w':World):Prop:=∃v ys,e= .returned v/\OpsAt w' v ys/\StableOf (allR R) ys/\Below w.heap.size w w'/\∀g,v.ownBlock=some g->w.heap.size<=g
theorem kall_any (w:World) (ao:Nat->Option Addr) (cap:Nat->Nat) (R:Rws) (hK:KnownAt w ao R) (hnil:∀i,i<4->ao i=none->cap i=0) (hn:(allR R).length<=1000):
  Calls prog 82 #[kV ao cap R] w (AllOut w R):=by
 obtain ⟨W,hW⟩:=za (w.alloc (.cells #[.slice (ao 0) (R 0).length (cap 0),.slice (ao 1) (R 1).length (cap 1),.slice (ao 2) (R 2).length (cap 2),.slice (ao 3) (R 3).length (cap 3)] 65 (0,0)))
 have hb:Below w.heap.size w W:=by rw [hW];exact zg w _
 have hbox:KBox W w.heap.size ao cap R:=by rw [hW];exact heap_alloc_new w _
 have hcat:=concat_any W w.heap.size ao cap R hbox (hK.later hb) hnil hn
 have H:Aside (W=w.alloc (.cells #[.slice (ao 0) (R 0).length (cap 0),.slice (ao 1) (R 1).length (cap 1),.slice (ao 2) (R 2).length (cap 2),.slice (ao 3) (R 3).length (cap 3)] 65 (0,0))/\Below w.heap.size w W/\(allR R).length<=1000):=⟨hW,hb,hn⟩
 clear hW hb hbox hK hnil hn
 unfold kV
 go_enter func82,ntmps82
 go_wp2_with fail
 rw [<-H.o.1]
 refine hcat.mono ?_
 clear hcat
 rintro e w1 ⟨v1,rfl,ho1,hb1⟩
 have hs:=opSort_new w1 v1 (allR R) (ownsOps ho1) H.o.2.2
 have H1:Aside (Below w.heap.size w w1):=zh H.o.2.1 hb1
 clear ho1 hb1 H
 go_wp2_with fail
 refine hs.mono ?_
 clear hs
 rintro e w2 ⟨v2,ys,rfl,h1,h2,h3,h4⟩
 have H2:Aside (OpsAt w2 v2 ys/\StableOf (allR R) ys/\Below w.heap.size w w2/\∀g,v2.ownBlock=some g->w.heap.size<=g):=⟨h1,h2,zh H1.o h3,fun g hg=>jw H1.o.size (h4 g hg)⟩
 clear h1 h2 h3 h4 H1
 go_wp2
 go_ret
 exact ⟨_,_,rfl,H2.o⟩
theorem rows_nil {c:Nat->Nat} {ao:Nat->Option Addr} {cap:Nat->Nat} {R:Rws} (h:RowsAt w c (kvs ao cap R) R):∀i,i<4->ao i=none->cap i=0:=fun i hi e=>by
 obtain ⟨-,h2⟩:=(h i hi).1
 unfold kvs at h2
 rcases h2 with q | ⟨b,cp,_,q,_⟩
 ·have:=q.1
  simp only [Value.slice.injEq] at this
  exact this.2.2
 simp only [Value.slice.injEq] at q
 rw [q.1] at e
 cases e
theorem rops_any (w:World) (c:Nat->Nat) (br:Nat) (by_:Int) (R:Rws) (h:RepAt w c br by_ R) (hn:(allR R).length<=1000):
  Calls prog 23 #[.pointer (some ⟨br,0,none⟩)] w (AllOut w R):=by
 obtain ⟨T,kv,bt,bx,bc,A,hm,hp,hK,hb⟩:=h
 obtain ⟨ao,cap,hM⟩:=hm.norm
 have hall:=kall_any w ao cap R (KnownAt.of_rows hM.rows) (rows_nil hM.rows) hn
 unfold kV at hall
 have k2:w.cell? ⟨br,2,none⟩=some (.slice (ao 0) (R 0).length (cap 0)):=hM.cell.c2
 have k3:w.cell? ⟨br,3,none⟩=some (.slice (ao 1) (R 1).length (cap 1)):=hM.cell.c3
 have k4:w.cell? ⟨br,4,none⟩=some (.slice (ao 2) (R 2).length (cap 2)):=hM.cell.c4
 have k5:w.cell? ⟨br,5,none⟩=some (.slice (ao 3) (R 3).length (cap 3)):=hM.cell.c5
 clear hm hM hp hK hb hn
 go_enter func23,ntmps23
 go_wp2_with fail
 refine hall.mono ?_
 clear hall
 rintro e w2 ⟨v2,ys,rfl,h2⟩
 have H2:Aside (OpsAt w2 v2 ys/\StableOf (allR R) ys/\Below w.heap.size w w2/\∀g,v2.ownBlock=some g->w.heap.size<=g):=h2
 clear h2
 go_wp2
 go_ret
 exact ⟨_,_,rfl,H2.o⟩
theorem rvector_any (w:World) (c:Nat->Nat) (br:Nat) (by_:Int) (R:Rws) (h:RepAt w c br by_ R) (hn:(allR R).length<=1000):
  Calls prog 18 #[.pointer (some ⟨br,0,none⟩)] w fun e w'=>e= .returned (.agg #[.int .i64 ((R 0).length:Int),.int .i64 ((R 1).length:Int),.int .i64 ((R 2).length:Int),.int .i64 ((R 3).length:Int)])/\Below w.heap.size w w':=by
 obtain ⟨T,kv,bt,bx,bc,A,hm,hp,hK,hb⟩:=h
 obtain ⟨ao,cap,hM⟩:=hm.norm
 obtain ⟨U,hU⟩:=za (w.alloc (.cells #[.int .i64 0,.int .i64 0,.int .i64 0,.int .i64 0] 55 (0,0)))
 have hbU:Below w.heap.size w U:=zJ
 have hc:RepCell U br T by_ (kvs ao cap R) bt bx bc:=hM.cell.same (hbU.block _ hM.cell.lt)
 have hv:U.heap[w.heap.size]? =some (.cells #[.int .i64 0,.int .i64 0,.int .i64 0,.int .i64 0] 55 (0,0)):=by rw [hU];exact heap_alloc_new w _
 have hall:=kvector_any U ao cap R (fun i hi=>jw (row_le R hi) hn)
 unfold kV at hall
 have k2:U.cell? ⟨br,2,none⟩=some (.slice (ao 0) (R 0).length (cap 0)):=hc.c2
 have k3:U.cell? ⟨br,3,none⟩=some (.slice (ao 1) (R 1).length (cap 1)):=hc.c3
 have k4:U.cell? ⟨br,4,none⟩=some (.slice (ao 2) (R 2).length (cap 2)):=hc.c4
 have k5:U.cell? ⟨br,5,none⟩=some (.slice (ao 3) (R 3).length (cap 3)):=hc.c5
 have HU:Aside (U=w.alloc (.cells #[.int .i64 0,.int .i64 0,.int .i64 0,.int .i64 0] 55 (0,0))/\Below w.heap.size w U/\U.heap[w.heap.size]? =some (.cells #[.int .i64 0,.int .i64 0,.int .i64 0,.int .i64 0] 55 (0,0))):=⟨hU,hbU,hv⟩
 clear hm hM hp hK hb hn hc hU hbU hv
 go_enter func18,ntmps18
 go_upto_region 1 with fail
 rw [<-HU.o.1]
 go_wp2_with fail
 refine hall.mono ?_
 clear hall
 rintro e w2 ⟨rfl,h2⟩
 have hv2:=(h2.block w.heap.size (jk.1 HU.o.2.2).1).trans HU.o.2.2
 have s0:w2.cell? ⟨w.heap.size,0,none⟩=some (.int .i64 0):=yq
 have s1:w2.cell? ⟨w.heap.size,1,none⟩=some (.int .i64 0):=yq
 have s2:w2.cell? ⟨w.heap.size,2,none⟩=some (.int .i64 0):=yq
 have s3:w2.cell? ⟨w.heap.size,3,none⟩=some (.int .i64 0):=yq
 have z:∀o,w2.frozen? ⟨w.heap.size,o,none⟩=false:=fun o=>by simp [World.frozen?,hv2]
 have H2:Aside (Below w.heap.size w w2):=zh HU.o.2.1 h2
 clear h2 hv2 HU k2 k3 k4 k5
 go_wp2
 (try simp only [Exit.inBlock,Exit.then])
 refine bodyPost_ret (v:=.agg #[.int .i64 ((R 0).length:Int),.int .i64 ((R 1).length:Int),.int .i64 ((R 2).length:Int),.int .i64 ((R 3).length:Int)]) ?_ rfl ⟨rfl,?_⟩
 ·rw [results_c rfl]
  go_simp
 exact (((H2.o.setCell ze _).setCell ze _).setCell ze _).setCell ze _
end
section
open Go.RowKit Go.Lib Go.Sort Go.Maps
def VecBlk (w:World) (b:Nat) (v:Nat->Int):Prop:=w.heap[b]? =some (.cells #[.int .i64 (v 0),.int .i64 (v 1),.int .i64 (v 2),.int .i64 (v 3)] 55 (0,0))
theorem VecBlk.lt {b:Nat} (h:VecBlk w b v):b<w.heap.size:=(jk.1 h).1
theorem VecBlk.later {b:Nat} (h:VecBlk w b v) (hb:Below w.heap.size w w'):VecBlk w' b v:=(hb.block b h.lt).trans h
theorem VecBlk.at {b:Nat} (h:VecBlk w b v) (hi:i<4):w.cell? ⟨b,i,none⟩=some (.int .i64 (v i)):=by
 unfold VecBlk at h
 match i,hi with
 | 0,_=>simp [World.cell?,h]
 | 1,_=>simp [World.cell?,h]
 | 2,_=>simp [World.cell?,h]
 | 3,_=>simp [World.cell?,h]
def heldV (v:Nat->Int) (x:OpX):Bool:=decide (x.2.2.1<=v x.2.1.toNat)
theorem diffFn_any (w:World) (b:Nat) (v:Nat->Int) (x:OpX) (hv:VecBlk w b v) (i:Nat) (hi:i<4) (hx:x.2.1=(i:Int)):
  Calls prog 84 #[encO x,.pointer (some ⟨b,0,none⟩)] w fun e w'=>e= .returned (.bool (heldV v x))/\Below w.heap.size w w':=by
 obtain ⟨t,by_,m,kd,nd,o,s,u⟩:=x
 simp only at hx
 subst hx
 have hvl:=hv.lt
 have hb:Below w.heap.size w (w.alloc (.cells #[.int .i64 t,.int .i64 (i:Int),.int .i64 m,.int .u8 (kd:Int),.int .i64 nd,.int .i64 o,.string s,.string u] 38)):=zg w _
 have q:=(hv.later hb).at hi
 have ei:((i:Int)).toNat=i:=zi
 have i4:((i:Int)<4):=zi
 have i0:(0:Int)<=(i:Int):=zi
 have HB:Aside (Below w.heap.size w (w.alloc (.cells #[.int .i64 t,.int .i64 (i:Int),.int .i64 m,.int .u8 (kd:Int),.int .i64 nd,.int .i64 o,.string s,.string u] 38))):=hb
 have HH:Aside (heldV v (t,(i:Int),m,kd,nd,o,s,u)=decide (m<=v i)):=by show decide (m<=v ((i:Int)).toNat)=_;rw [ei]
 clear hb hv
 unfold encO
 dsimp only
 rw [HH.o]
 go_enter func84,ntmps84
 go_wp2_with fail
 go_quiet (fail)
 go_wp2
 go_ret
 exact ⟨rfl,Go.below_drewN HB.o _⟩
end
section
open Go.RowKit Go.Lib Go.Sort Go.Maps
structure OwnAt (w:World) (g:Nat) (ys:List OpX):Prop where
 cell:∀j u,(cellsOf ys)[j]? =some u->w.cell? ⟨g,j,none⟩=some u
 free:∀j,j<ys.length*8->w.frozen? ⟨g,j,none⟩=false
theorem OwnAt.has (h:OwnAt w g ys) (hj:j<ys.length*8):(w.cell? ⟨g,j,none⟩).isSome=true:=by
 have hl:j<(cellsOf ys).length:=xp
 rw [h.cell j _ (ji hl)]
 rfl
theorem OwnAt.at (h:OwnAt w g ys) (hi:ys[i]? =some x) (hc:(encX x)[c]? =some u):w.cell? ⟨g,i*8+c,none⟩=some u:=by
 have hl:i<ys.length:=(jh.1 hi).1
 have h8:c<8:=by have:=(jh.1 hc).1;rw [encX_len] at this;exact this
 refine h.cell _ _ ?_
 have h8':c<(encX x).length:=by rw [encX_len];exact h8
 rw [cellsOf_get ys i c hl h8,getElem!_pos ys i hl,(jh.1 hi).2,getElem!_pos (encX x) c h8']
 rw [ji h8'] at hc
 exact hc
theorem OwnAt.same (h:OwnAt w g ys) (e:w'.heap[g]? =w.heap[g]?):OwnAt w' g ys:=
 ⟨fun j u hj=>by have:=h.cell j u hj;simp only [World.cell?] at this |-;rw [e];exact this,fun j hj=>yZ⟩
theorem OwnAt.set {w:World} {g:Nat} {cs:List OpX} (h:OwnAt w g cs) {i:Nat} (hi:i<cs.length) (x:OpX):OwnAt (w.setCells g (i*8) (encX x)) g (cs.set i x):=by
 constructor
 ·intro j u hj
  have hl:j<(cellsOf (cs.set i x)).length:=(jh.1 hj).1
  rw [cellsOf_len,vZ] at hl
  have h2:j / 8*8+j % 8=j:=zi
  have c:=cellsOf_get (cs.set i x) (j / 8) (j % 8) yM zi
  rw [h2,hj] at c
  have hq:j / 8<(cs.set i x).length:=yM
  rw [getElem!_pos (cs.set i x) (j / 8) hq,List.getElem_set] at c
  by_cases e:i=j / 8
  ·rw [if_pos e] at c
   have hr:j % 8<(encX x).length:=by rw [encX_len];omega
   have k:=World.cell?_setCells_in g (encX x) (i*8) w (fun q hq'=>h.has (by rw [encX_len] at hq';omega)) (j % 8) hr
   rw [show i*8+j % 8=j by omega] at k
   rw [k]
   rw [getElem!_pos (encX x) (j % 8) hr] at c
   exact c.symm
  rw [if_neg e] at c
  rw [vH g (encX x) (i*8) w ⟨g,j,none⟩ (fun _ _=>by rw [encX_len];show j<i*8\/i*8+8<=j;omega)]
  refine h.cell j u ?_
  rw [<-h2,cellsOf_get cs (j / 8) (j % 8) zi zi,getElem!_pos cs (j / 8) zi]
  exact c.symm
 intro j hj
 rw [vM]
 exact h.free j xZ
theorem run_clear_cells {P:Program} (w:World) (t e ty:TypeId) (z:Value) (ht:P.underlying t=some (.slice e)) (hv:∀w,(zeroValue e).run P w= .ok z w) (b o n c:Nat) (hn:0<n)
  (h1:∀v∈(Builtin.zeroCells z.cells n).toList,v.oneCell'=true) (hc:∀j,j<n*z.cells.size->(w.cell? ⟨b,o+j,none⟩).isSome=true) (hf:∀j,j<n*z.cells.size->w.frozen? ⟨b,o+j,none⟩=false):
  (Builtin.clear_ #[t] ty #[.slice (some ⟨b,o,none⟩) n c]).run P w= .ok (.tuple #[]) (w.setCells b o (Builtin.zeroCells z.cells n).toList):=by
 have hsz:(Builtin.zeroCells z.cells n).toList.length=n*z.cells.size:=by rw [vE,size_zeroCells]
 have hst:=run_storeCells_cells (P:=P) b o (Builtin.zeroCells z.cells n).toList 0 w (by rw [hsz];simpa using hc) (by rw [hsz];simpa using hf) h1
 simp only [vk] at hst
 obtain ⟨m,rfl⟩:∃m,n=m+1:=⟨n - 1,zi⟩
 simp [Builtin.clear_,run_underlying ht,hv,hst]
end
section
open Go.RowKit Go.Lib Go.Sort Go.Maps
theorem plen (ys:List Plc):(flat cellsP ys).length=ys.length*3:=flat_len cellsP_len ys
theorem pget (ys:List Plc) (i c:Nat) (hi:i<ys.length) (hc:c<3):(flat cellsP ys)[i*3+c]? =some ((cellsP (ys[i]!))[c]!):=by
 rw [flat_get cellsP_len (ji hi) hc,getElem!_pos ys i hi]
 have h3:c<(cellsP ys[i]).length:=by rw [cellsP_len];exact hc
 rw [ji h3,getElem!_pos (cellsP ys[i]) c h3]
structure OwnP (w:World) (g:Nat) (ys:List Plc):Prop where
 cell:∀j u,(flat cellsP ys)[j]? =some u->w.cell? ⟨g,j,none⟩=some u
 free:∀j,j<ys.length*3->w.frozen? ⟨g,j,none⟩=false
theorem OwnP.has {ys:List Plc} (h:OwnP w g ys) (hj:j<ys.length*3):(w.cell? ⟨g,j,none⟩).isSome=true:=by
 have hl:j<(flat cellsP ys).length:=by rw [plen];omega
 rw [h.cell j _ (ji hl)]
 rfl
theorem OwnP.at {ys:List Plc} (h:OwnP w g ys) {x:Plc} (hi:ys[i]? =some x) (hc:(cellsP x)[c]? =some u):w.cell? ⟨g,i*3+c,none⟩=some u:=by
 have hl:i<ys.length:=(jh.1 hi).1
 have h3:c<3:=by have:=(jh.1 hc).1;rw [cellsP_len] at this;exact this
 refine h.cell _ _ ?_
 have h3':c<(cellsP x).length:=by rw [cellsP_len];exact h3
 rw [pget ys i c hl h3,getElem!_pos ys i hl,(jh.1 hi).2,getElem!_pos (cellsP x) c h3']
 rw [ji h3'] at hc
 exact hc
theorem OwnP.same {ys:List Plc} (h:OwnP w g ys) (e:w'.heap[g]? =w.heap[g]?):OwnP w' g ys:=
 ⟨fun j u hj=>by have:=h.cell j u hj;simp only [World.cell?] at this |-;rw [e];exact this,fun j hj=>yZ⟩
theorem OwnP.set {w:World} {g:Nat} {cs:List Plc} (h:OwnP w g cs) {i:Nat} (hi:i<cs.length) (x:Plc):OwnP (w.setCells g (i*3) (cellsP x)) g (cs.set i x):=by
 constructor
 ·intro j u hj
  have hl:j<(flat cellsP (cs.set i x)).length:=(jh.1 hj).1
  rw [plen,vZ] at hl
  have h2:j / 3*3+j % 3=j:=zi
  have c:=pget (cs.set i x) (j / 3) (j % 3) yM zi
  rw [h2,hj] at c
  have hq:j / 3<(cs.set i x).length:=yM
  rw [getElem!_pos (cs.set i x) (j / 3) hq,List.getElem_set] at c
  by_cases e:i=j / 3
  ·rw [if_pos e] at c
   have hr:j % 3<(cellsP x).length:=yi
   have k:=World.cell?_setCells_in g (cellsP x) (i*3) w (fun q hq'=>h.has (by rw [cellsP_len] at hq';omega)) (j % 3) hr
   rw [show i*3+j % 3=j by omega] at k
   rw [k]
   rw [getElem!_pos (cellsP x) (j % 3) hr] at c
   exact c.symm
  rw [if_neg e] at c
  rw [vH g (cellsP x) (i*3) w ⟨g,j,none⟩ (fun _ _=>by rw [cellsP_len];show j<i*3\/i*3+3<=j;omega)]
  refine h.cell j u ?_
  rw [<-h2,pget cs (j / 3) (j % 3) zi zi,getElem!_pos cs (j / 3) zi]
  exact c.symm
 intro j hj
 rw [vM]
 exact h.free j xZ
theorem OwnP.ins {ys:List Plc} (h:OwnP w g ys):PlsIn w (some ⟨g,0,none⟩) ys:=.inr ⟨g,0,rfl,fun j u hj=>by rw [jt];exact h.cell j u hj⟩
theorem OwnP.take {w:World} {g:Nat} {cs:List Plc} (h:OwnP w g cs) {i:Nat} (hi:i<=cs.length) (vs:List Value):OwnP (w.setCells g (i*3) vs) g (cs.take i):=by
 have hlen:(cs.take i).length=i:=zk
 constructor
 ·intro j u hj
  have hl:j<(flat cellsP (cs.take i)).length:=(jh.1 hj).1
  rw [plen,hlen] at hl
  rw [vH g vs (i*3) w ⟨g,j,none⟩ (fun _ _=>.inl (by show j<i*3;omega))]
  refine h.cell j u ?_
  have e:flat cellsP cs=flat cellsP (cs.take i)++flat cellsP (cs.drop i):=ya
  rw [e,vD (by rw [plen,hlen];omega)]
  exact hj
 intro j hj
 rw [hlen] at hj
 rw [vM]
 exact h.free j zi
structure DelP (p:Plc->Bool) (ys:List Plc) (i j:Nat) (cs:List Plc):Prop where
 lt:i<j
 le:j<=ys.length
 len:cs.length=ys.length
 stay:cs.take i=(ys.take j).filter (fun x=> !p x)
 rest:cs.drop j=ys.drop j
theorem DelP.start {p:Plc->Bool} {ys:List Plc} {x:Plc} (hx:ys[k]? =some x) (hp:p x=true) (hk:∀j y,j<k->ys[j]? =some y->p y=false):DelP p ys k (k+1) ys:=by
 have hl:k<ys.length:=(jh.1 hx).1
 refine ⟨zi,zi,rfl,?_,rfl⟩
 rw [jL,hx,vw]
 have e1:(ys.take k).filter (fun x=> !p x)=ys.take k:=ux.2 (fun a ha=>by
  obtain ⟨q,hq,e⟩:=jU ha
  rw [jz] at hq
  rw [ud] at e
  rw [hk q a zi (by rw [<-e];exact ji zi)]
  rfl)
 rw [e1]
 simp [hp]
theorem DelP.get {p:Plc->Bool} {ys cs:List Plc} (h:DelP p ys i j cs) {x:Plc} (hx:ys[j]? =some x):cs[j]? =some x:=by
 have:=congrArg (fun l=>l[0]?) h.rest
 simp only [vg,vk] at this
 rw [this,hx]
theorem DelP.skip {p:Plc->Bool} {ys cs:List Plc} (h:DelP p ys i j cs) {x:Plc} (hx:ys[j]? =some x) (hp:p x=true):DelP p ys i (j+1) cs:=by
 have hl:j<ys.length:=(jh.1 hx).1
 refine ⟨by have:=h.lt;omega,zi,h.len,?_,?_⟩
 ·rw [jL,hx,vw,h.stay]
  simp [hp]
 have:=congrArg (List.drop 1) h.rest
 simpa [List.drop_drop,Nat.add_comm] using this
theorem DelP.keep {p:Plc->Bool} {ys cs:List Plc} (h:DelP p ys i j cs) {x:Plc} (hx:ys[j]? =some x) (hp:p x=false):DelP p ys (i+1) (j+1) (cs.set i x):=by
 have hl:j<ys.length:=(jh.1 hx).1
 have hlt:=h.lt
 have hlen:=h.len
 refine ⟨zi,zi,by rw [vZ];exact h.len,?_,?_⟩
 ·rw [jL (l:=ys),hx,vw,<-h.stay,jL,vB zi,List.take_set_of_le ze]
  simp [hp]
 rw [List.drop_set_of_lt zi]
 have:=congrArg (List.drop 1) h.rest
 simpa [List.drop_drop,Nat.add_comm] using this
end
section
open Go.RowKit Go.Lib Go.Sort Go.Maps
def PredB (g:Nat) (lb:Array Value) (xs:List OpX) (p:OpX->Bool) (base:Nat) (w:World):Prop:=
 ∀(W:World) (x:OpX),x∈xs->Below base w W->Calls prog g (#[encO x]++lb) W fun e w'=>e= .returned (.bool (p x))/\Below W.heap.size W w'
theorem PredB.toO {lb:Array Value} {base:Nat} (h:PredB g lb xs p base w) (hb:base<=w.heap.size):PredO g lb xs p w:=fun W x hx hW=>(h W x hx (hW.mono hb)).mono (by rintro e w' ⟨rfl,q⟩;exact ⟨rfl,zh hW q⟩)
theorem OwnAt.ops (h:OwnAt w g ys):OpsIn w (some ⟨g,0,none⟩) ys:=.inr ⟨g,0,rfl,fun j u hj=>by rw [jt];exact h.cell j u hj⟩
theorem OwnAt.take {w:World} {g:Nat} {cs:List OpX} (h:OwnAt w g cs) {i:Nat} (hi:i<=cs.length) (vs:List Value):OwnAt (w.setCells g (i*8) vs) g (cs.take i):=by
 have hlen:(cs.take i).length=i:=zk
 constructor
 ·intro j u hj
  have hl:j<(cellsOf (cs.take i)).length:=(jh.1 hj).1
  rw [cellsOf_len,hlen] at hl
  rw [vH g vs (i*8) w ⟨g,j,none⟩ (fun _ _=>.inl (by show j<i*8;omega))]
  refine h.cell j u ?_
  have e:cellsOf cs=cellsOf (cs.take i)++cellsOf (cs.drop i):=yP
  rw [e,vD (by rw [cellsOf_len,hlen];omega)]
  exact hj
 intro j hj
 rw [hlen] at hj
 rw [vM]
 exact h.free j zi
structure DelSt (p:OpX->Bool) (ys:List OpX) (i j:Nat) (cs:List OpX):Prop where
 lt:i<j
 le:j<=ys.length
 len:cs.length=ys.length
 stay:cs.take i=(ys.take j).filter (fun x=> !p x)
 rest:cs.drop j=ys.drop j
theorem DelSt.start (hx:ys[k]? =some x) (hp:p x=true) (hk:∀j y,j<k->ys[j]? =some y->p y=false):DelSt p ys k (k+1) ys:=by
 have hl:k<ys.length:=(jh.1 hx).1
 refine ⟨zi,zi,rfl,?_,rfl⟩
 rw [jL,hx,vw]
 have e1:(ys.take k).filter (fun x=> !p x)=ys.take k:=ux.2 (fun a ha=>by
  obtain ⟨q,hq,e⟩:=jU ha
  rw [jz] at hq
  rw [ud] at e
  rw [hk q a zi (by rw [<-e];exact ji zi)]
  rfl)
 rw [e1]
 simp [hp]
theorem DelSt.get (h:DelSt p ys i j cs) (hx:ys[j]? =some x):cs[j]? =some x:=by
 have:=congrArg (fun l=>l[0]?) h.rest
 simp only [vg,vk] at this
 rw [this,hx]
theorem DelSt.skip (h:DelSt p ys i j cs) (hx:ys[j]? =some x) (hp:p x=true):DelSt p ys i (j+1) cs:=by
 have hl:j<ys.length:=(jh.1 hx).1
 refine ⟨by have:=h.lt;omega,zi,h.len,?_,?_⟩
 ·rw [jL,hx,vw,h.stay]
  simp [hp]
 have:=congrArg (List.drop 1) h.rest
 simpa [List.drop_drop,Nat.add_comm] using this
theorem DelSt.keep (h:DelSt p ys i j cs) (hx:ys[j]? =some x) (hp:p x=false):DelSt p ys (i+1) (j+1) (cs.set i x):=by
 have hl:j<ys.length:=(jh.1 hx).1
 have hlt:=h.lt
 have hlen:=h.len
 refine ⟨zi,zi,by rw [vZ];exact h.len,?_,?_⟩
 ·rw [jL (l:=ys),hx,vw,<-h.stay,jL,vB zi,List.take_set_of_le ze]
  simp [hp]
 rw [List.drop_set_of_lt zi]
 have:=congrArg (List.drop 1) h.rest
 simpa [List.drop_drop,Nat.add_comm] using this
