import Derived.Test.YtfkekfibjnjcnaaGreatDoorMZ22
set_option linter.unusedSimpArgs false
set_option linter.unusedVariables false
set_option maxRecDepth 100000
set_option maxHeartbeats 64000000
namespace Go.Proofs.YtfkekfibjnjcnaaGreatDoor
open Go.Proofs.Tryz
section
open Go.RowKit Go.Lib Go.Sort Go.Maps
open scoped Classical
def MoveOut (ad:Nat->Addr) (w:World) (ok:Prop) (x:OpX) (cyc:Prop) (e:Ending) (w':World):Prop:=Below w.heap.size w w'/\
 ((¬ok/\e= .returned (.tuple #[encO zeroO,eV ad 6]))\/(ok/\errF x≠0/\e= .returned (.tuple #[encO zeroO,eV ad (errF x)]))\/(ok/\errF x=0/\cyc/\e= .returned (.tuple #[encO zeroO,eV ad 10]))\/(ok/\errF x=0/\¬cyc/\e= .returned (.tuple #[encO x,.nilIface])))
theorem rmove_any {B:Nat} {ad:Nat->Addr} (w:World) (c:Nat->Nat) (br:Nat) (T:Int) (i:Nat) (ao:Nat->Option Addr) (cap:Nat->Nat) (bt bx bc bm n:Nat) (f:Sta) (R:Rws) (nd into:Int) (name:ByteArray) (hc:RepCell w br T (i:Int) (kvs ao cap R) bt bx bc) (hrows:RowsAt w c (kvs ao cap R) R) (ht:w.cell? ⟨bt,0,none⟩=some (.map (some bm))) (hmap:MapAt prog 3 w bm n f) (hG:Good f) (hR:RowsK R) (hE:EnvE B ad w) (hcy:Aside (Cyc ad)) (hi:i<4) (hT:0<=T) (hm:T<=1073741824) (hn:(allR R).length<=140) (hs1:name.size<=1000000) (h2: -9223372036854775808<=nd) (h3:nd<=9223372036854775807) (h4: -9223372036854775808<=into) (h5:into<=9223372036854775807):
  Calls prog 99 #[.pointer (some ⟨br,0,none⟩),.int .i64 nd,.int .i64 into,.string name] w (MoveOut ad w (KnownN (allR R) nd/\(into=0\/into=1\/KnownN (allR R) into)) (ownX T i (R i).length 109 nd into name ⟨#[]⟩) (into=nd\/Ins f into nd)):=by
 have hrl:∀i,i<4->(R i).length<=1000:=fun i hi=>yC
 obtain ⟨S,hS⟩:=za w.heap.size
 obtain ⟨U,hU⟩:=za (w.alloc (.cells #[.int .i64 0,.int .i64 0,.int .i64 0,.int .u8 0,.int .i64 0,.int .i64 0,.string ⟨#[]⟩,.string ⟨#[]⟩] 41))
 have hbU:Below w.heap.size w U:=zP
 have Z0:OpBlk U S zeroO:=yD
 have hcU:RepCell U br T (i:Int) (kvs ao cap R) bt bx bc:=hc.same (hbU.block _ hc.lt)
 obtain ⟨zb,hzb⟩:∃zb:Bool,zb=true↔KnownN (allR R) nd:=⟨@decide _ (Classical.propDecidable _),@decide_eq_true_iff _ (Classical.propDecidable _)⟩
 obtain ⟨zp,hzp⟩:∃zp:Bool,zp=true↔(into=0\/into=1\/KnownN (allR R) into):=⟨@decide _ (Classical.propDecidable _),@decide_eq_true_iff _ (Classical.propDecidable _)⟩
 have hnode:=isNode_any U ao cap R nd zb hzb ((hE.later hbU).op4) ((KnownAt.of_rows hrows).later hbU) hR.toN hrl h2 h3
 unfold kV at hnode
 have k2:U.cell? ⟨br,2,none⟩=some (.slice (ao 0) (R 0).length (cap 0)):=hcU.c2
 have k3:U.cell? ⟨br,3,none⟩=some (.slice (ao 1) (R 1).length (cap 1)):=hcU.c3
 have k4:U.cell? ⟨br,4,none⟩=some (.slice (ao 2) (R 2).length (cap 2)):=hcU.c4
 have k5:U.cell? ⟨br,5,none⟩=some (.slice (ao 3) (R 3).length (cap 3)):=hcU.c5
 have HT:Aside (KnownAt U ao R/\RowsN R/\(∀i,i<4->(R i).length<=1000)/\w.cell? ⟨bt,0,none⟩=some (.map (some bm))/\MapAt prog 3 w bm n f/\Good f):=⟨(KnownAt.of_rows hrows).later hbU,hR.toN,hrl,ht,hmap,hG⟩
 have H0:Aside (RepCell U br T (i:Int) (kvs ao cap R) bt bx bc/\OpBlk U S zeroO/\Below w.heap.size w U/\S=w.heap.size/\EnvE B ad U/\B<=w.heap.size/\(zb=true↔KnownN (allR R) nd)/\(zp=true↔(into=0\/into=1\/KnownN (allR R) into))):=⟨hcU,Z0,hbU,hS,hE.later hbU,hE.size,hzb,hzp⟩
 have HU:Aside (U=w.alloc (.cells #[.int .i64 0,.int .i64 0,.int .i64 0,.int .u8 0,.int .i64 0,.int .i64 0,.string ⟨#[]⟩,.string ⟨#[]⟩] 41)):=hU
 clear hU hcU Z0 hbU hE hc hS hzb hzp hrows hR ht hmap hG hrl
 go_enter func99,ntmps99
 go_upto_region 1 with fail
 rw [<-HU.o,<-H0.o.2.2.2.1]
 go_wp2_with fail
 refine hnode.mono ?_
 clear hnode k2 k3 k4 k5
 rintro e w1 ⟨rfl,hb1⟩
 have Z1:=H0.o.2.1.later hb1
 have H1:Aside (OpBlk w1 S zeroO/\Below w.heap.size w w1/\EnvE B ad w1/\RepCell w1 br T (i:Int) (kvs ao cap R) bt bx bc/\KnownAt w1 ao R):=⟨Z1,zi H0.o.2.2.1 hb1,H0.o.2.2.2.2.1.later hb1,H0.o.1.same (hb1.block _ H0.o.1.lt),HT.o.1.later hb1⟩
 clear hb1 Z1
 cases zb with
 | false=>
  have HNO:=Lib.hid (show ¬(KnownN (allR R) nd/\(into=0\/into=1\/KnownN (allR R) into)) from fun q=>by have:=H0.o.2.2.2.2.2.2.1.2 q.1;cases this)
  obtain ⟨z0,z1,z2,z3,z4,z5,z6,z7,zf⟩:=H1.o.1.cells
  unfold zeroO at z0 z1 z2 z3 z4 z5 z6 z7
  dsimp only at z0 z1 z2 z3 z4 z5 z6 z7
  have eg:=H1.o.2.2.1.c5
  have hlo:=H1.o.2.2.1.low
  have hSw:=H0.o.2.2.2.1
  have hBw:=H0.o.2.2.2.2.2.1
  have n1:1≠S:=zj
  have n2:S≠1:=zj
  clear hlo hSw hBw
  go_wp2_with fail
  go_region
  all_goals
   go_wp2
   (try simp only [Exit.inBlock,Exit.then])
   refine bodyPost_ret (v:=.tuple #[encO zeroO,eV ad 6]) ?_ rfl ⟨?_,.inl ⟨HNO.o,rfl⟩⟩
   ·rw [results_ct rfl]
    unfold encO zeroO eV
    go_simp
   exact (below_cells (b:=S) H1.o.2.1 zJ 0 [.int .i64 0,.int .i64 0,.int .i64 0,.int .u8 0,.int .i64 0,.int .i64 0,.string ⟨#[]⟩,.string ⟨#[]⟩]).drew
 | true=>
  have HK1:Aside (KnownN (allR R) nd):=H0.o.2.2.2.2.2.2.1.1 rfl
  have hplace:=isPlace_any w1 ao cap R into zp H0.o.2.2.2.2.2.2.2 H1.o.2.2.1.op4 H1.o.2.2.2.2 HT.o.2.1 HT.o.2.2.1 h4 h5
  unfold kV at hplace
  have k2:w1.cell? ⟨br,2,none⟩=some (.slice (ao 0) (R 0).length (cap 0)):=H1.o.2.2.2.1.c2
  have k3:w1.cell? ⟨br,3,none⟩=some (.slice (ao 1) (R 1).length (cap 1)):=H1.o.2.2.2.1.c3
  have k4:w1.cell? ⟨br,4,none⟩=some (.slice (ao 2) (R 2).length (cap 2)):=H1.o.2.2.2.1.c4
  have k5:w1.cell? ⟨br,5,none⟩=some (.slice (ao 3) (R 3).length (cap 3)):=H1.o.2.2.2.1.c5
  go_wp2_with fail
  refine hplace.mono ?_
  clear hplace k2 k3 k4 k5
  rintro e w2 ⟨rfl,hb2⟩
  have H2:Aside (OpBlk w2 S zeroO/\Below w.heap.size w w2/\EnvE B ad w2/\RepCell w2 br T (i:Int) (kvs ao cap R) bt bx bc):=⟨H1.o.1.later hb2,zi H1.o.2.1 hb2,H1.o.2.2.1.later hb2,H1.o.2.2.2.1.same (hb2.block _ H1.o.2.2.2.1.lt)⟩
  clear hb2
  cases zp with
  | false=>
   have HNO:=Lib.hid (show ¬(KnownN (allR R) nd/\(into=0\/into=1\/KnownN (allR R) into)) from fun q=>by have:=H0.o.2.2.2.2.2.2.2.2 q.2;cases this)
   obtain ⟨z0,z1,z2,z3,z4,z5,z6,z7,zf⟩:=H2.o.1.cells
   unfold zeroO at z0 z1 z2 z3 z4 z5 z6 z7
   dsimp only at z0 z1 z2 z3 z4 z5 z6 z7
   have eg:=H2.o.2.2.1.c5
   have hlo:=H2.o.2.2.1.low
   have hSw:=H0.o.2.2.2.1
   have hBw:=H0.o.2.2.2.2.2.1
   have n1:1≠S:=zj
   have n2:S≠1:=zj
   clear hlo hSw hBw
   go_wp2_with fail
   go_region
   all_goals
    go_wp2
    (try simp only [Exit.inBlock,Exit.then])
    refine bodyPost_ret (v:=.tuple #[encO zeroO,eV ad 6]) ?_ rfl ⟨?_,.inl ⟨HNO.o,rfl⟩⟩
    ·rw [results_ct rfl]
     unfold encO zeroO eV
     go_simp
    exact (below_cells (b:=S) H2.o.2.1 zJ 0 [.int .i64 0,.int .i64 0,.int .i64 0,.int .u8 0,.int .i64 0,.int .i64 0,.string ⟨#[]⟩,.string ⟨#[]⟩]).drew
  | true=>
   have HOK:Aside (KnownN (allR R) nd/\(into=0\/into=1\/KnownN (allR R) into)):=⟨HK1.o,H0.o.2.2.2.2.2.2.2.1 rfl⟩
   have hown:=own_any w2 br T i ao cap bt bx bc R 109 nd into name ⟨#[]⟩ H2.o.2.2.2 H2.o.2.2.1 hi hT hm hn hs1 zt
   unfold encO at hown
   dsimp only at hown
   go_wp2_with fail
   refine hown.mono ?_
   clear hown
   rintro e w3 ⟨he,hb3⟩
   obtain ⟨x,hx⟩:=za ((ownX T i (R i).length 109 nd into name ⟨#[]⟩))
   rw [<-hx] at he
   have H3:Aside (OpBlk w3 S zeroO/\Below w.heap.size w w3/\EnvE B ad w3/\RepCell w3 br T (i:Int) (kvs ao cap R) bt bx bc):=⟨H2.o.1.later hb3,zi H2.o.2.1 hb3,H2.o.2.2.1.later hb3,H2.o.2.2.2.same (hb3.block _ H2.o.2.2.2.lt)⟩
   have HXE:Aside (x=(ownX T i (R i).length 109 nd into name ⟨#[]⟩)):=hx
   clear hb3 hx
   by_cases he0:errF x=0
   ·rw [if_pos he0,he0] at he
    subst he
    obtain ⟨t,b,m,kd,nd',o,s,v⟩:=x
    have HX:=Lib.hid he0
    clear he0
    unfold encO eV
    dsimp only
    go_upto_region 4 with fail
    obtain ⟨W,hW⟩:=za (w3.alloc (.cells #[.int .i64 t,.int .i64 b,.int .i64 m,.int .u8 (kd:Int),.int .i64 nd',.int .i64 o,.string s,.string v] 41))
    obtain ⟨V,hV⟩:=za w3.heap.size
    rw [<-hW,<-hV]
    have hbW:Below w3.heap.size w3 W:=by rw [hW];exact zh w3 _
    have hN:OpBlk W V (t,b,m,kd,nd',o,s,v):=by rw [hW,hV];exact OpBlk.new w3 (t,b,m,kd,nd',o,s,v)
    have hBw':=zi H3.o.2.1 hbW
    have H4:Aside (OpBlk W S zeroO/\Below w.heap.size w W/\EnvE B ad W/\RepCell W br T (i:Int) (kvs ao cap R) bt bx bc/\OpBlk W V (t,b,m,kd,nd',o,s,v)/\V=w3.heap.size/\S<V):=⟨H3.o.1.later hbW,hBw',H3.o.2.2.1.later hbW,H3.o.2.2.2.same (hbW.block _ H3.o.2.2.2.lt),hN,hV,by rw [hV];exact H3.o.1.lt⟩
    obtain ⟨z,hz⟩:∃z:Bool,z=true↔Ins f into nd:=⟨@decide _ (Classical.propDecidable _),@decide_eq_true_iff _ (Classical.propDecidable _)⟩
    have hins:=inside_is W bt bm n f into nd z hz (cell_later hBw' HT.o.2.2.2.1) (HT.o.2.2.2.2.1.same (hBw'.block _ HT.o.2.2.2.2.1.lt)) HT.o.2.2.2.2.2 (wf_of zj zj)
    have HZ:Aside (z=true↔Ins f into nd):=hz
    have k6:W.cell? ⟨br,6,none⟩=some (.pointer (some ⟨bt,0,none⟩)):=H4.o.2.2.2.1.c6
    have HX0:Aside (errF (ownX T i (R i).length 109 nd into name ⟨#[]⟩)=0):=by have:=HX.o;rw [HXE.o] at this;exact this
    clear hbW hN hBw' hz hW hV
    by_cases hq:into=nd
    ·have HCY:Aside (into=nd\/Ins f into nd):=.inl hq
     subst hq
     clear hins
     obtain ⟨z0,z1,z2,z3,z4,z5,z6,z7,zf⟩:=H4.o.1.cells
     unfold zeroO at z0 z1 z2 z3 z4 z5 z6 z7
     dsimp only at z0 z1 z2 z3 z4 z5 z6 z7
     have eg:=H4.o.2.2.1.c9 hcy.o
     have hlo:=H4.o.2.2.1.low
     have hSw:=H0.o.2.2.2.1
     have hBw:=H0.o.2.2.2.2.2.1
     have n1:8≠S:=zj
     have n2:S≠8:=zj
     clear hlo hSw hBw
     go_wp2_with fail
     go_region
     all_goals
      go_wp2
      (try simp only [Exit.inBlock,Exit.then])
      refine bodyPost_ret (v:=.tuple #[encO zeroO,eV ad 10]) ?_ rfl ⟨?_,.inr (.inr (.inl ⟨HOK.o,HX0.o,HCY.o,rfl⟩))⟩
      ·rw [results_ct rfl]
       unfold encO zeroO eV
       go_simp
      exact (below_cells (b:=S) H4.o.2.1 zJ 0 [.int .i64 0,.int .i64 0,.int .i64 0,.int .u8 0,.int .i64 0,.int .i64 0,.string ⟨#[]⟩,.string ⟨#[]⟩]).drew
    have HNQ:=Lib.hid hq
    have dq:decide (into=nd)=false:=by simp [hq]
    clear hq
    go_wp2_with fail
    refine hins.mono ?_
    clear hins k6
    rintro e w5 ⟨rfl,hb5⟩
    have H5:Aside (OpBlk w5 S zeroO/\Below w.heap.size w w5/\EnvE B ad w5/\OpBlk w5 V (t,b,m,kd,nd',o,s,v)):=⟨H4.o.1.later hb5,zi H4.o.2.1 hb5,H4.o.2.2.1.later hb5,H4.o.2.2.2.2.1.later hb5⟩
    clear hb5
    cases z with
    | true=>
     have HCY:Aside (into=nd\/Ins f into nd):=.inr (HZ.o.1 rfl)
     obtain ⟨z0,z1,z2,z3,z4,z5,z6,z7,zf⟩:=H5.o.1.cells
     unfold zeroO at z0 z1 z2 z3 z4 z5 z6 z7
     dsimp only at z0 z1 z2 z3 z4 z5 z6 z7
     have eg:=H5.o.2.2.1.c9 hcy.o
     have hlo:=H5.o.2.2.1.low
     have hSw:=H0.o.2.2.2.1
     have hBw:=H0.o.2.2.2.2.2.1
     have n1:8≠S:=zj
     have n2:S≠8:=zj
     clear hlo hSw hBw
     go_wp2_with fail
     go_region
     all_goals
      go_wp2
      (try simp only [Exit.inBlock,Exit.then])
      refine bodyPost_ret (v:=.tuple #[encO zeroO,eV ad 10]) ?_ rfl ⟨?_,.inr (.inr (.inl ⟨HOK.o,HX0.o,HCY.o,rfl⟩))⟩
      ·rw [results_ct rfl]
       unfold encO zeroO eV
       go_simp
      exact (below_cells (b:=S) H5.o.2.1 zJ 0 [.int .i64 0,.int .i64 0,.int .i64 0,.int .u8 0,.int .i64 0,.int .i64 0,.string ⟨#[]⟩,.string ⟨#[]⟩]).drew
    | false=>
     have HNC:=Lib.hid (show ¬(into=nd\/Ins f into nd) from fun q=>q.elim HNQ.o (fun q=>by have:=HZ.o.2 q;cases this))
     obtain ⟨z0,z1,z2,z3,z4,z5,z6,z7,zf⟩:=H5.o.1.cells
     unfold zeroO at z0 z1 z2 z3 z4 z5 z6 z7
     dsimp only at z0 z1 z2 z3 z4 z5 z6 z7
     obtain ⟨y0,y1,y2,y3,y4,y5,y6,y7,yf⟩:=H5.o.2.2.2.cells
     dsimp only at y0 y1 y2 y3 y4 y5 y6 y7
     go_wp2
     (try simp only [Exit.inBlock,Exit.then])
     refine bodyPost_ret (v:=.tuple #[.agg #[.int .i64 t,.int .i64 b,.int .i64 m,.int .u8 (kd:Int),.int .i64 nd',.int .i64 o,.string s,.string v],.nilIface]) ?_ rfl ⟨?_,.inr (.inr (.inr ⟨HOK.o,HX0.o,HNC.o,by rw [<-HXE.o];rfl⟩))⟩
     ·rw [results_ct rfl]
      go_simp
     exact below_cells (b:=S) H5.o.2.1 zJ 0 [.int .i64 t,.int .i64 b,.int .i64 m,.int .u8 (kd:Int),.int .i64 nd',.int .i64 o,.string s,.string v]
   rw [if_neg he0] at he
   subst he
   have HX0:=Lib.hid (show errF (ownX T i (R i).length 109 nd into name ⟨#[]⟩)≠0 by rw [<-HXE.o];exact he0)
   obtain ⟨er,her⟩:=za (errF x - 1)
   have hev:eV ad (errF x)= .iface 350 (.pointer (some (ad er))):=by rw [her];unfold eV;rw [if_neg he0]
   have HEV:Aside (eV ad (errF x)= .iface 350 (.pointer (some (ad er)))):=hev
   rw [hev]
   clear her hev he0
   obtain ⟨z0,z1,z2,z3,z4,z5,z6,z7,zf⟩:=H3.o.1.cells
   unfold zeroO at z0 z1 z2 z3 z4 z5 z6 z7
   dsimp only at z0 z1 z2 z3 z4 z5 z6 z7
   have hlt:=H3.o.1.lt
   have nS:S≠w3.heap.size:=zj
   have nS':w3.heap.size≠S:=zj
   unfold encO zeroO
   dsimp only
   go_wp2
   (try simp only [Exit.inBlock,Exit.then])
   refine bodyPost_ret (v:=.tuple #[encO zeroO,.iface 350 (.pointer (some (ad er)))]) ?_ rfl ⟨?_,.inr (.inl ⟨HOK.o,HX0.o,by rw [<-HXE.o,HEV.o]⟩)⟩
   ·rw [results_ct rfl]
    unfold encO zeroO
    go_simp
   have hbl:=below_cells (b:=S) H3.o.2.1 zJ 0 [.int .i64 0,.int .i64 0,.int .i64 0,.int .u8 0,.int .i64 0,.int .i64 0,.string ⟨#[]⟩,.string ⟨#[]⟩]
   exact hbl.alloc hbl.size _
end
section
open Go.RowKit Go.Lib Go.Sort Go.Maps
theorem mark_any {B:Nat} {ad:Nat->Addr} (w:World) (c:Nat->Nat) (br:Nat) (T:Int) (i:Nat) (ao:Nat->Option Addr) (cap:Nat->Nat) (bt bx bc:Nat) (R:Rws) (nd:Int) (name value:ByteArray) (hc:RepCell w br T (i:Int) (kvs ao cap R) bt bx bc) (hrows:RowsAt w c (kvs ao cap R) R) (hR:RowsK R) (hE:EnvE B ad w) (hi:i<4) (hT:0<=T) (hm:T<=1073741824) (hn:(allR R).length<=140) (hs1:name.size<=1000000) (hs2:value.size<=1000000) (h2: -9223372036854775808<=nd) (h3:nd<=9223372036854775807):
  Calls prog 103 #[.pointer (some ⟨br,0,none⟩),.int .i64 nd,.string name,.string value] w (MadeOut ad w (KnownN (allR R) nd) (ownX T i (R i).length 115 nd 0 name value)):=by
 have hrl:∀i,i<4->(R i).length<=1000:=fun i hi=>yC
 obtain ⟨S,hS⟩:=za w.heap.size
 obtain ⟨U,hU⟩:=za (w.alloc (.cells #[.int .i64 0,.int .i64 0,.int .i64 0,.int .u8 0,.int .i64 0,.int .i64 0,.string ⟨#[]⟩,.string ⟨#[]⟩] 41))
 have hbU:Below w.heap.size w U:=zP
 have Z0:OpBlk U S zeroO:=yD
 have hcU:RepCell U br T (i:Int) (kvs ao cap R) bt bx bc:=hc.same (hbU.block _ hc.lt)
 obtain ⟨zb,hzb⟩:∃zb:Bool,zb=true↔(KnownN (allR R) nd):=⟨@decide _ (Classical.propDecidable _),@decide_eq_true_iff _ (Classical.propDecidable _)⟩
 have hplace:=isNode_any U ao cap R nd zb hzb ((hE.later hbU).op4) ((KnownAt.of_rows hrows).later hbU) hR.toN hrl h2 h3
 unfold kV at hplace
 have k2:U.cell? ⟨br,2,none⟩=some (.slice (ao 0) (R 0).length (cap 0)):=hcU.c2
 have k3:U.cell? ⟨br,3,none⟩=some (.slice (ao 1) (R 1).length (cap 1)):=hcU.c3
 have k4:U.cell? ⟨br,4,none⟩=some (.slice (ao 2) (R 2).length (cap 2)):=hcU.c4
 have k5:U.cell? ⟨br,5,none⟩=some (.slice (ao 3) (R 3).length (cap 3)):=hcU.c5
 have H0:Aside (RepCell U br T (i:Int) (kvs ao cap R) bt bx bc/\OpBlk U S zeroO/\Below w.heap.size w U/\S=w.heap.size/\EnvE B ad U/\B<=w.heap.size/\(zb=true↔(KnownN (allR R) nd))):=⟨hcU,Z0,hbU,hS,hE.later hbU,hE.size,hzb⟩
 have HU:Aside (U=w.alloc (.cells #[.int .i64 0,.int .i64 0,.int .i64 0,.int .u8 0,.int .i64 0,.int .i64 0,.string ⟨#[]⟩,.string ⟨#[]⟩] 41)):=hU
 clear hU hcU Z0 hbU hE hc hS hzb hrows hR
 go_enter func103,ntmps103
 go_upto_region 1 with fail
 rw [<-HU.o,<-H0.o.2.2.2.1]
 go_wp2_with fail
 refine hplace.mono ?_
 clear hplace k2 k3 k4 k5
 rintro e w1 ⟨rfl,hb1⟩
 have Z1:=H0.o.2.1.later hb1
 have H1:Aside (OpBlk w1 S zeroO/\Below w.heap.size w w1/\EnvE B ad w1/\RepCell w1 br T (i:Int) (kvs ao cap R) bt bx bc):=⟨Z1,zi H0.o.2.2.1 hb1,H0.o.2.2.2.2.1.later hb1,H0.o.1.same (hb1.block _ H0.o.1.lt)⟩
 clear hb1 Z1
 cases zb with
 | false=>
  have hno:¬(KnownN (allR R) nd):=fun q=>jZ
  obtain ⟨z0,z1,z2,z3,z4,z5,z6,z7,zf⟩:=H1.o.1.cells
  unfold zeroO at z0 z1 z2 z3 z4 z5 z6 z7
  dsimp only at z0 z1 z2 z3 z4 z5 z6 z7
  have eg:=H1.o.2.2.1.c5
  have hlo:=H1.o.2.2.1.low
  have hSw:=H0.o.2.2.2.1
  have hBw:=H0.o.2.2.2.2.2.1
  have n1:1≠S:=zj
  have n2:S≠1:=zj
  have HNO:=Lib.hid hno
  clear hlo hSw hBw hno
  go_wp2_with fail
  go_region
  all_goals
   go_wp2
   (try simp only [Exit.inBlock,Exit.then])
   refine bodyPost_ret (v:=.tuple #[encO zeroO,eV ad 6]) ?_ rfl (.inr ⟨HNO.o,rfl,?_⟩)
   ·rw [results_ct rfl]
    unfold encO zeroO eV
    go_simp
   exact (below_cells (b:=S) H1.o.2.1 zJ 0 [.int .i64 0,.int .i64 0,.int .i64 0,.int .u8 0,.int .i64 0,.int .i64 0,.string ⟨#[]⟩,.string ⟨#[]⟩]).drew
 | true=>
  have HOK:Aside (KnownN (allR R) nd):=H0.o.2.2.2.2.2.2.1 rfl
  have hown:=own_any w1 br T i ao cap bt bx bc R 115 nd 0 name value H1.o.2.2.2 H1.o.2.2.1 hi hT hm hn hs1 hs2
  unfold encO at hown
  dsimp only at hown
  go_wp2_with fail
  refine hown.mono ?_
  clear hown
  rintro e w2 ⟨he,hb2⟩
  obtain ⟨y,hy⟩:=za ((if errF (ownX T i (R i).length 115 nd 0 name value)=0 then ownX T i (R i).length 115 nd 0 name value else zeroO))
  obtain ⟨er,her⟩:=za (eV ad (errF (ownX T i (R i).length 115 nd 0 name value)))
  rw [<-hy,<-her] at he
  subst he
  have HY:Aside (y=(if errF (ownX T i (R i).length 115 nd 0 name value)=0 then ownX T i (R i).length 115 nd 0 name value else zeroO)/\er=eV ad (errF (ownX T i (R i).length 115 nd 0 name value))):=⟨hy,her⟩
  clear hy her
  obtain ⟨t,b,n,kd,nd',o,s,v⟩:=y
  unfold encO
  dsimp only
  have Z2:=H1.o.1.later hb2
  obtain ⟨z0,z1,z2,z3,z4,z5,z6,z7,zf⟩:=Z2.cells
  unfold zeroO at z0 z1 z2 z3 z4 z5 z6 z7
  dsimp only at z0 z1 z2 z3 z4 z5 z6 z7
  have B2:Aside (Below w.heap.size w w2):=zi H1.o.2.1 hb2
  clear hb2 Z2
  go_wp2
  (try simp only [Exit.inBlock,Exit.then])
  refine bodyPost_ret (v:=.tuple #[.agg #[.int .i64 t,.int .i64 b,.int .i64 n,.int .u8 (kd:Int),.int .i64 nd',.int .i64 o,.string s,.string v],er]) ?_ rfl (.inl ⟨HOK.o,⟨by rw [<-HY.o.1,<-HY.o.2];rfl,?_⟩⟩)
  ·rw [results_ct rfl]
   go_simp
  exact below_cells (b:=S) B2.o zJ 0 [.int .i64 t,.int .i64 b,.int .i64 n,.int .u8 (kd:Int),.int .i64 nd',.int .i64 o,.string s,.string v]
theorem erase_any {B:Nat} {ad:Nat->Addr} (w:World) (c:Nat->Nat) (br:Nat) (T:Int) (i:Nat) (ao:Nat->Option Addr) (cap:Nat->Nat) (bt bx bc:Nat) (R:Rws) (A:List OpX) (nd n:Int) (hc:RepCell w br T (i:Int) (kvs ao cap R) bt bx bc) (htext:TextC w c bx A) (hperm:A.Perm (allR R)) (hE:EnvE B ad w) (hi:i<4) (hT:0<=T) (hm:T<=1073741824) (hn:(allR R).length<=140) (h2: -9223372036854775808<=nd) (h3:nd<=9223372036854775807) (hn1: -9223372036854775808<=n) (hn2:n<=9223372036854775807):
  Calls prog 102 #[.pointer (some ⟨br,0,none⟩),.int .i64 nd,.int .i64 n] w fun e w'=>∃a:Int×Bool,((¬KnownN A nd->a=(0,false))/\(KnownN A nd->∃L,LineIs A nd L/\a=atL n L))/\MadeOut ad w (a.2=true) (ownX T i (R i).length 100 nd a.1 ⟨#[]⟩ ⟨#[]⟩) e w':=by
 have hAl:A.length<=140:=xJ
 obtain ⟨S,hS⟩:=za w.heap.size
 obtain ⟨U,hU⟩:=za (w.alloc (.cells #[.int .i64 0,.int .i64 0,.int .i64 0,.int .u8 0,.int .i64 0,.int .i64 0,.string ⟨#[]⟩,.string ⟨#[]⟩] 41))
 have hbU:Below w.heap.size w U:=zP
 have Z0:OpBlk U S zeroO:=yD
 have hcU:RepCell U br T (i:Int) (kvs ao cap R) bt bx bc:=hc.same (hbU.block _ hc.lt)
 have htU:TextC U c bx A:=htext.kept ⟨fun k hk _=>hbU.block k hk,fun _ _=>rfl⟩ (fun _ _=>⟨fun k hk _=>hbU.block k hk,fun _ _=>rfl⟩)
 have hlet:=letter_any U c br T (i:Int) (kvs ao cap R) bt bx bc A nd n hcU htU zj zj zj ⟨hn1,hn2⟩
 have H0:Aside (RepCell U br T (i:Int) (kvs ao cap R) bt bx bc/\OpBlk U S zeroO/\Below w.heap.size w U/\S=w.heap.size/\EnvE B ad U/\B<=w.heap.size):=⟨hcU,Z0,hbU,hS,hE.later hbU,hE.size⟩
 have HU:Aside (U=w.alloc (.cells #[.int .i64 0,.int .i64 0,.int .i64 0,.int .u8 0,.int .i64 0,.int .i64 0,.string ⟨#[]⟩,.string ⟨#[]⟩] 41)):=hU
 clear hU hcU Z0 hbU hE hc hS htext htU
 go_enter func102,ntmps102
 go_upto_region 1 with fail
 rw [<-HU.o,<-H0.o.2.2.2.1]
 go_wp2_with fail
 refine hlet.mono ?_
 clear hlet
 rintro e w1 ⟨⟨into,zb⟩,rfl,ha1,ha2,hb1⟩
 dsimp only
 have HA:Aside ((¬KnownN A nd->(into,zb)=((0:Int),false))/\(KnownN A nd->∃L,LineIs A nd L/\(into,zb)=atL n L)):=⟨ha1,ha2⟩
 have Z1:=H0.o.2.1.later hb1
 have H1:Aside (OpBlk w1 S zeroO/\Below w.heap.size w w1/\EnvE B ad w1/\RepCell w1 br T (i:Int) (kvs ao cap R) bt bx bc):=⟨Z1,zi H0.o.2.2.1 hb1,H0.o.2.2.2.2.1.later hb1,H0.o.1.same (hb1.block _ H0.o.1.lt)⟩
 clear hb1 Z1 ha1 ha2
 cases zb with
 | false=>
  have hno:¬(((into,false):Int×Bool).2=true):=zm
  obtain ⟨z0,z1,z2,z3,z4,z5,z6,z7,zf⟩:=H1.o.1.cells
  unfold zeroO at z0 z1 z2 z3 z4 z5 z6 z7
  dsimp only at z0 z1 z2 z3 z4 z5 z6 z7
  have eg:=H1.o.2.2.1.c5
  have hlo:=H1.o.2.2.1.low
  have hSw:=H0.o.2.2.2.1
  have hBw:=H0.o.2.2.2.2.2
  have n1:1≠S:=zj
  have n2:S≠1:=zj
  have HNO:=Lib.hid hno
  clear hlo hSw hBw hno
  go_wp2_with fail
  go_region
  all_goals
   go_wp2
   (try simp only [Exit.inBlock,Exit.then])
   refine bodyPost_ret (v:=.tuple #[encO zeroO,eV ad 6]) ?_ rfl ⟨(into,false),HA.o,.inr ⟨HNO.o,rfl,?_⟩⟩
   ·rw [results_ct rfl]
    unfold encO zeroO eV
    go_simp
   exact (below_cells (b:=S) H1.o.2.1 zJ 0 [.int .i64 0,.int .i64 0,.int .i64 0,.int .u8 0,.int .i64 0,.int .i64 0,.string ⟨#[]⟩,.string ⟨#[]⟩]).drew
 | true=>
  have HOK:Aside (((into,true):Int×Bool).2=true):=rfl
  have hown:=own_any w1 br T i ao cap bt bx bc R 100 nd into ⟨#[]⟩ ⟨#[]⟩ H1.o.2.2.2 H1.o.2.2.1 hi hT hm hn zt zt
  unfold encO at hown
  dsimp only at hown
  go_wp2_with fail
  refine hown.mono ?_
  clear hown
  rintro e w2 ⟨he,hb2⟩
  obtain ⟨y,hy⟩:=za ((if errF (ownX T i (R i).length 100 nd into ⟨#[]⟩ ⟨#[]⟩)=0 then ownX T i (R i).length 100 nd into ⟨#[]⟩ ⟨#[]⟩ else zeroO))
  obtain ⟨er,her⟩:=za (eV ad (errF (ownX T i (R i).length 100 nd into ⟨#[]⟩ ⟨#[]⟩)))
  rw [<-hy,<-her] at he
  subst he
  have HY:Aside (y=(if errF (ownX T i (R i).length 100 nd into ⟨#[]⟩ ⟨#[]⟩)=0 then ownX T i (R i).length 100 nd into ⟨#[]⟩ ⟨#[]⟩ else zeroO)/\er=eV ad (errF (ownX T i (R i).length 100 nd into ⟨#[]⟩ ⟨#[]⟩))):=⟨hy,her⟩
  clear hy her
  obtain ⟨t,b,m,kd,nd',o,s,v⟩:=y
  unfold encO
  dsimp only
  have Z2:=H1.o.1.later hb2
  obtain ⟨z0,z1,z2,z3,z4,z5,z6,z7,zf⟩:=Z2.cells
  unfold zeroO at z0 z1 z2 z3 z4 z5 z6 z7
  dsimp only at z0 z1 z2 z3 z4 z5 z6 z7
  have B2:Aside (Below w.heap.size w w2):=zi H1.o.2.1 hb2
  clear hb2 Z2
  go_wp2
  (try simp only [Exit.inBlock,Exit.then])
  refine bodyPost_ret (v:=.tuple #[.agg #[.int .i64 t,.int .i64 b,.int .i64 m,.int .u8 (kd:Int),.int .i64 nd',.int .i64 o,.string s,.string v],er]) ?_ rfl ⟨(into,true),HA.o,.inl ⟨rfl,⟨by dsimp only;rw [<-HY.o.1,<-HY.o.2];rfl,?_⟩⟩⟩
  ·rw [results_ct rfl]
   go_simp
  exact below_cells (b:=S) B2.o zJ 0 [.int .i64 t,.int .i64 b,.int .i64 m,.int .u8 (kd:Int),.int .i64 nd',.int .i64 o,.string s,.string v]
