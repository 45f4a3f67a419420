import Derived.Test.YtpdbnnimdkfajaaGreatDoorVS29
import Derived.Test.YtpdbnnimdkfajaaGreatDoorVS30
set_option linter.unusedSimpArgs false
set_option linter.unusedVariables false
set_option maxRecDepth 100000
set_option maxHeartbeats 64000000
namespace Go.Proofs.YtpdbnnimdkfajaaGreatDoor
open Go.Proofs.Tryz
variable {T:Int} {ls:List (List UInt8)} {B S cap i:Nat} {ao:Option Addr} {v v0:Value} {W W1 w w' wr:World}
section
open Go.RowKit Go.Lib Go.Sort
theorem below_but {pb:Nat} (h:Below w.heap.size w W) (hp:w.heap.size<=pb) (hb:But pb W w'):Below w.heap.size w w':=
 h.trans ⟨hb.os,hb.tape,hb.output,hb.size,fun k hk=>hb.block k (jE hk h.size) zi⟩
theorem cnext_ok (w:World) (pb:Nat) (T by_:Int) (h0:w.cell? ⟨pb,0,none⟩=some (.int .i64 T)) (h1:w.cell? ⟨pb,1,none⟩=some (.int .i64 by_)) (hT:0<=T) (hm:T<1073741824):
  Calls prog 169 #[.pointer (some ⟨pb,0,none⟩)] w fun e w'=>e= .returned (.tuple #[.agg #[.int .i64 (T+1),.int .i64 by_],.nilIface])/\Below w.heap.size w w':=by
 have hpl:pb<w.heap.size:=jl w ⟨pb,0,none⟩ h0
 obtain ⟨S,hS⟩:=za w.heap.size
 obtain ⟨U,hU⟩:=za ((w.alloc (.cells #[.int .i64 0,.int .i64 0] 36)).alloc (.cells #[.int .i64 T,.int .i64 by_] 61))
 have hbU:Below w.heap.size w U:=zG
 have hu1:U.heap[S+1]? =some (.cells #[.int .i64 T,.int .i64 by_] 61 (0,0)):=by
  rw [hU,hS]
  have:=heap_alloc_new (w.alloc (.cells #[.int .i64 0,.int .i64 0] 36)) (.cells #[.int .i64 T,.int .i64 by_] 61)
  rw [jI] at this
  exact this
 have hu0:U.heap[S]? =some (.cells #[.int .i64 0,.int .i64 0] 36 (0,0)):=by
  rw [hU,hS,jp _ _ _ zm]
  exact heap_alloc_new w _
 have hclk:Clk (S+1) T by_ U:=⟨qv,qv,by simp [World.frozen?,hu1]⟩
 have hcall:=tick_ok (S+1) T by_ U hclk hT hm
 have HB:Aside (Below w.heap.size w U/\S=w.heap.size/\U.heap[S]? =some (.cells #[.int .i64 0,.int .i64 0] 36 (0,0))):=⟨hbU,hS,hu0⟩
 have HU:Aside (U=(w.alloc (.cells #[.int .i64 0,.int .i64 0] 36)).alloc (.cells #[.int .i64 T,.int .i64 by_] 61)):=hU
 clear hU hbU hu1 hu0 hclk
 go_enter func169,ntmps169
 go_wp2_with fail
 rw [<-HU.o,<-HB.o.2.1]
 clear hS
 refine hcall.mono ?_
 clear hcall
 rintro e w1 ⟨rfl,hbut,-⟩
 have hS1:w1.heap[S]? =some (.cells #[.int .i64 0,.int .i64 0] 36 (0,0)):=(hbut.block S (jk.1 HB.o.2.2).1 zi).trans HB.o.2.2
 have y0:w1.cell? ⟨S,0,none⟩=some (.int .i64 0):=qw
 have y1:w1.cell? ⟨S,1,none⟩=some (.int .i64 0):=qw
 have yf:∀o,w1.frozen? ⟨S,o,none⟩=false:=fun o=>by simp [World.frozen?,hS1]
 have B1:Aside (Below w.heap.size w w1):=below_but HB.o.1 xm hbut
 clear hbut hS1
 go_wp2
 (try simp only [Exit.inBlock,Exit.then])
 refine bodyPost_ret (v:=.tuple #[.agg #[.int .i64 (T+1),.int .i64 by_],.nilIface]) ?_ rfl ⟨rfl,?_⟩
 ·rw [results_ct rfl]
  go_simp
 exact below_cells (b:=S) B1.o xm 0 [.int .i64 (T+1),.int .i64 by_]
theorem opid_at (x:OpX) (w:World) (h1:1<=x.1) (h2:x.1<=1073741824) (h3:0<=byO x) (h4:byO x<4):Calls prog 123 #[encO x] w fun e w'=>e= .returned (.int .i64 (idO x))/\Below w.heap.size w w':=by
 obtain ⟨t,b,n,k,nd,o,s,v⟩:=x
 unfold encO idO
 dsimp only at*
 go_enter func123,ntmps123
 go_wp2_with (go_at_call 176;refine (id_ok t b _ h1 h2 h3 h4).mono ?_;rintro e w1 ⟨rfl,hb⟩;have B1:Aside (Below w.heap.size w w1):=(zg w _).trans (hb.mono zm);clear hb)
 go_ret
 exact ⟨rfl,B1.o⟩
theorem RepCell.row {br:Nat} {by_:Int} {kv:Nat->Value} {bt bx bc:Nat} (h:RepCell w br T by_ kv bt bx bc) (hi:i<4):w.cell? ⟨br,2+i,none⟩=some (kv i):=by
 have h4:i=0\/i=1\/i=2\/i=3:=zi
 rcases h4 with rfl | rfl | rfl | rfl
 ·exact h.c2
 ·exact h.c3
 ·exact h.c4
 exact h.c5
def ownX (T:Int) (i m:Nat) (kd:Nat) (nd o:Int) (s v:ByteArray):OpX:=(T+1,(i:Int),(m:Int)+1,kd,if nd=0 then (T+1)*4+(i:Int) else nd,o,s,v)
def OwnOut0 (ad:Nat->Addr) (w:World) (x:OpX) (e:Ending) (w':World):Prop:=e= .returned (.tuple #[encO (if errO x=0 then x else zeroO),eV ad (errO x)])/\Below w.heap.size w w'
def errF (x:OpX):Nat:=if 1073741824<x.1 then 8 else errO x
theorem errF_lt {x:OpX} (h:x.1<=1073741824):errF x=errO x:=if_neg zi
theorem errF_own {m kd:Nat} {nd o:Int} {s v:ByteArray} (h:T<1073741824):errF (ownX T i m kd nd o s v)=errO (ownX T i m kd nd o s v):=errF_lt (by show T+1<=1073741824;omega)
def OwnOut (ad:Nat->Addr) (w:World) (x:OpX) (e:Ending) (w':World):Prop:=e= .returned (.tuple #[encO (if errF x=0 then x else zeroO),eV ad (errF x)])/\Below w.heap.size w w'
theorem own_lt {B:Nat} {ad:Nat->Addr} (w:World) (br:Nat) (T:Int) (i:Nat) (ao:Nat->Option Addr) (cap:Nat->Nat) (bt bx bc:Nat) (R:Rws) (kd:Nat) (nd o:Int) (s v:ByteArray) (hc:RepCell w br T (i:Int) (kvs ao cap R) bt bx bc) (hE:EnvE B ad w) (hi:i<4) (hT:0<=T) (hm:T<1073741824) (hn:(allR R).length<=140) (hs1:s.size<=1000000) (hs2:v.size<=1000000):
  Calls prog 105 #[.pointer (some ⟨br,0,none⟩),encO (0,0,0,kd,nd,o,s,v)] w (OwnOut0 ad w (ownX T i (R i).length kd nd o s v)):=by
 have hrl:∀i,i<4->(R i).length<=1000:=fun i hi=>yh
 have hri:=hrl i hi
 obtain ⟨S,hS⟩:=za w.heap.size
 obtain ⟨U,hU⟩:=za ((w.alloc (.cells #[.int .i64 0,.int .i64 0,.int .i64 0,.int .u8 (kd:Int),.int .i64 nd,.int .i64 o,.string s,.string v] 38)).alloc (.cells #[.int .i64 0,.int .i64 0,.int .i64 0,.int .u8 0,.int .i64 0,.int .i64 0,.string ⟨#[]⟩,.string ⟨#[]⟩] 38))
 have hbU:Below w.heap.size w U:=zG
 have O0:OpBlk U S (0,0,0,kd,nd,o,s,v):=by rw [hU,hS];exact (jp _ _ _ zm).trans (OpBlk.new w (0,0,0,kd,nd,o,s,v))
 have O1:OpBlk U (S+1) zeroO:=by
  rw [hU,hS]
  have:=OpBlk.new (w.alloc (.cells #[.int .i64 0,.int .i64 0,.int .i64 0,.int .u8 (kd:Int),.int .i64 nd,.int .i64 o,.string s,.string v] 38)) zeroO
  rw [jI] at this
  exact this
 have hcU:RepCell U br T (i:Int) (kvs ao cap R) bt bx bc:=hc.same (hbU.block _ hc.lt)
 have hbr:br<S:=by rw [hS];exact hc.lt
 have hcount:=count_any U ao cap R hrl
 unfold kV at hcount
 have k2:U.cell? ⟨br,2,none⟩=some (.slice (ao 0) (R 0).length (cap 0)):=hcU.c2
 have k3:U.cell? ⟨br,3,none⟩=some (.slice (ao 1) (R 1).length (cap 1)):=hcU.c3
 have k4:U.cell? ⟨br,4,none⟩=some (.slice (ao 2) (R 2).length (cap 2)):=hcU.c4
 have k5:U.cell? ⟨br,5,none⟩=some (.slice (ao 3) (R 3).length (cap 3)):=hcU.c5
 have dn:decide ((400:Int)<=((allR R).length:Int))=false:=zk
 have dn':decide (400<=(allR R).length)=false:=zk
 have H0:Aside (RepCell U br T (i:Int) (kvs ao cap R) bt bx bc/\OpBlk U S (0,0,0,kd,nd,o,s,v)/\OpBlk U (S+1) zeroO/\Below w.heap.size w U/\S=w.heap.size/\EnvE B ad U):=⟨hcU,O0,O1,hbU,hS,hE.later hbU⟩
 have HU:Aside (U=(w.alloc (.cells #[.int .i64 0,.int .i64 0,.int .i64 0,.int .u8 (kd:Int),.int .i64 nd,.int .i64 o,.string s,.string v] 38)).alloc (.cells #[.int .i64 0,.int .i64 0,.int .i64 0,.int .u8 0,.int .i64 0,.int .i64 0,.string ⟨#[]⟩,.string ⟨#[]⟩] 38)):=hU
 have hEw:=hE.size
 clear hU hcU O0 O1 hbU hE hc hS
 unfold encO
 dsimp only
 go_enter func105,ntmps105
 go_upto_region 1 with fail
 rw [<-HU.o,<-H0.o.2.2.2.2.1]
 go_wp2_with fail
 refine hcount.mono ?_
 clear hcount k2 k3 k4 k5
 rintro e w1 ⟨rfl,hb1⟩
 have hc1:RepCell w1 br T (i:Int) (kvs ao cap R) bt bx bc:=H0.o.1.same (hb1.block _ H0.o.1.lt)
 have hnext:=cnext_ok w1 br T (i:Int) hc1.c0 hc1.c1 hT hm
 clear hc1
 go_wp2_with fail
 refine hnext.mono ?_
 clear hnext
 rintro e w2 ⟨rfl,hb2⟩
 obtain ⟨Q,hQ⟩:=za w2.heap.size
 obtain ⟨V,hV⟩:=za (w2.alloc (.cells #[.int .i64 (T+1),.int .i64 (i:Int)] 36))
 have hbV:Below w2.heap.size w2 V:=by rw [hV];exact zg w2 _
 have hbUV:Below U.heap.size U V:=hb1.trans ((hb2.mono hb1.size).trans (hbV.mono (jw hb1.size hb2.size)))
 have hst:V.heap[Q]? =some (.cells #[.int .i64 (T+1),.int .i64 (i:Int)] 36 (0,0)):=by rw [hV,hQ];exact heap_alloc_new w2 _
 have hSQ:S+1<Q:=by have:=H0.o.2.2.1.lt;have:=hb1.size;have:=hb2.size;omega
 have H1:Aside (RepCell V br T (i:Int) (kvs ao cap R) bt bx bc/\OpBlk V S (0,0,0,kd,nd,o,s,v)/\OpBlk V (S+1) zeroO/\Below U.heap.size U V/\EnvE B ad V):=⟨H0.o.1.same (hbUV.block _ H0.o.1.lt),H0.o.2.1.later hbUV,H0.o.2.2.1.later hbUV,hbUV,H0.o.2.2.2.2.2.later hbUV⟩
 have HV:Aside (V=w2.alloc (.cells #[.int .i64 (T+1),.int .i64 (i:Int)] 36)/\Q=w2.heap.size):=⟨hV,hQ⟩
 have s0:V.cell? ⟨Q,0,none⟩=some (.int .i64 (T+1)):=by simp [World.cell?,hst]
 have s1:V.cell? ⟨Q,1,none⟩=some (.int .i64 (i:Int)):=by simp [World.cell?,hst]
 have kb:V.cell? ⟨br,2+i,none⟩=some (.slice (ao i) (R i).length (cap i)):=H1.o.1.row hi
 obtain ⟨y0,y1,y2,y3,y4,y5,y6,y7,f8⟩:=H1.o.2.1.cells
 dsimp only at y0 y1 y2 y3 y4 y5 y6 y7
 have wi:((i:Int)).toNat=i:=zi
 have pi:(0:Int)<=(i:Int):=zi
 have bi:(i:Int)<4:=zi
 have n1:S≠Q:=zi
 have n2:Q≠S:=zi
 have n3:S≠br:=zi
 have n4:br≠S:=zi
 clear hbV hbUV hst hb1 hb2 hV hQ
 go_upto_region 6 with fail
 rw [<-HV.o.1,<-HV.o.2]
 go_region
 obtain ⟨w5,hw5⟩:=za ((((V.setCell ⟨S,0,none⟩ (.int .i64 (T+1))).setCell ⟨S,1,none⟩ (.int .i64 (i:Int))).setCell ⟨S,2,none⟩ (.int .i64 (((R i).length:Int)+1))).drew)
 have hk5:Keeps (fun k=>k=S) V w5:=by rw [hw5];exact (setCells_keeps S [.int .i64 (T+1),.int .i64 (i:Int),.int .i64 (((R i).length:Int)+1)] 0 V).drew
 have O5:OpBlk w5 S (T+1,(i:Int),((R i).length:Int)+1,kd,nd,o,s,v):=by
  have hh:=setCells_heap S [.int .i64 (T+1),.int .i64 (i:Int),.int .i64 (((R i).length:Int)+1)] 0 V _ _ H1.o.2.1
  unfold OpBlk
  rw [hw5]
  refine Eq.trans hh ?_
  simp [over]
 have Z5:OpBlk w5 (S+1) zeroO:=(hk5.block (S+1) H1.o.2.2.1.lt zi).trans H1.o.2.2.1
 have B5:Below w.heap.size w w5:=(zh H0.o.2.2.2.1 H1.o.2.2.2.1).trans (hk5.below (jw H0.o.2.2.2.1.size H1.o.2.2.2.1.size) (fun k e=>by have:=H0.o.2.2.2.2.1;omega))
 have OX:Aside (OpBlk w5 S (T+1,(i:Int),((R i).length:Int)+1,kd,nd,o,s,v)/\OpBlk w5 (S+1) zeroO/\Below w.heap.size w w5):=⟨O5,Z5,B5⟩
 have EX:Aside (EnvE B ad w5):=H1.o.2.2.2.2.mono (hk5.below H1.o.2.2.2.2.size (fun k e=>by have:=H0.o.2.2.2.2.1;have:=H0.o.2.2.2.2.2.size;have:=H0.o.2.2.2.2.1;have hBw:=hEw;omega))
 rw [<-hw5]
 clear hw5 hk5 O5 Z5 B5 s0 s1 kb y0 y1 y2 y3 y4 y5 y6 y7 f8
 by_cases hnd:nd=0
 ·have hid:=opid_at (T+1,(i:Int),((R i).length:Int)+1,kd,nd,o,s,v) w5 (by show 1<=T+1;omega) (by show T+1<=1073741824;omega) (by show (0:Int)<=(i:Int);omega) (by show (i:Int)<4;omega)
  have eid:idO (T+1,(i:Int),((R i).length:Int)+1,kd,nd,o,s,v)=(T+1)*4+(i:Int):=rfl
  rw [eid] at hid
  have hown:ownX T i (R i).length kd nd o s v=(T+1,(i:Int),((R i).length:Int)+1,kd,(T+1)*4+(i:Int),o,s,v):=by unfold ownX;rw [if_pos hnd]
  have HOW:=Lib.hid hown
  unfold encO at hid
  dsimp only at hid
  obtain ⟨y0,y1,y2,y3,y4,y5,y6,y7,f8⟩:=OX.o.1.cells
  dsimp only at y0 y1 y2 y3 y4 y5 y6 y7
  have HND:=Lib.hid hnd
  have dnd:(nd==0)=true:=by simp [hnd]
  clear hnd hown eid
  go_wp2_with fail
  refine hid.mono ?_
  clear hid y0 y1 y2 y3 y4 y5 y6 y7 f8
  rintro e w5' ⟨rfl,hb5⟩
  have O5:=OX.o.1.later hb5
  have Z5:=OX.o.2.1.later hb5
  obtain ⟨w6,hw6⟩:=za (w5'.setCell ⟨S,4,none⟩ (.int .i64 ((T+1)*4+(i:Int))))
  have hk6:Keeps (fun k=>k=S) w5' w6:=by rw [hw6];exact setCells_keeps S [.int .i64 ((T+1)*4+(i:Int))] 4 w5'
  have hS0:=H0.o.2.2.2.2.1
  have O6:OpBlk w6 S (T+1,(i:Int),((R i).length:Int)+1,kd,(T+1)*4+(i:Int),o,s,v):=by
   have hh:=setCells_heap S [.int .i64 ((T+1)*4+(i:Int))] 4 w5' _ _ O5
   unfold OpBlk
   rw [hw6]
   refine Eq.trans hh ?_
   simp [over]
  have B5':Below w.heap.size w w5':=zh OX.o.2.2 hb5
  have OX6:Aside (OpBlk w6 S (T+1,(i:Int),((R i).length:Int)+1,kd,(T+1)*4+(i:Int),o,s,v)/\OpBlk w6 (S+1) zeroO/\Below w.heap.size w w6):=⟨O6,(hk6.block (S+1) Z5.lt zi).trans Z5,B5'.trans (hk6.below B5'.size (fun k e=>zi))⟩
  have EX6:Aside (EnvE B ad w6):=(EX.o.later hb5).mono (hk6.below (EX.o.later hb5).size (fun k e=>zi))
  obtain ⟨y0,y1,y2,y3,y4,y5,y6,y7,f8⟩:=O5.cells
  dsimp only at y0 y1 y2 y3 y4 y5 y6 y7
  have HW6:=Lib.hid hw6
  clear hw6 hk6 hS0 O6 B5' O5 Z5 hb5
  go_upto_region 9 with fail
  rw [<-HW6.o]
  have hown:=HOW.o
  clear y0 y1 y2 y3 y4 y5 y6 y7 f8
  have hchk:=opcheck_any (T+1) (i:Int) (((R i).length:Int)+1) kd ((T+1)*4+(i:Int)) o s v w6 (EX6.o.op4) hs1 hs2
  obtain ⟨y0,y1,y2,y3,y4,y5,y6,y7,f8⟩:=OX6.o.1.cells
  dsimp only at y0 y1 y2 y3 y4 y5 y6 y7
  have hlz:=OX6.o.2.1.lt
  cases herr:opE (T+1) (i:Int) (((R i).length:Int)+1) kd ((T+1)*4+(i:Int)) o s.data.toList v.data.toList with
  | zero=>
   rw [herr] at hchk
   have hev:eV ad 0= .nilIface:=rfl
   rw [hev] at hchk
   have HR:Aside (errO (ownX T i (R i).length kd nd o s v)=0/\ownX T i (R i).length kd nd o s v=(T+1,(i:Int),((R i).length:Int)+1,kd,(T+1)*4+(i:Int),o,s,v)):=⟨by rw [hown];exact herr,hown⟩
   clear herr hev hown
   go_wp2_with fail
   refine hchk.mono ?_
   clear hchk y0 y1 y2 y3 y4 y5 y6 y7 f8
   rintro e w7 ⟨rfl,hb7⟩
   have O7:=OX6.o.1.later hb7
   have Z7:=OX6.o.2.1.later hb7
   have hz7:=Z7.lt
   obtain ⟨y0,y1,y2,y3,y4,y5,y6,y7,f8⟩:=O7.cells
   dsimp only at y0 y1 y2 y3 y4 y5 y6 y7
   obtain ⟨z0,z1,z2,z3,z4,z5,z6,z7,zf⟩:=Z7.cells
   unfold zeroO at z0 z1 z2 z3 z4 z5 z6 z7
   dsimp only at z0 z1 z2 z3 z4 z5 z6 z7
   have B7:Aside (Below w.heap.size w w7/\S=w.heap.size):=⟨zh OX6.o.2.2 hb7,H0.o.2.2.2.2.1⟩
   clear hb7 O7 Z7
   go_wp2
   (try simp only [Exit.inBlock,Exit.then])
   refine bodyPost_ret (v:=.tuple #[.agg #[.int .i64 (T+1),.int .i64 (i:Int),.int .i64 (((R i).length:Int)+1),.int .u8 (kd:Int),.int .i64 ((T+1)*4+(i:Int)),.int .i64 o,.string s,.string v],.nilIface]) ?_ rfl ⟨by rw [HR.o.1,if_pos rfl,HR.o.2];rfl,?_⟩
   ·rw [results_ct rfl]
    go_simp
   exact below_cells (b:=S+1) B7.o.1 qp 0 [.int .i64 (T+1),.int .i64 (i:Int),.int .i64 (((R i).length:Int)+1),.int .u8 (kd:Int),.int .i64 ((T+1)*4+(i:Int)),.int .i64 o,.string s,.string v]
  | succ cd=>
   rw [herr] at hchk
   have hev:eV ad (cd+1)= .iface 399 (.pointer (some (ad cd))):=rfl
   rw [hev] at hchk
   have HR:Aside (errO (ownX T i (R i).length kd nd o s v)=cd+1):=by show errO _=_;rw [hown];exact herr
   clear herr hev hown
   go_wp2_with fail
   refine hchk.mono ?_
   clear hchk y0 y1 y2 y3 y4 y5 y6 y7 f8
   rintro e w7 ⟨rfl,hb7⟩
   have Z7:=OX6.o.2.1.later hb7
   have hz7:=Z7.lt
   obtain ⟨z0,z1,z2,z3,z4,z5,z6,z7,zf⟩:=Z7.cells
   unfold zeroO at z0 z1 z2 z3 z4 z5 z6 z7
   dsimp only at z0 z1 z2 z3 z4 z5 z6 z7
   have B7:Aside (Below w.heap.size w w7/\S=w.heap.size):=⟨zh OX6.o.2.2 hb7,H0.o.2.2.2.2.1⟩
   clear hb7 Z7
   go_wp2
   (try simp only [Exit.inBlock,Exit.then])
   refine bodyPost_ret (v:=.tuple #[encO zeroO,.iface 399 (.pointer (some (ad cd)))]) ?_ rfl ⟨by rw [HR.o,if_neg zi];rfl,?_⟩
   ·rw [results_ct rfl]
    unfold encO zeroO
    go_simp
   exact below_cells (b:=S+1) B7.o.1 qp 0 [.int .i64 0,.int .i64 0,.int .i64 0,.int .u8 0,.int .i64 0,.int .i64 0,.string ⟨#[]⟩,.string ⟨#[]⟩]
 have hown:ownX T i (R i).length kd nd o s v=(T+1,(i:Int),((R i).length:Int)+1,kd,nd,o,s,v):=by unfold ownX;rw [if_neg hnd]
 have dnd:(nd==0)=false:=by simp [hnd]
 have hchk:=opcheck_any (T+1) (i:Int) (((R i).length:Int)+1) kd nd o s v w5 (EX.o.op4) hs1 hs2
 obtain ⟨y0,y1,y2,y3,y4,y5,y6,y7,f8⟩:=OX.o.1.cells
 dsimp only at y0 y1 y2 y3 y4 y5 y6 y7
 have hlz:=OX.o.2.1.lt
 cases herr:opE (T+1) (i:Int) (((R i).length:Int)+1) kd nd o s.data.toList v.data.toList with
 | zero=>
  rw [herr] at hchk
  have hev:eV ad 0= .nilIface:=rfl
  rw [hev] at hchk
  have HR:Aside (errO (ownX T i (R i).length kd nd o s v)=0/\ownX T i (R i).length kd nd o s v=(T+1,(i:Int),((R i).length:Int)+1,kd,nd,o,s,v)):=⟨by rw [hown];exact herr,hown⟩
  clear herr hev hown
  go_wp2_with fail
  refine hchk.mono ?_
  clear hchk y0 y1 y2 y3 y4 y5 y6 y7 f8
  rintro e w7 ⟨rfl,hb7⟩
  have O7:=OX.o.1.later hb7
  have Z7:=OX.o.2.1.later hb7
  have hz7:=Z7.lt
  obtain ⟨y0,y1,y2,y3,y4,y5,y6,y7,f8⟩:=O7.cells
  dsimp only at y0 y1 y2 y3 y4 y5 y6 y7
  obtain ⟨z0,z1,z2,z3,z4,z5,z6,z7,zf⟩:=Z7.cells
  unfold zeroO at z0 z1 z2 z3 z4 z5 z6 z7
  dsimp only at z0 z1 z2 z3 z4 z5 z6 z7
  have B7:Aside (Below w.heap.size w w7/\S=w.heap.size):=⟨zh OX.o.2.2 hb7,H0.o.2.2.2.2.1⟩
  clear hb7 O7 Z7
  go_wp2
  (try simp only [Exit.inBlock,Exit.then])
  refine bodyPost_ret (v:=.tuple #[.agg #[.int .i64 (T+1),.int .i64 (i:Int),.int .i64 (((R i).length:Int)+1),.int .u8 (kd:Int),.int .i64 (nd),.int .i64 o,.string s,.string v],.nilIface]) ?_ rfl ⟨by rw [HR.o.1,if_pos rfl,HR.o.2];rfl,?_⟩
  ·rw [results_ct rfl]
   go_simp
  exact below_cells (b:=S+1) B7.o.1 qp 0 [.int .i64 (T+1),.int .i64 (i:Int),.int .i64 (((R i).length:Int)+1),.int .u8 (kd:Int),.int .i64 (nd),.int .i64 o,.string s,.string v]
 | succ cd=>
  rw [herr] at hchk
  have hev:eV ad (cd+1)= .iface 399 (.pointer (some (ad cd))):=rfl
  rw [hev] at hchk
  have HR:Aside (errO (ownX T i (R i).length kd nd o s v)=cd+1):=by show errO _=_;rw [hown];exact herr
  clear herr hev hown
  go_wp2_with fail
  refine hchk.mono ?_
  clear hchk y0 y1 y2 y3 y4 y5 y6 y7 f8
  rintro e w7 ⟨rfl,hb7⟩
  have Z7:=OX.o.2.1.later hb7
  have hz7:=Z7.lt
  obtain ⟨z0,z1,z2,z3,z4,z5,z6,z7,zf⟩:=Z7.cells
  unfold zeroO at z0 z1 z2 z3 z4 z5 z6 z7
  dsimp only at z0 z1 z2 z3 z4 z5 z6 z7
  have B7:Aside (Below w.heap.size w w7/\S=w.heap.size):=⟨zh OX.o.2.2 hb7,H0.o.2.2.2.2.1⟩
  clear hb7 Z7
  go_wp2
  (try simp only [Exit.inBlock,Exit.then])
  refine bodyPost_ret (v:=.tuple #[encO zeroO,.iface 399 (.pointer (some (ad cd)))]) ?_ rfl ⟨by rw [HR.o,if_neg zi];rfl,?_⟩
  ·rw [results_ct rfl]
   unfold encO zeroO
   go_simp
  exact below_cells (b:=S+1) B7.o.1 qp 0 [.int .i64 0,.int .i64 0,.int .i64 0,.int .u8 0,.int .i64 0,.int .i64 0,.string ⟨#[]⟩,.string ⟨#[]⟩]
theorem cnext_full (w:World) (pb:Nat) (T by_:Int) (eb:Value) (hg:w.cell? ⟨1,0,none⟩=some eb) (h0:w.cell? ⟨pb,0,none⟩=some (.int .i64 T)) (h1:w.cell? ⟨pb,1,none⟩=some (.int .i64 by_)) (hm:1073741824<=T):
  Calls prog 169 #[.pointer (some ⟨pb,0,none⟩)] w fun e w'=>e= .returned (.tuple #[.agg #[.int .i64 0,.int .i64 0],eb])/\Below w.heap.size w w':=by
 have hpl:pb<w.heap.size:=jl w ⟨pb,0,none⟩ h0
 have hgl:1<w.heap.size:=jl w ⟨1,0,none⟩ hg
 obtain ⟨S,hS⟩:=za w.heap.size
 obtain ⟨U,hU⟩:=za ((w.alloc (.cells #[.int .i64 0,.int .i64 0] 36)).alloc (.cells #[.int .i64 T,.int .i64 by_] 61))
 have hbU:Below w.heap.size w U:=zG
 have hu1:U.heap[S+1]? =some (.cells #[.int .i64 T,.int .i64 by_] 61 (0,0)):=by
  rw [hU,hS]
  have:=heap_alloc_new (w.alloc (.cells #[.int .i64 0,.int .i64 0] 36)) (.cells #[.int .i64 T,.int .i64 by_] 61)
  rw [jI] at this
  exact this
 have hu0:U.heap[S]? =some (.cells #[.int .i64 0,.int .i64 0] 36 (0,0)):=by
  rw [hU,hS,jp _ _ _ zm]
  exact heap_alloc_new w _
 have hclk:Clk (S+1) T by_ U:=⟨qv,qv,by simp [World.frozen?,hu1]⟩
 have hcall:=tick_full (S+1) T by_ U eb ((hbU.cell (p:=⟨1,0,none⟩) hgl).trans hg) hclk hm
 have HB:Aside (Below w.heap.size w U/\S=w.heap.size/\U.heap[S]? =some (.cells #[.int .i64 0,.int .i64 0] 36 (0,0))):=⟨hbU,hS,hu0⟩
 have HU:Aside (U=(w.alloc (.cells #[.int .i64 0,.int .i64 0] 36)).alloc (.cells #[.int .i64 T,.int .i64 by_] 61)):=hU
 clear hU hbU hu1 hu0 hclk
 go_enter func169,ntmps169
 go_wp2_with fail
 rw [<-HU.o,<-HB.o.2.1]
 clear hS
 refine hcall.mono ?_
 clear hcall
 rintro e w1 ⟨rfl,hb1⟩
 have hS1:w1.heap[S]? =some (.cells #[.int .i64 0,.int .i64 0] 36 (0,0)):=(hb1.block S (jk.1 HB.o.2.2).1).trans HB.o.2.2
 have y0:w1.cell? ⟨S,0,none⟩=some (.int .i64 0):=qw
 have y1:w1.cell? ⟨S,1,none⟩=some (.int .i64 0):=qw
 have yf:∀o,w1.frozen? ⟨S,o,none⟩=false:=fun o=>by simp [World.frozen?,hS1]
 have B1:Aside (Below w.heap.size w w1):=zh HB.o.1 hb1
 clear hb1 hS1
 go_wp2
 (try simp only [Exit.inBlock,Exit.then])
 refine bodyPost_ret (v:=.tuple #[.agg #[.int .i64 0,.int .i64 0],eb]) ?_ rfl ⟨rfl,?_⟩
 ·rw [results_ct rfl]
  go_simp
 exact below_cells (b:=S) B1.o xm 0 [.int .i64 0,.int .i64 0]
theorem own_full {B:Nat} {ad:Nat->Addr} (w:World) (br:Nat) (T:Int) (i:Nat) (ao:Nat->Option Addr) (cap:Nat->Nat) (bt bx bc:Nat) (R:Rws) (kd:Nat) (nd o:Int) (s v:ByteArray) (hc:RepCell w br T (i:Int) (kvs ao cap R) bt bx bc) (hE:EnvE B ad w) (hi:i<4) (hm:1073741824<=T) (hn:(allR R).length<=140):
  Calls prog 105 #[.pointer (some ⟨br,0,none⟩),encO (0,0,0,kd,nd,o,s,v)] w fun e w'=>e= .returned (.tuple #[encO zeroO,eV ad 8])/\Below w.heap.size w w':=by
 have hrl:∀i,i<4->(R i).length<=1000:=fun i hi=>yh
 obtain ⟨S,hS⟩:=za w.heap.size
 obtain ⟨U,hU⟩:=za ((w.alloc (.cells #[.int .i64 0,.int .i64 0,.int .i64 0,.int .u8 (kd:Int),.int .i64 nd,.int .i64 o,.string s,.string v] 38)).alloc (.cells #[.int .i64 0,.int .i64 0,.int .i64 0,.int .u8 0,.int .i64 0,.int .i64 0,.string ⟨#[]⟩,.string ⟨#[]⟩] 38))
 have hbU:Below w.heap.size w U:=zG
 have O1:OpBlk U (S+1) zeroO:=by
  rw [hU,hS]
  have:=OpBlk.new (w.alloc (.cells #[.int .i64 0,.int .i64 0,.int .i64 0,.int .u8 (kd:Int),.int .i64 nd,.int .i64 o,.string s,.string v] 38)) zeroO
  rw [jI] at this
  exact this
 have hcU:RepCell U br T (i:Int) (kvs ao cap R) bt bx bc:=hc.same (hbU.block _ hc.lt)
 have hcount:=count_any U ao cap R hrl
 unfold kV at hcount
 have k2:U.cell? ⟨br,2,none⟩=some (.slice (ao 0) (R 0).length (cap 0)):=hcU.c2
 have k3:U.cell? ⟨br,3,none⟩=some (.slice (ao 1) (R 1).length (cap 1)):=hcU.c3
 have k4:U.cell? ⟨br,4,none⟩=some (.slice (ao 2) (R 2).length (cap 2)):=hcU.c4
 have k5:U.cell? ⟨br,5,none⟩=some (.slice (ao 3) (R 3).length (cap 3)):=hcU.c5
 have dn:decide ((400:Int)<=((allR R).length:Int))=false:=zk
 have dn':decide (400<=(allR R).length)=false:=zk
 have H0:Aside (RepCell U br T (i:Int) (kvs ao cap R) bt bx bc/\OpBlk U (S+1) zeroO/\Below w.heap.size w U/\S=w.heap.size/\EnvE B ad U):=⟨hcU,O1,hbU,hS,hE.later hbU⟩
 have HU:Aside (U=(w.alloc (.cells #[.int .i64 0,.int .i64 0,.int .i64 0,.int .u8 (kd:Int),.int .i64 nd,.int .i64 o,.string s,.string v] 38)).alloc (.cells #[.int .i64 0,.int .i64 0,.int .i64 0,.int .u8 0,.int .i64 0,.int .i64 0,.string ⟨#[]⟩,.string ⟨#[]⟩] 38)):=hU
 clear hU hcU O1 hbU hE hc hS
 unfold encO
 dsimp only
 go_enter func105,ntmps105
 go_upto_region 1 with fail
 rw [<-HU.o,<-H0.o.2.2.2.1]
 go_wp2_with fail
 refine hcount.mono ?_
 clear hcount k2 k3 k4 k5
 rintro e w1 ⟨rfl,hb1⟩
 have hc1:RepCell w1 br T (i:Int) (kvs ao cap R) bt bx bc:=H0.o.1.same (hb1.block _ H0.o.1.lt)
 have hnext:=cnext_full w1 br T (i:Int) _ (H0.o.2.2.2.2.later hb1).c7 hc1.c0 hc1.c1 hm
 clear hc1
 go_wp2_with fail
 refine hnext.mono ?_
 clear hnext
 rintro e w2 ⟨rfl,hb2⟩
 have hb12:Below U.heap.size U w2:=zh hb1 hb2
 have Z7:=H0.o.2.1.later hb12
 have hz7:=Z7.lt
 have B7:Aside (Below w.heap.size w w2/\S=w.heap.size):=⟨zh H0.o.2.2.1 hb12,H0.o.2.2.2.1⟩
 clear hb1 hb2 hb12
 obtain ⟨V,hV⟩:=zc (w2.alloc (.cells #[.int .i64 0,.int .i64 0] 36))
 have hbV:Below w2.heap.size w2 V:=by rw [hV.o];exact zg w2 _
 have ZV:=Z7.later hbV
 have hzV:=ZV.lt
 obtain ⟨z0,z1,z2,z3,z4,z5,z6,z7,zf⟩:=ZV.cells
 unfold zeroO at z0 z1 z2 z3 z4 z5 z6 z7
 dsimp only at z0 z1 z2 z3 z4 z5 z6 z7
 have BV:Aside (Below w.heap.size w V/\S=w.heap.size):=⟨zh B7.o.1 hbV,B7.o.2⟩
 clear hbV ZV Z7 B7
 go_upto_region 5 with fail
 rw [<-hV.o]
 go_wp2
 (try simp only [Exit.inBlock,Exit.then])
 refine bodyPost_ret (v:=.tuple #[encO zeroO,.iface 399 (.pointer (some (ad 7)))]) ?_ rfl ⟨rfl,?_⟩
 ·rw [results_ct rfl]
  unfold encO zeroO
  go_simp
 exact below_cells (b:=S+1) BV.o.1 (by have:=BV.o.2;omega) 0 [.int .i64 0,.int .i64 0,.int .i64 0,.int .u8 0,.int .i64 0,.int .i64 0,.string ⟨#[]⟩,.string ⟨#[]⟩]
theorem own_any {B:Nat} {ad:Nat->Addr} (w:World) (br:Nat) (T:Int) (i:Nat) (ao:Nat->Option Addr) (cap:Nat->Nat) (bt bx bc:Nat) (R:Rws) (kd:Nat) (nd o:Int) (s v:ByteArray) (hc:RepCell w br T (i:Int) (kvs ao cap R) bt bx bc) (hE:EnvE B ad w) (hi:i<4) (hT:0<=T) (hm:T<=1073741824) (hn:(allR R).length<=140) (hs1:s.size<=1000000) (hs2:v.size<=1000000):
  Calls prog 105 #[.pointer (some ⟨br,0,none⟩),encO (0,0,0,kd,nd,o,s,v)] w (OwnOut ad w (ownX T i (R i).length kd nd o s v)):=by
 by_cases hm2:T<1073741824
 ·refine (own_lt w br T i ao cap bt bx bc R kd nd o s v hc hE hi hT hm2 hn hs1 hs2).mono ?_
  rintro e w' ⟨he,hb⟩
  exact ⟨by rw [errF_own hm2];exact he,hb⟩
 refine (own_full w br T i ao cap bt bx bc R kd nd o s v hc hE hi zi hn).mono ?_
 rintro e w' ⟨he,hb⟩
 have e8:errF (ownX T i (R i).length kd nd o s v)=8:=if_pos (by show 1073741824<T+1;omega)
 exact ⟨by rw [e8];exact he,hb⟩
end
section
open Go.RowKit Go.Lib Go.Sort Go.Maps
def MadeOut (ad:Nat->Addr) (w:World) (ok:Prop) (x:OpX) (e:Ending) (w':World):Prop:=(ok/\OwnOut ad w x e w')\/(¬ok/\e= .returned (.tuple #[encO zeroO,eV ad 6])/\Below w.heap.size w w')
theorem make_any {B:Nat} {ad:Nat->Addr} (w:World) (c:Nat->Nat) (br:Nat) (T:Int) (i:Nat) (ao:Nat->Option Addr) (cap:Nat->Nat) (bt bx bc:Nat) (R:Rws) (into:Int) (name:ByteArray) (hc:RepCell w br T (i:Int) (kvs ao cap R) bt bx bc) (hrows:RowsAt w c (kvs ao cap R) R) (hR:RowsK R) (hE:EnvE B ad w) (hi:i<4) (hT:0<=T) (hm:T<=1073741824) (hn:(allR R).length<=140) (hs1:name.size<=1000000) (h2: -9223372036854775808<=into) (h3:into<=9223372036854775807):
  Calls prog 43 #[.pointer (some ⟨br,0,none⟩),.int .i64 into,.string name] w (MadeOut ad w (into=0\/into=1\/KnownN (allR R) into) (ownX T i (R i).length 109 0 into name ⟨#[]⟩)):=by
 have hrl:∀i,i<4->(R i).length<=1000:=fun i hi=>yh
 obtain ⟨S,hS⟩:=za w.heap.size
 obtain ⟨U,hU⟩:=za (w.alloc (.cells #[.int .i64 0,.int .i64 0,.int .i64 0,.int .u8 0,.int .i64 0,.int .i64 0,.string ⟨#[]⟩,.string ⟨#[]⟩] 38))
 have hbU:Below w.heap.size w U:=zJ
 have Z0:OpBlk U S zeroO:=yj
 have hcU:RepCell U br T (i:Int) (kvs ao cap R) bt bx bc:=hc.same (hbU.block _ hc.lt)
 obtain ⟨zb,hzb⟩:∃zb:Bool,zb=true↔(into=0\/into=1\/KnownN (allR R) into):=⟨@decide _ (Classical.propDecidable _),@decide_eq_true_iff _ (Classical.propDecidable _)⟩
 have hplace:=isPlace_any U ao cap R into zb hzb ((hE.later hbU).op4) ((KnownAt.of_rows hrows).later hbU) hR.toN hrl h2 h3
 unfold kV at hplace
 have k2:U.cell? ⟨br,2,none⟩=some (.slice (ao 0) (R 0).length (cap 0)):=hcU.c2
 have k3:U.cell? ⟨br,3,none⟩=some (.slice (ao 1) (R 1).length (cap 1)):=hcU.c3
 have k4:U.cell? ⟨br,4,none⟩=some (.slice (ao 2) (R 2).length (cap 2)):=hcU.c4
 have k5:U.cell? ⟨br,5,none⟩=some (.slice (ao 3) (R 3).length (cap 3)):=hcU.c5
 have H0:Aside (RepCell U br T (i:Int) (kvs ao cap R) bt bx bc/\OpBlk U S zeroO/\Below w.heap.size w U/\S=w.heap.size/\EnvE B ad U/\B<=w.heap.size/\(zb=true↔(into=0\/into=1\/KnownN (allR R) into))):=⟨hcU,Z0,hbU,hS,hE.later hbU,hE.size,hzb⟩
 have HU:Aside (U=w.alloc (.cells #[.int .i64 0,.int .i64 0,.int .i64 0,.int .u8 0,.int .i64 0,.int .i64 0,.string ⟨#[]⟩,.string ⟨#[]⟩] 38)):=hU
 clear hU hcU Z0 hbU hE hc hS hzb hrows hR
 go_enter func43,ntmps43
 go_upto_region 1 with fail
 rw [<-HU.o,<-H0.o.2.2.2.1]
 go_wp2_with fail
 refine hplace.mono ?_
 clear hplace k2 k3 k4 k5
 rintro e w1 ⟨rfl,hb1⟩
 have Z1:=H0.o.2.1.later hb1
 have H1:Aside (OpBlk w1 S zeroO/\Below w.heap.size w w1/\EnvE B ad w1/\RepCell w1 br T (i:Int) (kvs ao cap R) bt bx bc):=⟨Z1,zh H0.o.2.2.1 hb1,H0.o.2.2.2.2.1.later hb1,H0.o.1.same (hb1.block _ H0.o.1.lt)⟩
 clear hb1 Z1
 cases zb with
 | false=>
  have hno:¬(into=0\/into=1\/KnownN (allR R) into):=fun q=>ja
  obtain ⟨z0,z1,z2,z3,z4,z5,z6,z7,zf⟩:=H1.o.1.cells
  unfold zeroO at z0 z1 z2 z3 z4 z5 z6 z7
  dsimp only at z0 z1 z2 z3 z4 z5 z6 z7
  have eg:=H1.o.2.2.1.c5
  have hlo:=H1.o.2.2.1.low
  have hSw:=H0.o.2.2.2.1
  have hBw:=H0.o.2.2.2.2.2.1
  have n1:0≠S:=zi
  have n2:S≠0:=zi
  have HNO:=Lib.hid hno
  clear hlo hSw hBw hno
  go_wp2_with fail
  go_region
  all_goals
   go_wp2
   (try simp only [Exit.inBlock,Exit.then])
   refine bodyPost_ret (v:=.tuple #[encO zeroO,eV ad 6]) ?_ rfl (.inr ⟨HNO.o,rfl,?_⟩)
   ·rw [results_ct rfl]
    unfold encO zeroO eV
    go_simp
   exact (below_cells (b:=S) H1.o.2.1 zF 0 [.int .i64 0,.int .i64 0,.int .i64 0,.int .u8 0,.int .i64 0,.int .i64 0,.string ⟨#[]⟩,.string ⟨#[]⟩]).drew
 | true=>
  have HOK:Aside (into=0\/into=1\/KnownN (allR R) into):=H0.o.2.2.2.2.2.2.1 rfl
  have hown:=own_any w1 br T i ao cap bt bx bc R 109 0 into name ⟨#[]⟩ H1.o.2.2.2 H1.o.2.2.1 hi hT hm hn hs1 zo
  unfold encO at hown
  dsimp only at hown
  go_wp2_with fail
  refine hown.mono ?_
  clear hown
  rintro e w2 ⟨he,hb2⟩
  obtain ⟨y,hy⟩:=za ((if errF (ownX T i (R i).length 109 0 into name ⟨#[]⟩)=0 then ownX T i (R i).length 109 0 into name ⟨#[]⟩ else zeroO))
  obtain ⟨er,her⟩:=za (eV ad (errF (ownX T i (R i).length 109 0 into name ⟨#[]⟩)))
  rw [<-hy,<-her] at he
  subst he
  have HY:Aside (y=(if errF (ownX T i (R i).length 109 0 into name ⟨#[]⟩)=0 then ownX T i (R i).length 109 0 into name ⟨#[]⟩ else zeroO)/\er=eV ad (errF (ownX T i (R i).length 109 0 into name ⟨#[]⟩))):=⟨hy,her⟩
  clear hy her
  obtain ⟨t,b,n,kd,nd,o,s,v⟩:=y
  unfold encO
  dsimp only
  have Z2:=H1.o.1.later hb2
  obtain ⟨z0,z1,z2,z3,z4,z5,z6,z7,zf⟩:=Z2.cells
  unfold zeroO at z0 z1 z2 z3 z4 z5 z6 z7
  dsimp only at z0 z1 z2 z3 z4 z5 z6 z7
  have B2:Aside (Below w.heap.size w w2):=zh H1.o.2.1 hb2
  clear hb2 Z2
  go_wp2
  (try simp only [Exit.inBlock,Exit.then])
  refine bodyPost_ret (v:=.tuple #[.agg #[.int .i64 t,.int .i64 b,.int .i64 n,.int .u8 (kd:Int),.int .i64 nd,.int .i64 o,.string s,.string v],er]) ?_ rfl (.inl ⟨HOK.o,⟨by rw [<-HY.o.1,<-HY.o.2];rfl,?_⟩⟩)
  ·rw [results_ct rfl]
   go_simp
  exact below_cells (b:=S) B2.o zF 0 [.int .i64 t,.int .i64 b,.int .i64 n,.int .u8 (kd:Int),.int .i64 nd,.int .i64 o,.string s,.string v]
end
section
open Go.RowKit Go.Lib Go.Sort Go.Maps
theorem letter_any (w:World) (c:Nat->Nat) (br:Nat) (T by_:Int) (kv:Nat->Value) (bt bx bc:Nat) (A:List OpX) (nd n:Int) (hc:RepCell w br T by_ kv bt bx bc) (ht:TextC w c bx A) (hlen:A.length<=1000) (h2: -2^63<=nd) (h3:nd<2^63) (hn: -9223372036854775808<=n/\n<=9223372036854775807):
  Calls prog 133 #[.pointer (some ⟨br,0,none⟩),.int .i64 nd,.int .i64 n] w fun e w'=>∃a:Int×Bool,e= .returned (.tuple #[.int .i64 a.1,.bool a.2])/\(¬KnownN A nd->a=(0,false))/\(KnownN A nd->∃L,LineIs A nd L/\a=atL n L)/\Below w.heap.size w w':=by
 obtain ⟨nx,tx,t1,t2,t3,t4,t5⟩:=ht
 have k7:=hc.c7
 have lk:=t2.look (wf_of h2 h3)
 cases hp:tx nd with
 | none=>
  rw [hp] at lk
  unfold encT_ at lk
  simp only [Option.map_none,Option.isSome_none] at lk
  have HN:Aside (¬KnownN A nd):=fun q=>by have:=(t4 nd).2 q;rw [hp] at this;cases this
  clear t1 t2 t3 t4 t5 hp
  go_enter func133,ntmps133
  go_wp2
  go_ret2
  exact ⟨(0,false),rfl,fun _=>rfl,fun q=>absurd q HN.o,jo _ w⟩
 | some p=>
  rw [hp] at lk
  unfold encT_ at lk
  simp only [ut,Option.isSome_some] at lk
  obtain ⟨v,L,l1,l2,l3,l4⟩:=t5 nd p hp
  have hcall:=at_any w (p+1) p v L n l1 (jw l2.len hlen) hn
  have HK:Aside (KnownN A nd/\LineIs A nd L):=⟨(t4 nd).1 xJ,l2⟩
  clear t1 t2 t3 t4 t5 hp l1 l2 l3 l4
  go_enter func133,ntmps133
  go_wp2_with fail
  refine hcall.mono ?_
  clear hcall
  rintro e w' ⟨rfl,hb⟩
  have HB:Aside (Below w.heap.size w w'):=hb
  clear hb
  go_wp2
  go_ret2
  exact ⟨atL n L,rfl,fun q=>absurd HK.o.1 q,fun _=>⟨L,HK.o.2,rfl⟩,HB.o⟩
end
section
open Go.RowKit Go.Lib Go.Sort Go.Maps
open scoped Classical
structure StSt (w:World) (S:Nat) (W1:World) (v0:Value) (ls:List (List UInt8)) (v:Value) (wr:World):Prop where
 st:TellSt S ls v wr
 below:Below S w wr
 keeps:Keeps (fun k=>k=S\/v0.ownBlock=some k) W1 wr
 own:∀k,v.ownBlock=some k->v0.ownBlock=some k\/W1.heap.size<=k
theorem StSt.start (h:TellSt S ls v W) (hb:Below S w W):StSt w S W v ls v W:=⟨h,hb,Keeps.refl _ _,fun k hk=>.inl hk⟩
theorem StSt.later {w W1 wr w':World} {S:Nat} {ls:List (List UInt8)} {v0 v:Value} (h:StSt w S W1 v0 ls v wr) (hb:Below wr.heap.size wr w'):StSt w S W1 v0 ls v w':=
 ⟨h.st.later hb,h.below.trans (hb.mono (Nat.le_of_lt h.st.lt)),h.keeps.trans ((keeps_of_below hb).mono (fun k hk e=>absurd hk zi)),h.own⟩
theorem StSt.kept (h:StSt w S W1 v0 ls v wr) {g:Nat} (hg:g<W1.heap.size) (h1:g≠S) (h2:v0.ownBlock≠some g):wr.heap[g]? =W1.heap[g]? :=h.keeps.block g hg (fun e=>e.elim h1 h2)
end
section
open Go.RowKit Go.Lib Go.Sort Go.Maps
open scoped Classical
end
section
open Go.RowKit Go.Lib Go.Sort Go.Maps
theorem below_drewN (h:Below B w w') (q:Nat):Below B w (w'.drewN q):=⟨h.os,h.tape,h.output,h.size,h.block⟩
def stX (x:OpX):Int×Int:=(x.1,x.2.1)
def movX (x:OpX):Mov:=(stX x,(x.2.2.2.2.1,x.2.2.2.2.2.1,x.2.2.2.2.2.2.1))
theorem row_some {base n k:Nat} {e:TypeId} {xs:List Value} (h:w.ownsRow base e k (.slice ao n cap) n xs) (hn:0<n):∃g,ao=some ⟨g,0,none⟩:=by
 rcases h.2 with ⟨h1,h2⟩ | ⟨g,cap',cur,h1,_⟩
 ·omega
 cases h1;exact ⟨g,rfl⟩
theorem PlsAt.three {qs:List Plc} (h:PlsAt w (.slice ao qs.length cap) qs) {c q:Int} {nm:ByteArray} (hi:qs[i]? =some (c,q,nm)):∃g,ao=some ⟨g,0,none⟩/\w.cell? ⟨g,i*3,none⟩=some (.int .i64 c)/\w.cell? ⟨g,i*3+1,none⟩=some (.int .i64 q)/\w.cell? ⟨g,i*3+2,none⟩=some (.string nm):=by
 rcases h with ⟨_,rfl⟩ | ⟨g,cap',he,_,hc⟩
 ·simp at hi
 cases he
 have hg:=fun k hk=>flat_get (enc:=cellsP) (k:=3) (fun _=>rfl) (c:=k) hi hk
 exact ⟨g,rfl,hc _ _ (hg 0 zi),hc _ _ (hg 1 zi),hc _ _ (hg 2 zi)⟩
