import Derived.Test.YtfkekfibjnjcnaaGreatDoorMZ20
set_option linter.unusedSimpArgs false
set_option linter.unusedVariables false
set_option maxRecDepth 100000
set_option maxHeartbeats 64000000
namespace Go.Proofs.YtfkekfibjnjcnaaGreatDoor
open Go.Proofs.Tryz
variable {T:Int} {i:Nat} {w:World}
section
open Go.RowKit Go.Lib Go.Sort
theorem below_but {W w':World} {pb:Nat} (h:Below w.heap.size w W) (hp:w.heap.size<=pb) (hb:But pb W w'):Below w.heap.size w w':=
 h.trans ⟨hb.os,hb.tape,hb.output,hb.size,fun k hk=>hb.block k (vJ hk h.size) zj⟩
theorem cnext_ok (w:World) (pb:Nat) (T by_:Int) (h0:w.cell? ⟨pb,0,none⟩=some (.int .i64 T)) (h1:w.cell? ⟨pb,1,none⟩=some (.int .i64 by_)) (hT:0<=T) (hm:T<1073741824):
  Calls prog 196 #[.pointer (some ⟨pb,0,none⟩)] w fun e w'=>e= .returned (.tuple #[.agg #[.int .i64 (T+1),.int .i64 by_],.nilIface])/\Below w.heap.size w w':=by
 have hpl:pb<w.heap.size:=vp w ⟨pb,0,none⟩ h0
 obtain ⟨S,hS⟩:=za w.heap.size
 obtain ⟨U,hU⟩:=za ((w.alloc (.cells #[.int .i64 0,.int .i64 0] 39)).alloc (.cells #[.int .i64 T,.int .i64 by_] 70))
 have hbU:Below w.heap.size w U:=zI
 have hu1:U.heap[S+1]? =some (.cells #[.int .i64 T,.int .i64 by_] 70 (0,0)):=by
  rw [hU,hS]
  have:=heap_alloc_new (w.alloc (.cells #[.int .i64 0,.int .i64 0] 39)) (.cells #[.int .i64 T,.int .i64 by_] 70)
  rw [vQ] at this
  exact this
 have hu0:U.heap[S]? =some (.cells #[.int .i64 0,.int .i64 0] 39 (0,0)):=by
  rw [hU,hS,vy _ _ _ zm]
  exact heap_alloc_new w _
 have hclk:Clk (S+1) T by_ U:=⟨qS,qS,by simp [World.frozen?,hu1]⟩
 have hcall:=tick_ok (S+1) T by_ U hclk hT hm
 have HB:Aside (Below w.heap.size w U/\S=w.heap.size/\U.heap[S]? =some (.cells #[.int .i64 0,.int .i64 0] 39 (0,0))):=⟨hbU,hS,hu0⟩
 have HU:Aside (U=(w.alloc (.cells #[.int .i64 0,.int .i64 0] 39)).alloc (.cells #[.int .i64 T,.int .i64 by_] 70)):=hU
 clear hU hbU hu1 hu0 hclk
 go_enter func196,ntmps196
 go_wp2_with fail
 rw [<-HU.o,<-HB.o.2.1]
 clear hS
 refine hcall.mono ?_
 clear hcall
 rintro e w1 ⟨rfl,hbut,-⟩
 have hS1:w1.heap[S]? =some (.cells #[.int .i64 0,.int .i64 0] 39 (0,0)):=(hbut.block S (vn.1 HB.o.2.2).1 zj).trans HB.o.2.2
 have y0:w1.cell? ⟨S,0,none⟩=some (.int .i64 0):=qR
 have y1:w1.cell? ⟨S,1,none⟩=some (.int .i64 0):=qR
 have yf:∀o,w1.frozen? ⟨S,o,none⟩=false:=fun o=>by simp [World.frozen?,hS1]
 have B1:Aside (Below w.heap.size w w1):=below_but HB.o.1 xV hbut
 clear hbut hS1
 go_wp2
 (try simp only [Exit.inBlock,Exit.then])
 refine bodyPost_ret (v:=.tuple #[.agg #[.int .i64 (T+1),.int .i64 by_],.nilIface]) ?_ rfl ⟨rfl,?_⟩
 ·rw [results_ct rfl]
  go_simp
 exact below_cells (b:=S) B1.o xV 0 [.int .i64 (T+1),.int .i64 by_]
theorem opid_at (x:OpX) (w:World) (h1:1<=x.1) (h2:x.1<=1073741824) (h3:0<=byO x) (h4:byO x<4):Calls prog 131 #[encO x] w fun e w'=>e= .returned (.int .i64 (idO x))/\Below w.heap.size w w':=by
 obtain ⟨t,b,n,k,nd,o,s,v⟩:=x
 unfold encO idO
 dsimp only at*
 go_enter func131,ntmps131
 go_wp2_with (go_at_call 174;refine (id_ok t b _ h1 h2 h3 h4).mono ?_;rintro e w1 ⟨rfl,hb⟩;have B1:Aside (Below w.heap.size w w1):=(zh w _).trans (hb.mono zm);clear hb)
 go_ret
 exact ⟨rfl,B1.o⟩
theorem RepCell.row {br:Nat} {by_:Int} {kv:Nat->Value} {bt bx bc:Nat} (h:RepCell w br T by_ kv bt bx bc) (hi:i<4):w.cell? ⟨br,2+i,none⟩=some (kv i):=by
 have h4:i=0\/i=1\/i=2\/i=3:=zj
 rcases h4 with rfl | rfl | rfl | rfl
 ·exact h.c2
 ·exact h.c3
 ·exact h.c4
 exact h.c5
def ownX (T:Int) (i m:Nat) (kd:Nat) (nd o:Int) (s v:ByteArray):OpX:=(T+1,(i:Int),(m:Int)+1,kd,if nd=0 then (T+1)*4+(i:Int) else nd,o,s,v)
def OwnOut0 (ad:Nat->Addr) (w:World) (x:OpX) (e:Ending) (w':World):Prop:=e= .returned (.tuple #[encO (if errO x=0 then x else zeroO),eV ad (errO x)])/\Below w.heap.size w w'
def errF (x:OpX):Nat:=if 1073741824<x.1 then 8 else errO x
theorem errF_lt {x:OpX} (h:x.1<=1073741824):errF x=errO x:=if_neg zj
theorem errF_own {m kd:Nat} {nd o:Int} {s v:ByteArray} (h:T<1073741824):errF (ownX T i m kd nd o s v)=errO (ownX T i m kd nd o s v):=errF_lt (by show T+1<=1073741824;omega)
def OwnOut (ad:Nat->Addr) (w:World) (x:OpX) (e:Ending) (w':World):Prop:=e= .returned (.tuple #[encO (if errF x=0 then x else zeroO),eV ad (errF x)])/\Below w.heap.size w w'
theorem own_lt {B:Nat} {ad:Nat->Addr} (w:World) (br:Nat) (T:Int) (i:Nat) (ao:Nat->Option Addr) (cap:Nat->Nat) (bt bx bc:Nat) (R:Rws) (kd:Nat) (nd o:Int) (s v:ByteArray) (hc:RepCell w br T (i:Int) (kvs ao cap R) bt bx bc) (hE:EnvE B ad w) (hi:i<4) (hT:0<=T) (hm:T<1073741824) (hn:(allR R).length<=140) (hs1:s.size<=1000000) (hs2:v.size<=1000000):
  Calls prog 140 #[.pointer (some ⟨br,0,none⟩),encO (0,0,0,kd,nd,o,s,v)] w (OwnOut0 ad w (ownX T i (R i).length kd nd o s v)):=by
 have hrl:∀i,i<4->(R i).length<=1000:=fun i hi=>yC
 have hri:=hrl i hi
 obtain ⟨S,hS⟩:=za w.heap.size
 obtain ⟨U,hU⟩:=za ((w.alloc (.cells #[.int .i64 0,.int .i64 0,.int .i64 0,.int .u8 (kd:Int),.int .i64 nd,.int .i64 o,.string s,.string v] 41)).alloc (.cells #[.int .i64 0,.int .i64 0,.int .i64 0,.int .u8 0,.int .i64 0,.int .i64 0,.string ⟨#[]⟩,.string ⟨#[]⟩] 41))
 have hbU:Below w.heap.size w U:=zI
 have O0:OpBlk U S (0,0,0,kd,nd,o,s,v):=by rw [hU,hS];exact (vy _ _ _ zm).trans (OpBlk.new w (0,0,0,kd,nd,o,s,v))
 have O1:OpBlk U (S+1) zeroO:=by
  rw [hU,hS]
  have:=OpBlk.new (w.alloc (.cells #[.int .i64 0,.int .i64 0,.int .i64 0,.int .u8 (kd:Int),.int .i64 nd,.int .i64 o,.string s,.string v] 41)) zeroO
  rw [vQ] at this
  exact this
 have hcU:RepCell U br T (i:Int) (kvs ao cap R) bt bx bc:=hc.same (hbU.block _ hc.lt)
 have hbr:br<S:=by rw [hS];exact hc.lt
 have hcount:=count_any U ao cap R hrl
 unfold kV at hcount
 have k2:U.cell? ⟨br,2,none⟩=some (.slice (ao 0) (R 0).length (cap 0)):=hcU.c2
 have k3:U.cell? ⟨br,3,none⟩=some (.slice (ao 1) (R 1).length (cap 1)):=hcU.c3
 have k4:U.cell? ⟨br,4,none⟩=some (.slice (ao 2) (R 2).length (cap 2)):=hcU.c4
 have k5:U.cell? ⟨br,5,none⟩=some (.slice (ao 3) (R 3).length (cap 3)):=hcU.c5
 have dn:decide ((400:Int)<=((allR R).length:Int))=false:=zl
 have dn':decide (400<=(allR R).length)=false:=zl
 have H0:Aside (RepCell U br T (i:Int) (kvs ao cap R) bt bx bc/\OpBlk U S (0,0,0,kd,nd,o,s,v)/\OpBlk U (S+1) zeroO/\Below w.heap.size w U/\S=w.heap.size/\EnvE B ad U):=⟨hcU,O0,O1,hbU,hS,hE.later hbU⟩
 have HU:Aside (U=(w.alloc (.cells #[.int .i64 0,.int .i64 0,.int .i64 0,.int .u8 (kd:Int),.int .i64 nd,.int .i64 o,.string s,.string v] 41)).alloc (.cells #[.int .i64 0,.int .i64 0,.int .i64 0,.int .u8 0,.int .i64 0,.int .i64 0,.string ⟨#[]⟩,.string ⟨#[]⟩] 41)):=hU
 have hEw:=hE.size
 clear hU hcU O0 O1 hbU hE hc hS
 unfold encO
 dsimp only
 go_enter func140,ntmps140
 go_upto_region 1 with fail
 rw [<-HU.o,<-H0.o.2.2.2.2.1]
 go_wp2_with fail
 refine hcount.mono ?_
 clear hcount k2 k3 k4 k5
 rintro e w1 ⟨rfl,hb1⟩
 have hc1:RepCell w1 br T (i:Int) (kvs ao cap R) bt bx bc:=H0.o.1.same (hb1.block _ H0.o.1.lt)
 have hnext:=cnext_ok w1 br T (i:Int) hc1.c0 hc1.c1 hT hm
 clear hc1
 go_wp2_with fail
 refine hnext.mono ?_
 clear hnext
 rintro e w2 ⟨rfl,hb2⟩
 obtain ⟨Q,hQ⟩:=za w2.heap.size
 obtain ⟨V,hV⟩:=za (w2.alloc (.cells #[.int .i64 (T+1),.int .i64 (i:Int)] 39))
 have hbV:Below w2.heap.size w2 V:=by rw [hV];exact zh w2 _
 have hbUV:Below U.heap.size U V:=hb1.trans ((hb2.mono hb1.size).trans (hbV.mono (vr hb1.size hb2.size)))
 have hst:V.heap[Q]? =some (.cells #[.int .i64 (T+1),.int .i64 (i:Int)] 39 (0,0)):=by rw [hV,hQ];exact heap_alloc_new w2 _
 have hSQ:S+1<Q:=by have:=H0.o.2.2.1.lt;have:=hb1.size;have:=hb2.size;omega
 have H1:Aside (RepCell V br T (i:Int) (kvs ao cap R) bt bx bc/\OpBlk V S (0,0,0,kd,nd,o,s,v)/\OpBlk V (S+1) zeroO/\Below U.heap.size U V/\EnvE B ad V):=⟨H0.o.1.same (hbUV.block _ H0.o.1.lt),H0.o.2.1.later hbUV,H0.o.2.2.1.later hbUV,hbUV,H0.o.2.2.2.2.2.later hbUV⟩
 have HV:Aside (V=w2.alloc (.cells #[.int .i64 (T+1),.int .i64 (i:Int)] 39)/\Q=w2.heap.size):=⟨hV,hQ⟩
 have s0:V.cell? ⟨Q,0,none⟩=some (.int .i64 (T+1)):=by simp [World.cell?,hst]
 have s1:V.cell? ⟨Q,1,none⟩=some (.int .i64 (i:Int)):=by simp [World.cell?,hst]
 have kb:V.cell? ⟨br,2+i,none⟩=some (.slice (ao i) (R i).length (cap i)):=H1.o.1.row hi
 obtain ⟨y0,y1,y2,y3,y4,y5,y6,y7,f8⟩:=H1.o.2.1.cells
 dsimp only at y0 y1 y2 y3 y4 y5 y6 y7
 have wi:((i:Int)).toNat=i:=zj
 have pi:(0:Int)<=(i:Int):=zj
 have bi:(i:Int)<4:=zj
 have n1:S≠Q:=zj
 have n2:Q≠S:=zj
 have n3:S≠br:=zj
 have n4:br≠S:=zj
 clear hbV hbUV hst hb1 hb2 hV hQ
 go_upto_region 6 with fail
 rw [<-HV.o.1,<-HV.o.2]
 go_region
 obtain ⟨w5,hw5⟩:=za ((((V.setCell ⟨S,0,none⟩ (.int .i64 (T+1))).setCell ⟨S,1,none⟩ (.int .i64 (i:Int))).setCell ⟨S,2,none⟩ (.int .i64 (((R i).length:Int)+1))).drew)
 have hk5:Keeps (fun k=>k=S) V w5:=by rw [hw5];exact (setCells_keeps S [.int .i64 (T+1),.int .i64 (i:Int),.int .i64 (((R i).length:Int)+1)] 0 V).drew
 have O5:OpBlk w5 S (T+1,(i:Int),((R i).length:Int)+1,kd,nd,o,s,v):=by
  have hh:=setCells_heap S [.int .i64 (T+1),.int .i64 (i:Int),.int .i64 (((R i).length:Int)+1)] 0 V _ _ H1.o.2.1
  unfold OpBlk
  rw [hw5]
  refine Eq.trans hh ?_
  simp [over]
 have Z5:OpBlk w5 (S+1) zeroO:=(hk5.block (S+1) H1.o.2.2.1.lt zj).trans H1.o.2.2.1
 have B5:Below w.heap.size w w5:=(zi H0.o.2.2.2.1 H1.o.2.2.2.1).trans (hk5.below (vr H0.o.2.2.2.1.size H1.o.2.2.2.1.size) (fun k e=>by have:=H0.o.2.2.2.2.1;omega))
 have OX:Aside (OpBlk w5 S (T+1,(i:Int),((R i).length:Int)+1,kd,nd,o,s,v)/\OpBlk w5 (S+1) zeroO/\Below w.heap.size w w5):=⟨O5,Z5,B5⟩
 have EX:Aside (EnvE B ad w5):=H1.o.2.2.2.2.mono (hk5.below H1.o.2.2.2.2.size (fun k e=>by have:=H0.o.2.2.2.2.1;have:=H0.o.2.2.2.2.2.size;have:=H0.o.2.2.2.2.1;have hBw:=hEw;omega))
 rw [<-hw5]
 clear hw5 hk5 O5 Z5 B5 s0 s1 kb y0 y1 y2 y3 y4 y5 y6 y7 f8
 by_cases hnd:nd=0
 ·have hid:=opid_at (T+1,(i:Int),((R i).length:Int)+1,kd,nd,o,s,v) w5 (by show 1<=T+1;omega) (by show T+1<=1073741824;omega) (by show (0:Int)<=(i:Int);omega) (by show (i:Int)<4;omega)
  have eid:idO (T+1,(i:Int),((R i).length:Int)+1,kd,nd,o,s,v)=(T+1)*4+(i:Int):=rfl
  rw [eid] at hid
  have hown:ownX T i (R i).length kd nd o s v=(T+1,(i:Int),((R i).length:Int)+1,kd,(T+1)*4+(i:Int),o,s,v):=by unfold ownX;rw [if_pos hnd]
  have HOW:=Lib.hid hown
  unfold encO at hid
  dsimp only at hid
  obtain ⟨y0,y1,y2,y3,y4,y5,y6,y7,f8⟩:=OX.o.1.cells
  dsimp only at y0 y1 y2 y3 y4 y5 y6 y7
  have HND:=Lib.hid hnd
  have dnd:(nd==0)=true:=by simp [hnd]
  clear hnd hown eid
  go_wp2_with fail
  refine hid.mono ?_
  clear hid y0 y1 y2 y3 y4 y5 y6 y7 f8
  rintro e w5' ⟨rfl,hb5⟩
  have O5:=OX.o.1.later hb5
  have Z5:=OX.o.2.1.later hb5
  obtain ⟨w6,hw6⟩:=za (w5'.setCell ⟨S,4,none⟩ (.int .i64 ((T+1)*4+(i:Int))))
  have hk6:Keeps (fun k=>k=S) w5' w6:=by rw [hw6];exact setCells_keeps S [.int .i64 ((T+1)*4+(i:Int))] 4 w5'
  have hS0:=H0.o.2.2.2.2.1
  have O6:OpBlk w6 S (T+1,(i:Int),((R i).length:Int)+1,kd,(T+1)*4+(i:Int),o,s,v):=by
   have hh:=setCells_heap S [.int .i64 ((T+1)*4+(i:Int))] 4 w5' _ _ O5
   unfold OpBlk
   rw [hw6]
   refine Eq.trans hh ?_
   simp [over]
  have B5':Below w.heap.size w w5':=zi OX.o.2.2 hb5
  have OX6:Aside (OpBlk w6 S (T+1,(i:Int),((R i).length:Int)+1,kd,(T+1)*4+(i:Int),o,s,v)/\OpBlk w6 (S+1) zeroO/\Below w.heap.size w w6):=⟨O6,(hk6.block (S+1) Z5.lt zj).trans Z5,B5'.trans (hk6.below B5'.size (fun k e=>zj))⟩
  have EX6:Aside (EnvE B ad w6):=(EX.o.later hb5).mono (hk6.below (EX.o.later hb5).size (fun k e=>zj))
  obtain ⟨y0,y1,y2,y3,y4,y5,y6,y7,f8⟩:=O5.cells
  dsimp only at y0 y1 y2 y3 y4 y5 y6 y7
  have HW6:=Lib.hid hw6
  clear hw6 hk6 hS0 O6 B5' O5 Z5 hb5
  go_upto_region 9 with fail
  rw [<-HW6.o]
  have hown:=HOW.o
  clear y0 y1 y2 y3 y4 y5 y6 y7 f8
  have hchk:=opcheck_any (T+1) (i:Int) (((R i).length:Int)+1) kd ((T+1)*4+(i:Int)) o s v w6 (EX6.o.op4) hs1 hs2
  obtain ⟨y0,y1,y2,y3,y4,y5,y6,y7,f8⟩:=OX6.o.1.cells
  dsimp only at y0 y1 y2 y3 y4 y5 y6 y7
  have hlz:=OX6.o.2.1.lt
  cases herr:opE (T+1) (i:Int) (((R i).length:Int)+1) kd ((T+1)*4+(i:Int)) o s.data.toList v.data.toList with
  | zero=>
   rw [herr] at hchk
   have hev:eV ad 0= .nilIface:=rfl
   rw [hev] at hchk
   have HR:Aside (errO (ownX T i (R i).length kd nd o s v)=0/\ownX T i (R i).length kd nd o s v=(T+1,(i:Int),((R i).length:Int)+1,kd,(T+1)*4+(i:Int),o,s,v)):=⟨by rw [hown];exact herr,hown⟩
   clear herr hev hown
   go_wp2_with fail
   refine hchk.mono ?_
   clear hchk y0 y1 y2 y3 y4 y5 y6 y7 f8
   rintro e w7 ⟨rfl,hb7⟩
   have O7:=OX6.o.1.later hb7
   have Z7:=OX6.o.2.1.later hb7
   have hz7:=Z7.lt
   obtain ⟨y0,y1,y2,y3,y4,y5,y6,y7,f8⟩:=O7.cells
   dsimp only at y0 y1 y2 y3 y4 y5 y6 y7
   obtain ⟨z0,z1,z2,z3,z4,z5,z6,z7,zf⟩:=Z7.cells
   unfold zeroO at z0 z1 z2 z3 z4 z5 z6 z7
   dsimp only at z0 z1 z2 z3 z4 z5 z6 z7
   have B7:Aside (Below w.heap.size w w7/\S=w.heap.size):=⟨zi OX6.o.2.2 hb7,H0.o.2.2.2.2.1⟩
   clear hb7 O7 Z7
   go_wp2
   (try simp only [Exit.inBlock,Exit.then])
   refine bodyPost_ret (v:=.tuple #[.agg #[.int .i64 (T+1),.int .i64 (i:Int),.int .i64 (((R i).length:Int)+1),.int .u8 (kd:Int),.int .i64 ((T+1)*4+(i:Int)),.int .i64 o,.string s,.string v],.nilIface]) ?_ rfl ⟨by rw [HR.o.1,if_pos rfl,HR.o.2];rfl,?_⟩
   ·rw [results_ct rfl]
    go_simp
   exact below_cells (b:=S+1) B7.o.1 qN 0 [.int .i64 (T+1),.int .i64 (i:Int),.int .i64 (((R i).length:Int)+1),.int .u8 (kd:Int),.int .i64 ((T+1)*4+(i:Int)),.int .i64 o,.string s,.string v]
  | succ cd=>
   rw [herr] at hchk
   have hev:eV ad (cd+1)= .iface 350 (.pointer (some (ad cd))):=rfl
   rw [hev] at hchk
   have HR:Aside (errO (ownX T i (R i).length kd nd o s v)=cd+1):=by show errO _=_;rw [hown];exact herr
   clear herr hev hown
   go_wp2_with fail
   refine hchk.mono ?_
   clear hchk y0 y1 y2 y3 y4 y5 y6 y7 f8
   rintro e w7 ⟨rfl,hb7⟩
   have Z7:=OX6.o.2.1.later hb7
   have hz7:=Z7.lt
   obtain ⟨z0,z1,z2,z3,z4,z5,z6,z7,zf⟩:=Z7.cells
   unfold zeroO at z0 z1 z2 z3 z4 z5 z6 z7
   dsimp only at z0 z1 z2 z3 z4 z5 z6 z7
   have B7:Aside (Below w.heap.size w w7/\S=w.heap.size):=⟨zi OX6.o.2.2 hb7,H0.o.2.2.2.2.1⟩
   clear hb7 Z7
   go_wp2
   (try simp only [Exit.inBlock,Exit.then])
   refine bodyPost_ret (v:=.tuple #[encO zeroO,.iface 350 (.pointer (some (ad cd)))]) ?_ rfl ⟨by rw [HR.o,if_neg zj];rfl,?_⟩
   ·rw [results_ct rfl]
    unfold encO zeroO
    go_simp
   exact below_cells (b:=S+1) B7.o.1 qN 0 [.int .i64 0,.int .i64 0,.int .i64 0,.int .u8 0,.int .i64 0,.int .i64 0,.string ⟨#[]⟩,.string ⟨#[]⟩]
 have hown:ownX T i (R i).length kd nd o s v=(T+1,(i:Int),((R i).length:Int)+1,kd,nd,o,s,v):=by unfold ownX;rw [if_neg hnd]
 have dnd:(nd==0)=false:=by simp [hnd]
 have hchk:=opcheck_any (T+1) (i:Int) (((R i).length:Int)+1) kd nd o s v w5 (EX.o.op4) hs1 hs2
 obtain ⟨y0,y1,y2,y3,y4,y5,y6,y7,f8⟩:=OX.o.1.cells
 dsimp only at y0 y1 y2 y3 y4 y5 y6 y7
 have hlz:=OX.o.2.1.lt
 cases herr:opE (T+1) (i:Int) (((R i).length:Int)+1) kd nd o s.data.toList v.data.toList with
 | zero=>
  rw [herr] at hchk
  have hev:eV ad 0= .nilIface:=rfl
  rw [hev] at hchk
  have HR:Aside (errO (ownX T i (R i).length kd nd o s v)=0/\ownX T i (R i).length kd nd o s v=(T+1,(i:Int),((R i).length:Int)+1,kd,nd,o,s,v)):=⟨by rw [hown];exact herr,hown⟩
  clear herr hev hown
  go_wp2_with fail
  refine hchk.mono ?_
  clear hchk y0 y1 y2 y3 y4 y5 y6 y7 f8
  rintro e w7 ⟨rfl,hb7⟩
  have O7:=OX.o.1.later hb7
  have Z7:=OX.o.2.1.later hb7
  have hz7:=Z7.lt
  obtain ⟨y0,y1,y2,y3,y4,y5,y6,y7,f8⟩:=O7.cells
  dsimp only at y0 y1 y2 y3 y4 y5 y6 y7
  obtain ⟨z0,z1,z2,z3,z4,z5,z6,z7,zf⟩:=Z7.cells
  unfold zeroO at z0 z1 z2 z3 z4 z5 z6 z7
  dsimp only at z0 z1 z2 z3 z4 z5 z6 z7
  have B7:Aside (Below w.heap.size w w7/\S=w.heap.size):=⟨zi OX.o.2.2 hb7,H0.o.2.2.2.2.1⟩
  clear hb7 O7 Z7
  go_wp2
  (try simp only [Exit.inBlock,Exit.then])
  refine bodyPost_ret (v:=.tuple #[.agg #[.int .i64 (T+1),.int .i64 (i:Int),.int .i64 (((R i).length:Int)+1),.int .u8 (kd:Int),.int .i64 (nd),.int .i64 o,.string s,.string v],.nilIface]) ?_ rfl ⟨by rw [HR.o.1,if_pos rfl,HR.o.2];rfl,?_⟩
  ·rw [results_ct rfl]
   go_simp
  exact below_cells (b:=S+1) B7.o.1 qN 0 [.int .i64 (T+1),.int .i64 (i:Int),.int .i64 (((R i).length:Int)+1),.int .u8 (kd:Int),.int .i64 (nd),.int .i64 o,.string s,.string v]
 | succ cd=>
  rw [herr] at hchk
  have hev:eV ad (cd+1)= .iface 350 (.pointer (some (ad cd))):=rfl
  rw [hev] at hchk
  have HR:Aside (errO (ownX T i (R i).length kd nd o s v)=cd+1):=by show errO _=_;rw [hown];exact herr
  clear herr hev hown
  go_wp2_with fail
  refine hchk.mono ?_
  clear hchk y0 y1 y2 y3 y4 y5 y6 y7 f8
  rintro e w7 ⟨rfl,hb7⟩
  have Z7:=OX.o.2.1.later hb7
  have hz7:=Z7.lt
  obtain ⟨z0,z1,z2,z3,z4,z5,z6,z7,zf⟩:=Z7.cells
  unfold zeroO at z0 z1 z2 z3 z4 z5 z6 z7
  dsimp only at z0 z1 z2 z3 z4 z5 z6 z7
  have B7:Aside (Below w.heap.size w w7/\S=w.heap.size):=⟨zi OX.o.2.2 hb7,H0.o.2.2.2.2.1⟩
  clear hb7 Z7
  go_wp2
  (try simp only [Exit.inBlock,Exit.then])
  refine bodyPost_ret (v:=.tuple #[encO zeroO,.iface 350 (.pointer (some (ad cd)))]) ?_ rfl ⟨by rw [HR.o,if_neg zj];rfl,?_⟩
  ·rw [results_ct rfl]
   unfold encO zeroO
   go_simp
  exact below_cells (b:=S+1) B7.o.1 qN 0 [.int .i64 0,.int .i64 0,.int .i64 0,.int .u8 0,.int .i64 0,.int .i64 0,.string ⟨#[]⟩,.string ⟨#[]⟩]
theorem cnext_full (w:World) (pb:Nat) (T by_:Int) (eb:Value) (hg:w.cell? ⟨2,0,none⟩=some eb) (h0:w.cell? ⟨pb,0,none⟩=some (.int .i64 T)) (h1:w.cell? ⟨pb,1,none⟩=some (.int .i64 by_)) (hm:1073741824<=T):
  Calls prog 196 #[.pointer (some ⟨pb,0,none⟩)] w fun e w'=>e= .returned (.tuple #[.agg #[.int .i64 0,.int .i64 0],eb])/\Below w.heap.size w w':=by
 have hpl:pb<w.heap.size:=vp w ⟨pb,0,none⟩ h0
 have hgl:2<w.heap.size:=vp w ⟨2,0,none⟩ hg
 obtain ⟨S,hS⟩:=za w.heap.size
 obtain ⟨U,hU⟩:=za ((w.alloc (.cells #[.int .i64 0,.int .i64 0] 39)).alloc (.cells #[.int .i64 T,.int .i64 by_] 70))
 have hbU:Below w.heap.size w U:=zI
 have hu1:U.heap[S+1]? =some (.cells #[.int .i64 T,.int .i64 by_] 70 (0,0)):=by
  rw [hU,hS]
  have:=heap_alloc_new (w.alloc (.cells #[.int .i64 0,.int .i64 0] 39)) (.cells #[.int .i64 T,.int .i64 by_] 70)
  rw [vQ] at this
  exact this
 have hu0:U.heap[S]? =some (.cells #[.int .i64 0,.int .i64 0] 39 (0,0)):=by
  rw [hU,hS,vy _ _ _ zm]
  exact heap_alloc_new w _
 have hclk:Clk (S+1) T by_ U:=⟨qS,qS,by simp [World.frozen?,hu1]⟩
 have hcall:=tick_full (S+1) T by_ U eb ((hbU.cell (p:=⟨2,0,none⟩) hgl).trans hg) hclk hm
 have HB:Aside (Below w.heap.size w U/\S=w.heap.size/\U.heap[S]? =some (.cells #[.int .i64 0,.int .i64 0] 39 (0,0))):=⟨hbU,hS,hu0⟩
 have HU:Aside (U=(w.alloc (.cells #[.int .i64 0,.int .i64 0] 39)).alloc (.cells #[.int .i64 T,.int .i64 by_] 70)):=hU
 clear hU hbU hu1 hu0 hclk
 go_enter func196,ntmps196
 go_wp2_with fail
 rw [<-HU.o,<-HB.o.2.1]
 clear hS
 refine hcall.mono ?_
 clear hcall
 rintro e w1 ⟨rfl,hb1⟩
 have hS1:w1.heap[S]? =some (.cells #[.int .i64 0,.int .i64 0] 39 (0,0)):=(hb1.block S (vn.1 HB.o.2.2).1).trans HB.o.2.2
 have y0:w1.cell? ⟨S,0,none⟩=some (.int .i64 0):=qR
 have y1:w1.cell? ⟨S,1,none⟩=some (.int .i64 0):=qR
 have yf:∀o,w1.frozen? ⟨S,o,none⟩=false:=fun o=>by simp [World.frozen?,hS1]
 have B1:Aside (Below w.heap.size w w1):=zi HB.o.1 hb1
 clear hb1 hS1
 go_wp2
 (try simp only [Exit.inBlock,Exit.then])
 refine bodyPost_ret (v:=.tuple #[.agg #[.int .i64 0,.int .i64 0],eb]) ?_ rfl ⟨rfl,?_⟩
 ·rw [results_ct rfl]
  go_simp
 exact below_cells (b:=S) B1.o xV 0 [.int .i64 0,.int .i64 0]
theorem own_full {B:Nat} {ad:Nat->Addr} (w:World) (br:Nat) (T:Int) (i:Nat) (ao:Nat->Option Addr) (cap:Nat->Nat) (bt bx bc:Nat) (R:Rws) (kd:Nat) (nd o:Int) (s v:ByteArray) (hc:RepCell w br T (i:Int) (kvs ao cap R) bt bx bc) (hE:EnvE B ad w) (hi:i<4) (hm:1073741824<=T) (hn:(allR R).length<=140):
  Calls prog 140 #[.pointer (some ⟨br,0,none⟩),encO (0,0,0,kd,nd,o,s,v)] w fun e w'=>e= .returned (.tuple #[encO zeroO,eV ad 8])/\Below w.heap.size w w':=by
 have hrl:∀i,i<4->(R i).length<=1000:=fun i hi=>yC
 obtain ⟨S,hS⟩:=za w.heap.size
 obtain ⟨U,hU⟩:=za ((w.alloc (.cells #[.int .i64 0,.int .i64 0,.int .i64 0,.int .u8 (kd:Int),.int .i64 nd,.int .i64 o,.string s,.string v] 41)).alloc (.cells #[.int .i64 0,.int .i64 0,.int .i64 0,.int .u8 0,.int .i64 0,.int .i64 0,.string ⟨#[]⟩,.string ⟨#[]⟩] 41))
 have hbU:Below w.heap.size w U:=zI
 have O1:OpBlk U (S+1) zeroO:=by
  rw [hU,hS]
  have:=OpBlk.new (w.alloc (.cells #[.int .i64 0,.int .i64 0,.int .i64 0,.int .u8 (kd:Int),.int .i64 nd,.int .i64 o,.string s,.string v] 41)) zeroO
  rw [vQ] at this
  exact this
 have hcU:RepCell U br T (i:Int) (kvs ao cap R) bt bx bc:=hc.same (hbU.block _ hc.lt)
 have hcount:=count_any U ao cap R hrl
 unfold kV at hcount
 have k2:U.cell? ⟨br,2,none⟩=some (.slice (ao 0) (R 0).length (cap 0)):=hcU.c2
 have k3:U.cell? ⟨br,3,none⟩=some (.slice (ao 1) (R 1).length (cap 1)):=hcU.c3
 have k4:U.cell? ⟨br,4,none⟩=some (.slice (ao 2) (R 2).length (cap 2)):=hcU.c4
 have k5:U.cell? ⟨br,5,none⟩=some (.slice (ao 3) (R 3).length (cap 3)):=hcU.c5
 have dn:decide ((400:Int)<=((allR R).length:Int))=false:=zl
 have dn':decide (400<=(allR R).length)=false:=zl
 have H0:Aside (RepCell U br T (i:Int) (kvs ao cap R) bt bx bc/\OpBlk U (S+1) zeroO/\Below w.heap.size w U/\S=w.heap.size/\EnvE B ad U):=⟨hcU,O1,hbU,hS,hE.later hbU⟩
 have HU:Aside (U=(w.alloc (.cells #[.int .i64 0,.int .i64 0,.int .i64 0,.int .u8 (kd:Int),.int .i64 nd,.int .i64 o,.string s,.string v] 41)).alloc (.cells #[.int .i64 0,.int .i64 0,.int .i64 0,.int .u8 0,.int .i64 0,.int .i64 0,.string ⟨#[]⟩,.string ⟨#[]⟩] 41)):=hU
 clear hU hcU O1 hbU hE hc hS
 unfold encO
 dsimp only
 go_enter func140,ntmps140
 go_upto_region 1 with fail
 rw [<-HU.o,<-H0.o.2.2.2.1]
 go_wp2_with fail
 refine hcount.mono ?_
 clear hcount k2 k3 k4 k5
 rintro e w1 ⟨rfl,hb1⟩
 have hc1:RepCell w1 br T (i:Int) (kvs ao cap R) bt bx bc:=H0.o.1.same (hb1.block _ H0.o.1.lt)
 have hnext:=cnext_full w1 br T (i:Int) _ (H0.o.2.2.2.2.later hb1).c7 hc1.c0 hc1.c1 hm
 clear hc1
 go_wp2_with fail
 refine hnext.mono ?_
 clear hnext
 rintro e w2 ⟨rfl,hb2⟩
 have hb12:Below U.heap.size U w2:=zi hb1 hb2
 have Z7:=H0.o.2.1.later hb12
 have hz7:=Z7.lt
 have B7:Aside (Below w.heap.size w w2/\S=w.heap.size):=⟨zi H0.o.2.2.1 hb12,H0.o.2.2.2.1⟩
 clear hb1 hb2 hb12
 obtain ⟨V,hV⟩:=ze (w2.alloc (.cells #[.int .i64 0,.int .i64 0] 39))
 have hbV:Below w2.heap.size w2 V:=by rw [hV.o];exact zh w2 _
 have ZV:=Z7.later hbV
 have hzV:=ZV.lt
 obtain ⟨z0,z1,z2,z3,z4,z5,z6,z7,zf⟩:=ZV.cells
 unfold zeroO at z0 z1 z2 z3 z4 z5 z6 z7
 dsimp only at z0 z1 z2 z3 z4 z5 z6 z7
 have BV:Aside (Below w.heap.size w V/\S=w.heap.size):=⟨zi B7.o.1 hbV,B7.o.2⟩
 clear hbV ZV Z7 B7
 go_upto_region 5 with fail
 rw [<-hV.o]
 go_wp2
 (try simp only [Exit.inBlock,Exit.then])
 refine bodyPost_ret (v:=.tuple #[encO zeroO,.iface 350 (.pointer (some (ad 7)))]) ?_ rfl ⟨rfl,?_⟩
 ·rw [results_ct rfl]
  unfold encO zeroO
  go_simp
 exact below_cells (b:=S+1) BV.o.1 (by have:=BV.o.2;omega) 0 [.int .i64 0,.int .i64 0,.int .i64 0,.int .u8 0,.int .i64 0,.int .i64 0,.string ⟨#[]⟩,.string ⟨#[]⟩]
theorem own_any {B:Nat} {ad:Nat->Addr} (w:World) (br:Nat) (T:Int) (i:Nat) (ao:Nat->Option Addr) (cap:Nat->Nat) (bt bx bc:Nat) (R:Rws) (kd:Nat) (nd o:Int) (s v:ByteArray) (hc:RepCell w br T (i:Int) (kvs ao cap R) bt bx bc) (hE:EnvE B ad w) (hi:i<4) (hT:0<=T) (hm:T<=1073741824) (hn:(allR R).length<=140) (hs1:s.size<=1000000) (hs2:v.size<=1000000):
  Calls prog 140 #[.pointer (some ⟨br,0,none⟩),encO (0,0,0,kd,nd,o,s,v)] w (OwnOut ad w (ownX T i (R i).length kd nd o s v)):=by
 by_cases hm2:T<1073741824
 ·refine (own_lt w br T i ao cap bt bx bc R kd nd o s v hc hE hi hT hm2 hn hs1 hs2).mono ?_
  rintro e w' ⟨he,hb⟩
  exact ⟨by rw [errF_own hm2];exact he,hb⟩
 refine (own_full w br T i ao cap bt bx bc R kd nd o s v hc hE hi zj hn).mono ?_
 rintro e w' ⟨he,hb⟩
 have e8:errF (ownX T i (R i).length kd nd o s v)=8:=if_pos (by show 1073741824<T+1;omega)
 exact ⟨by rw [e8];exact he,hb⟩
end
section
open Go.RowKit Go.Lib Go.Sort Go.Maps
def MadeOut (ad:Nat->Addr) (w:World) (ok:Prop) (x:OpX) (e:Ending) (w':World):Prop:=(ok/\OwnOut ad w x e w')\/(¬ok/\e= .returned (.tuple #[encO zeroO,eV ad 6])/\Below w.heap.size w w')
theorem make_any {B:Nat} {ad:Nat->Addr} (w:World) (c:Nat->Nat) (br:Nat) (T:Int) (i:Nat) (ao:Nat->Option Addr) (cap:Nat->Nat) (bt bx bc:Nat) (R:Rws) (into:Int) (name:ByteArray) (hc:RepCell w br T (i:Int) (kvs ao cap R) bt bx bc) (hrows:RowsAt w c (kvs ao cap R) R) (hR:RowsK R) (hE:EnvE B ad w) (hi:i<4) (hT:0<=T) (hm:T<=1073741824) (hn:(allR R).length<=140) (hs1:name.size<=1000000) (h2: -9223372036854775808<=into) (h3:into<=9223372036854775807):
  Calls prog 98 #[.pointer (some ⟨br,0,none⟩),.int .i64 into,.string name] w (MadeOut ad w (into=0\/into=1\/KnownN (allR R) into) (ownX T i (R i).length 109 0 into name ⟨#[]⟩)):=by
 have hrl:∀i,i<4->(R i).length<=1000:=fun i hi=>yC
 obtain ⟨S,hS⟩:=za w.heap.size
 obtain ⟨U,hU⟩:=za (w.alloc (.cells #[.int .i64 0,.int .i64 0,.int .i64 0,.int .u8 0,.int .i64 0,.int .i64 0,.string ⟨#[]⟩,.string ⟨#[]⟩] 41))
 have hbU:Below w.heap.size w U:=zP
 have Z0:OpBlk U S zeroO:=yD
 have hcU:RepCell U br T (i:Int) (kvs ao cap R) bt bx bc:=hc.same (hbU.block _ hc.lt)
 obtain ⟨zb,hzb⟩:∃zb:Bool,zb=true↔(into=0\/into=1\/KnownN (allR R) into):=⟨@decide _ (Classical.propDecidable _),@decide_eq_true_iff _ (Classical.propDecidable _)⟩
 have hplace:=isPlace_any U ao cap R into zb hzb ((hE.later hbU).op4) ((KnownAt.of_rows hrows).later hbU) hR.toN hrl h2 h3
 unfold kV at hplace
 have k2:U.cell? ⟨br,2,none⟩=some (.slice (ao 0) (R 0).length (cap 0)):=hcU.c2
 have k3:U.cell? ⟨br,3,none⟩=some (.slice (ao 1) (R 1).length (cap 1)):=hcU.c3
 have k4:U.cell? ⟨br,4,none⟩=some (.slice (ao 2) (R 2).length (cap 2)):=hcU.c4
 have k5:U.cell? ⟨br,5,none⟩=some (.slice (ao 3) (R 3).length (cap 3)):=hcU.c5
 have H0:Aside (RepCell U br T (i:Int) (kvs ao cap R) bt bx bc/\OpBlk U S zeroO/\Below w.heap.size w U/\S=w.heap.size/\EnvE B ad U/\B<=w.heap.size/\(zb=true↔(into=0\/into=1\/KnownN (allR R) into))):=⟨hcU,Z0,hbU,hS,hE.later hbU,hE.size,hzb⟩
 have HU:Aside (U=w.alloc (.cells #[.int .i64 0,.int .i64 0,.int .i64 0,.int .u8 0,.int .i64 0,.int .i64 0,.string ⟨#[]⟩,.string ⟨#[]⟩] 41)):=hU
 clear hU hcU Z0 hbU hE hc hS hzb hrows hR
 go_enter func98,ntmps98
 go_upto_region 1 with fail
 rw [<-HU.o,<-H0.o.2.2.2.1]
 go_wp2_with fail
 refine hplace.mono ?_
 clear hplace k2 k3 k4 k5
 rintro e w1 ⟨rfl,hb1⟩
 have Z1:=H0.o.2.1.later hb1
 have H1:Aside (OpBlk w1 S zeroO/\Below w.heap.size w w1/\EnvE B ad w1/\RepCell w1 br T (i:Int) (kvs ao cap R) bt bx bc):=⟨Z1,zi H0.o.2.2.1 hb1,H0.o.2.2.2.2.1.later hb1,H0.o.1.same (hb1.block _ H0.o.1.lt)⟩
 clear hb1 Z1
 cases zb with
 | false=>
  have hno:¬(into=0\/into=1\/KnownN (allR R) into):=fun q=>jZ
  obtain ⟨z0,z1,z2,z3,z4,z5,z6,z7,zf⟩:=H1.o.1.cells
  unfold zeroO at z0 z1 z2 z3 z4 z5 z6 z7
  dsimp only at z0 z1 z2 z3 z4 z5 z6 z7
  have eg:=H1.o.2.2.1.c5
  have hlo:=H1.o.2.2.1.low
  have hSw:=H0.o.2.2.2.1
  have hBw:=H0.o.2.2.2.2.2.1
  have n1:1≠S:=zj
  have n2:S≠1:=zj
  have HNO:=Lib.hid hno
  clear hlo hSw hBw hno
  go_wp2_with fail
  go_region
  all_goals
   go_wp2
   (try simp only [Exit.inBlock,Exit.then])
   refine bodyPost_ret (v:=.tuple #[encO zeroO,eV ad 6]) ?_ rfl (.inr ⟨HNO.o,rfl,?_⟩)
   ·rw [results_ct rfl]
    unfold encO zeroO eV
    go_simp
   exact (below_cells (b:=S) H1.o.2.1 zJ 0 [.int .i64 0,.int .i64 0,.int .i64 0,.int .u8 0,.int .i64 0,.int .i64 0,.string ⟨#[]⟩,.string ⟨#[]⟩]).drew
 | true=>
  have HOK:Aside (into=0\/into=1\/KnownN (allR R) into):=H0.o.2.2.2.2.2.2.1 rfl
  have hown:=own_any w1 br T i ao cap bt bx bc R 109 0 into name ⟨#[]⟩ H1.o.2.2.2 H1.o.2.2.1 hi hT hm hn hs1 zt
  unfold encO at hown
  dsimp only at hown
  go_wp2_with fail
  refine hown.mono ?_
  clear hown
  rintro e w2 ⟨he,hb2⟩
  obtain ⟨y,hy⟩:=za ((if errF (ownX T i (R i).length 109 0 into name ⟨#[]⟩)=0 then ownX T i (R i).length 109 0 into name ⟨#[]⟩ else zeroO))
  obtain ⟨er,her⟩:=za (eV ad (errF (ownX T i (R i).length 109 0 into name ⟨#[]⟩)))
  rw [<-hy,<-her] at he
  subst he
  have HY:Aside (y=(if errF (ownX T i (R i).length 109 0 into name ⟨#[]⟩)=0 then ownX T i (R i).length 109 0 into name ⟨#[]⟩ else zeroO)/\er=eV ad (errF (ownX T i (R i).length 109 0 into name ⟨#[]⟩))):=⟨hy,her⟩
  clear hy her
  obtain ⟨t,b,n,kd,nd,o,s,v⟩:=y
  unfold encO
  dsimp only
  have Z2:=H1.o.1.later hb2
  obtain ⟨z0,z1,z2,z3,z4,z5,z6,z7,zf⟩:=Z2.cells
  unfold zeroO at z0 z1 z2 z3 z4 z5 z6 z7
  dsimp only at z0 z1 z2 z3 z4 z5 z6 z7
  have B2:Aside (Below w.heap.size w w2):=zi H1.o.2.1 hb2
  clear hb2 Z2
  go_wp2
  (try simp only [Exit.inBlock,Exit.then])
  refine bodyPost_ret (v:=.tuple #[.agg #[.int .i64 t,.int .i64 b,.int .i64 n,.int .u8 (kd:Int),.int .i64 nd,.int .i64 o,.string s,.string v],er]) ?_ rfl (.inl ⟨HOK.o,⟨by rw [<-HY.o.1,<-HY.o.2];rfl,?_⟩⟩)
  ·rw [results_ct rfl]
   go_simp
  exact below_cells (b:=S) B2.o zJ 0 [.int .i64 t,.int .i64 b,.int .i64 n,.int .u8 (kd:Int),.int .i64 nd,.int .i64 o,.string s,.string v]
end
section
open Go.RowKit Go.Lib Go.Sort Go.Maps
def TextIs (A:List OpX) (nd:Int) (s:ByteArray):Prop:=(¬KnownN A nd/\s=⟨#[]⟩)\/(KnownN A nd/\∃L,LineIs A nd L/\s.data.toList=textL L)
theorem rtext_at (w:World) (c:Nat->Nat) (br:Nat) (T by_:Int) (kv:Nat->Value) (bt bx bc:Nat) (A:List OpX) (nd:Int) (hc:RepCell w br T by_ kv bt bx bc) (ht:TextC w c bx A) (hlen:A.length<=1000) (h2: -2^63<=nd) (h3:nd<2^63):
  Calls prog 44 #[.pointer (some ⟨br,0,none⟩),.int .i64 nd] w fun e w'=>∃s,e= .returned (.string s)/\TextIs A nd s/\Below w.heap.size w w':=by
 obtain ⟨nx,tx,t1,t2,t3,t4,t5⟩:=ht
 have k7:=hc.c7
 have lk:=t2.look (wf_of h2 h3)
 cases hp:tx nd with
 | none=>
  rw [hp] at lk
  unfold encT_ at lk
  simp only [Option.map_none,Zt] at lk
  have HN:Aside (¬KnownN A nd):=fun q=>jE
  clear t1 t2 t3 t4 t5 hp
  go_enter func44,ntmps44
  go_wp2
  go_ret
  exact ⟨_,rfl,.inl ⟨HN.o,rfl⟩,vu _ w⟩
 | some p=>
  rw [hp] at lk
  unfold encT_ at lk
  simp only [uX,Zu] at lk
  obtain ⟨v,L,l1,l2,l3,l4⟩:=t5 nd p hp
  have hcall:=text_any w (p+1) p v L l1 (vr l2.len hlen)
  have HK:Aside (KnownN A nd/\LineIs A nd L):=⟨(t4 nd).1 xz,l2⟩
  clear t1 t2 t3 t4 t5 hp l1 l2 l3 l4
  go_enter func44,ntmps44
  go_wp2_with fail
  refine hcall.mono ?_
  clear hcall
  rintro e w' ⟨rfl,hb⟩
  have HB:Aside (Below w.heap.size w w'):=hb
  clear hb
  go_wp2
  go_ret
  exact ⟨_,rfl,.inr ⟨HK.o.1,L,HK.o.2,zm⟩,HB.o⟩
theorem letter_any (w:World) (c:Nat->Nat) (br:Nat) (T by_:Int) (kv:Nat->Value) (bt bx bc:Nat) (A:List OpX) (nd n:Int) (hc:RepCell w br T by_ kv bt bx bc) (ht:TextC w c bx A) (hlen:A.length<=1000) (h2: -2^63<=nd) (h3:nd<2^63) (hn: -9223372036854775808<=n/\n<=9223372036854775807):
  Calls prog 143 #[.pointer (some ⟨br,0,none⟩),.int .i64 nd,.int .i64 n] w fun e w'=>∃a:Int×Bool,e= .returned (.tuple #[.int .i64 a.1,.bool a.2])/\(¬KnownN A nd->a=(0,false))/\(KnownN A nd->∃L,LineIs A nd L/\a=atL n L)/\Below w.heap.size w w':=by
 obtain ⟨nx,tx,t1,t2,t3,t4,t5⟩:=ht
 have k7:=hc.c7
 have lk:=t2.look (wf_of h2 h3)
 cases hp:tx nd with
 | none=>
  rw [hp] at lk
  unfold encT_ at lk
  simp only [Option.map_none,Zt] at lk
  have HN:Aside (¬KnownN A nd):=fun q=>jE
  clear t1 t2 t3 t4 t5 hp
  go_enter func143,ntmps143
  go_wp2
  go_ret2
  exact ⟨(0,false),rfl,fun _=>rfl,fun q=>absurd q HN.o,vu _ w⟩
 | some p=>
  rw [hp] at lk
  unfold encT_ at lk
  simp only [uX,Zu] at lk
  obtain ⟨v,L,l1,l2,l3,l4⟩:=t5 nd p hp
  have hcall:=at_any w (p+1) p v L n l1 (vr l2.len hlen) hn
  have HK:Aside (KnownN A nd/\LineIs A nd L):=⟨(t4 nd).1 xz,l2⟩
  clear t1 t2 t3 t4 t5 hp l1 l2 l3 l4
  go_enter func143,ntmps143
  go_wp2_with fail
  refine hcall.mono ?_
  clear hcall
  rintro e w' ⟨rfl,hb⟩
  have HB:Aside (Below w.heap.size w w'):=hb
  clear hb
  go_wp2
  go_ret2
  exact ⟨atL n L,rfl,fun q=>absurd HK.o.1 q,fun _=>⟨L,HK.o.2,rfl⟩,HB.o⟩
end
section
open Go.RowKit Go.Lib Go.Sort Go.Maps
def WriteAt (A:List OpX) (nd n:Int) (a:Int×Bool):Prop:=(n=0/\a.1=0/\(a.2=true↔KnownN A nd))\/(n≠0/\(¬KnownN A nd->a=(0,false))/\(KnownN A nd->∃L,LineIs A nd L/\a=atL (n - 1) L))
theorem knownN_perm {A S:List OpX} (h:A.Perm S) (nd:Int):KnownN A nd↔KnownN S nd:=⟨fun q=>q.mono (fun x hx=>h.mem_iff.1 hx),fun q=>q.mono (fun x hx=>h.mem_iff.2 hx)⟩
theorem atL_wrap {mw n:Int} {L:List Ltr} (h:mw=n - 1\/(mw=9223372036854775807/\n= -9223372036854775808)) (hl:L.length<=1000):atL mw L=atL (n - 1) L:=by
 rcases h with h | ⟨h1,h2⟩
 ·rw [h]
 subst h1 h2
 unfold atL
 rw [if_pos zj,if_neg zj]
 have:(seenOf L).length<=L.length:=uH _ _
 rw [List.getElem?_eq_none zj]
theorem byte_row (w:World) (ch:UInt8):(w.alloc (.cells #[.int .u8 (ch.toNat:Int)] 5)).ownsRow 0 5 1 (.slice (some ⟨w.heap.size,0,none⟩) 1 1) 1 (bytesW [ch]):=
 ⟨rfl,.inr ⟨w.heap.size,1,#[.int .u8 (ch.toNat:Int)],rfl,vD _,heap_alloc_new w _,vm _,zw,rfl,rfl⟩⟩
theorem write_any {B:Nat} {ad:Nat->Addr} (w:World) (c:Nat->Nat) (br:Nat) (T:Int) (i:Nat) (ao:Nat->Option Addr) (cap:Nat->Nat) (bt bx bc:Nat) (R:Rws) (A:List OpX) (nd n:Int) (ch:UInt8) (hc:RepCell w br T (i:Int) (kvs ao cap R) bt bx bc) (hrows:RowsAt w c (kvs ao cap R) R) (htext:TextC w c bx A) (hperm:A.Perm (allR R)) (hR:RowsK R) (hE:EnvE B ad w) (hi:i<4) (hT:0<=T) (hm:T<=1073741824) (hn:(allR R).length<=140) (h2: -9223372036854775808<=nd) (h3:nd<=9223372036854775807) (hn1: -9223372036854775808<=n) (hn2:n<=9223372036854775807):
  Calls prog 100 #[.pointer (some ⟨br,0,none⟩),.int .i64 nd,.int .i64 n,.int .u8 (ch.toNat:Int)] w fun e w'=>∃a,WriteAt A nd n a/\MadeOut ad w (a.2=true) (ownX T i (R i).length 105 nd a.1 ⟨#[]⟩ ⟨#[ch]⟩) e w':=by
 have hrl:∀i,i<4->(R i).length<=1000:=fun i hi=>yC
 have hAl:A.length<=140:=xJ
 obtain ⟨S,hS⟩:=za w.heap.size
 obtain ⟨U,hU⟩:=za (w.alloc (.cells #[.int .i64 0,.int .i64 0,.int .i64 0,.int .u8 0,.int .i64 0,.int .i64 0,.string ⟨#[]⟩,.string ⟨#[]⟩] 41))
 have hbU:Below w.heap.size w U:=zP
 have Z0:OpBlk U S zeroO:=yD
 have hcU:RepCell U br T (i:Int) (kvs ao cap R) bt bx bc:=hc.same (hbU.block _ hc.lt)
 obtain ⟨zb,hzb⟩:∃zb:Bool,zb=true↔KnownN (allR R) nd:=⟨@decide _ (Classical.propDecidable _),@decide_eq_true_iff _ (Classical.propDecidable _)⟩
 have hnode:=isNode_any U ao cap R nd zb hzb ((hE.later hbU).op4) ((KnownAt.of_rows hrows).later hbU) hR.toN hrl h2 h3
 unfold kV at hnode
 have k2:U.cell? ⟨br,2,none⟩=some (.slice (ao 0) (R 0).length (cap 0)):=hcU.c2
 have k3:U.cell? ⟨br,3,none⟩=some (.slice (ao 1) (R 1).length (cap 1)):=hcU.c3
 have k4:U.cell? ⟨br,4,none⟩=some (.slice (ao 2) (R 2).length (cap 2)):=hcU.c4
 have k5:U.cell? ⟨br,5,none⟩=some (.slice (ao 3) (R 3).length (cap 3)):=hcU.c5
 have htU:TextC U c bx A:=htext.kept ⟨fun k hk _=>hbU.block k hk,fun _ _=>rfl⟩ (fun _ _=>⟨fun k hk _=>hbU.block k hk,fun _ _=>rfl⟩)
 have H0:Aside (RepCell U br T (i:Int) (kvs ao cap R) bt bx bc/\OpBlk U S zeroO/\Below w.heap.size w U/\S=w.heap.size/\EnvE B ad U/\B<=w.heap.size/\(zb=true↔KnownN A nd)/\TextC U c bx A):=⟨hcU,Z0,hbU,hS,hE.later hbU,hE.size,hzb.trans (knownN_perm hperm nd).symm,htU⟩
 have HU:Aside (U=w.alloc (.cells #[.int .i64 0,.int .i64 0,.int .i64 0,.int .u8 0,.int .i64 0,.int .i64 0,.string ⟨#[]⟩,.string ⟨#[]⟩] 41)):=hU
 clear hU hcU Z0 hbU hE hc hS hzb hrows hR htext htU
 go_enter func100,ntmps100
 go_upto_region 1 with fail
 rw [<-HU.o,<-H0.o.2.2.2.1]
 go_wp2_with fail
 refine hnode.mono ?_
 clear hnode k2 k3 k4 k5
 rintro e w1 ⟨rfl,hb1⟩
 have Z1:=H0.o.2.1.later hb1
 have H1:Aside (OpBlk w1 S zeroO/\Below w.heap.size w w1/\EnvE B ad w1/\RepCell w1 br T (i:Int) (kvs ao cap R) bt bx bc/\TextC w1 c bx A):=⟨Z1,zi H0.o.2.2.1 hb1,H0.o.2.2.2.2.1.later hb1,H0.o.1.same (hb1.block _ H0.o.1.lt),H0.o.2.2.2.2.2.2.2.kept ⟨fun k hk _=>hb1.block k hk,fun _ _=>rfl⟩ (fun _ _=>⟨fun k hk _=>hb1.block k hk,fun _ _=>rfl⟩)⟩
 clear hb1 Z1
 obtain ⟨mw,hmw⟩:=za (IntKind.i64.wrap (n - 1))
 have hmb: -9223372036854775808<=mw/\mw<=9223372036854775807/\(mw=n - 1\/(mw=9223372036854775807/\n= -9223372036854775808)):=by rw [hmw,IntKind.wrap_i64];omega
 have wrapn:IntKind.i64.wrap (n - 1)=mw:=hmw.symm
 have HMB:Aside (mw=n - 1\/(mw=9223372036854775807/\n= -9223372036854775808)):=hmb.2.2
 clear hmw
 by_cases hn0:n=0
 ·subst hn0
  clear hmb HMB wrapn
  have HX:Aside (OpBlk w1 S zeroO/\Below w.heap.size w w1/\EnvE B ad w1/\RepCell w1 br T (i:Int) (kvs ao cap R) bt bx bc):=⟨H1.o.1,H1.o.2.1,H1.o.2.2.1,H1.o.2.2.2.1⟩
  have HA:Aside (WriteAt A nd 0 (0,zb)):=.inl ⟨rfl,rfl,H0.o.2.2.2.2.2.2.1⟩
  cases zb with
  | false=>
   obtain ⟨z0,z1,z2,z3,z4,z5,z6,z7,zf⟩:=HX.o.1.cells
   unfold zeroO at z0 z1 z2 z3 z4 z5 z6 z7
   dsimp only at z0 z1 z2 z3 z4 z5 z6 z7
   have eg:=HX.o.2.2.1.c5
   have hlo:=HX.o.2.2.1.low
   have hSw:=H0.o.2.2.2.1
   have hBw:=H0.o.2.2.2.2.2.1
   have n1:1≠S:=zj
   have n2:S≠1:=zj
   clear hlo hSw hBw
   go_wp2_with fail
   go_region
   all_goals
    go_wp2
    (try simp only [Exit.inBlock,Exit.then])
    refine bodyPost_ret (v:=.tuple #[encO zeroO,eV ad 6]) ?_ rfl ⟨_,HA.o,.inr ⟨zm,rfl,?_⟩⟩
    ·rw [results_ct rfl]
     unfold encO zeroO eV
     go_simp
    exact (below_cells (b:=S) HX.o.2.1 zJ 0 [.int .i64 0,.int .i64 0,.int .i64 0,.int .u8 0,.int .i64 0,.int .i64 0,.string ⟨#[]⟩,.string ⟨#[]⟩]).drew
  | true=>
   have hbB:Below w1.heap.size w1 (w1.alloc (.cells #[.int .u8 (ch.toNat:Int)] 5)):=zh w1 _
   have hconv:=conv_row (byte_row w1 ch) rfl
   have hown:=own_any (w1.alloc (.cells #[.int .u8 (ch.toNat:Int)] 5)) br T i ao cap bt bx bc R 105 nd 0 ⟨#[]⟩ ⟨#[ch]⟩ (HX.o.2.2.2.same (hbB.block _ HX.o.2.2.2.lt)) (HX.o.2.2.1.later hbB) hi hT hm hn zt xi
   have HB:Aside (Below w.heap.size w (w1.alloc (.cells #[.int .u8 (ch.toNat:Int)] 5))/\OpBlk (w1.alloc (.cells #[.int .u8 (ch.toNat:Int)] 5)) S zeroO):=⟨zi HX.o.2.1 hbB,HX.o.1.later hbB⟩
   unfold encO at hown
   dsimp only at hown
   clear hbB
   go_wp2_with fail
   refine hown.mono ?_
   clear hown hconv
   rintro e w3 ⟨he,hb3⟩
   obtain ⟨y,hy⟩:=za ((if errF (ownX T i (R i).length 105 nd 0 ⟨#[]⟩ ⟨#[ch]⟩)=0 then ownX T i (R i).length 105 nd 0 ⟨#[]⟩ ⟨#[ch]⟩ else zeroO))
   obtain ⟨er,her⟩:=za (eV ad (errF (ownX T i (R i).length 105 nd 0 ⟨#[]⟩ ⟨#[ch]⟩)))
   rw [<-hy,<-her] at he
   subst he
   have HY:Aside (y=(if errF (ownX T i (R i).length 105 nd 0 ⟨#[]⟩ ⟨#[ch]⟩)=0 then ownX T i (R i).length 105 nd 0 ⟨#[]⟩ ⟨#[ch]⟩ else zeroO)/\er=eV ad (errF (ownX T i (R i).length 105 nd 0 ⟨#[]⟩ ⟨#[ch]⟩))):=⟨hy,her⟩
   clear hy her
   obtain ⟨t,b,m,kd,nd',o,s,v⟩:=y
   unfold encO
   dsimp only
   have Z2:=HB.o.2.later hb3
   obtain ⟨z0,z1,z2,z3,z4,z5,z6,z7,zf⟩:=Z2.cells
   unfold zeroO at z0 z1 z2 z3 z4 z5 z6 z7
   dsimp only at z0 z1 z2 z3 z4 z5 z6 z7
   have B2:Aside (Below w.heap.size w w3):=zi HB.o.1 hb3
   clear hb3 Z2
   go_wp2
   (try simp only [Exit.inBlock,Exit.then])
   refine bodyPost_ret (v:=.tuple #[.agg #[.int .i64 t,.int .i64 b,.int .i64 m,.int .u8 (kd:Int),.int .i64 nd',.int .i64 o,.string s,.string v],er]) ?_ rfl ⟨_,HA.o,.inl ⟨rfl,⟨by rw [<-HY.o.1,<-HY.o.2];rfl,?_⟩⟩⟩
   ·rw [results_ct rfl]
    go_simp
   exact below_cells (b:=S) B2.o zJ 0 [.int .i64 t,.int .i64 b,.int .i64 m,.int .u8 (kd:Int),.int .i64 nd',.int .i64 o,.string s,.string v]
 have dn0:(n !=0)=true:=by simp [hn0]
 have hlet:=letter_any w1 c br T (i:Int) (kvs ao cap R) bt bx bc A nd mw H1.o.2.2.2.1 H1.o.2.2.2.2 zj zj zj ⟨hmb.1,hmb.2.1⟩
 have HN0:=Lib.hid hn0
 clear hn0 hmb
 go_wp2_with fail
 refine hlet.mono ?_
 clear hlet
 rintro e w2 ⟨⟨bh,zz⟩,rfl,ha1,ha2,hb2⟩
 have HX:Aside (OpBlk w2 S zeroO/\Below w.heap.size w w2/\EnvE B ad w2/\RepCell w2 br T (i:Int) (kvs ao cap R) bt bx bc):=⟨H1.o.1.later hb2,zi H1.o.2.1 hb2,H1.o.2.2.1.later hb2,H1.o.2.2.2.1.same (hb2.block _ H1.o.2.2.2.1.lt)⟩
 have HA:Aside (WriteAt A nd n (bh,zz)):=.inr ⟨HN0.o,ha1,fun q=>by obtain ⟨L,hL,e⟩:=ha2 q;exact ⟨L,hL,e.trans (atL_wrap HMB.o (by have:=hL.len;omega))⟩⟩
 clear hb2 ha1 ha2
 dsimp only
 cases zz with
 | false=>
  obtain ⟨z0,z1,z2,z3,z4,z5,z6,z7,zf⟩:=HX.o.1.cells
  unfold zeroO at z0 z1 z2 z3 z4 z5 z6 z7
  dsimp only at z0 z1 z2 z3 z4 z5 z6 z7
  have eg:=HX.o.2.2.1.c5
  have hlo:=HX.o.2.2.1.low
  have hSw:=H0.o.2.2.2.1
  have hBw:=H0.o.2.2.2.2.2.1
  have n1:1≠S:=zj
  have n2:S≠1:=zj
  clear hlo hSw hBw
  go_wp2_with fail
  go_region
  all_goals
   go_wp2
   (try simp only [Exit.inBlock,Exit.then])
   refine bodyPost_ret (v:=.tuple #[encO zeroO,eV ad 6]) ?_ rfl ⟨_,HA.o,.inr ⟨zm,rfl,?_⟩⟩
   ·rw [results_ct rfl]
    unfold encO zeroO eV
    go_simp
   exact (below_cells (b:=S) HX.o.2.1 zJ 0 [.int .i64 0,.int .i64 0,.int .i64 0,.int .u8 0,.int .i64 0,.int .i64 0,.string ⟨#[]⟩,.string ⟨#[]⟩]).drew
 | true=>
  have hbB:Below w2.heap.size w2 (w2.alloc (.cells #[.int .u8 (ch.toNat:Int)] 5)):=zh w2 _
  have hconv:=conv_row (byte_row w2 ch) rfl
  have hown:=own_any (w2.alloc (.cells #[.int .u8 (ch.toNat:Int)] 5)) br T i ao cap bt bx bc R 105 nd bh ⟨#[]⟩ ⟨#[ch]⟩ (HX.o.2.2.2.same (hbB.block _ HX.o.2.2.2.lt)) (HX.o.2.2.1.later hbB) hi hT hm hn zt xi
  have HB:Aside (Below w.heap.size w (w2.alloc (.cells #[.int .u8 (ch.toNat:Int)] 5))/\OpBlk (w2.alloc (.cells #[.int .u8 (ch.toNat:Int)] 5)) S zeroO):=⟨zi HX.o.2.1 hbB,HX.o.1.later hbB⟩
  unfold encO at hown
  dsimp only at hown
  clear hbB
  go_wp2_with fail
  refine hown.mono ?_
  clear hown hconv
  rintro e w3 ⟨he,hb3⟩
  obtain ⟨y,hy⟩:=za ((if errF (ownX T i (R i).length 105 nd bh ⟨#[]⟩ ⟨#[ch]⟩)=0 then ownX T i (R i).length 105 nd bh ⟨#[]⟩ ⟨#[ch]⟩ else zeroO))
  obtain ⟨er,her⟩:=za (eV ad (errF (ownX T i (R i).length 105 nd bh ⟨#[]⟩ ⟨#[ch]⟩)))
  rw [<-hy,<-her] at he
  subst he
  have HY:Aside (y=(if errF (ownX T i (R i).length 105 nd bh ⟨#[]⟩ ⟨#[ch]⟩)=0 then ownX T i (R i).length 105 nd bh ⟨#[]⟩ ⟨#[ch]⟩ else zeroO)/\er=eV ad (errF (ownX T i (R i).length 105 nd bh ⟨#[]⟩ ⟨#[ch]⟩))):=⟨hy,her⟩
  clear hy her
  obtain ⟨t,b,m,kd,nd',o,s,v⟩:=y
  unfold encO
  dsimp only
  have Z2:=HB.o.2.later hb3
  obtain ⟨z0,z1,z2,z3,z4,z5,z6,z7,zf⟩:=Z2.cells
  unfold zeroO at z0 z1 z2 z3 z4 z5 z6 z7
  dsimp only at z0 z1 z2 z3 z4 z5 z6 z7
  have B2:Aside (Below w.heap.size w w3):=zi HB.o.1 hb3
  clear hb3 Z2
  go_wp2
  (try simp only [Exit.inBlock,Exit.then])
  refine bodyPost_ret (v:=.tuple #[.agg #[.int .i64 t,.int .i64 b,.int .i64 m,.int .u8 (kd:Int),.int .i64 nd',.int .i64 o,.string s,.string v],er]) ?_ rfl ⟨_,HA.o,.inl ⟨rfl,⟨by rw [<-HY.o.1,<-HY.o.2];rfl,?_⟩⟩⟩
  ·rw [results_ct rfl]
   go_simp
  exact below_cells (b:=S) B2.o zJ 0 [.int .i64 t,.int .i64 b,.int .i64 m,.int .u8 (kd:Int),.int .i64 nd',.int .i64 o,.string s,.string v]
end
section
open Go.RowKit Go.Lib Go.Sort Go.Maps
theorem growOps_any (n:Nat) (w:World) (hn:n<=1000):Calls prog 88 #[.slice none 0 0,.int .i64 (n:Int)] w fun e w'=>∃v,e= .returned v/\w'.ownsRow w.heap.size 41 8 v 0 []/\Below w.heap.size w w':=by
 by_cases h0:n=0
 ·subst h0
  go_enter func88,ntmps88
  go_wp2
  go_ret
  exact ⟨_,rfl,ud _ _ _ _,vu _ w⟩
 have d0:decide ((n:Int)<0)=false:=zm
 have d1:decide ((0:Int)<(n:Int))=true:=zl
 have d1':decide (0<n)=true:=zl
 have e1:((n:Int) - 0)=(n:Int):=zj
 obtain ⟨i0,hi,hz0,hz1,hz2⟩:=info_parts infoOp
 have hrun:=fun ty=>Lib.run_append_nil_zeros (P:=prog) w 48 3 ty 41 i0 _ .i64 .i64 underlying48 underlying3 hi hz0 n zj zj zj (by rw [hz2];omega)
 obtain ⟨cp,hcp⟩:=za (grownCap w n 0 41)
 rw [<-hcp] at hrun
 have hge:n<=cp:=by rw [hcp];exact grownCap_ge w n 0 _
 have hle:cp<=maxLen:=by rw [hcp];exact grownCap_le_maxLen w n 0 _ zw
 have HC:Aside (cp=grownCap w n 0 41/\n<=cp/\cp<=maxLen):=⟨hcp,hge,hle⟩
 have hc63:(cp:Int)<=9223372036854775807:=by simp only [maxLen] at hle;omega
 clear hcp hge hle
 go_enter func88,ntmps88
 go_wp2_with (at_builtin;refine Lib.wpList_append_run _ rfl _ _ _ _ rfl _ _ rfl rfl _ _ (hrun _) ?_)
 go_ret
 refine ⟨_,rfl,⟨rfl,.inr ⟨w.heap.size,cp,_,rfl,vm _,heap_alloc_new w _,vD _,HC.o.2.2,?_,?_⟩⟩,(zh w _).drew⟩
 ·have:=HC.o.2.1
  simp [size_zeroCells]
  omega
 simp
theorem opsRow {ao:Option Addr} {xs:List OpX} (h:OpsIn w ao xs):InRow encX w ao xs:=h
theorem concat_any (w:World) (Bk:Nat) (ao:Nat->Option Addr) (cap:Nat->Nat) (R:Rws) (hk:KBox w Bk ao cap R) (hK:KnownAt w ao R) (hnil:∀i,i<4->ao i=none->cap i=0) (hn:(allR R).length<=1000):
  Calls prog 54 #[.slice (some ⟨Bk,0,none⟩) 4 4] w fun e w'=>∃v,e= .returned v/\w'.ownsRow w.heap.size 41 8 v (allR R).length (cellsOf (allR R))/\Below w.heap.size w w':=by
 have hl0:=row_le R (i:=0) zj
 have hl1:=row_le R (i:=1) zj
 have hl2:=row_le R (i:=2) zj
 have hl3:=row_le R (i:=3) zj
 have c0:=hk.at (i:=0) zj
 have c1:=hk.at (i:=1) zj
 have c2:=hk.at (i:=2) zj
 have c3:=hk.at (i:=3) zj
 have hsum:(allR R).length=(R 0).length+(R 1).length+(R 2).length+(R 3).length:=by unfold allR;simp;omega
 have hgr:=growOps_any ((R 0).length+(R 1).length+(R 2).length+(R 3).length) w zj
 have HK:Aside (KnownAt w ao R/\∀i,i<4->ao i=none->cap i=0):=⟨hK,hnil⟩
 have HS:Aside ((allR R).length=(R 0).length+(R 1).length+(R 2).length+(R 3).length):=hsum
 have g0:(((R 0).length+(R 1).length+(R 2).length+(R 3).length:Nat):Int)=(R 0).length+(R 1).length+(R 2).length+(R 3).length:=zj
 rw [g0] at hgr
 have hT:(R 0).length+(R 1).length+(R 2).length+(R 3).length<=1000:=zj
 have n1:decide (((R 0).length:Int)<0)=false:=zm
 have n2:decide (((R 0).length:Int)+(R 1).length<0)=false:=zl
 have n3:decide (((R 0).length:Int)+(R 1).length+(R 2).length<0)=false:=zl
 have n4:decide (((R 0).length:Int)+(R 1).length+(R 2).length+(R 3).length<0)=false:=zl
 clear hk hK hnil hsum g0
 go_enter func54,ntmps54
 go_wp2
 refine wp_loop_rounds 5 ?_
 iterate 4
  rw [rounds_succ]
  go_wp2
 rw [rounds_succ]
 go_wp2_with fail
 refine hgr.mono ?_
 clear hgr
 rintro e w0 ⟨v0,rfl,hown0,hb0⟩
 have HB0:Aside (Below w.heap.size w w0):=hb0
 have hown0:w0.ownsRow w.heap.size 41 8 v0 0 []:=hown0
 obtain ⟨x0,y0,rfl⟩:=rowIs hown0
 clear hb0
 go_wp2
 refine wp_loop_rounds 5 ?_
 rw [rounds_succ]
 obtain ⟨v1,w1,hrun,hown1,hgrow⟩:=append_row (enc:=encX) (k:=8) (S:=48) (T:=41) underlying48 infoOp zj zj rfl encX_len encX_one hown0 zj HB0.o.size (ao 0) (cap 0) (R 0) zj (opsRow (HK.o.1.later HB0.o 0 zj)) (HK.o.2 0 zj) 48
 have HB1:Aside (Below w.heap.size w w1):=HB0.o.grown hgrow HB0.o.size (fun g hg=>(hown0.lt g hg).1)
 have f0:=cell_later HB0.o c0
 have f1:=cell_later HB0.o c1
 have f2:=cell_later HB0.o c2
 have f3:=cell_later HB0.o c3
 rw [vO] at hown1
 obtain ⟨x1,y1,rfl⟩:=rowIs hown1
 go_wp2_with (at_builtin;refine Lib.wpList_append_run _ rfl _ _ _ _ rfl _ _ rfl rfl _ _ hrun ?_)
 clear hrun hgrow f0 f1 f2 f3
 rw [rounds_succ]
 obtain ⟨v2,w2,hrun,hown2,hgrow⟩:=append_row (enc:=encX) (k:=8) (S:=48) (T:=41) underlying48 infoOp zj zj rfl encX_len encX_one hown1 zj HB1.o.size (ao 1) (cap 1) (R 1) zj (opsRow (HK.o.1.later HB1.o 1 zj)) (HK.o.2 1 zj) 48
 have HB2:Aside (Below w.heap.size w w2):=HB1.o.grown hgrow HB1.o.size (fun g hg=>(hown1.lt g hg).1)
 have f0:=cell_later HB1.o c0
 have f1:=cell_later HB1.o c1
 have f2:=cell_later HB1.o c2
 have f3:=cell_later HB1.o c3
 obtain ⟨x2,y2,rfl⟩:=rowIs hown2
 go_wp2_with (at_builtin;refine Lib.wpList_append_run _ rfl _ _ _ _ rfl _ _ rfl rfl _ _ hrun ?_)
 clear hrun hgrow f0 f1 f2 f3
 rw [rounds_succ]
 obtain ⟨v3,w3,hrun,hown3,hgrow⟩:=append_row (enc:=encX) (k:=8) (S:=48) (T:=41) underlying48 infoOp zj zj rfl encX_len encX_one hown2 zj HB2.o.size (ao 2) (cap 2) (R 2) zj (opsRow (HK.o.1.later HB2.o 2 zj)) (HK.o.2 2 zj) 48
 have HB3:Aside (Below w.heap.size w w3):=HB2.o.grown hgrow HB2.o.size (fun g hg=>(hown2.lt g hg).1)
 have f0:=cell_later HB2.o c0
 have f1:=cell_later HB2.o c1
 have f2:=cell_later HB2.o c2
 have f3:=cell_later HB2.o c3
 obtain ⟨x3,y3,rfl⟩:=rowIs hown3
 go_wp2_with (at_builtin;refine Lib.wpList_append_run _ rfl _ _ _ _ rfl _ _ rfl rfl _ _ hrun ?_)
 clear hrun hgrow f0 f1 f2 f3
 rw [rounds_succ]
 obtain ⟨v4,w4,hrun,hown4,hgrow⟩:=append_row (enc:=encX) (k:=8) (S:=48) (T:=41) underlying48 infoOp zj zj rfl encX_len encX_one hown3 zj HB3.o.size (ao 3) (cap 3) (R 3) zj (opsRow (HK.o.1.later HB3.o 3 zj)) (HK.o.2 3 zj) 48
 have HB4:Aside (Below w.heap.size w w4):=HB3.o.grown hgrow HB3.o.size (fun g hg=>(hown3.lt g hg).1)
 have f0:=cell_later HB3.o c0
 have f1:=cell_later HB3.o c1
 have f2:=cell_later HB3.o c2
 have f3:=cell_later HB3.o c3
 obtain ⟨x4,y4,rfl⟩:=rowIs hown4
 go_wp2_with (at_builtin;refine Lib.wpList_append_run _ rfl _ _ _ _ rfl _ _ rfl rfl _ _ hrun ?_)
 clear hrun hgrow f0 f1 f2 f3
 rw [rounds_succ]
 go_wp2
 go_ret
 refine ⟨_,rfl,?_,HB4.o⟩
 rw [HS.o]
 rw [show cellsOf (allR R)= []++cellsOf (R 0)++cellsOf (R 1)++cellsOf (R 2)++cellsOf (R 3) by unfold allR;simp [cellsOf_app]]
 exact hown4
