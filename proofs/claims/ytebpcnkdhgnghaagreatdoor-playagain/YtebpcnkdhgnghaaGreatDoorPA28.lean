import Derived.Test.YtebpcnkdhgnghaaGreatDoorPA27
set_option linter.unusedSimpArgs false
set_option linter.unusedVariables false
set_option maxRecDepth 100000
set_option maxHeartbeats 64000000
namespace Go.Proofs.YtebpcnkdhgnghaaGreatDoor
open Go.Proofs.Tryz
section
open Go.RowKit Go.Lib Go.Sort
theorem Fh {w W w':World} {pb:Nat} (h:Below w.heap.size w W) (hp:w.heap.size<=pb) (hb:But pb W w'):Below w.heap.size w w':=
 h.trans ⟨hb.os,hb.tape,hb.output,hb.size,fun k hk=>hb.block k (jW hk h.size) zj⟩
theorem IF (w:World) (pb:Nat) (T by_:Int) (h0:w.cell? ⟨pb,0,none⟩=some (.int .i64 T)) (h1:w.cell? ⟨pb,1,none⟩=some (.int .i64 by_)) (hT:0<=T) (hm:T<1073741824):
  Calls prog 352 #[.pointer (some ⟨pb,0,none⟩)] w fun e w'=>e= .returned (.tuple #[.agg #[.int .i64 (T+1),.int .i64 by_],.nilIface])/\Below w.heap.size w w':=by
 have hpl:pb<w.heap.size:=jR w ⟨pb,0,none⟩ h0
 obtain ⟨S,hS⟩:=za w.heap.size
 obtain ⟨U,hU⟩:=za ((w.alloc (.cells #[.int .i64 0,.int .i64 0] 59)).alloc (.cells #[.int .i64 T,.int .i64 by_] 108))
 have hbU:Below w.heap.size w U:=zH
 have hu1:U.heap[S+1]? =some (.cells #[.int .i64 T,.int .i64 by_] 108 (0,0)):=by
  rw [hU,hS]
  have:=heap_alloc_new (w.alloc (.cells #[.int .i64 0,.int .i64 0] 59)) (.cells #[.int .i64 T,.int .i64 by_] 108)
  exact kc8
 have hu0:U.heap[S]? =some (.cells #[.int .i64 0,.int .i64 0] 59 (0,0)):=by
  exact kg3
 have hclk:Clk (S+1) T by_ U:=⟨qz,qz,by simp [World.frozen?,hu1]⟩
 have hcall:=LH (S+1) T by_ U hclk hT hm
 have HB:Aside (Below w.heap.size w U/\S=w.heap.size/\U.heap[S]? =some (.cells #[.int .i64 0,.int .i64 0] 59 (0,0))):=⟨hbU,hS,hu0⟩
 have HU:Aside (U=(w.alloc (.cells #[.int .i64 0,.int .i64 0] 59)).alloc (.cells #[.int .i64 T,.int .i64 by_] 108)):=hU
 clear hU hbU hu1 hu0 hclk
 go_enter func352,ntmps352
 go_wp2_with fail
 rw [<-HU.o,<-HB.o.2.1]
 clear hS
 refine hcall.mono ?_
 clear hcall
 rintro e w1 ⟨rfl,hbut,-⟩
 have hS1:w1.heap[S]? =some (.cells #[.int .i64 0,.int .i64 0] 59 (0,0)):=(hbut.block S (jJ.1 HB.o.2.2).1 zj).trans HB.o.2.2
 have y0:w1.cell? ⟨S,0,none⟩=some (.int .i64 0):=qB
 have y1:w1.cell? ⟨S,1,none⟩=some (.int .i64 0):=qB
 have yf:∀o,w1.frozen? ⟨S,o,none⟩=false:=fun o=>by simp [World.frozen?,hS1]
 have B1:Aside (Below w.heap.size w w1):=Fh HB.o.1 xu hbut
 clear hbut hS1
 go_wp2
 (try simp only [Exit.inBlock,Exit.then])
 refine bodyPost_ret (v:=.tuple #[.agg #[.int .i64 (T+1),.int .i64 by_],.nilIface]) ?_ rfl ⟨rfl,?_⟩
 ·exact kc4
 exact aL (b:=S) B1.o xu 0 [.int .i64 (T+1),.int .i64 by_]
theorem Lw (x:OpX) (w:World) (h1:1<=x.1) (h2:x.1<=1073741824) (h3:0<=byO x) (h4:byO x<4):Calls prog 135 #[ar x] w fun e w'=>e= .returned (.int .i64 (idO x))/\Below w.heap.size w w':=by
 obtain ⟨t,b,n,k,nd,o,s,v⟩:=x
 unfold ar idO
 dsimp only at*
 exact ke5
theorem RepCell.row {w:World} {br:Nat} {T by_:Int} {kv:Nat->Value} {bt bx bc:Nat} (h:RepCell w br T by_ kv bt bx bc) {i:Nat} (hi:i<4):w.cell? ⟨br,2+i,none⟩=some (kv i):=by
 have h4:i=0\/i=1\/i=2\/i=3:=zj
 rcases h4 with rfl | rfl | rfl | rfl
 ·exact h.c2
 ·exact h.c3
 ·exact h.c4
 exact h.c5
def bE (T:Int) (i m:Nat) (kd:Nat) (nd o:Int) (s v:ByteArray):OpX:=(T+1,(i:Int),(m:Int)+1,kd,if nd=0 then (T+1)*4+(i:Int) else nd,o,s,v)
def KR (ad:Nat->Addr) (w:World) (x:OpX) (e:Ending) (w':World):Prop:=e= .returned (.tuple #[ar (if bY x=0 then x else aT),eV ad (bY x)])/\Below w.heap.size w w'
def dU (x:OpX):Nat:=if 1073741824<x.1 then 8 else bY x
theorem KX {x:OpX} (h:x.1<=1073741824):dU x=bY x:=if_neg zj
theorem Ir {T:Int} {i m kd:Nat} {nd o:Int} {s v:ByteArray} (h:T<1073741824):dU (bE T i m kd nd o s v)=bY (bE T i m kd nd o s v):=KX (by show T+1<=1073741824;omega)
def Jd (ad:Nat->Addr) (w:World) (x:OpX) (e:Ending) (w':World):Prop:=e= .returned (.tuple #[ar (if dU x=0 then x else aT),eV ad (dU x)])/\Below w.heap.size w w'
theorem own_lt {B:Nat} {ad:Nat->Addr} (w:World) (br:Nat) (T:Int) (i:Nat) (ao:Nat->Option Addr) (cap:Nat->Nat) (bt bx bc:Nat) (R:Rws) (kd:Nat) (nd o:Int) (s v:ByteArray) (hc:RepCell w br T (i:Int) (kvs ao cap R) bt bx bc) (hE:EnvE B ad w) (hi:i<4) (hT:0<=T) (hm:T<1073741824) (hn:(aX R).length<=250) (hs1:s.size<=1000000) (hs2:v.size<=1000000):
  Calls prog 341 #[.pointer (some ⟨br,0,none⟩),ar (0,0,0,kd,nd,o,s,v)] w (KR ad w (bE T i (R i).length kd nd o s v)):=by
 have hrl:∀i,i<4->(R i).length<=1000:=fun i hi=>yk
 have hri:=hrl i hi
 obtain ⟨S,hS⟩:=za w.heap.size
 obtain ⟨U,hU⟩:=za ((w.alloc (.cells #[.int .i64 0,.int .i64 0,.int .i64 0,.int .u8 (kd:Int),.int .i64 nd,.int .i64 o,.string s,.string v] 61)).alloc (.cells #[.int .i64 0,.int .i64 0,.int .i64 0,.int .u8 0,.int .i64 0,.int .i64 0,.string ⟨#[]⟩,.string ⟨#[]⟩] 61))
 have hbU:Below w.heap.size w U:=zH
 have O0:OpBlk U S (0,0,0,kd,nd,o,s,v):=by rw [hU,hS];exact (jV _ _ _ zq).trans (OpBlk.new w (0,0,0,kd,nd,o,s,v))
 have O1:OpBlk U (S+1) aT:=by
  rw [hU,hS]
  have:=OpBlk.new (w.alloc (.cells #[.int .i64 0,.int .i64 0,.int .i64 0,.int .u8 (kd:Int),.int .i64 nd,.int .i64 o,.string s,.string v] 61)) aT
  exact kc8
 have hcU:RepCell U br T (i:Int) (kvs ao cap R) bt bx bc:=hc.same (hbU.block _ hc.lt)
 have hbr:br<S:=by rw [hS];exact hc.lt
 have hcount:=mT U ao cap R hrl
 unfold kV at hcount
 have k2:U.cell? ⟨br,2,none⟩=some (.slice (ao 0) (R 0).length (cap 0)):=hcU.c2
 have k3:U.cell? ⟨br,3,none⟩=some (.slice (ao 1) (R 1).length (cap 1)):=hcU.c3
 have k4:U.cell? ⟨br,4,none⟩=some (.slice (ao 2) (R 2).length (cap 2)):=hcU.c4
 have k5:U.cell? ⟨br,5,none⟩=some (.slice (ao 3) (R 3).length (cap 3)):=hcU.c5
 have dn:decide ((400:Int)<=((aX R).length:Int))=false:=zl
 have dn':decide (400<=(aX R).length)=false:=zl
 have H0:Aside (RepCell U br T (i:Int) (kvs ao cap R) bt bx bc/\OpBlk U S (0,0,0,kd,nd,o,s,v)/\OpBlk U (S+1) aT/\Below w.heap.size w U/\S=w.heap.size/\EnvE B ad U):=⟨hcU,O0,O1,hbU,hS,hE.later hbU⟩
 have HU:Aside (U=(w.alloc (.cells #[.int .i64 0,.int .i64 0,.int .i64 0,.int .u8 (kd:Int),.int .i64 nd,.int .i64 o,.string s,.string v] 61)).alloc (.cells #[.int .i64 0,.int .i64 0,.int .i64 0,.int .u8 0,.int .i64 0,.int .i64 0,.string ⟨#[]⟩,.string ⟨#[]⟩] 61)):=hU
 have hEw:=hE.size
 clear hU hcU O0 O1 hbU hE hc hS
 unfold ar
 dsimp only
 go_enter func341,ntmps341
 go_upto_region 1 with fail
 rw [<-HU.o,<-H0.o.2.2.2.2.1]
 go_wp2_with fail
 refine hcount.mono ?_
 clear hcount k2 k3 k4 k5
 rintro e w1 ⟨rfl,hb1⟩
 have hc1:RepCell w1 br T (i:Int) (kvs ao cap R) bt bx bc:=H0.o.1.same (hb1.block _ H0.o.1.lt)
 have hnext:=IF w1 br T (i:Int) hc1.c0 hc1.c1 hT hm
 clear hc1
 go_wp2_with fail
 refine hnext.mono ?_
 clear hnext
 rintro e w2 ⟨rfl,hb2⟩
 obtain ⟨Q,hQ⟩:=za w2.heap.size
 obtain ⟨V,hV⟩:=za (w2.alloc (.cells #[.int .i64 (T+1),.int .i64 (i:Int)] 59))
 have hbV:Below w2.heap.size w2 V:=by rw [hV];exact zh w2 _
 have hbUV:Below U.heap.size U V:=hb1.trans ((hb2.mono hb1.size).trans (hbV.mono (jM hb1.size hb2.size)))
 have hst:V.heap[Q]? =some (.cells #[.int .i64 (T+1),.int .i64 (i:Int)] 59 (0,0)):=by rw [hV,hQ];exact heap_alloc_new w2 _
 have hSQ:S+1<Q:=by have:=H0.o.2.2.1.lt;have:=hb1.size;have:=hb2.size;omega
 have H1:Aside (RepCell V br T (i:Int) (kvs ao cap R) bt bx bc/\OpBlk V S (0,0,0,kd,nd,o,s,v)/\OpBlk V (S+1) aT/\Below U.heap.size U V/\EnvE B ad V):=⟨H0.o.1.same (hbUV.block _ H0.o.1.lt),H0.o.2.1.later hbUV,H0.o.2.2.1.later hbUV,hbUV,H0.o.2.2.2.2.2.later hbUV⟩
 have HV:Aside (V=w2.alloc (.cells #[.int .i64 (T+1),.int .i64 (i:Int)] 59)/\Q=w2.heap.size):=⟨hV,hQ⟩
 have s0:V.cell? ⟨Q,0,none⟩=some (.int .i64 (T+1)):=by simp [World.cell?,hst]
 have s1:V.cell? ⟨Q,1,none⟩=some (.int .i64 (i:Int)):=by simp [World.cell?,hst]
 have kb:V.cell? ⟨br,2+i,none⟩=some (.slice (ao i) (R i).length (cap i)):=H1.o.1.row hi
 obtain ⟨y0,y1,y2,y3,y4,y5,y6,y7,f8⟩:=H1.o.2.1.cells
 dsimp only at y0 y1 y2 y3 y4 y5 y6 y7
 have wi:((i:Int)).toNat=i:=zj
 have pi:(0:Int)<=(i:Int):=zj
 have bi:(i:Int)<4:=zj
 have n1:S≠Q:=zj
 have n2:Q≠S:=zj
 have n3:S≠br:=zj
 have n4:br≠S:=zj
 clear hbV hbUV hst hb1 hb2 hV hQ
 go_upto_region 6 with fail
 rw [<-HV.o.1,<-HV.o.2]
 go_region
 obtain ⟨w5,hw5⟩:=za ((((V.setCell ⟨S,0,none⟩ (.int .i64 (T+1))).setCell ⟨S,1,none⟩ (.int .i64 (i:Int))).setCell ⟨S,2,none⟩ (.int .i64 (((R i).length:Int)+1))).drew)
 have hk5:Keeps (fun k=>k=S) V w5:=by rw [hw5];exact (aY S [.int .i64 (T+1),.int .i64 (i:Int),.int .i64 (((R i).length:Int)+1)] 0 V).drew
 have O5:OpBlk w5 S (T+1,(i:Int),((R i).length:Int)+1,kd,nd,o,s,v):=by
  have hh:=ag S [.int .i64 (T+1),.int .i64 (i:Int),.int .i64 (((R i).length:Int)+1)] 0 V _ _ H1.o.2.1
  unfold OpBlk
  rw [hw5]
  refine Eq.trans hh ?_
  simp [Ca]
 have Z5:OpBlk w5 (S+1) aT:=(hk5.block (S+1) H1.o.2.2.1.lt zj).trans H1.o.2.2.1
 have B5:Below w.heap.size w w5:=(zi H0.o.2.2.2.1 H1.o.2.2.2.1).trans (hk5.below (jM H0.o.2.2.2.1.size H1.o.2.2.2.1.size) (fun k e=>by have:=H0.o.2.2.2.2.1;omega))
 have OX:Aside (OpBlk w5 S (T+1,(i:Int),((R i).length:Int)+1,kd,nd,o,s,v)/\OpBlk w5 (S+1) aT/\Below w.heap.size w w5):=⟨O5,Z5,B5⟩
 have EX:Aside (EnvE B ad w5):=H1.o.2.2.2.2.mono (hk5.below H1.o.2.2.2.2.size (fun k e=>by have:=H0.o.2.2.2.2.1;have:=H0.o.2.2.2.2.2.size;have:=H0.o.2.2.2.2.1;have hBw:=hEw;omega))
 rw [<-hw5]
 clear hw5 hk5 O5 Z5 B5 s0 s1 kb y0 y1 y2 y3 y4 y5 y6 y7 f8
 by_cases hnd:nd=0
 ·have hid:=Lw (T+1,(i:Int),((R i).length:Int)+1,kd,nd,o,s,v) w5 (by show 1<=T+1;omega) (by show T+1<=1073741824;omega) (by show (0:Int)<=(i:Int);omega) (by show (i:Int)<4;omega)
  have eid:idO (T+1,(i:Int),((R i).length:Int)+1,kd,nd,o,s,v)=(T+1)*4+(i:Int):=rfl
  rw [eid] at hid
  have hown:bE T i (R i).length kd nd o s v=(T+1,(i:Int),((R i).length:Int)+1,kd,(T+1)*4+(i:Int),o,s,v):=by unfold bE;rw [if_pos hnd]
  have HOW:=Lib.hid hown
  unfold ar at hid
  dsimp only at hid
  obtain ⟨y0,y1,y2,y3,y4,y5,y6,y7,f8⟩:=OX.o.1.cells
  dsimp only at y0 y1 y2 y3 y4 y5 y6 y7
  have HND:=Lib.hid hnd
  have dnd:(nd==0)=true:=by simp [hnd]
  clear hnd hown eid
  go_wp2_with fail
  refine hid.mono ?_
  clear hid y0 y1 y2 y3 y4 y5 y6 y7 f8
  rintro e w5' ⟨rfl,hb5⟩
  have O5:=OX.o.1.later hb5
  have Z5:=OX.o.2.1.later hb5
  obtain ⟨w6,hw6⟩:=za (w5'.setCell ⟨S,4,none⟩ (.int .i64 ((T+1)*4+(i:Int))))
  have hk6:Keeps (fun k=>k=S) w5' w6:=by rw [hw6];exact aY S [.int .i64 ((T+1)*4+(i:Int))] 4 w5'
  have hS0:=H0.o.2.2.2.2.1
  have O6:OpBlk w6 S (T+1,(i:Int),((R i).length:Int)+1,kd,(T+1)*4+(i:Int),o,s,v):=by
   have hh:=ag S [.int .i64 ((T+1)*4+(i:Int))] 4 w5' _ _ O5
   unfold OpBlk
   rw [hw6]
   refine Eq.trans hh ?_
   simp [Ca]
  have B5':Below w.heap.size w w5':=zi OX.o.2.2 hb5
  have OX6:Aside (OpBlk w6 S (T+1,(i:Int),((R i).length:Int)+1,kd,(T+1)*4+(i:Int),o,s,v)/\OpBlk w6 (S+1) aT/\Below w.heap.size w w6):=⟨O6,(hk6.block (S+1) Z5.lt zj).trans Z5,B5'.trans (hk6.below B5'.size (fun k e=>zj))⟩
  have EX6:Aside (EnvE B ad w6):=(EX.o.later hb5).mono (hk6.below (EX.o.later hb5).size (fun k e=>zj))
  obtain ⟨y0,y1,y2,y3,y4,y5,y6,y7,f8⟩:=O5.cells
  dsimp only at y0 y1 y2 y3 y4 y5 y6 y7
  have HW6:=Lib.hid hw6
  clear hw6 hk6 hS0 O6 B5' O5 Z5 hb5
  go_upto_region 9 with fail
  rw [<-HW6.o]
  have hown:=HOW.o
  clear y0 y1 y2 y3 y4 y5 y6 y7 f8
  have hchk:=bX (T+1) (i:Int) (((R i).length:Int)+1) kd ((T+1)*4+(i:Int)) o s v w6 (EX6.o.op4) hs1 hs2
  obtain ⟨y0,y1,y2,y3,y4,y5,y6,y7,f8⟩:=OX6.o.1.cells
  dsimp only at y0 y1 y2 y3 y4 y5 y6 y7
  have hlz:=OX6.o.2.1.lt
  cases herr:opE (T+1) (i:Int) (((R i).length:Int)+1) kd ((T+1)*4+(i:Int)) o s.data.toList v.data.toList with
  | zero=>
   rw [herr] at hchk
   have hev:eV ad 0= .nilIface:=rfl
   rw [hev] at hchk
   have HR:Aside (bY (bE T i (R i).length kd nd o s v)=0/\bE T i (R i).length kd nd o s v=(T+1,(i:Int),((R i).length:Int)+1,kd,(T+1)*4+(i:Int),o,s,v)):=⟨by rw [hown];exact herr,hown⟩
   clear herr hev hown
   go_wp2_with fail
   refine hchk.mono ?_
   clear hchk y0 y1 y2 y3 y4 y5 y6 y7 f8
   rintro e w7 ⟨rfl,hb7⟩
   have O7:=OX6.o.1.later hb7
   have Z7:=OX6.o.2.1.later hb7
   have hz7:=Z7.lt
   obtain ⟨y0,y1,y2,y3,y4,y5,y6,y7,f8⟩:=O7.cells
   dsimp only at y0 y1 y2 y3 y4 y5 y6 y7
   obtain ⟨z0,z1,z2,z3,z4,z5,z6,z7,zf⟩:=Z7.cells
   unfold aT at z0 z1 z2 z3 z4 z5 z6 z7
   dsimp only at z0 z1 z2 z3 z4 z5 z6 z7
   have B7:Aside (Below w.heap.size w w7/\S=w.heap.size):=⟨zi OX6.o.2.2 hb7,H0.o.2.2.2.2.1⟩
   clear hb7 O7 Z7
   go_wp2
   (try simp only [Exit.inBlock,Exit.then])
   refine bodyPost_ret (v:=.tuple #[.agg #[.int .i64 (T+1),.int .i64 (i:Int),.int .i64 (((R i).length:Int)+1),.int .u8 (kd:Int),.int .i64 ((T+1)*4+(i:Int)),.int .i64 o,.string s,.string v],.nilIface]) ?_ rfl ⟨by rw [HR.o.1,if_pos rfl,HR.o.2];rfl,?_⟩
   ·exact kc4
   exact aL (b:=S+1) B7.o.1 jF 0 [.int .i64 (T+1),.int .i64 (i:Int),.int .i64 (((R i).length:Int)+1),.int .u8 (kd:Int),.int .i64 ((T+1)*4+(i:Int)),.int .i64 o,.string s,.string v]
  | succ cd=>
   rw [herr] at hchk
   have hev:eV ad (cd+1)= .iface 450 (.pointer (some (ad cd))):=rfl
   rw [hev] at hchk
   have HR:Aside (bY (bE T i (R i).length kd nd o s v)=cd+1):=by show bY _=_;rw [hown];exact herr
   clear herr hev hown
   go_wp2_with fail
   refine hchk.mono ?_
   clear hchk y0 y1 y2 y3 y4 y5 y6 y7 f8
   rintro e w7 ⟨rfl,hb7⟩
   have Z7:=OX6.o.2.1.later hb7
   have hz7:=Z7.lt
   obtain ⟨z0,z1,z2,z3,z4,z5,z6,z7,zf⟩:=Z7.cells
   unfold aT at z0 z1 z2 z3 z4 z5 z6 z7
   dsimp only at z0 z1 z2 z3 z4 z5 z6 z7
   have B7:Aside (Below w.heap.size w w7/\S=w.heap.size):=⟨zi OX6.o.2.2 hb7,H0.o.2.2.2.2.1⟩
   clear hb7 Z7
   go_wp2
   (try simp only [Exit.inBlock,Exit.then])
   refine bodyPost_ret (v:=.tuple #[ar aT,.iface 450 (.pointer (some (ad cd)))]) ?_ rfl ⟨by rw [HR.o,if_neg zj];rfl,?_⟩
   ·exact ke8
   exact kg9
 have hown:bE T i (R i).length kd nd o s v=(T+1,(i:Int),((R i).length:Int)+1,kd,nd,o,s,v):=by unfold bE;rw [if_neg hnd]
 have dnd:(nd==0)=false:=by simp [hnd]
 have hchk:=bX (T+1) (i:Int) (((R i).length:Int)+1) kd nd o s v w5 (EX.o.op4) hs1 hs2
 obtain ⟨y0,y1,y2,y3,y4,y5,y6,y7,f8⟩:=OX.o.1.cells
 dsimp only at y0 y1 y2 y3 y4 y5 y6 y7
 have hlz:=OX.o.2.1.lt
 cases herr:opE (T+1) (i:Int) (((R i).length:Int)+1) kd nd o s.data.toList v.data.toList with
 | zero=>
  rw [herr] at hchk
  have hev:eV ad 0= .nilIface:=rfl
  rw [hev] at hchk
  have HR:Aside (bY (bE T i (R i).length kd nd o s v)=0/\bE T i (R i).length kd nd o s v=(T+1,(i:Int),((R i).length:Int)+1,kd,nd,o,s,v)):=⟨by rw [hown];exact herr,hown⟩
  clear herr hev hown
  go_wp2_with fail
  refine hchk.mono ?_
  clear hchk y0 y1 y2 y3 y4 y5 y6 y7 f8
  rintro e w7 ⟨rfl,hb7⟩
  have O7:=OX.o.1.later hb7
  have Z7:=OX.o.2.1.later hb7
  have hz7:=Z7.lt
  obtain ⟨y0,y1,y2,y3,y4,y5,y6,y7,f8⟩:=O7.cells
  dsimp only at y0 y1 y2 y3 y4 y5 y6 y7
  obtain ⟨z0,z1,z2,z3,z4,z5,z6,z7,zf⟩:=Z7.cells
  unfold aT at z0 z1 z2 z3 z4 z5 z6 z7
  dsimp only at z0 z1 z2 z3 z4 z5 z6 z7
  have B7:Aside (Below w.heap.size w w7/\S=w.heap.size):=⟨zi OX.o.2.2 hb7,H0.o.2.2.2.2.1⟩
  clear hb7 O7 Z7
  go_wp2
  (try simp only [Exit.inBlock,Exit.then])
  refine bodyPost_ret (v:=.tuple #[.agg #[.int .i64 (T+1),.int .i64 (i:Int),.int .i64 (((R i).length:Int)+1),.int .u8 (kd:Int),.int .i64 (nd),.int .i64 o,.string s,.string v],.nilIface]) ?_ rfl ⟨by rw [HR.o.1,if_pos rfl,HR.o.2];rfl,?_⟩
  ·exact kc4
  exact aL (b:=S+1) B7.o.1 jF 0 [.int .i64 (T+1),.int .i64 (i:Int),.int .i64 (((R i).length:Int)+1),.int .u8 (kd:Int),.int .i64 (nd),.int .i64 o,.string s,.string v]
 | succ cd=>
  rw [herr] at hchk
  have hev:eV ad (cd+1)= .iface 450 (.pointer (some (ad cd))):=rfl
  rw [hev] at hchk
  have HR:Aside (bY (bE T i (R i).length kd nd o s v)=cd+1):=by show bY _=_;rw [hown];exact herr
  clear herr hev hown
  go_wp2_with fail
  refine hchk.mono ?_
  clear hchk y0 y1 y2 y3 y4 y5 y6 y7 f8
  rintro e w7 ⟨rfl,hb7⟩
  have Z7:=OX.o.2.1.later hb7
  have hz7:=Z7.lt
  obtain ⟨z0,z1,z2,z3,z4,z5,z6,z7,zf⟩:=Z7.cells
  unfold aT at z0 z1 z2 z3 z4 z5 z6 z7
  dsimp only at z0 z1 z2 z3 z4 z5 z6 z7
  have B7:Aside (Below w.heap.size w w7/\S=w.heap.size):=⟨zi OX.o.2.2 hb7,H0.o.2.2.2.2.1⟩
  clear hb7 Z7
  go_wp2
  (try simp only [Exit.inBlock,Exit.then])
  refine bodyPost_ret (v:=.tuple #[ar aT,.iface 450 (.pointer (some (ad cd)))]) ?_ rfl ⟨by rw [HR.o,if_neg zj];rfl,?_⟩
  ·exact ke8
  exact kg9
theorem BG (w:World) (pb:Nat) (T by_:Int) (eb:Value) (hg:w.cell? ⟨2,0,none⟩=some eb) (h0:w.cell? ⟨pb,0,none⟩=some (.int .i64 T)) (h1:w.cell? ⟨pb,1,none⟩=some (.int .i64 by_)) (hm:1073741824<=T):
  Calls prog 352 #[.pointer (some ⟨pb,0,none⟩)] w fun e w'=>e= .returned (.tuple #[.agg #[.int .i64 0,.int .i64 0],eb])/\Below w.heap.size w w':=by
 have hpl:pb<w.heap.size:=jR w ⟨pb,0,none⟩ h0
 have hgl:2<w.heap.size:=jR w ⟨2,0,none⟩ hg
 obtain ⟨S,hS⟩:=za w.heap.size
 obtain ⟨U,hU⟩:=za ((w.alloc (.cells #[.int .i64 0,.int .i64 0] 59)).alloc (.cells #[.int .i64 T,.int .i64 by_] 108))
 have hbU:Below w.heap.size w U:=zH
 have hu1:U.heap[S+1]? =some (.cells #[.int .i64 T,.int .i64 by_] 108 (0,0)):=by
  rw [hU,hS]
  have:=heap_alloc_new (w.alloc (.cells #[.int .i64 0,.int .i64 0] 59)) (.cells #[.int .i64 T,.int .i64 by_] 108)
  exact kc8
 have hu0:U.heap[S]? =some (.cells #[.int .i64 0,.int .i64 0] 59 (0,0)):=by
  exact kg3
 have hclk:Clk (S+1) T by_ U:=⟨qz,qz,by simp [World.frozen?,hu1]⟩
 have hcall:=Fc (S+1) T by_ U eb ((hbU.cell (p:=⟨2,0,none⟩) hgl).trans hg) hclk hm
 have HB:Aside (Below w.heap.size w U/\S=w.heap.size/\U.heap[S]? =some (.cells #[.int .i64 0,.int .i64 0] 59 (0,0))):=⟨hbU,hS,hu0⟩
 have HU:Aside (U=(w.alloc (.cells #[.int .i64 0,.int .i64 0] 59)).alloc (.cells #[.int .i64 T,.int .i64 by_] 108)):=hU
 clear hU hbU hu1 hu0 hclk
 go_enter func352,ntmps352
 go_wp2_with fail
 rw [<-HU.o,<-HB.o.2.1]
 clear hS
 refine hcall.mono ?_
 clear hcall
 rintro e w1 ⟨rfl,hb1⟩
 have hS1:w1.heap[S]? =some (.cells #[.int .i64 0,.int .i64 0] 59 (0,0)):=(hb1.block S (jJ.1 HB.o.2.2).1).trans HB.o.2.2
 have y0:w1.cell? ⟨S,0,none⟩=some (.int .i64 0):=qB
 have y1:w1.cell? ⟨S,1,none⟩=some (.int .i64 0):=qB
 have yf:∀o,w1.frozen? ⟨S,o,none⟩=false:=fun o=>by simp [World.frozen?,hS1]
 have B1:Aside (Below w.heap.size w w1):=zi HB.o.1 hb1
 clear hb1 hS1
 go_wp2
 (try simp only [Exit.inBlock,Exit.then])
 refine bodyPost_ret (v:=.tuple #[.agg #[.int .i64 0,.int .i64 0],eb]) ?_ rfl ⟨rfl,?_⟩
 ·exact kc4
 exact aL (b:=S) B1.o xu 0 [.int .i64 0,.int .i64 0]
theorem Gs {B:Nat} {ad:Nat->Addr} (w:World) (br:Nat) (T:Int) (i:Nat) (ao:Nat->Option Addr) (cap:Nat->Nat) (bt bx bc:Nat) (R:Rws) (kd:Nat) (nd o:Int) (s v:ByteArray) (hc:RepCell w br T (i:Int) (kvs ao cap R) bt bx bc) (hE:EnvE B ad w) (hi:i<4) (hm:1073741824<=T) (hn:(aX R).length<=250):
  Calls prog 341 #[.pointer (some ⟨br,0,none⟩),ar (0,0,0,kd,nd,o,s,v)] w fun e w'=>e= .returned (.tuple #[ar aT,eV ad 8])/\Below w.heap.size w w':=by
 have hrl:∀i,i<4->(R i).length<=1000:=fun i hi=>yk
 obtain ⟨S,hS⟩:=za w.heap.size
 obtain ⟨U,hU⟩:=za ((w.alloc (.cells #[.int .i64 0,.int .i64 0,.int .i64 0,.int .u8 (kd:Int),.int .i64 nd,.int .i64 o,.string s,.string v] 61)).alloc (.cells #[.int .i64 0,.int .i64 0,.int .i64 0,.int .u8 0,.int .i64 0,.int .i64 0,.string ⟨#[]⟩,.string ⟨#[]⟩] 61))
 have hbU:Below w.heap.size w U:=zH
 have O1:OpBlk U (S+1) aT:=by
  rw [hU,hS]
  have:=OpBlk.new (w.alloc (.cells #[.int .i64 0,.int .i64 0,.int .i64 0,.int .u8 (kd:Int),.int .i64 nd,.int .i64 o,.string s,.string v] 61)) aT
  exact kc8
 have hcU:RepCell U br T (i:Int) (kvs ao cap R) bt bx bc:=hc.same (hbU.block _ hc.lt)
 have hcount:=mT U ao cap R hrl
 unfold kV at hcount
 have k2:U.cell? ⟨br,2,none⟩=some (.slice (ao 0) (R 0).length (cap 0)):=hcU.c2
 have k3:U.cell? ⟨br,3,none⟩=some (.slice (ao 1) (R 1).length (cap 1)):=hcU.c3
 have k4:U.cell? ⟨br,4,none⟩=some (.slice (ao 2) (R 2).length (cap 2)):=hcU.c4
 have k5:U.cell? ⟨br,5,none⟩=some (.slice (ao 3) (R 3).length (cap 3)):=hcU.c5
 have dn:decide ((400:Int)<=((aX R).length:Int))=false:=zl
 have dn':decide (400<=(aX R).length)=false:=zl
 have H0:Aside (RepCell U br T (i:Int) (kvs ao cap R) bt bx bc/\OpBlk U (S+1) aT/\Below w.heap.size w U/\S=w.heap.size/\EnvE B ad U):=⟨hcU,O1,hbU,hS,hE.later hbU⟩
 have HU:Aside (U=(w.alloc (.cells #[.int .i64 0,.int .i64 0,.int .i64 0,.int .u8 (kd:Int),.int .i64 nd,.int .i64 o,.string s,.string v] 61)).alloc (.cells #[.int .i64 0,.int .i64 0,.int .i64 0,.int .u8 0,.int .i64 0,.int .i64 0,.string ⟨#[]⟩,.string ⟨#[]⟩] 61)):=hU
 clear hU hcU O1 hbU hE hc hS
 unfold ar
 dsimp only
 go_enter func341,ntmps341
 go_upto_region 1 with fail
 rw [<-HU.o,<-H0.o.2.2.2.1]
 go_wp2_with fail
 refine hcount.mono ?_
 clear hcount k2 k3 k4 k5
 rintro e w1 ⟨rfl,hb1⟩
 have hc1:RepCell w1 br T (i:Int) (kvs ao cap R) bt bx bc:=H0.o.1.same (hb1.block _ H0.o.1.lt)
 have hnext:=BG w1 br T (i:Int) _ (H0.o.2.2.2.2.later hb1).c7 hc1.c0 hc1.c1 hm
 clear hc1
 go_wp2_with fail
 refine hnext.mono ?_
 clear hnext
 rintro e w2 ⟨rfl,hb2⟩
 have hb12:Below U.heap.size U w2:=zi hb1 hb2
 have Z7:=H0.o.2.1.later hb12
 have hz7:=Z7.lt
 have B7:Aside (Below w.heap.size w w2/\S=w.heap.size):=⟨zi H0.o.2.2.1 hb12,H0.o.2.2.2.1⟩
 clear hb1 hb2 hb12
 obtain ⟨V,hV⟩:=ze (w2.alloc (.cells #[.int .i64 0,.int .i64 0] 59))
 have hbV:Below w2.heap.size w2 V:=by rw [hV.o];exact zh w2 _
 have ZV:=Z7.later hbV
 have hzV:=ZV.lt
 obtain ⟨z0,z1,z2,z3,z4,z5,z6,z7,zf⟩:=ZV.cells
 unfold aT at z0 z1 z2 z3 z4 z5 z6 z7
 dsimp only at z0 z1 z2 z3 z4 z5 z6 z7
 have BV:Aside (Below w.heap.size w V/\S=w.heap.size):=⟨zi B7.o.1 hbV,B7.o.2⟩
 clear hbV ZV Z7 B7
 go_upto_region 5 with fail
 rw [<-hV.o]
 go_wp2
 (try simp only [Exit.inBlock,Exit.then])
 refine bodyPost_ret (v:=.tuple #[ar aT,.iface 450 (.pointer (some (ad 7)))]) ?_ rfl ⟨rfl,?_⟩
 ·exact ke8
 exact aL (b:=S+1) BV.o.1 (by have:=BV.o.2;omega) 0 [.int .i64 0,.int .i64 0,.int .i64 0,.int .u8 0,.int .i64 0,.int .i64 0,.string ⟨#[]⟩,.string ⟨#[]⟩]
theorem kU {B:Nat} {ad:Nat->Addr} (w:World) (br:Nat) (T:Int) (i:Nat) (ao:Nat->Option Addr) (cap:Nat->Nat) (bt bx bc:Nat) (R:Rws) (kd:Nat) (nd o:Int) (s v:ByteArray) (hc:RepCell w br T (i:Int) (kvs ao cap R) bt bx bc) (hE:EnvE B ad w) (hi:i<4) (hT:0<=T) (hm:T<=1073741824) (hn:(aX R).length<=250) (hs1:s.size<=1000000) (hs2:v.size<=1000000):
  Calls prog 341 #[.pointer (some ⟨br,0,none⟩),ar (0,0,0,kd,nd,o,s,v)] w (Jd ad w (bE T i (R i).length kd nd o s v)):=by
 by_cases hm2:T<1073741824
 ·refine (own_lt w br T i ao cap bt bx bc R kd nd o s v hc hE hi hT hm2 hn hs1 hs2).mono ?_
  rintro e w' ⟨he,hb⟩
  exact ⟨by rw [Ir hm2];exact he,hb⟩
 refine (Gs w br T i ao cap bt bx bc R kd nd o s v hc hE hi zj hn).mono ?_
 rintro e w' ⟨he,hb⟩
 have e8:dU (bE T i (R i).length kd nd o s v)=8:=if_pos (by show 1073741824<T+1;omega)
 exact ⟨by rw [e8];exact he,hb⟩
end
section
open Go.RowKit Go.Lib Go.Sort Go.Maps
def mD (ad:Nat->Addr) (w:World) (ok:Prop) (x:OpX) (e:Ending) (w':World):Prop:=(ok/\Jd ad w x e w')\/(¬ok/\e= .returned (.tuple #[ar aT,eV ad 6])/\Below w.heap.size w w')
theorem JX {B:Nat} {ad:Nat->Addr} (w:World) (c:Nat->Nat) (br:Nat) (T:Int) (i:Nat) (ao:Nat->Option Addr) (cap:Nat->Nat) (bt bx bc:Nat) (R:Rws) (into:Int) (name:ByteArray) (hc:RepCell w br T (i:Int) (kvs ao cap R) bt bx bc) (hrows:RowsAt w c (kvs ao cap R) R) (hR:RowsK R) (hE:EnvE B ad w) (hi:i<4) (hT:0<=T) (hm:T<=1073741824) (hn:(aX R).length<=250) (hs1:name.size<=1000000) (h2: -9223372036854775808<=into) (h3:into<=9223372036854775807):
  Calls prog 315 #[.pointer (some ⟨br,0,none⟩),.int .i64 into,.string name] w (mD ad w (into=0\/into=1\/KnownN (aX R) into) (bE T i (R i).length 109 0 into name ⟨#[]⟩)):=by
 have hrl:∀i,i<4->(R i).length<=1000:=fun i hi=>yk
 obtain ⟨S,hS⟩:=za w.heap.size
 obtain ⟨U,hU⟩:=za (w.alloc (.cells #[.int .i64 0,.int .i64 0,.int .i64 0,.int .u8 0,.int .i64 0,.int .i64 0,.string ⟨#[]⟩,.string ⟨#[]⟩] 61))
 have hbU:Below w.heap.size w U:=zN
 have Z0:OpBlk U S aT:=yl
 have hcU:RepCell U br T (i:Int) (kvs ao cap R) bt bx bc:=hc.same (hbU.block _ hc.lt)
 obtain ⟨zb,hzb⟩:∃zb:Bool,zb=true↔(into=0\/into=1\/KnownN (aX R) into):=⟨@decide _ (Classical.propDecidable _),@decide_eq_true_iff _ (Classical.propDecidable _)⟩
 have hplace:=gF U ao cap R into zb hzb ((hE.later hbU).op4) ((KnownAt.of_rows hrows).later hbU) hR.toN hrl h2 h3
 unfold kV at hplace
 have k2:U.cell? ⟨br,2,none⟩=some (.slice (ao 0) (R 0).length (cap 0)):=hcU.c2
 have k3:U.cell? ⟨br,3,none⟩=some (.slice (ao 1) (R 1).length (cap 1)):=hcU.c3
 have k4:U.cell? ⟨br,4,none⟩=some (.slice (ao 2) (R 2).length (cap 2)):=hcU.c4
 have k5:U.cell? ⟨br,5,none⟩=some (.slice (ao 3) (R 3).length (cap 3)):=hcU.c5
 have H0:Aside (RepCell U br T (i:Int) (kvs ao cap R) bt bx bc/\OpBlk U S aT/\Below w.heap.size w U/\S=w.heap.size/\EnvE B ad U/\B<=w.heap.size/\(zb=true↔(into=0\/into=1\/KnownN (aX R) into))):=⟨hcU,Z0,hbU,hS,hE.later hbU,hE.size,hzb⟩
 have HU:Aside (U=w.alloc (.cells #[.int .i64 0,.int .i64 0,.int .i64 0,.int .u8 0,.int .i64 0,.int .i64 0,.string ⟨#[]⟩,.string ⟨#[]⟩] 61)):=hU
 clear hU hcU Z0 hbU hE hc hS hzb hrows hR
 go_enter func315,ntmps315
 go_upto_region 1 with fail
 rw [<-HU.o,<-H0.o.2.2.2.1]
 go_wp2_with fail
 refine hplace.mono ?_
 clear hplace k2 k3 k4 k5
 rintro e w1 ⟨rfl,hb1⟩
 have Z1:=H0.o.2.1.later hb1
 have H1:Aside (OpBlk w1 S aT/\Below w.heap.size w w1/\EnvE B ad w1/\RepCell w1 br T (i:Int) (kvs ao cap R) bt bx bc):=⟨Z1,zi H0.o.2.2.1 hb1,H0.o.2.2.2.2.1.later hb1,H0.o.1.same (hb1.block _ H0.o.1.lt)⟩
 clear hb1 Z1
 cases zb with
 | false=>
  have hno:¬(into=0\/into=1\/KnownN (aX R) into):=fun q=>jz
  obtain ⟨z0,z1,z2,z3,z4,z5,z6,z7,zf⟩:=H1.o.1.cells
  unfold aT at z0 z1 z2 z3 z4 z5 z6 z7
  dsimp only at z0 z1 z2 z3 z4 z5 z6 z7
  have eg:=H1.o.2.2.1.c5
  have hlo:=H1.o.2.2.1.low
  have hSw:=H0.o.2.2.2.1
  have hBw:=H0.o.2.2.2.2.2.1
  have n1:1≠S:=zj
  have n2:S≠1:=zj
  have HNO:=Lib.hid hno
  clear hlo hSw hBw hno
  go_wp2_with fail
  go_region
  all_goals
   go_wp2
   (try simp only [Exit.inBlock,Exit.then])
   refine bodyPost_ret (v:=.tuple #[ar aT,eV ad 6]) ?_ rfl (.inr ⟨HNO.o,rfl,?_⟩)
   ·exact kd1
   exact kc2
 | true=>
  have HOK:Aside (into=0\/into=1\/KnownN (aX R) into):=H0.o.2.2.2.2.2.2.1 rfl
  have hown:=kU w1 br T i ao cap bt bx bc R 109 0 into name ⟨#[]⟩ H1.o.2.2.2 H1.o.2.2.1 hi hT hm hn hs1 zo
  unfold ar at hown
  dsimp only at hown
  go_wp2_with fail
  refine hown.mono ?_
  clear hown
  rintro e w2 ⟨he,hb2⟩
  obtain ⟨y,hy⟩:=za ((if dU (bE T i (R i).length 109 0 into name ⟨#[]⟩)=0 then bE T i (R i).length 109 0 into name ⟨#[]⟩ else aT))
  obtain ⟨er,her⟩:=za (eV ad (dU (bE T i (R i).length 109 0 into name ⟨#[]⟩)))
  rw [<-hy,<-her] at he
  subst he
  have HY:Aside (y=(if dU (bE T i (R i).length 109 0 into name ⟨#[]⟩)=0 then bE T i (R i).length 109 0 into name ⟨#[]⟩ else aT)/\er=eV ad (dU (bE T i (R i).length 109 0 into name ⟨#[]⟩))):=⟨hy,her⟩
  clear hy her
  obtain ⟨t,b,n,kd,nd,o,s,v⟩:=y
  unfold ar
  dsimp only
  have Z2:=H1.o.1.later hb2
  obtain ⟨z0,z1,z2,z3,z4,z5,z6,z7,zf⟩:=Z2.cells
  unfold aT at z0 z1 z2 z3 z4 z5 z6 z7
  dsimp only at z0 z1 z2 z3 z4 z5 z6 z7
  have B2:Aside (Below w.heap.size w w2):=zi H1.o.2.1 hb2
  clear hb2 Z2
  go_wp2
  (try simp only [Exit.inBlock,Exit.then])
  refine bodyPost_ret (v:=.tuple #[.agg #[.int .i64 t,.int .i64 b,.int .i64 n,.int .u8 (kd:Int),.int .i64 nd,.int .i64 o,.string s,.string v],er]) ?_ rfl (.inl ⟨HOK.o,⟨by rw [<-HY.o.1,<-HY.o.2];rfl,?_⟩⟩)
  ·exact kc4
  exact aL (b:=S) B2.o yc 0 [.int .i64 t,.int .i64 b,.int .i64 n,.int .u8 (kd:Int),.int .i64 nd,.int .i64 o,.string s,.string v]
end
section
open Go.RowKit Go.Lib Go.Sort Go.Maps
def Mw (A:List OpX) (nd:Int) (s:ByteArray):Prop:=(¬KnownN A nd/\s=⟨#[]⟩)\/(KnownN A nd/\∃L,LineIs A nd L/\s.data.toList=fU L)
theorem If (w:World) (c:Nat->Nat) (br:Nat) (T by_:Int) (kv:Nat->Value) (bt bx bc:Nat) (A:List OpX) (nd:Int) (hc:RepCell w br T by_ kv bt bx bc) (ht:TextC w c bx A) (hlen:A.length<=1000) (h2: -2^63<=nd) (h3:nd<2^63):
  Calls prog 54 #[.pointer (some ⟨br,0,none⟩),.int .i64 nd] w fun e w'=>∃s,e= .returned (.string s)/\Mw A nd s/\Below w.heap.size w w':=by
 obtain ⟨nx,tx,t1,t2,t3,t4,t5⟩:=ht
 have k7:=hc.c7
 have lk:=t2.look (oI h2 h3)
 cases hp:tx nd with
 | none=>
  rw [hp] at lk
  unfold kZ at lk
  simp only [Option.map_none,uT] at lk
  have HN:Aside (¬KnownN A nd):=fun q=>xW
  clear t1 t2 t3 t4 t5 hp
  go_enter func54,ntmps54
  go_wp2
  go_ret
  exact ⟨_,rfl,.inl ⟨HN.o,rfl⟩,jN _ w⟩
 | some p=>
  rw [hp] at lk
  unfold kZ at lk
  simp only [uo,uU] at lk
  obtain ⟨v,L,l1,l2,l3,l4⟩:=t5 nd p hp
  have hcall:=JV w (p+1) p v L l1 (jM l2.len hlen)
  have HK:Aside (KnownN A nd/\LineIs A nd L):=⟨(t4 nd).1 ji,l2⟩
  clear t1 t2 t3 t4 t5 hp l1 l2 l3 l4
  go_enter func54,ntmps54
  go_wp2_with fail
  refine hcall.mono ?_
  clear hcall
  rintro e w' ⟨rfl,hb⟩
  have HB:Aside (Below w.heap.size w w'):=hb
  clear hb
  go_wp2
  go_ret
  exact ⟨_,rfl,.inr ⟨HK.o.1,L,HK.o.2,zq⟩,HB.o⟩
theorem nN (w:World) (c:Nat->Nat) (br:Nat) (T by_:Int) (kv:Nat->Value) (bt bx bc:Nat) (A:List OpX) (nd n:Int) (hc:RepCell w br T by_ kv bt bx bc) (ht:TextC w c bx A) (hlen:A.length<=1000) (h2: -2^63<=nd) (h3:nd<2^63) (hn: -9223372036854775808<=n/\n<=9223372036854775807):
  Calls prog 342 #[.pointer (some ⟨br,0,none⟩),.int .i64 nd,.int .i64 n] w fun e w'=>∃a:Int×Bool,e= .returned (.tuple #[.int .i64 a.1,.bool a.2])/\(¬KnownN A nd->a=(0,false))/\(KnownN A nd->∃L,LineIs A nd L/\a=atL n L)/\Below w.heap.size w w':=by
 obtain ⟨nx,tx,t1,t2,t3,t4,t5⟩:=ht
 have k7:=hc.c7
 have lk:=t2.look (oI h2 h3)
 cases hp:tx nd with
 | none=>
  rw [hp] at lk
  unfold kZ at lk
  simp only [Option.map_none,uT] at lk
  have HN:Aside (¬KnownN A nd):=fun q=>xW
  clear t1 t2 t3 t4 t5 hp
  go_enter func342,ntmps342
  go_wp2
  go_ret2
  exact ⟨(0,false),rfl,fun _=>rfl,fun q=>absurd q HN.o,jN _ w⟩
 | some p=>
  rw [hp] at lk
  unfold kZ at lk
  simp only [uo,uU] at lk
  obtain ⟨v,L,l1,l2,l3,l4⟩:=t5 nd p hp
  have hcall:=NP w (p+1) p v L n l1 (jM l2.len hlen) hn
  have HK:Aside (KnownN A nd/\LineIs A nd L):=⟨(t4 nd).1 ji,l2⟩
  clear t1 t2 t3 t4 t5 hp l1 l2 l3 l4
  go_enter func342,ntmps342
  go_wp2_with fail
  refine hcall.mono ?_
  clear hcall
  rintro e w' ⟨rfl,hb⟩
  have HB:Aside (Below w.heap.size w w'):=hb
  clear hb
  go_wp2
  go_ret2
  exact ⟨atL n L,rfl,fun q=>absurd HK.o.1 q,fun _=>⟨L,HK.o.2,rfl⟩,HB.o⟩
end
section
open Go.RowKit Go.Lib Go.Sort Go.Maps
def WriteAt (A:List OpX) (nd n:Int) (a:Int×Bool):Prop:=(n=0/\a.1=0/\(a.2=true↔KnownN A nd))\/(n≠0/\(¬KnownN A nd->a=(0,false))/\(KnownN A nd->∃L,LineIs A nd L/\a=atL (n - 1) L))
theorem gE {A S:List OpX} (h:A.Perm S) (nd:Int):KnownN A nd↔KnownN S nd:=⟨fun q=>q.mono (fun x hx=>h.mem_iff.1 hx),fun q=>q.mono (fun x hx=>h.mem_iff.2 hx)⟩
theorem Hm {mw n:Int} {L:List Ltr} (h:mw=n - 1\/(mw=9223372036854775807/\n= -9223372036854775808)) (hl:L.length<=1000):atL mw L=atL (n - 1) L:=by
 rcases h with h | ⟨h1,h2⟩
 ·rw [h]
 subst h1 h2
 unfold atL
 rw [if_pos zj,if_neg zj]
 have:(bN L).length<=L.length:=uz _ _
 rw [List.getElem?_eq_none zj]
theorem wt (w:World) (ch:UInt8):(w.alloc (.cells #[.int .u8 (ch.toNat:Int)] 5)).ownsRow 0 5 1 (.slice (some ⟨w.heap.size,0,none⟩) 1 1) 1 (gV [ch]):=
 ⟨rfl,.inr ⟨w.heap.size,1,#[.int .u8 (ch.toNat:Int)],rfl,jX _,heap_alloc_new w _,jL _,zu,rfl,rfl⟩⟩
theorem DQ {B:Nat} {ad:Nat->Addr} (w:World) (c:Nat->Nat) (br:Nat) (T:Int) (i:Nat) (ao:Nat->Option Addr) (cap:Nat->Nat) (bt bx bc:Nat) (R:Rws) (A:List OpX) (nd n:Int) (ch:UInt8) (hc:RepCell w br T (i:Int) (kvs ao cap R) bt bx bc) (hrows:RowsAt w c (kvs ao cap R) R) (htext:TextC w c bx A) (hperm:A.Perm (aX R)) (hR:RowsK R) (hE:EnvE B ad w) (hi:i<4) (hT:0<=T) (hm:T<=1073741824) (hn:(aX R).length<=250) (h2: -9223372036854775808<=nd) (h3:nd<=9223372036854775807) (hn1: -9223372036854775808<=n) (hn2:n<=9223372036854775807):
  Calls prog 317 #[.pointer (some ⟨br,0,none⟩),.int .i64 nd,.int .i64 n,.int .u8 (ch.toNat:Int)] w fun e w'=>∃a,WriteAt A nd n a/\mD ad w (a.2=true) (bE T i (R i).length 105 nd a.1 ⟨#[]⟩ ⟨#[ch]⟩) e w':=by
 have hrl:∀i,i<4->(R i).length<=1000:=fun i hi=>yk
 have hAl:A.length<=250:=xg
 obtain ⟨S,hS⟩:=za w.heap.size
 obtain ⟨U,hU⟩:=za (w.alloc (.cells #[.int .i64 0,.int .i64 0,.int .i64 0,.int .u8 0,.int .i64 0,.int .i64 0,.string ⟨#[]⟩,.string ⟨#[]⟩] 61))
 have hbU:Below w.heap.size w U:=zN
 have Z0:OpBlk U S aT:=yl
 have hcU:RepCell U br T (i:Int) (kvs ao cap R) bt bx bc:=hc.same (hbU.block _ hc.lt)
 obtain ⟨zb,hzb⟩:∃zb:Bool,zb=true↔KnownN (aX R) nd:=⟨@decide _ (Classical.propDecidable _),@decide_eq_true_iff _ (Classical.propDecidable _)⟩
 have hnode:=eP U ao cap R nd zb hzb ((hE.later hbU).op4) ((KnownAt.of_rows hrows).later hbU) hR.toN hrl h2 h3
 unfold kV at hnode
 have k2:U.cell? ⟨br,2,none⟩=some (.slice (ao 0) (R 0).length (cap 0)):=hcU.c2
 have k3:U.cell? ⟨br,3,none⟩=some (.slice (ao 1) (R 1).length (cap 1)):=hcU.c3
 have k4:U.cell? ⟨br,4,none⟩=some (.slice (ao 2) (R 2).length (cap 2)):=hcU.c4
 have k5:U.cell? ⟨br,5,none⟩=some (.slice (ao 3) (R 3).length (cap 3)):=hcU.c5
 have htU:TextC U c bx A:=htext.kept ⟨fun k hk _=>hbU.block k hk,fun _ _=>rfl⟩ (fun _ _=>⟨fun k hk _=>hbU.block k hk,fun _ _=>rfl⟩)
 have H0:Aside (RepCell U br T (i:Int) (kvs ao cap R) bt bx bc/\OpBlk U S aT/\Below w.heap.size w U/\S=w.heap.size/\EnvE B ad U/\B<=w.heap.size/\(zb=true↔KnownN A nd)/\TextC U c bx A):=⟨hcU,Z0,hbU,hS,hE.later hbU,hE.size,hzb.trans (gE hperm nd).symm,htU⟩
 have HU:Aside (U=w.alloc (.cells #[.int .i64 0,.int .i64 0,.int .i64 0,.int .u8 0,.int .i64 0,.int .i64 0,.string ⟨#[]⟩,.string ⟨#[]⟩] 61)):=hU
 clear hU hcU Z0 hbU hE hc hS hzb hrows hR htext htU
 go_enter func317,ntmps317
 go_upto_region 1 with fail
 rw [<-HU.o,<-H0.o.2.2.2.1]
 go_wp2_with fail
 refine hnode.mono ?_
 clear hnode k2 k3 k4 k5
 rintro e w1 ⟨rfl,hb1⟩
 have Z1:=H0.o.2.1.later hb1
 have H1:Aside (OpBlk w1 S aT/\Below w.heap.size w w1/\EnvE B ad w1/\RepCell w1 br T (i:Int) (kvs ao cap R) bt bx bc/\TextC w1 c bx A):=⟨Z1,zi H0.o.2.2.1 hb1,H0.o.2.2.2.2.1.later hb1,H0.o.1.same (hb1.block _ H0.o.1.lt),H0.o.2.2.2.2.2.2.2.kept ⟨fun k hk _=>hb1.block k hk,fun _ _=>rfl⟩ (fun _ _=>⟨fun k hk _=>hb1.block k hk,fun _ _=>rfl⟩)⟩
 clear hb1 Z1
 obtain ⟨mw,hmw⟩:=za (IntKind.i64.wrap (n - 1))
 have hmb: -9223372036854775808<=mw/\mw<=9223372036854775807/\(mw=n - 1\/(mw=9223372036854775807/\n= -9223372036854775808)):=by rw [hmw,IntKind.wrap_i64];omega
 have wrapn:IntKind.i64.wrap (n - 1)=mw:=hmw.symm
 have HMB:Aside (mw=n - 1\/(mw=9223372036854775807/\n= -9223372036854775808)):=hmb.2.2
 clear hmw
 by_cases hn0:n=0
 ·subst hn0
  clear hmb HMB wrapn
  have HX:Aside (OpBlk w1 S aT/\Below w.heap.size w w1/\EnvE B ad w1/\RepCell w1 br T (i:Int) (kvs ao cap R) bt bx bc):=⟨H1.o.1,H1.o.2.1,H1.o.2.2.1,H1.o.2.2.2.1⟩
  have HA:Aside (WriteAt A nd 0 (0,zb)):=.inl ⟨rfl,rfl,H0.o.2.2.2.2.2.2.1⟩
  cases zb with
  | false=>
   obtain ⟨z0,z1,z2,z3,z4,z5,z6,z7,zf⟩:=HX.o.1.cells
   unfold aT at z0 z1 z2 z3 z4 z5 z6 z7
   dsimp only at z0 z1 z2 z3 z4 z5 z6 z7
   have eg:=HX.o.2.2.1.c5
   have hlo:=HX.o.2.2.1.low
   have hSw:=H0.o.2.2.2.1
   have hBw:=H0.o.2.2.2.2.2.1
   have n1:1≠S:=zj
   have n2:S≠1:=zj
   clear hlo hSw hBw
   go_wp2_with fail
   go_region
   all_goals
    go_wp2
    (try simp only [Exit.inBlock,Exit.then])
    refine bodyPost_ret (v:=.tuple #[ar aT,eV ad 6]) ?_ rfl ⟨_,HA.o,.inr ⟨zq,rfl,?_⟩⟩
    ·exact kd1
    exact kg5
  | true=>
   have hbB:Below w1.heap.size w1 (w1.alloc (.cells #[.int .u8 (ch.toNat:Int)] 5)):=zh w1 _
   have hconv:=oF (wt w1 ch) rfl
   have hown:=kU (w1.alloc (.cells #[.int .u8 (ch.toNat:Int)] 5)) br T i ao cap bt bx bc R 105 nd 0 ⟨#[]⟩ ⟨#[ch]⟩ (HX.o.2.2.2.same (hbB.block _ HX.o.2.2.2.lt)) (HX.o.2.2.1.later hbB) hi hT hm hn zo (by show (1:Nat)<=1000000;omega)
   have HB:Aside (Below w.heap.size w (w1.alloc (.cells #[.int .u8 (ch.toNat:Int)] 5))/\OpBlk (w1.alloc (.cells #[.int .u8 (ch.toNat:Int)] 5)) S aT):=⟨zi HX.o.2.1 hbB,HX.o.1.later hbB⟩
   unfold ar at hown
   dsimp only at hown
   clear hbB
   go_wp2_with fail
   refine hown.mono ?_
   clear hown hconv
   rintro e w3 ⟨he,hb3⟩
   obtain ⟨y,hy⟩:=za ((if dU (bE T i (R i).length 105 nd 0 ⟨#[]⟩ ⟨#[ch]⟩)=0 then bE T i (R i).length 105 nd 0 ⟨#[]⟩ ⟨#[ch]⟩ else aT))
   obtain ⟨er,her⟩:=za (eV ad (dU (bE T i (R i).length 105 nd 0 ⟨#[]⟩ ⟨#[ch]⟩)))
   rw [<-hy,<-her] at he
   subst he
   have HY:Aside (y=(if dU (bE T i (R i).length 105 nd 0 ⟨#[]⟩ ⟨#[ch]⟩)=0 then bE T i (R i).length 105 nd 0 ⟨#[]⟩ ⟨#[ch]⟩ else aT)/\er=eV ad (dU (bE T i (R i).length 105 nd 0 ⟨#[]⟩ ⟨#[ch]⟩))):=⟨hy,her⟩
   clear hy her
   obtain ⟨t,b,m,kd,nd',o,s,v⟩:=y
   unfold ar
   dsimp only
   have Z2:=HB.o.2.later hb3
   obtain ⟨z0,z1,z2,z3,z4,z5,z6,z7,zf⟩:=Z2.cells
   unfold aT at z0 z1 z2 z3 z4 z5 z6 z7
   dsimp only at z0 z1 z2 z3 z4 z5 z6 z7
   have B2:Aside (Below w.heap.size w w3):=zi HB.o.1 hb3
   clear hb3 Z2
   go_wp2
   (try simp only [Exit.inBlock,Exit.then])
   refine bodyPost_ret (v:=.tuple #[.agg #[.int .i64 t,.int .i64 b,.int .i64 m,.int .u8 (kd:Int),.int .i64 nd',.int .i64 o,.string s,.string v],er]) ?_ rfl ⟨_,HA.o,.inl ⟨rfl,⟨by rw [<-HY.o.1,<-HY.o.2];rfl,?_⟩⟩⟩
   ·exact kc4
   exact kd7
 have dn0:(n !=0)=true:=by simp [hn0]
 have hlet:=nN w1 c br T (i:Int) (kvs ao cap R) bt bx bc A nd mw H1.o.2.2.2.1 H1.o.2.2.2.2 zj zj zj ⟨hmb.1,hmb.2.1⟩
 have HN0:=Lib.hid hn0
 clear hn0 hmb
 go_wp2_with fail
 refine hlet.mono ?_
 clear hlet
 rintro e w2 ⟨⟨bh,zz⟩,rfl,ha1,ha2,hb2⟩
 have HX:Aside (OpBlk w2 S aT/\Below w.heap.size w w2/\EnvE B ad w2/\RepCell w2 br T (i:Int) (kvs ao cap R) bt bx bc):=⟨H1.o.1.later hb2,zi H1.o.2.1 hb2,H1.o.2.2.1.later hb2,H1.o.2.2.2.1.same (hb2.block _ H1.o.2.2.2.1.lt)⟩
 have HA:Aside (WriteAt A nd n (bh,zz)):=.inr ⟨HN0.o,ha1,fun q=>by obtain ⟨L,hL,e⟩:=ha2 q;exact ⟨L,hL,e.trans (Hm HMB.o (by have:=hL.len;omega))⟩⟩
 clear hb2 ha1 ha2
 dsimp only
 cases zz with
 | false=>
  obtain ⟨z0,z1,z2,z3,z4,z5,z6,z7,zf⟩:=HX.o.1.cells
  unfold aT at z0 z1 z2 z3 z4 z5 z6 z7
  dsimp only at z0 z1 z2 z3 z4 z5 z6 z7
  have eg:=HX.o.2.2.1.c5
  have hlo:=HX.o.2.2.1.low
  have hSw:=H0.o.2.2.2.1
  have hBw:=H0.o.2.2.2.2.2.1
  have n1:1≠S:=zj
  have n2:S≠1:=zj
  clear hlo hSw hBw
  go_wp2_with fail
  go_region
  all_goals
   go_wp2
   (try simp only [Exit.inBlock,Exit.then])
   refine bodyPost_ret (v:=.tuple #[ar aT,eV ad 6]) ?_ rfl ⟨_,HA.o,.inr ⟨zq,rfl,?_⟩⟩
   ·exact kd1
   exact kg5
 | true=>
  have hbB:Below w2.heap.size w2 (w2.alloc (.cells #[.int .u8 (ch.toNat:Int)] 5)):=zh w2 _
  have hconv:=oF (wt w2 ch) rfl
  have hown:=kU (w2.alloc (.cells #[.int .u8 (ch.toNat:Int)] 5)) br T i ao cap bt bx bc R 105 nd bh ⟨#[]⟩ ⟨#[ch]⟩ (HX.o.2.2.2.same (hbB.block _ HX.o.2.2.2.lt)) (HX.o.2.2.1.later hbB) hi hT hm hn zo (by show (1:Nat)<=1000000;omega)
  have HB:Aside (Below w.heap.size w (w2.alloc (.cells #[.int .u8 (ch.toNat:Int)] 5))/\OpBlk (w2.alloc (.cells #[.int .u8 (ch.toNat:Int)] 5)) S aT):=⟨zi HX.o.2.1 hbB,HX.o.1.later hbB⟩
  unfold ar at hown
  dsimp only at hown
  clear hbB
  go_wp2_with fail
  refine hown.mono ?_
  clear hown hconv
  rintro e w3 ⟨he,hb3⟩
  obtain ⟨y,hy⟩:=za ((if dU (bE T i (R i).length 105 nd bh ⟨#[]⟩ ⟨#[ch]⟩)=0 then bE T i (R i).length 105 nd bh ⟨#[]⟩ ⟨#[ch]⟩ else aT))
  obtain ⟨er,her⟩:=za (eV ad (dU (bE T i (R i).length 105 nd bh ⟨#[]⟩ ⟨#[ch]⟩)))
  rw [<-hy,<-her] at he
  subst he
  have HY:Aside (y=(if dU (bE T i (R i).length 105 nd bh ⟨#[]⟩ ⟨#[ch]⟩)=0 then bE T i (R i).length 105 nd bh ⟨#[]⟩ ⟨#[ch]⟩ else aT)/\er=eV ad (dU (bE T i (R i).length 105 nd bh ⟨#[]⟩ ⟨#[ch]⟩))):=⟨hy,her⟩
  clear hy her
  obtain ⟨t,b,m,kd,nd',o,s,v⟩:=y
  unfold ar
  dsimp only
  have Z2:=HB.o.2.later hb3
  obtain ⟨z0,z1,z2,z3,z4,z5,z6,z7,zf⟩:=Z2.cells
  unfold aT at z0 z1 z2 z3 z4 z5 z6 z7
  dsimp only at z0 z1 z2 z3 z4 z5 z6 z7
  have B2:Aside (Below w.heap.size w w3):=zi HB.o.1 hb3
  clear hb3 Z2
  go_wp2
  (try simp only [Exit.inBlock,Exit.then])
  refine bodyPost_ret (v:=.tuple #[.agg #[.int .i64 t,.int .i64 b,.int .i64 m,.int .u8 (kd:Int),.int .i64 nd',.int .i64 o,.string s,.string v],er]) ?_ rfl ⟨_,HA.o,.inl ⟨rfl,⟨by rw [<-HY.o.1,<-HY.o.2];rfl,?_⟩⟩⟩
  ·exact kc4
  exact kd7
end
section
open Go Go.RowKit Go.Lib Go.Sort
def mU (ok:Bool) (x:OpX):OpX×Nat:=if ok=false then (aT,6) else if dU x=0 then (x,0) else (aT,dU x)
