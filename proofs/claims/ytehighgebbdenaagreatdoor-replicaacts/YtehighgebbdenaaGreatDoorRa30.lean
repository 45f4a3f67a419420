import Derived.Test.YtehighgebbdenaaGreatDoorRa28
import Derived.Test.YtehighgebbdenaaGreatDoorRa29
set_option linter.unusedVariables false
set_option maxRecDepth 100000
set_option maxHeartbeats 64000000
namespace Go.Proofs.YtehighgebbdenaaGreatDoor
open Go.Proofs.Tryz
variable {T:Int} {ls:List (List UInt8)} {m:Mrk} {S g i k:Nat} {ao:Option Addr} {p:Plc} {v v0:Value} {W W1 w w' wr:World}
section
open Go.RowKit Go.Lib Go.Sort
theorem Dd {pb:Nat} (h:Below w.heap.size w W) (hp:w.heap.size<=pb) (hb:But pb W w'):Below w.heap.size w w':=
 h.trans ⟨hb.os,hb.tape,hb.output,hb.size,fun k hk=>hb.block k (um hk h.size) zo⟩
theorem GF (w:World) (pb:Nat) (T by_:Int) (h0:w.cell? ⟨pb,0,none⟩=some (.int .i64 T)) (h1:w.cell? ⟨pb,1,none⟩=some (.int .i64 by_)) (hT:0<=T) (hm:T<1073741824):
  Calls prog 169 #[.pointer (some ⟨pb,0,none⟩)] w fun e w'=>e= .returned (.tuple #[.agg #[.int .i64 (T+1),.int .i64 by_],.nilIface])/\Below w.heap.size w w':=by
 have hpl:pb<w.heap.size:=vR w ⟨pb,0,none⟩ h0;obtain ⟨S,hS⟩:=zc w.heap.size;obtain ⟨U,hU⟩:=zc ((w.alloc (.cells #[.int .i64 0,.int .i64 0] 36)).alloc (.cells #[.int .i64 T,.int .i64 by_] 61));have hbU:Below w.heap.size w U:=zP
 have hu1:U.heap[S+1]? =some (.cells #[.int .i64 T,.int .i64 by_] 61 (0,0)):=by
  rw [hU,hS];have:=heap_alloc_new (w.alloc (.cells #[.int .i64 0,.int .i64 0] 36)) (.cells #[.int .i64 T,.int .i64 by_] 61);exact ki3
 have hu0:U.heap[S]? =some (.cells #[.int .i64 0,.int .i64 0] 36 (0,0)):=by
  exact ki7
 have hclk:Clk (S+1) T by_ U:=⟨xi,xi,by simp [World.frozen?,hu1]⟩
 have hcall:=JO (S+1) T by_ U hclk hT hm
 have HB:Aside (Below w.heap.size w U/\S=w.heap.size/\U.heap[S]? =some (.cells #[.int .i64 0,.int .i64 0] 36 (0,0))):=⟨hbU,hS,hu0⟩
 have HU:Aside (U=(w.alloc (.cells #[.int .i64 0,.int .i64 0] 36)).alloc (.cells #[.int .i64 T,.int .i64 by_] 61)):=hU;clear hU hbU hu1 hu0 hclk;go_enter func169,ntmps169;go_wp2_with fail;rw [<-HU.o,<-HB.o.2.1];clear hS;refine hcall.mono ?_;clear hcall;rintro e w1 ⟨rfl,hbut,-⟩;have hS1:w1.heap[S]? =some (.cells #[.int .i64 0,.int .i64 0] 36 (0,0)):=(hbut.block S (vO.1 HB.o.2.2).1 zo).trans HB.o.2.2;have y0:w1.cell? ⟨S,0,none⟩=some (.int .i64 0):=xg;have y1:w1.cell? ⟨S,1,none⟩=some (.int .i64 0):=xg
 have yf:∀o,w1.frozen? ⟨S,o,none⟩=false:=fun o=>by simp [World.frozen?,hS1]
 have B1:Aside (Below w.heap.size w w1):=Dd HB.o.1 jk hbut;clear hbut hS1;go_wp2;(try simp only [Exit.inBlock,Exit.then]);refine bodyPost_ret (v:=.tuple #[.agg #[.int .i64 (T+1),.int .i64 by_],.nilIface]) ?_ rfl ⟨rfl,?_⟩
 ·exact ke7
 exact aQ (b:=S) B1.o jk 0 [.int .i64 (T+1),.int .i64 by_]
theorem JK (x:OpX) (w:World) (h1:1<=x.1) (h2:x.1<=1073741824) (h3:0<=byO x) (h4:byO x<4):Calls prog 123 #[aD x] w fun e w'=>e= .returned (.int .i64 (idO x))/\Below w.heap.size w w':=by
 obtain ⟨t,b,n,k,nd,o,s,v⟩:=x;unfold aD idO;dsimp only at*;exact kg7
theorem RepCell.row {br:Nat} {by_:Int} {kv:Nat->Value} {bt bx bc:Nat} (h:RepCell w br T by_ kv bt bx bc) (hi:i<4):w.cell? ⟨br,2+i,none⟩=some (kv i):=by
 have h4:i=0\/i=1\/i=2\/i=3:=zo
 rcases h4 with rfl | rfl | rfl | rfl
 ·exact h.c2
 ·exact h.c3
 ·exact h.c4
 exact h.c5
def bN (T:Int) (i m:Nat) (kd:Nat) (nd o:Int) (s v:ByteArray):OpX:=(T+1,(i:Int),(m:Int)+1,kd,if nd=0 then (T+1)*4+(i:Int) else nd,o,s,v)
def Jv (ad:Nat->Addr) (w:World) (x:OpX) (e:Ending) (w':World):Prop:=e= .returned (.tuple #[aD (if an x=0 then x else aV),eV ad (an x)])/\Below w.heap.size w w'
def dJ (x:OpX):Nat:=if 1073741824<x.1 then 8 else an x
theorem Dn {x:OpX} (h:x.1<=1073741824):dJ x=an x:=if_neg zo
theorem lY {m kd:Nat} {nd o:Int} {s v:ByteArray} (h:T<1073741824):dJ (bN T i m kd nd o s v)=an (bN T i m kd nd o s v):=Dn (by show T+1<=1073741824;omega)
def IV (ad:Nat->Addr) (w:World) (x:OpX) (e:Ending) (w':World):Prop:=e= .returned (.tuple #[aD (if dJ x=0 then x else aV),eV ad (dJ x)])/\Below w.heap.size w w'
theorem LZ {B:Nat} {ad:Nat->Addr} (w:World) (br:Nat) (T:Int) (i:Nat) (ao:Nat->Option Addr) (cap:Nat->Nat) (bt bx bc:Nat) (R:Rws) (kd:Nat) (nd o:Int) (s v:ByteArray) (hc:RepCell w br T (i:Int) (kvs ao cap R) bt bx bc) (hE:EnvE B ad w) (hi:i<4) (hT:0<=T) (hm:T<1073741824) (hn:(aR R).length<=140) (hs1:s.size<=1000000) (hs2:v.size<=1000000):
  Calls prog 105 #[.pointer (some ⟨br,0,none⟩),aD (0,0,0,kd,nd,o,s,v)] w (Jv ad w (bN T i (R i).length kd nd o s v)):=by
 have hrl:∀i,i<4->(R i).length<=1000:=fun i hi=>yJ
 have hri:=hrl i hi;obtain ⟨S,hS⟩:=zc w.heap.size;obtain ⟨U,hU⟩:=zc ((w.alloc (.cells #[.int .i64 0,.int .i64 0,.int .i64 0,.int .u8 (kd:Int),.int .i64 nd,.int .i64 o,.string s,.string v] 38)).alloc (.cells #[.int .i64 0,.int .i64 0,.int .i64 0,.int .u8 0,.int .i64 0,.int .i64 0,.string ⟨#[]⟩,.string ⟨#[]⟩] 38));have hbU:Below w.heap.size w U:=zP
 have O0:OpBlk U S (0,0,0,kd,nd,o,s,v):=by rw [hU,hS];exact (vZ _ _ _ zv).trans (OpBlk.new w (0,0,0,kd,nd,o,s,v))
 have O1:OpBlk U (S+1) aV:=by
  rw [hU,hS];exact ke6
 have hcU:RepCell U br T (i:Int) (kvs ao cap R) bt bx bc:=hc.same (hbU.block _ hc.lt)
 have hbr:br<S:=by rw [hS];exact hc.lt
 have hcount:=mN U ao cap R hrl;unfold kV at hcount;have k2:U.cell? ⟨br,2,none⟩=some (.slice (ao 0) (R 0).length (cap 0)):=hcU.c2;have k3:U.cell? ⟨br,3,none⟩=some (.slice (ao 1) (R 1).length (cap 1)):=hcU.c3;have k4:U.cell? ⟨br,4,none⟩=some (.slice (ao 2) (R 2).length (cap 2)):=hcU.c4;have k5:U.cell? ⟨br,5,none⟩=some (.slice (ao 3) (R 3).length (cap 3)):=hcU.c5;have dn:decide ((400:Int)<=((aR R).length:Int))=false:=zr;have dn':decide (400<=(aR R).length)=false:=zr
 have H0:Aside (RepCell U br T (i:Int) (kvs ao cap R) bt bx bc/\OpBlk U S (0,0,0,kd,nd,o,s,v)/\OpBlk U (S+1) aV/\Below w.heap.size w U/\S=w.heap.size/\EnvE B ad U):=⟨hcU,O0,O1,hbU,hS,hE.later hbU⟩
 have HU:Aside (U=(w.alloc (.cells #[.int .i64 0,.int .i64 0,.int .i64 0,.int .u8 (kd:Int),.int .i64 nd,.int .i64 o,.string s,.string v] 38)).alloc (.cells #[.int .i64 0,.int .i64 0,.int .i64 0,.int .u8 0,.int .i64 0,.int .i64 0,.string ⟨#[]⟩,.string ⟨#[]⟩] 38)):=hU;have hEw:=hE.size;clear hU hcU O0 O1 hbU hE hc hS;unfold aD;dsimp only;go_enter func105,ntmps105;go_upto_region 1 with fail;rw [<-HU.o,<-H0.o.2.2.2.2.1];go_wp2_with fail;refine hcount.mono ?_;clear hcount k2 k3 k4 k5;rintro e w1 ⟨rfl,hb1⟩;have hc1:RepCell w1 br T (i:Int) (kvs ao cap R) bt bx bc:=H0.o.1.same (hb1.block _ H0.o.1.lt);have hnext:=GF w1 br T (i:Int) hc1.c0 hc1.c1 hT hm;clear hc1;go_wp2_with fail;refine hnext.mono ?_;clear hnext;rintro e w2 ⟨rfl,hb2⟩;obtain ⟨Q,hQ⟩:=zc w2.heap.size;obtain ⟨V,hV⟩:=zc (w2.alloc (.cells #[.int .i64 (T+1),.int .i64 (i:Int)] 36))
 have hbV:Below w2.heap.size w2 V:=by rw [hV];exact zh w2 _
 have hbUV:Below U.heap.size U V:=hb1.trans ((hb2.mono hb1.size).trans (hbV.mono (uf hb1.size hb2.size)))
 have hst:V.heap[Q]? =some (.cells #[.int .i64 (T+1),.int .i64 (i:Int)] 36 (0,0)):=by rw [hV,hQ];exact heap_alloc_new w2 _
 have hSQ:S+1<Q:=by have:=H0.o.2.2.1.lt;have:=hb1.size;have:=hb2.size;omega
 have H1:Aside (RepCell V br T (i:Int) (kvs ao cap R) bt bx bc/\OpBlk V S (0,0,0,kd,nd,o,s,v)/\OpBlk V (S+1) aV/\Below U.heap.size U V/\EnvE B ad V):=⟨H0.o.1.same (hbUV.block _ H0.o.1.lt),H0.o.2.1.later hbUV,H0.o.2.2.1.later hbUV,hbUV,H0.o.2.2.2.2.2.later hbUV⟩
 have HV:Aside (V=w2.alloc (.cells #[.int .i64 (T+1),.int .i64 (i:Int)] 36)/\Q=w2.heap.size):=⟨hV,hQ⟩
 have s0:V.cell? ⟨Q,0,none⟩=some (.int .i64 (T+1)):=by simp [World.cell?,hst]
 have s1:V.cell? ⟨Q,1,none⟩=some (.int .i64 (i:Int)):=by simp [World.cell?,hst]
 have kb:V.cell? ⟨br,2+i,none⟩=some (.slice (ao i) (R i).length (cap i)):=H1.o.1.row hi;obtain ⟨y0,y1,y2,y3,y4,y5,y6,y7,f8⟩:=H1.o.2.1.cells;dsimp only at y0 y1 y2 y3 y4 y5 y6 y7;have wi:((i:Int)).toNat=i:=zo;have pi:(0:Int)<=(i:Int):=zo;have bi:(i:Int)<4:=zo;have n1:S≠Q:=zo;have n2:Q≠S:=zo;have n3:S≠br:=zo;have n4:br≠S:=zo;clear hbV hbUV hst hb1 hb2 hV hQ;go_upto_region 6 with fail;rw [<-HV.o.1,<-HV.o.2];go_region;obtain ⟨w5,hw5⟩:=zc ((((V.setCell ⟨S,0,none⟩ (.int .i64 (T+1))).setCell ⟨S,1,none⟩ (.int .i64 (i:Int))).setCell ⟨S,2,none⟩ (.int .i64 (((R i).length:Int)+1))).drew)
 have hk5:Keeps (fun k=>k=S) V w5:=by rw [hw5];exact (aZ S [.int .i64 (T+1),.int .i64 (i:Int),.int .i64 (((R i).length:Int)+1)] 0 V).drew
 have O5:OpBlk w5 S (T+1,(i:Int),((R i).length:Int)+1,kd,nd,o,s,v):=by
  have hh:=af S [.int .i64 (T+1),.int .i64 (i:Int),.int .i64 (((R i).length:Int)+1)] 0 V _ _ H1.o.2.1;unfold OpBlk;rw [hw5];exact kn0
 have Z5:OpBlk w5 (S+1) aV:=(hk5.block (S+1) H1.o.2.2.1.lt zo).trans H1.o.2.2.1;have B5:Below w.heap.size w w5:=(zj H0.o.2.2.2.1 H1.o.2.2.2.1).trans (hk5.below (uf H0.o.2.2.2.1.size H1.o.2.2.2.1.size) (fun k e=>by have:=H0.o.2.2.2.2.1;omega))
 have OX:Aside (OpBlk w5 S (T+1,(i:Int),((R i).length:Int)+1,kd,nd,o,s,v)/\OpBlk w5 (S+1) aV/\Below w.heap.size w w5):=⟨O5,Z5,B5⟩
 have EX:Aside (EnvE B ad w5):=H1.o.2.2.2.2.mono (hk5.below H1.o.2.2.2.2.size (fun k e=>by have:=H0.o.2.2.2.2.1;have:=H0.o.2.2.2.2.2.size;have:=H0.o.2.2.2.2.1;have hBw:=hEw;omega));rw [<-hw5];clear hw5 hk5 O5 Z5 B5 s0 s1 kb y0 y1 y2 y3 y4 y5 y6 y7 f8;by_cases hnd:nd=0
 ·have hid:=JK (T+1,(i:Int),((R i).length:Int)+1,kd,nd,o,s,v) w5 (by show 1<=T+1;omega) (by show T+1<=1073741824;omega) (by show (0:Int)<=(i:Int);omega) (by show (i:Int)<4;omega);have eid:idO (T+1,(i:Int),((R i).length:Int)+1,kd,nd,o,s,v)=(T+1)*4+(i:Int):=rfl;rw [eid] at hid
  have hown:bN T i (R i).length kd nd o s v=(T+1,(i:Int),((R i).length:Int)+1,kd,(T+1)*4+(i:Int),o,s,v):=by unfold bN;rw [if_pos hnd]
  have HOW:=Lib.hid hown;unfold aD at hid;dsimp only at hid;obtain ⟨y0,y1,y2,y3,y4,y5,y6,y7,f8⟩:=OX.o.1.cells;dsimp only at y0 y1 y2 y3 y4 y5 y6 y7;have HND:=Lib.hid hnd
  have dnd:(nd==0)=true:=by simp [hnd]
  clear hnd hown eid;go_wp2_with fail;refine hid.mono ?_;clear hid y0 y1 y2 y3 y4 y5 y6 y7 f8;rintro e w5' ⟨rfl,hb5⟩;have O5:=OX.o.1.later hb5;have Z5:=OX.o.2.1.later hb5;obtain ⟨w6,hw6⟩:=zc (w5'.setCell ⟨S,4,none⟩ (.int .i64 ((T+1)*4+(i:Int))))
  have hk6:Keeps (fun k=>k=S) w5' w6:=by rw [hw6];exact aZ S [.int .i64 ((T+1)*4+(i:Int))] 4 w5'
  have hS0:=H0.o.2.2.2.2.1
  have O6:OpBlk w6 S (T+1,(i:Int),((R i).length:Int)+1,kd,(T+1)*4+(i:Int),o,s,v):=by
   have hh:=af S [.int .i64 ((T+1)*4+(i:Int))] 4 w5' _ _ O5;unfold OpBlk;rw [hw6];exact kn0
  have B5':Below w.heap.size w w5':=zj OX.o.2.2 hb5
  have OX6:Aside (OpBlk w6 S (T+1,(i:Int),((R i).length:Int)+1,kd,(T+1)*4+(i:Int),o,s,v)/\OpBlk w6 (S+1) aV/\Below w.heap.size w w6):=⟨O6,(hk6.block (S+1) Z5.lt zo).trans Z5,B5'.trans (hk6.below B5'.size (fun k e=>zo))⟩
  have EX6:Aside (EnvE B ad w6):=(EX.o.later hb5).mono (hk6.below (EX.o.later hb5).size (fun k e=>zo));obtain ⟨y0,y1,y2,y3,y4,y5,y6,y7,f8⟩:=O5.cells;dsimp only at y0 y1 y2 y3 y4 y5 y6 y7;have HW6:=Lib.hid hw6;clear hw6 hk6 hS0 O6 B5' O5 Z5 hb5;go_upto_region 9 with fail;rw [<-HW6.o];have hown:=HOW.o;clear y0 y1 y2 y3 y4 y5 y6 y7 f8;have hchk:=cN (T+1) (i:Int) (((R i).length:Int)+1) kd ((T+1)*4+(i:Int)) o s v w6 (EX6.o.op4) hs1 hs2;obtain ⟨y0,y1,y2,y3,y4,y5,y6,y7,f8⟩:=OX6.o.1.cells;dsimp only at y0 y1 y2 y3 y4 y5 y6 y7;have hlz:=OX6.o.2.1.lt
  cases herr:opE (T+1) (i:Int) (((R i).length:Int)+1) kd ((T+1)*4+(i:Int)) o s.data.toList v.data.toList with
  | zero=>
   rw [herr] at hchk;have hev:eV ad 0= .nilIface:=rfl;rw [hev] at hchk
   have HR:Aside (an (bN T i (R i).length kd nd o s v)=0/\bN T i (R i).length kd nd o s v=(T+1,(i:Int),((R i).length:Int)+1,kd,(T+1)*4+(i:Int),o,s,v)):=⟨by rw [hown];exact herr,hown⟩
   clear herr hev hown;go_wp2_with fail;refine hchk.mono ?_;clear hchk y0 y1 y2 y3 y4 y5 y6 y7 f8;rintro e w7 ⟨rfl,hb7⟩;have O7:=OX6.o.1.later hb7;have Z7:=OX6.o.2.1.later hb7;have hz7:=Z7.lt;obtain ⟨y0,y1,y2,y3,y4,y5,y6,y7,f8⟩:=O7.cells;dsimp only at y0 y1 y2 y3 y4 y5 y6 y7;obtain ⟨z0,z1,z2,z3,z4,z5,z6,z7,zf⟩:=Z7.cells;unfold aV at z0 z1 z2 z3 z4 z5 z6 z7;dsimp only at z0 z1 z2 z3 z4 z5 z6 z7
   have B7:Aside (Below w.heap.size w w7/\S=w.heap.size):=⟨zj OX6.o.2.2 hb7,H0.o.2.2.2.2.1⟩
   clear hb7 O7 Z7;go_wp2;(try simp only [Exit.inBlock,Exit.then]);refine bodyPost_ret (v:=.tuple #[.agg #[.int .i64 (T+1),.int .i64 (i:Int),.int .i64 (((R i).length:Int)+1),.int .u8 (kd:Int),.int .i64 ((T+1)*4+(i:Int)),.int .i64 o,.string s,.string v],.nilIface]) ?_ rfl ⟨by rw [HR.o.1,if_pos rfl,HR.o.2];rfl,?_⟩
   ·exact ke7
   exact aQ (b:=S+1) B7.o.1 vI 0 [.int .i64 (T+1),.int .i64 (i:Int),.int .i64 (((R i).length:Int)+1),.int .u8 (kd:Int),.int .i64 ((T+1)*4+(i:Int)),.int .i64 o,.string s,.string v]
  | succ cd=>
   rw [herr] at hchk;have hev:eV ad (cd+1)= .iface 399 (.pointer (some (ad cd))):=rfl;rw [hev] at hchk
   have HR:Aside (an (bN T i (R i).length kd nd o s v)=cd+1):=by show an _=_;rw [hown];exact herr
   clear herr hev hown;go_wp2_with fail;refine hchk.mono ?_;clear hchk y0 y1 y2 y3 y4 y5 y6 y7 f8;rintro e w7 ⟨rfl,hb7⟩;have Z7:=OX6.o.2.1.later hb7;have hz7:=Z7.lt;obtain ⟨z0,z1,z2,z3,z4,z5,z6,z7,zf⟩:=Z7.cells;unfold aV at z0 z1 z2 z3 z4 z5 z6 z7;dsimp only at z0 z1 z2 z3 z4 z5 z6 z7
   have B7:Aside (Below w.heap.size w w7/\S=w.heap.size):=⟨zj OX6.o.2.2 hb7,H0.o.2.2.2.2.1⟩
   clear hb7 Z7;go_wp2;(try simp only [Exit.inBlock,Exit.then]);refine bodyPost_ret (v:=.tuple #[aD aV,.iface 399 (.pointer (some (ad cd)))]) ?_ rfl ⟨by rw [HR.o,if_neg zo];rfl,?_⟩
   ·exact kc3
   exact kj5
 have hown:bN T i (R i).length kd nd o s v=(T+1,(i:Int),((R i).length:Int)+1,kd,nd,o,s,v):=by unfold bN;rw [if_neg hnd]
 have dnd:(nd==0)=false:=by simp [hnd]
 have hchk:=cN (T+1) (i:Int) (((R i).length:Int)+1) kd nd o s v w5 (EX.o.op4) hs1 hs2;obtain ⟨y0,y1,y2,y3,y4,y5,y6,y7,f8⟩:=OX.o.1.cells;dsimp only at y0 y1 y2 y3 y4 y5 y6 y7;have hlz:=OX.o.2.1.lt
 cases herr:opE (T+1) (i:Int) (((R i).length:Int)+1) kd nd o s.data.toList v.data.toList with
 | zero=>
  rw [herr] at hchk;have hev:eV ad 0= .nilIface:=rfl;rw [hev] at hchk
  have HR:Aside (an (bN T i (R i).length kd nd o s v)=0/\bN T i (R i).length kd nd o s v=(T+1,(i:Int),((R i).length:Int)+1,kd,nd,o,s,v)):=⟨by rw [hown];exact herr,hown⟩
  clear herr hev hown;go_wp2_with fail;refine hchk.mono ?_;clear hchk y0 y1 y2 y3 y4 y5 y6 y7 f8;rintro e w7 ⟨rfl,hb7⟩;have O7:=OX.o.1.later hb7;have Z7:=OX.o.2.1.later hb7;have hz7:=Z7.lt;obtain ⟨y0,y1,y2,y3,y4,y5,y6,y7,f8⟩:=O7.cells;dsimp only at y0 y1 y2 y3 y4 y5 y6 y7;obtain ⟨z0,z1,z2,z3,z4,z5,z6,z7,zf⟩:=Z7.cells;unfold aV at z0 z1 z2 z3 z4 z5 z6 z7;dsimp only at z0 z1 z2 z3 z4 z5 z6 z7
  have B7:Aside (Below w.heap.size w w7/\S=w.heap.size):=⟨zj OX.o.2.2 hb7,H0.o.2.2.2.2.1⟩
  clear hb7 O7 Z7;go_wp2;(try simp only [Exit.inBlock,Exit.then]);refine bodyPost_ret (v:=.tuple #[.agg #[.int .i64 (T+1),.int .i64 (i:Int),.int .i64 (((R i).length:Int)+1),.int .u8 (kd:Int),.int .i64 (nd),.int .i64 o,.string s,.string v],.nilIface]) ?_ rfl ⟨by rw [HR.o.1,if_pos rfl,HR.o.2];rfl,?_⟩
  ·exact ke7
  exact aQ (b:=S+1) B7.o.1 vI 0 [.int .i64 (T+1),.int .i64 (i:Int),.int .i64 (((R i).length:Int)+1),.int .u8 (kd:Int),.int .i64 (nd),.int .i64 o,.string s,.string v]
 | succ cd=>
  rw [herr] at hchk;have hev:eV ad (cd+1)= .iface 399 (.pointer (some (ad cd))):=rfl;rw [hev] at hchk
  have HR:Aside (an (bN T i (R i).length kd nd o s v)=cd+1):=by show an _=_;rw [hown];exact herr
  clear herr hev hown;go_wp2_with fail;refine hchk.mono ?_;clear hchk y0 y1 y2 y3 y4 y5 y6 y7 f8;rintro e w7 ⟨rfl,hb7⟩;have Z7:=OX.o.2.1.later hb7;have hz7:=Z7.lt;obtain ⟨z0,z1,z2,z3,z4,z5,z6,z7,zf⟩:=Z7.cells;unfold aV at z0 z1 z2 z3 z4 z5 z6 z7;dsimp only at z0 z1 z2 z3 z4 z5 z6 z7
  have B7:Aside (Below w.heap.size w w7/\S=w.heap.size):=⟨zj OX.o.2.2 hb7,H0.o.2.2.2.2.1⟩
  clear hb7 Z7;go_wp2;(try simp only [Exit.inBlock,Exit.then]);refine bodyPost_ret (v:=.tuple #[aD aV,.iface 399 (.pointer (some (ad cd)))]) ?_ rfl ⟨by rw [HR.o,if_neg zo];rfl,?_⟩
  ·exact kc3
  exact kj5
theorem Az (w:World) (pb:Nat) (T by_:Int) (eb:Value) (hg:w.cell? ⟨1,0,none⟩=some eb) (h0:w.cell? ⟨pb,0,none⟩=some (.int .i64 T)) (h1:w.cell? ⟨pb,1,none⟩=some (.int .i64 by_)) (hm:1073741824<=T):
  Calls prog 169 #[.pointer (some ⟨pb,0,none⟩)] w fun e w'=>e= .returned (.tuple #[.agg #[.int .i64 0,.int .i64 0],eb])/\Below w.heap.size w w':=by
 have hpl:pb<w.heap.size:=vR w ⟨pb,0,none⟩ h0;have hgl:1<w.heap.size:=vR w ⟨1,0,none⟩ hg;obtain ⟨S,hS⟩:=zc w.heap.size;obtain ⟨U,hU⟩:=zc ((w.alloc (.cells #[.int .i64 0,.int .i64 0] 36)).alloc (.cells #[.int .i64 T,.int .i64 by_] 61));have hbU:Below w.heap.size w U:=zP
 have hu1:U.heap[S+1]? =some (.cells #[.int .i64 T,.int .i64 by_] 61 (0,0)):=by
  rw [hU,hS];have:=heap_alloc_new (w.alloc (.cells #[.int .i64 0,.int .i64 0] 36)) (.cells #[.int .i64 T,.int .i64 by_] 61);exact ki3
 have hu0:U.heap[S]? =some (.cells #[.int .i64 0,.int .i64 0] 36 (0,0)):=by
  exact ki7
 have hclk:Clk (S+1) T by_ U:=⟨xi,xi,by simp [World.frozen?,hu1]⟩
 have hcall:=Ev (S+1) T by_ U eb ((hbU.cell (p:=⟨1,0,none⟩) hgl).trans hg) hclk hm
 have HB:Aside (Below w.heap.size w U/\S=w.heap.size/\U.heap[S]? =some (.cells #[.int .i64 0,.int .i64 0] 36 (0,0))):=⟨hbU,hS,hu0⟩
 have HU:Aside (U=(w.alloc (.cells #[.int .i64 0,.int .i64 0] 36)).alloc (.cells #[.int .i64 T,.int .i64 by_] 61)):=hU;clear hU hbU hu1 hu0 hclk;go_enter func169,ntmps169;go_wp2_with fail;rw [<-HU.o,<-HB.o.2.1];clear hS;refine hcall.mono ?_;clear hcall;rintro e w1 ⟨rfl,hb1⟩;have hS1:w1.heap[S]? =some (.cells #[.int .i64 0,.int .i64 0] 36 (0,0)):=(hb1.block S (vO.1 HB.o.2.2).1).trans HB.o.2.2;have y0:w1.cell? ⟨S,0,none⟩=some (.int .i64 0):=xg;have y1:w1.cell? ⟨S,1,none⟩=some (.int .i64 0):=xg
 have yf:∀o,w1.frozen? ⟨S,o,none⟩=false:=fun o=>by simp [World.frozen?,hS1]
 have B1:Aside (Below w.heap.size w w1):=zj HB.o.1 hb1;clear hb1 hS1;go_wp2;(try simp only [Exit.inBlock,Exit.then]);refine bodyPost_ret (v:=.tuple #[.agg #[.int .i64 0,.int .i64 0],eb]) ?_ rfl ⟨rfl,?_⟩
 ·exact ke7
 exact aQ (b:=S) B1.o jk 0 [.int .i64 0,.int .i64 0]
theorem Fh {B:Nat} {ad:Nat->Addr} (w:World) (br:Nat) (T:Int) (i:Nat) (ao:Nat->Option Addr) (cap:Nat->Nat) (bt bx bc:Nat) (R:Rws) (kd:Nat) (nd o:Int) (s v:ByteArray) (hc:RepCell w br T (i:Int) (kvs ao cap R) bt bx bc) (hE:EnvE B ad w) (hi:i<4) (hm:1073741824<=T) (hn:(aR R).length<=140):
  Calls prog 105 #[.pointer (some ⟨br,0,none⟩),aD (0,0,0,kd,nd,o,s,v)] w fun e w'=>e= .returned (.tuple #[aD aV,eV ad 8])/\Below w.heap.size w w':=by
 have hrl:∀i,i<4->(R i).length<=1000:=fun i hi=>yJ
 obtain ⟨S,hS⟩:=zc w.heap.size;obtain ⟨U,hU⟩:=zc ((w.alloc (.cells #[.int .i64 0,.int .i64 0,.int .i64 0,.int .u8 (kd:Int),.int .i64 nd,.int .i64 o,.string s,.string v] 38)).alloc (.cells #[.int .i64 0,.int .i64 0,.int .i64 0,.int .u8 0,.int .i64 0,.int .i64 0,.string ⟨#[]⟩,.string ⟨#[]⟩] 38));have hbU:Below w.heap.size w U:=zP
 have O1:OpBlk U (S+1) aV:=by
  rw [hU,hS];exact ke6
 have hcU:RepCell U br T (i:Int) (kvs ao cap R) bt bx bc:=hc.same (hbU.block _ hc.lt);have hcount:=mN U ao cap R hrl;unfold kV at hcount;have k2:U.cell? ⟨br,2,none⟩=some (.slice (ao 0) (R 0).length (cap 0)):=hcU.c2;have k3:U.cell? ⟨br,3,none⟩=some (.slice (ao 1) (R 1).length (cap 1)):=hcU.c3;have k4:U.cell? ⟨br,4,none⟩=some (.slice (ao 2) (R 2).length (cap 2)):=hcU.c4;have k5:U.cell? ⟨br,5,none⟩=some (.slice (ao 3) (R 3).length (cap 3)):=hcU.c5;have dn:decide ((400:Int)<=((aR R).length:Int))=false:=zr;have dn':decide (400<=(aR R).length)=false:=zr
 have H0:Aside (RepCell U br T (i:Int) (kvs ao cap R) bt bx bc/\OpBlk U (S+1) aV/\Below w.heap.size w U/\S=w.heap.size/\EnvE B ad U):=⟨hcU,O1,hbU,hS,hE.later hbU⟩
 have HU:Aside (U=(w.alloc (.cells #[.int .i64 0,.int .i64 0,.int .i64 0,.int .u8 (kd:Int),.int .i64 nd,.int .i64 o,.string s,.string v] 38)).alloc (.cells #[.int .i64 0,.int .i64 0,.int .i64 0,.int .u8 0,.int .i64 0,.int .i64 0,.string ⟨#[]⟩,.string ⟨#[]⟩] 38)):=hU;clear hU hcU O1 hbU hE hc hS;unfold aD;dsimp only;go_enter func105,ntmps105;go_upto_region 1 with fail;rw [<-HU.o,<-H0.o.2.2.2.1];go_wp2_with fail;refine hcount.mono ?_;clear hcount k2 k3 k4 k5;rintro e w1 ⟨rfl,hb1⟩;have hc1:RepCell w1 br T (i:Int) (kvs ao cap R) bt bx bc:=H0.o.1.same (hb1.block _ H0.o.1.lt);have hnext:=Az w1 br T (i:Int) _ (H0.o.2.2.2.2.later hb1).c7 hc1.c0 hc1.c1 hm;clear hc1;go_wp2_with fail;refine hnext.mono ?_;clear hnext;rintro e w2 ⟨rfl,hb2⟩;have hb12:Below U.heap.size U w2:=zj hb1 hb2;have Z7:=H0.o.2.1.later hb12;have hz7:=Z7.lt
 have B7:Aside (Below w.heap.size w w2/\S=w.heap.size):=⟨zj H0.o.2.2.1 hb12,H0.o.2.2.2.1⟩
 clear hb1 hb2 hb12;obtain ⟨V,hV⟩:=ze (w2.alloc (.cells #[.int .i64 0,.int .i64 0] 36))
 have hbV:Below w2.heap.size w2 V:=by rw [hV.o];exact zh w2 _
 have ZV:=Z7.later hbV;have hzV:=ZV.lt;obtain ⟨z0,z1,z2,z3,z4,z5,z6,z7,zf⟩:=ZV.cells;unfold aV at z0 z1 z2 z3 z4 z5 z6 z7;dsimp only at z0 z1 z2 z3 z4 z5 z6 z7
 have BV:Aside (Below w.heap.size w V/\S=w.heap.size):=⟨zj B7.o.1 hbV,B7.o.2⟩
 clear hbV ZV Z7 B7;go_upto_region 5 with fail;rw [<-hV.o];go_wp2;(try simp only [Exit.inBlock,Exit.then]);refine bodyPost_ret (v:=.tuple #[aD aV,.iface 399 (.pointer (some (ad 7)))]) ?_ rfl ⟨rfl,?_⟩
 ·exact kc3
 exact aQ (b:=S+1) BV.o.1 (by have:=BV.o.2;omega) 0 [.int .i64 0,.int .i64 0,.int .i64 0,.int .u8 0,.int .i64 0,.int .i64 0,.string ⟨#[]⟩,.string ⟨#[]⟩]
theorem ig {B:Nat} {ad:Nat->Addr} (w:World) (br:Nat) (T:Int) (i:Nat) (ao:Nat->Option Addr) (cap:Nat->Nat) (bt bx bc:Nat) (R:Rws) (kd:Nat) (nd o:Int) (s v:ByteArray) (hc:RepCell w br T (i:Int) (kvs ao cap R) bt bx bc) (hE:EnvE B ad w) (hi:i<4) (hT:0<=T) (hm:T<=1073741824) (hn:(aR R).length<=140) (hs1:s.size<=1000000) (hs2:v.size<=1000000):
  Calls prog 105 #[.pointer (some ⟨br,0,none⟩),aD (0,0,0,kd,nd,o,s,v)] w (IV ad w (bN T i (R i).length kd nd o s v)):=by
 by_cases hm2:T<1073741824
 ·refine (LZ w br T i ao cap bt bx bc R kd nd o s v hc hE hi hT hm2 hn hs1 hs2).mono ?_;rintro e w' ⟨he,hb⟩;exact ⟨by rw [lY hm2];exact he,hb⟩
 refine (Fh w br T i ao cap bt bx bc R kd nd o s v hc hE hi zo hn).mono ?_;rintro e w' ⟨he,hb⟩;have e8:dJ (bN T i (R i).length kd nd o s v)=8:=if_pos (by show 1073741824<T+1;omega);exact ⟨by rw [e8];exact he,hb⟩
end
section
open Go.RowKit Go.Lib Go.Sort Go.Maps
def lP (ad:Nat->Addr) (w:World) (ok:Prop) (x:OpX) (e:Ending) (w':World):Prop:=(ok/\IV ad w x e w')\/(¬ok/\e= .returned (.tuple #[aD aV,eV ad 6])/\Below w.heap.size w w')
theorem wB {B:Nat} {ad:Nat->Addr} (w:World) (c:Nat->Nat) (br:Nat) (T:Int) (i:Nat) (ao:Nat->Option Addr) (cap:Nat->Nat) (bt bx bc:Nat) (R:Rws) (into:Int) (name:ByteArray) (hc:RepCell w br T (i:Int) (kvs ao cap R) bt bx bc) (hrows:RowsAt w c (kvs ao cap R) R) (hR:RowsK R) (hE:EnvE B ad w) (hi:i<4) (hT:0<=T) (hm:T<=1073741824) (hn:(aR R).length<=140) (hs1:name.size<=1000000) (h2: -9223372036854775808<=into) (h3:into<=9223372036854775807):
  Calls prog 43 #[.pointer (some ⟨br,0,none⟩),.int .i64 into,.string name] w (lP ad w (into=0\/into=1\/KnownN (aR R) into) (bN T i (R i).length 109 0 into name ⟨#[]⟩)):=by
 have hrl:∀i,i<4->(R i).length<=1000:=fun i hi=>yJ
 obtain ⟨S,hS⟩:=zc w.heap.size;obtain ⟨U,hU⟩:=zc (w.alloc (.cells #[.int .i64 0,.int .i64 0,.int .i64 0,.int .u8 0,.int .i64 0,.int .i64 0,.string ⟨#[]⟩,.string ⟨#[]⟩] 38));have hbU:Below w.heap.size w U:=zW;have Z0:OpBlk U S aV:=yM;have hcU:RepCell U br T (i:Int) (kvs ao cap R) bt bx bc:=hc.same (hbU.block _ hc.lt)
 obtain ⟨zb,hzb⟩:∃zb:Bool,zb=true↔(into=0\/into=1\/KnownN (aR R) into):=⟨@decide _ (Classical.propDecidable _),@decide_eq_true_iff _ (Classical.propDecidable _)⟩
 have hplace:=gw U ao cap R into zb hzb ((hE.later hbU).op4) ((KnownAt.of_rows hrows).later hbU) hR.toN hrl h2 h3;unfold kV at hplace;have k2:U.cell? ⟨br,2,none⟩=some (.slice (ao 0) (R 0).length (cap 0)):=hcU.c2;have k3:U.cell? ⟨br,3,none⟩=some (.slice (ao 1) (R 1).length (cap 1)):=hcU.c3;have k4:U.cell? ⟨br,4,none⟩=some (.slice (ao 2) (R 2).length (cap 2)):=hcU.c4;have k5:U.cell? ⟨br,5,none⟩=some (.slice (ao 3) (R 3).length (cap 3)):=hcU.c5
 have H0:Aside (RepCell U br T (i:Int) (kvs ao cap R) bt bx bc/\OpBlk U S aV/\Below w.heap.size w U/\S=w.heap.size/\EnvE B ad U/\B<=w.heap.size/\(zb=true↔(into=0\/into=1\/KnownN (aR R) into))):=⟨hcU,Z0,hbU,hS,hE.later hbU,hE.size,hzb⟩
 have HU:Aside (U=w.alloc (.cells #[.int .i64 0,.int .i64 0,.int .i64 0,.int .u8 0,.int .i64 0,.int .i64 0,.string ⟨#[]⟩,.string ⟨#[]⟩] 38)):=hU;clear hU hcU Z0 hbU hE hc hS hzb hrows hR;go_enter func43,ntmps43;go_upto_region 1 with fail;rw [<-HU.o,<-H0.o.2.2.2.1];go_wp2_with fail;refine hplace.mono ?_;clear hplace k2 k3 k4 k5;rintro e w1 ⟨rfl,hb1⟩;have Z1:=H0.o.2.1.later hb1
 have H1:Aside (OpBlk w1 S aV/\Below w.heap.size w w1/\EnvE B ad w1/\RepCell w1 br T (i:Int) (kvs ao cap R) bt bx bc):=⟨Z1,zj H0.o.2.2.1 hb1,H0.o.2.2.2.2.1.later hb1,H0.o.1.same (hb1.block _ H0.o.1.lt)⟩
 clear hb1 Z1
 cases zb with
 | false=>
  have hno:¬(into=0\/into=1\/KnownN (aR R) into):=fun q=>vx
  obtain ⟨z0,z1,z2,z3,z4,z5,z6,z7,zf⟩:=H1.o.1.cells;unfold aV at z0 z1 z2 z3 z4 z5 z6 z7;dsimp only at z0 z1 z2 z3 z4 z5 z6 z7;have eg:=H1.o.2.2.1.c5;have hlo:=H1.o.2.2.1.low;have hSw:=H0.o.2.2.2.1;have hBw:=H0.o.2.2.2.2.2.1;have n1:0≠S:=zo;have n2:S≠0:=zo;have HNO:=Lib.hid hno;clear hlo hSw hBw hno;go_wp2_with fail;go_region
  all_goals
   go_wp2;(try simp only [Exit.inBlock,Exit.then]);refine bodyPost_ret (v:=.tuple #[aD aV,eV ad 6]) ?_ rfl (.inr ⟨HNO.o,rfl,?_⟩)
   ·exact ke1
   exact kd0
 | true=>
  have HOK:Aside (into=0\/into=1\/KnownN (aR R) into):=H0.o.2.2.2.2.2.2.1 rfl;have hown:=ig w1 br T i ao cap bt bx bc R 109 0 into name ⟨#[]⟩ H1.o.2.2.2 H1.o.2.2.1 hi hT hm hn hs1 zu;unfold aD at hown;dsimp only at hown;go_wp2_with fail;refine hown.mono ?_;clear hown;rintro e w2 ⟨he,hb2⟩;obtain ⟨y,hy⟩:=zc ((if dJ (bN T i (R i).length 109 0 into name ⟨#[]⟩)=0 then bN T i (R i).length 109 0 into name ⟨#[]⟩ else aV));obtain ⟨er,her⟩:=zc (eV ad (dJ (bN T i (R i).length 109 0 into name ⟨#[]⟩)));rw [<-hy,<-her] at he;subst he
  have HY:Aside (y=(if dJ (bN T i (R i).length 109 0 into name ⟨#[]⟩)=0 then bN T i (R i).length 109 0 into name ⟨#[]⟩ else aV)/\er=eV ad (dJ (bN T i (R i).length 109 0 into name ⟨#[]⟩))):=⟨hy,her⟩
  clear hy her;obtain ⟨t,b,n,kd,nd,o,s,v⟩:=y;unfold aD;dsimp only;have Z2:=H1.o.1.later hb2;obtain ⟨z0,z1,z2,z3,z4,z5,z6,z7,zf⟩:=Z2.cells;unfold aV at z0 z1 z2 z3 z4 z5 z6 z7;dsimp only at z0 z1 z2 z3 z4 z5 z6 z7;have B2:Aside (Below w.heap.size w w2):=zj H1.o.2.1 hb2;clear hb2 Z2;go_wp2;(try simp only [Exit.inBlock,Exit.then]);refine bodyPost_ret (v:=.tuple #[.agg #[.int .i64 t,.int .i64 b,.int .i64 n,.int .u8 (kd:Int),.int .i64 nd,.int .i64 o,.string s,.string v],er]) ?_ rfl (.inl ⟨HOK.o,⟨by rw [<-HY.o.1,<-HY.o.2];rfl,?_⟩⟩)
  ·exact ke7
  exact aQ (b:=S) B2.o yB 0 [.int .i64 t,.int .i64 b,.int .i64 n,.int .u8 (kd:Int),.int .i64 nd,.int .i64 o,.string s,.string v]
end
section
open Go.RowKit Go.Lib Go.Sort Go.Maps
def mT (A:List OpX) (nd:Int) (s:ByteArray):Prop:=(¬KnownN A nd/\s=⟨#[]⟩)\/(KnownN A nd/\∃L,LineIs A nd L/\s.data.toList=co L)
theorem AN (w:World) (c:Nat->Nat) (br:Nat) (T by_:Int) (kv:Nat->Value) (bt bx bc:Nat) (A:List OpX) (nd:Int) (hc:RepCell w br T by_ kv bt bx bc) (ht:TextC w c bx A) (hlen:A.length<=1000) (h2: -2^63<=nd) (h3:nd<2^63):
  Calls prog 26 #[.pointer (some ⟨br,0,none⟩),.int .i64 nd] w fun e w'=>∃s,e= .returned (.string s)/\mT A nd s/\Below w.heap.size w w':=by
 obtain ⟨nx,tx,t1,t2,t3,t4,t5⟩:=ht;have k7:=hc.c7;have lk:=t2.look (og h2 h3)
 cases hp:tx nd with
 | none=>
  rw [hp] at lk;unfold il at lk;simp only [Option.map_none,ZW] at lk
  have HN:Aside (¬KnownN A nd):=fun q=>jH
  clear t1 t2 t3 t4 t5 hp;go_enter func26,ntmps26;go_wp2;go_ret;exact ⟨_,rfl,.inl ⟨HN.o,rfl⟩,vP _ w⟩
 | some p=>
  rw [hp] at lk;unfold il at lk;simp only [Zs,ZY] at lk;obtain ⟨v,L,l1,l2,l3,l4⟩:=t5 nd p hp;have hcall:=Hv w (p+1) p v L l1 (uf l2.len hlen)
  have HK:Aside (KnownN A nd/\LineIs A nd L):=⟨(t4 nd).1 xN,l2⟩
  clear t1 t2 t3 t4 t5 hp l1 l2 l3 l4;go_enter func26,ntmps26;go_wp2_with fail;refine hcall.mono ?_;clear hcall;rintro e w' ⟨rfl,hb⟩;have HB:Aside (Below w.heap.size w w'):=hb;clear hb;go_wp2;go_ret;exact ⟨_,rfl,.inr ⟨HK.o.1,L,HK.o.2,zv⟩,HB.o⟩
theorem nB (w:World) (c:Nat->Nat) (br:Nat) (T by_:Int) (kv:Nat->Value) (bt bx bc:Nat) (A:List OpX) (nd n:Int) (hc:RepCell w br T by_ kv bt bx bc) (ht:TextC w c bx A) (hlen:A.length<=1000) (h2: -2^63<=nd) (h3:nd<2^63) (hn: -9223372036854775808<=n/\n<=9223372036854775807):
  Calls prog 133 #[.pointer (some ⟨br,0,none⟩),.int .i64 nd,.int .i64 n] w fun e w'=>∃a:Int×Bool,e= .returned (.tuple #[.int .i64 a.1,.bool a.2])/\(¬KnownN A nd->a=(0,false))/\(KnownN A nd->∃L,LineIs A nd L/\a=atL n L)/\Below w.heap.size w w':=by
 obtain ⟨nx,tx,t1,t2,t3,t4,t5⟩:=ht;have k7:=hc.c7;have lk:=t2.look (og h2 h3)
 cases hp:tx nd with
 | none=>
  rw [hp] at lk;unfold il at lk;simp only [Option.map_none,ZW] at lk
  have HN:Aside (¬KnownN A nd):=fun q=>jH
  clear t1 t2 t3 t4 t5 hp;go_enter func133,ntmps133;go_wp2;go_ret2;exact ⟨(0,false),rfl,fun _=>rfl,fun q=>absurd q HN.o,vP _ w⟩
 | some p=>
  rw [hp] at lk;unfold il at lk;simp only [Zs,ZY] at lk;obtain ⟨v,L,l1,l2,l3,l4⟩:=t5 nd p hp;have hcall:=LW w (p+1) p v L n l1 (uf l2.len hlen) hn
  have HK:Aside (KnownN A nd/\LineIs A nd L):=⟨(t4 nd).1 xN,l2⟩
  clear t1 t2 t3 t4 t5 hp l1 l2 l3 l4;go_enter func133,ntmps133;go_wp2_with fail;refine hcall.mono ?_;clear hcall;rintro e w' ⟨rfl,hb⟩;have HB:Aside (Below w.heap.size w w'):=hb;clear hb;go_wp2;go_ret2;exact ⟨atL n L,rfl,fun q=>absurd HK.o.1 q,fun _=>⟨L,HK.o.2,rfl⟩,HB.o⟩
end
section
open Go.RowKit Go.Lib Go.Sort Go.Maps
open scoped Classical
structure StSt (w:World) (S:Nat) (W1:World) (v0:Value) (ls:List (List UInt8)) (v:Value) (wr:World):Prop where
 st:TellSt S ls v wr
 below:Below S w wr
 keeps:Keeps (fun k=>k=S\/v0.ownBlock=some k) W1 wr
 own:∀k,v.ownBlock=some k->v0.ownBlock=some k\/W1.heap.size<=k
theorem StSt.start (h:TellSt S ls v W) (hb:Below S w W):StSt w S W v ls v W:=⟨h,hb,Keeps.refl _ _,fun k hk=>.inl hk⟩
theorem StSt.later {w W1 wr w':World} {S:Nat} {ls:List (List UInt8)} {v0 v:Value} (h:StSt w S W1 v0 ls v wr) (hb:Below wr.heap.size wr w'):StSt w S W1 v0 ls v w':=
 ⟨h.st.later hb,h.below.trans (hb.mono (ZS h.st.lt)),h.keeps.trans ((aW hb).mono (fun k hk e=>absurd hk zo)),h.own⟩
theorem StSt.tell {line:List UInt8} {e:Ending} (h:StSt w S W1 v0 ls v wr) (ht:wX S line ls v wr e w'):∃v',e= .returned (.tuple #[])/\StSt w S W1 v0 (ls++ [line]) v' w':=by
 obtain ⟨v',rfl,h1,h2,h3⟩:=ht;have hs:=h.keeps.size;refine ⟨v',rfl,h1,?_,h.keeps.then h2 (fun i hi q=>q.imp id (fun q=> ?_)),fun k hk=> ?_⟩
 ·refine h.below.trans (h2.below (ZS h.st.lt) (fun k q=> ?_))
  rcases q with rfl | q
  ·exact vM _
  have:=(h.st.row.lt k q).1;omega
 ·rcases h.own i q with q | q
  ·exact q
  omega
 rcases h3 k hk with q | q
 ·exact h.own k q
 exact .inr zo
theorem StSt.kept (h:StSt w S W1 v0 ls v wr) (hg:g<W1.heap.size) (h1:g≠S) (h2:v0.ownBlock≠some g):wr.heap[g]? =W1.heap[g]? :=h.keeps.block g hg (fun e=>e.elim h1 h2)
theorem StSt.inRow {α:Type} {enc:α->List Value} (h:StSt w S W1 v0 ls v wr) {zs:List α} (hz:InRow enc W1 ao zs) (hk:∀g o,ao=some ⟨g,o,none⟩->g<W1.heap.size/\g≠S/\v0.ownBlock≠some g):InRow enc wr ao zs:=
 hz.kept (fun g o e=>h.kept (hk g o e).1 (hk g o e).2.1 (hk g o e).2.2)
theorem Fj {α:Type} {enc:α->List Value} (hlen:∀x,(enc x).length=k) (hk:0<k) {zs:List α} (h:InRow enc w ao zs) (hz:zs≠ []) {o:Nat} (e:ao=some ⟨g,o,none⟩):g<w.heap.size:=by
 cases zs with
 | nil=>exact absurd rfl hz
 | cons x t=>
  obtain ⟨b,o',e',hc⟩:=h.get hlen (i:=0) (x:=x) rfl;rw [e] at e'
  cases e'
  cases hx:enc x with
  | nil=>have:=hlen x;rw [hx] at this;simp at this;omega
  | cons u r=>exact vR w ⟨g,_,none⟩ (hc 0 u (by rw [hx];rfl))
theorem Kw {qs:List Plc} (h:PlsAt w v qs):∃ao cap,v= .slice ao qs.length cap/\InRow aM w ao qs/\∀g o,ao=some ⟨g,o,none⟩->v.ownBlock=some g/\g<w.heap.size:=by
 rcases h with ⟨rfl,rfl⟩ | ⟨g,cap,rfl,hl,hc⟩
 ·exact ⟨none,0,rfl,.inl rfl,fun g o e=>yL⟩
 exact ⟨some ⟨g,0,none⟩,cap,rfl,.inr ⟨g,0,rfl,fun j u hj=>by rw [vY];exact hc j u hj⟩,fun g' o e=>by cases e;exact ⟨rfl,hl⟩⟩
theorem kh (n:Int) (h0:0<=n) (h1:n<2^62):(Lib.itoa n).length<=100:=by
 have:=Lib.itoa_length_le n zo zo;omega
theorem JM (M:Nat):∀ls:List (List UInt8),(∀l∈ls,l.length<=M)->(Lib.join ls [10]).length<=ls.length*(M+1)
 | [],_=>by simp [Lib.join_nil]
 | x::r,h=>by
  rw [Lib.join_length]
  have:∀r:List (List UInt8),(∀l∈r,l.length<=M)->Lib.lens r<=r.length*M:=fun r=>by
   induction r with
   | nil=>intro _;simp [Lib.lens]
   | cons y r ih=>
    intro h;have h1:=h y zv;have h2:=ih (fun l hl=>h l (by simp [hl]))
    simp only [Lib.lens,uG,List.sum_cons,uu] at h2 |-
    rw [ZL];omega
  have:=this (x::r) h
  simp only [uu,uM] at this |-
  rw [Nat.mul_add,Nat.mul_one];omega
theorem sv {A:List OpX} {mm:List Mrk} (h:IsMarks (dh A) mm) (hm:m∈mm):0<=m.1/\m.1<2^40/\m.2.1.size<=12/\m.2.2.size<=12:=by
 obtain ⟨-,s,hs⟩:=(h.mem m).1 hm;have hb:=kT (fF A) (im m);unfold dh at hs;rw [hs] at hb;have hmem:(im m,(m.2.2,s))∈fF A:=hb.1;obtain ⟨x,hx,e⟩:=Zv.1 hmem
 have hx0:an x=0:=by
  unfold CT at e;split at e
  ·rename_i q;exact q.1
  cases e
 have ek:=ik e;have q:=aq hx0;have e1:m.1=x.2.2.2.2.1:=congrArg (fun z=>z.1.1) ek;have e2:m.2.1=x.2.2.2.2.2.2.1:=congrArg (fun z=>z.1.2) ek;have e3:m.2.2=x.2.2.2.2.2.2.2:=congrArg (fun z=>z.2.1) ek;have l1:x.2.2.2.2.2.2.1.data.toList.length=x.2.2.2.2.2.2.1.size:=zv;have l2:x.2.2.2.2.2.2.2.data.toList.length=x.2.2.2.2.2.2.2.size:=zv;rw [e1,e2,e3];omega
theorem iS {α β:Type} (f:α->β) (l:List α) {x:α} (h:l[k]? =some x):(l.take (k+1)).map f=(l.take k).map f++ [f x]:=by
 rw [uS,h,uI];rfl
theorem wQ (A:List OpX):∃tf:Int->List UInt8,Aside (∀nd L,LineIs A nd L->tf nd=co L):=by
 refine ⟨fun nd=>if h:∃L,LineIs A nd L then co h.choose else [],fun nd L hL=> ?_⟩
 have h:∃L,LineIs A nd L:=⟨L,hL⟩
 simp only [dif_pos h];rw [h.choose_spec.unique hL]
def Hx (k:Int):List Value:=[.int .i64 k]
theorem pN (k:Int):(Hx k).length=1:=rfl
theorem rh:∀ks:List Int,aA Hx ks=nu ks
 | []=>rfl
 | k::r=>by rw [ee,rh r];rfl
theorem oM (nd:Int) (ws:List (List UInt8)) (h0:0<=nd) (h1:nd<2^62) (hj:(Lib.join ws [32]).length<=5000):(gg nd ws).length<=10000:=by
 have:=kh nd h0 h1;unfold gg;simp only [ub,uu,uM];omega
theorem sk (h:FineP p):(Lib.join [[105,110],Lib.itoa p.2.1,p.2.2.data.toList] [32]).length<=100000:=by
 have h1:=kh p.2.1 h.lo' h.hi';have h2:=h.sz;have h3:p.2.2.data.toList.length=p.2.2.size:=zv;exact ke8
theorem Cf (h:FineP p):(bZ p).length<=10000:=by
 refine oM _ _ h.lo h.hi ?_;have h1:=kh p.2.1 h.lo' h.hi';have h2:=h.sz;have h3:p.2.2.data.toList.length=p.2.2.size:=zv;exact ke8
theorem Fv {t:Int×List UInt8} (h:t.2.length<=1000) (h0:0<=t.1) (h1:t.1<2^40):(cu t).length<=10000:=by
 refine oM _ _ h0 zo ?_;exact ke8
theorem Ho (h:0<=m.1/\m.1<2^40/\m.2.1.size<=12/\m.2.2.size<=12):(gv m).length<=10000:=by
 refine oM _ _ h.1 zo ?_;have h3:m.2.1.data.toList.length=m.2.1.size:=zv;have h4:m.2.2.data.toList.length=m.2.2.size:=zv;exact ke8
theorem Ew (w:World) (S:Nat) (ls:List (List UInt8)) (v:Value) (h:TellSt S ls v w) (hl:ls.length<=1000000) (hm:∀l∈ls,l.length<=10000):
  Calls prog 74 #[v,.string ⟨#[10]⟩] w fun e w'=>e= .returned (.string ⟨(Lib.join ls [10]).toArray⟩)/\Below w.heap.size w w':=by
 have hlen:=JM 10000 ls hm;have hr:=h.row
 rcases h.row.2 with ⟨rfl,h0⟩ | ⟨g,cap,cur,rfl,hbg,hgb,r1,r2,r3,r4⟩
 ·have:ls= []:=uh.1 h0;subst this
  exact (Tryz.strings_Join_none none 0 ⟨#[10]⟩ w).mono fun e w' ⟨h1,h2⟩=>⟨h1,by rw [h2];exact vP _ _⟩
 have e1:(ls.map fun l=>(⟨l.toArray⟩:ByteArray)).map (·.data.toList)=ls:=by
  rw [ZT];exact (ZE (fun l _=>rfl)).trans (List.map_id ls)
 have e2:(ls.map fun l=>(⟨l.toArray⟩:ByteArray)).length=ls.length:=uz _
 have:=Tryz.strings_Join g 0 cap (ls.map fun l=>(⟨l.toArray⟩:ByteArray)) ⟨#[10]⟩ w (fun j x hj=>by
  rw [vY]
  obtain ⟨l,hl',rfl⟩:∃l,ls[j]? =some l/\(⟨l.toArray⟩:ByteArray)=x:=by
   rw [Zf] at hj
   cases hq:ls[j]? with
   | none=>rw [hq] at hj;cases hj
   | some l=>rw [hq] at hj;cases hj;exact ⟨l,rfl,rfl⟩
  have hjl:j<ls.length:=(vL.1 hl').1
  rw [hr.cellAt j zo]
  unfold Ah
  rw [Zf,hl']
  rfl) (vO.1 hgb).1 (by rw [e2];omega) (by rw [e2];exact r1) (by rw [e1];show (Lib.join ls [10]).length<=_;omega)
 rw [e1,e2] at this;exact this
