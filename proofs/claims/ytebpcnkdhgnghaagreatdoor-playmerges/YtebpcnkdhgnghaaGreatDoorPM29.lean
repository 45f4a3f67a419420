import Derived.Test.YtebpcnkdhgnghaaGreatDoorPM25
set_option linter.unusedSimpArgs false
set_option linter.unusedVariables false
set_option maxRecDepth 100000
set_option maxHeartbeats 64000000
namespace Go.Proofs.YtebpcnkdhgnghaaGreatDoor
open Go.Proofs.Tryz
variable {T:Int} {ls:List (List UInt8)} {qs:List Plc} {m:Mrk} {B S cap g i k:Nat} {ao:Option Addr} {p:Plc} {v v0:Value} {W W1 w w' wr:World}
section
open Go.RowKit Go.Lib Go.Sort
theorem Fv {pb:Nat} (h:Below w.heap.size w W) (hp:w.heap.size<=pb) (hb:But pb W w'):Below w.heap.size w w':=
 h.trans ⟨hb.os,hb.tape,hb.output,hb.size,fun k hk=>hb.block k (vV hk h.size) zj⟩
theorem Gs (w:World) (pb:Nat) (T by_:Int) (h0:w.cell? ⟨pb,0,none⟩=some (.int .i64 T)) (h1:w.cell? ⟨pb,1,none⟩=some (.int .i64 by_)) (hT:0<=T) (hm:T<1073741824):
  Calls prog 352 #[.pointer (some ⟨pb,0,none⟩)] w fun e w'=>e= .returned (.tuple #[.agg #[.int .i64 (T+1),.int .i64 by_],.nilIface])/\Below w.heap.size w w':=by
 have hpl:pb<w.heap.size:=vK w ⟨pb,0,none⟩ h0
 obtain ⟨S,hS⟩:=zc w.heap.size
 obtain ⟨U,hU⟩:=zc ((w.alloc (.cells #[.int .i64 0,.int .i64 0] 59)).alloc (.cells #[.int .i64 T,.int .i64 by_] 108))
 have hbU:Below w.heap.size w U:=zI
 have hu1:U.heap[S+1]? =some (.cells #[.int .i64 T,.int .i64 by_] 108 (0,0)):=by
  rw [hU,hS]
  have:=heap_alloc_new (w.alloc (.cells #[.int .i64 0,.int .i64 0] 59)) (.cells #[.int .i64 T,.int .i64 by_] 108)
  exact kd4
 have hu0:U.heap[S]? =some (.cells #[.int .i64 0,.int .i64 0] 59 (0,0)):=by
  exact kh3
 have hclk:Clk (S+1) T by_ U:=⟨xc,xc,by simp [World.frozen?,hu1]⟩
 have hcall:=KJ (S+1) T by_ U hclk hT hm
 have HB:Aside (Below w.heap.size w U/\S=w.heap.size/\U.heap[S]? =some (.cells #[.int .i64 0,.int .i64 0] 59 (0,0))):=⟨hbU,hS,hu0⟩
 have HU:Aside (U=(w.alloc (.cells #[.int .i64 0,.int .i64 0] 59)).alloc (.cells #[.int .i64 T,.int .i64 by_] 108)):=hU
 clear hU hbU hu1 hu0 hclk
 go_enter func352,ntmps352
 go_wp2_with fail
 rw [<-HU.o,<-HB.o.2.1]
 clear hS
 refine hcall.mono ?_
 clear hcall
 rintro e w1 ⟨rfl,hbut,-⟩
 have hS1:w1.heap[S]? =some (.cells #[.int .i64 0,.int .i64 0] 59 (0,0)):=(hbut.block S (vD.1 HB.o.2.2).1 zj).trans HB.o.2.2
 have y0:w1.cell? ⟨S,0,none⟩=some (.int .i64 0):=xe
 have y1:w1.cell? ⟨S,1,none⟩=some (.int .i64 0):=xe
 have yf:∀o,w1.frozen? ⟨S,o,none⟩=false:=fun o=>by simp [World.frozen?,hS1]
 have B1:Aside (Below w.heap.size w w1):=Fv HB.o.1 jf hbut
 clear hbut hS1
 go_wp2
 (try simp only [Exit.inBlock,Exit.then])
 refine bodyPost_ret (v:=.tuple #[.agg #[.int .i64 (T+1),.int .i64 by_],.nilIface]) ?_ rfl ⟨rfl,?_⟩
 ·exact kf7
 exact aH (b:=S) B1.o jf 0 [.int .i64 (T+1),.int .i64 by_]
theorem Je (x:OpX) (w:World) (h1:1<=x.1) (h2:x.1<=1073741824) (h3:0<=byO x) (h4:byO x<4):Calls prog 135 #[bT x] w fun e w'=>e= .returned (.int .i64 (idO x))/\Below w.heap.size w w':=by
 obtain ⟨t,b,n,k,nd,o,s,v⟩:=x
 unfold bT idO
 dsimp only at*
 exact kf3
theorem RepCell.row {br:Nat} {by_:Int} {kv:Nat->Value} {bt bx bc:Nat} (h:RepCell w br T by_ kv bt bx bc) (hi:i<4):w.cell? ⟨br,2+i,none⟩=some (kv i):=by
 have h4:i=0\/i=1\/i=2\/i=3:=zj
 rcases h4 with rfl | rfl | rfl | rfl
 ·exact h.c2
 ·exact h.c3
 ·exact h.c4
 exact h.c5
def fD (T:Int) (i m:Nat) (kd:Nat) (nd o:Int) (s v:ByteArray):OpX:=(T+1,(i:Int),(m:Int)+1,kd,if nd=0 then (T+1)*4+(i:Int) else nd,o,s,v)
def KA (ad:Nat->Addr) (w:World) (x:OpX) (e:Ending) (w':World):Prop:=e= .returned (.tuple #[bT (if ai x=0 then x else aR),eV ad (ai x)])/\Below w.heap.size w w'
def ki (x:OpX):Nat:=if 1073741824<x.1 then 8 else ai x
theorem KR {x:OpX} (h:x.1<=1073741824):ki x=ai x:=if_neg zj
theorem If {m kd:Nat} {nd o:Int} {s v:ByteArray} (h:T<1073741824):ki (fD T i m kd nd o s v)=ai (fD T i m kd nd o s v):=KR (by show T+1<=1073741824;omega)
def JC (ad:Nat->Addr) (w:World) (x:OpX) (e:Ending) (w':World):Prop:=e= .returned (.tuple #[bT (if ki x=0 then x else aR),eV ad (ki x)])/\Below w.heap.size w w'
theorem own_lt {B:Nat} {ad:Nat->Addr} (w:World) (br:Nat) (T:Int) (i:Nat) (ao:Nat->Option Addr) (cap:Nat->Nat) (bt bx bc:Nat) (R:Rws) (kd:Nat) (nd o:Int) (s v:ByteArray) (hc:RepCell w br T (i:Int) (kvs ao cap R) bt bx bc) (hE:EnvE B ad w) (hi:i<4) (hT:0<=T) (hm:T<1073741824) (hn:(aQ R).length<=250) (hs1:s.size<=1000000) (hs2:v.size<=1000000):
  Calls prog 341 #[.pointer (some ⟨br,0,none⟩),bT (0,0,0,kd,nd,o,s,v)] w (KA ad w (fD T i (R i).length kd nd o s v)):=by
 have hrl:∀i,i<4->(R i).length<=1000:=fun i hi=>qX
 have hri:=hrl i hi
 obtain ⟨S,hS⟩:=zc w.heap.size
 obtain ⟨U,hU⟩:=zc ((w.alloc (.cells #[.int .i64 0,.int .i64 0,.int .i64 0,.int .u8 (kd:Int),.int .i64 nd,.int .i64 o,.string s,.string v] 61)).alloc (.cells #[.int .i64 0,.int .i64 0,.int .i64 0,.int .u8 0,.int .i64 0,.int .i64 0,.string ⟨#[]⟩,.string ⟨#[]⟩] 61))
 have hbU:Below w.heap.size w U:=zI
 have O0:OpBlk U S (0,0,0,kd,nd,o,s,v):=by rw [hU,hS];exact (vP _ _ _ zt).trans (OpBlk.new w (0,0,0,kd,nd,o,s,v))
 have O1:OpBlk U (S+1) aR:=by
  rw [hU,hS]
  have:=OpBlk.new (w.alloc (.cells #[.int .i64 0,.int .i64 0,.int .i64 0,.int .u8 (kd:Int),.int .i64 nd,.int .i64 o,.string s,.string v] 61)) aR
  exact kd4
 have hcU:RepCell U br T (i:Int) (kvs ao cap R) bt bx bc:=hc.same (hbU.block _ hc.lt)
 have hbr:br<S:=by rw [hS];exact hc.lt
 have hcount:=lr U ao cap R hrl
 unfold kV at hcount
 have k2:U.cell? ⟨br,2,none⟩=some (.slice (ao 0) (R 0).length (cap 0)):=hcU.c2
 have k3:U.cell? ⟨br,3,none⟩=some (.slice (ao 1) (R 1).length (cap 1)):=hcU.c3
 have k4:U.cell? ⟨br,4,none⟩=some (.slice (ao 2) (R 2).length (cap 2)):=hcU.c4
 have k5:U.cell? ⟨br,5,none⟩=some (.slice (ao 3) (R 3).length (cap 3)):=hcU.c5
 have dn:decide ((400:Int)<=((aQ R).length:Int))=false:=zq
 have dn':decide (400<=(aQ R).length)=false:=zq
 have H0:Aside (RepCell U br T (i:Int) (kvs ao cap R) bt bx bc/\OpBlk U S (0,0,0,kd,nd,o,s,v)/\OpBlk U (S+1) aR/\Below w.heap.size w U/\S=w.heap.size/\EnvE B ad U):=⟨hcU,O0,O1,hbU,hS,hE.later hbU⟩
 have HU:Aside (U=(w.alloc (.cells #[.int .i64 0,.int .i64 0,.int .i64 0,.int .u8 (kd:Int),.int .i64 nd,.int .i64 o,.string s,.string v] 61)).alloc (.cells #[.int .i64 0,.int .i64 0,.int .i64 0,.int .u8 0,.int .i64 0,.int .i64 0,.string ⟨#[]⟩,.string ⟨#[]⟩] 61)):=hU
 have hEw:=hE.size
 clear hU hcU O0 O1 hbU hE hc hS
 unfold bT
 dsimp only
 go_enter func341,ntmps341
 go_upto_region 1 with fail
 rw [<-HU.o,<-H0.o.2.2.2.2.1]
 go_wp2_with fail
 refine hcount.mono ?_
 clear hcount k2 k3 k4 k5
 rintro e w1 ⟨rfl,hb1⟩
 have hc1:RepCell w1 br T (i:Int) (kvs ao cap R) bt bx bc:=H0.o.1.same (hb1.block _ H0.o.1.lt)
 have hnext:=Gs w1 br T (i:Int) hc1.c0 hc1.c1 hT hm
 clear hc1
 go_wp2_with fail
 refine hnext.mono ?_
 clear hnext
 rintro e w2 ⟨rfl,hb2⟩
 obtain ⟨Q,hQ⟩:=zc w2.heap.size
 obtain ⟨V,hV⟩:=zc (w2.alloc (.cells #[.int .i64 (T+1),.int .i64 (i:Int)] 59))
 have hbV:Below w2.heap.size w2 V:=by rw [hV];exact zh w2 _
 have hbUV:Below U.heap.size U V:=hb1.trans ((hb2.mono hb1.size).trans (hbV.mono (vI hb1.size hb2.size)))
 have hst:V.heap[Q]? =some (.cells #[.int .i64 (T+1),.int .i64 (i:Int)] 59 (0,0)):=by rw [hV,hQ];exact heap_alloc_new w2 _
 have hSQ:S+1<Q:=by have:=H0.o.2.2.1.lt;have:=hb1.size;have:=hb2.size;omega
 have H1:Aside (RepCell V br T (i:Int) (kvs ao cap R) bt bx bc/\OpBlk V S (0,0,0,kd,nd,o,s,v)/\OpBlk V (S+1) aR/\Below U.heap.size U V/\EnvE B ad V):=⟨H0.o.1.same (hbUV.block _ H0.o.1.lt),H0.o.2.1.later hbUV,H0.o.2.2.1.later hbUV,hbUV,H0.o.2.2.2.2.2.later hbUV⟩
 have HV:Aside (V=w2.alloc (.cells #[.int .i64 (T+1),.int .i64 (i:Int)] 59)/\Q=w2.heap.size):=⟨hV,hQ⟩
 have s0:V.cell? ⟨Q,0,none⟩=some (.int .i64 (T+1)):=by simp [World.cell?,hst]
 have s1:V.cell? ⟨Q,1,none⟩=some (.int .i64 (i:Int)):=by simp [World.cell?,hst]
 have kb:V.cell? ⟨br,2+i,none⟩=some (.slice (ao i) (R i).length (cap i)):=H1.o.1.row hi
 obtain ⟨y0,y1,y2,y3,y4,y5,y6,y7,f8⟩:=H1.o.2.1.cells
 dsimp only at y0 y1 y2 y3 y4 y5 y6 y7
 have wi:((i:Int)).toNat=i:=zj
 have pi:(0:Int)<=(i:Int):=zj
 have bi:(i:Int)<4:=zj
 have n1:S≠Q:=zj
 have n2:Q≠S:=zj
 have n3:S≠br:=zj
 have n4:br≠S:=zj
 clear hbV hbUV hst hb1 hb2 hV hQ
 go_upto_region 6 with fail
 rw [<-HV.o.1,<-HV.o.2]
 go_region
 obtain ⟨w5,hw5⟩:=zc ((((V.setCell ⟨S,0,none⟩ (.int .i64 (T+1))).setCell ⟨S,1,none⟩ (.int .i64 (i:Int))).setCell ⟨S,2,none⟩ (.int .i64 (((R i).length:Int)+1))).drew)
 have hk5:Keeps (fun k=>k=S) V w5:=by rw [hw5];exact (aZ S [.int .i64 (T+1),.int .i64 (i:Int),.int .i64 (((R i).length:Int)+1)] 0 V).drew
 have O5:OpBlk w5 S (T+1,(i:Int),((R i).length:Int)+1,kd,nd,o,s,v):=by
  have hh:=bW S [.int .i64 (T+1),.int .i64 (i:Int),.int .i64 (((R i).length:Int)+1)] 0 V _ _ H1.o.2.1
  unfold OpBlk
  rw [hw5]
  refine Eq.trans hh ?_
  simp [Cb]
 have Z5:OpBlk w5 (S+1) aR:=(hk5.block (S+1) H1.o.2.2.1.lt zj).trans H1.o.2.2.1
 have B5:Below w.heap.size w w5:=(zi H0.o.2.2.2.1 H1.o.2.2.2.1).trans (hk5.below (vI H0.o.2.2.2.1.size H1.o.2.2.2.1.size) (fun k e=>by have:=H0.o.2.2.2.2.1;omega))
 have OX:Aside (OpBlk w5 S (T+1,(i:Int),((R i).length:Int)+1,kd,nd,o,s,v)/\OpBlk w5 (S+1) aR/\Below w.heap.size w w5):=⟨O5,Z5,B5⟩
 have EX:Aside (EnvE B ad w5):=H1.o.2.2.2.2.mono (hk5.below H1.o.2.2.2.2.size (fun k e=>by have:=H0.o.2.2.2.2.1;have:=H0.o.2.2.2.2.2.size;have:=H0.o.2.2.2.2.1;have hBw:=hEw;omega))
 rw [<-hw5]
 clear hw5 hk5 O5 Z5 B5 s0 s1 kb y0 y1 y2 y3 y4 y5 y6 y7 f8
 by_cases hnd:nd=0
 ·have hid:=Je (T+1,(i:Int),((R i).length:Int)+1,kd,nd,o,s,v) w5 (by show 1<=T+1;omega) (by show T+1<=1073741824;omega) (by show (0:Int)<=(i:Int);omega) (by show (i:Int)<4;omega)
  have eid:idO (T+1,(i:Int),((R i).length:Int)+1,kd,nd,o,s,v)=(T+1)*4+(i:Int):=rfl
  rw [eid] at hid
  have hown:fD T i (R i).length kd nd o s v=(T+1,(i:Int),((R i).length:Int)+1,kd,(T+1)*4+(i:Int),o,s,v):=by unfold fD;rw [if_pos hnd]
  have HOW:=Lib.hid hown
  unfold bT at hid
  dsimp only at hid
  obtain ⟨y0,y1,y2,y3,y4,y5,y6,y7,f8⟩:=OX.o.1.cells
  dsimp only at y0 y1 y2 y3 y4 y5 y6 y7
  have HND:=Lib.hid hnd
  have dnd:(nd==0)=true:=by simp [hnd]
  clear hnd hown eid
  go_wp2_with fail
  refine hid.mono ?_
  clear hid y0 y1 y2 y3 y4 y5 y6 y7 f8
  rintro e w5' ⟨rfl,hb5⟩
  have O5:=OX.o.1.later hb5
  have Z5:=OX.o.2.1.later hb5
  obtain ⟨w6,hw6⟩:=zc (w5'.setCell ⟨S,4,none⟩ (.int .i64 ((T+1)*4+(i:Int))))
  have hk6:Keeps (fun k=>k=S) w5' w6:=by rw [hw6];exact aZ S [.int .i64 ((T+1)*4+(i:Int))] 4 w5'
  have hS0:=H0.o.2.2.2.2.1
  have O6:OpBlk w6 S (T+1,(i:Int),((R i).length:Int)+1,kd,(T+1)*4+(i:Int),o,s,v):=by
   have hh:=bW S [.int .i64 ((T+1)*4+(i:Int))] 4 w5' _ _ O5
   unfold OpBlk
   rw [hw6]
   refine Eq.trans hh ?_
   simp [Cb]
  have B5':Below w.heap.size w w5':=zi OX.o.2.2 hb5
  have OX6:Aside (OpBlk w6 S (T+1,(i:Int),((R i).length:Int)+1,kd,(T+1)*4+(i:Int),o,s,v)/\OpBlk w6 (S+1) aR/\Below w.heap.size w w6):=⟨O6,(hk6.block (S+1) Z5.lt zj).trans Z5,B5'.trans (hk6.below B5'.size (fun k e=>zj))⟩
  have EX6:Aside (EnvE B ad w6):=(EX.o.later hb5).mono (hk6.below (EX.o.later hb5).size (fun k e=>zj))
  obtain ⟨y0,y1,y2,y3,y4,y5,y6,y7,f8⟩:=O5.cells
  dsimp only at y0 y1 y2 y3 y4 y5 y6 y7
  have HW6:=Lib.hid hw6
  clear hw6 hk6 hS0 O6 B5' O5 Z5 hb5
  go_upto_region 9 with fail
  rw [<-HW6.o]
  have hown:=HOW.o
  clear y0 y1 y2 y3 y4 y5 y6 y7 f8
  have hchk:=bA (T+1) (i:Int) (((R i).length:Int)+1) kd ((T+1)*4+(i:Int)) o s v w6 (EX6.o.op4) hs1 hs2
  obtain ⟨y0,y1,y2,y3,y4,y5,y6,y7,f8⟩:=OX6.o.1.cells
  dsimp only at y0 y1 y2 y3 y4 y5 y6 y7
  have hlz:=OX6.o.2.1.lt
  cases herr:opE (T+1) (i:Int) (((R i).length:Int)+1) kd ((T+1)*4+(i:Int)) o s.data.toList v.data.toList with
  | zero=>
   rw [herr] at hchk
   have hev:eV ad 0= .nilIface:=rfl
   rw [hev] at hchk
   have HR:Aside (ai (fD T i (R i).length kd nd o s v)=0/\fD T i (R i).length kd nd o s v=(T+1,(i:Int),((R i).length:Int)+1,kd,(T+1)*4+(i:Int),o,s,v)):=⟨by rw [hown];exact herr,hown⟩
   clear herr hev hown
   go_wp2_with fail
   refine hchk.mono ?_
   clear hchk y0 y1 y2 y3 y4 y5 y6 y7 f8
   rintro e w7 ⟨rfl,hb7⟩
   have O7:=OX6.o.1.later hb7
   have Z7:=OX6.o.2.1.later hb7
   have hz7:=Z7.lt
   obtain ⟨y0,y1,y2,y3,y4,y5,y6,y7,f8⟩:=O7.cells
   dsimp only at y0 y1 y2 y3 y4 y5 y6 y7
   obtain ⟨z0,z1,z2,z3,z4,z5,z6,z7,zf⟩:=Z7.cells
   unfold aR at z0 z1 z2 z3 z4 z5 z6 z7
   dsimp only at z0 z1 z2 z3 z4 z5 z6 z7
   have B7:Aside (Below w.heap.size w w7/\S=w.heap.size):=⟨zi OX6.o.2.2 hb7,H0.o.2.2.2.2.1⟩
   clear hb7 O7 Z7
   go_wp2
   (try simp only [Exit.inBlock,Exit.then])
   refine bodyPost_ret (v:=.tuple #[.agg #[.int .i64 (T+1),.int .i64 (i:Int),.int .i64 (((R i).length:Int)+1),.int .u8 (kd:Int),.int .i64 ((T+1)*4+(i:Int)),.int .i64 o,.string s,.string v],.nilIface]) ?_ rfl ⟨by rw [HR.o.1,if_pos rfl,HR.o.2];rfl,?_⟩
   ·exact kf7
   exact aH (b:=S+1) B7.o.1 vy 0 [.int .i64 (T+1),.int .i64 (i:Int),.int .i64 (((R i).length:Int)+1),.int .u8 (kd:Int),.int .i64 ((T+1)*4+(i:Int)),.int .i64 o,.string s,.string v]
  | succ cd=>
   rw [herr] at hchk
   have hev:eV ad (cd+1)= .iface 450 (.pointer (some (ad cd))):=rfl
   rw [hev] at hchk
   have HR:Aside (ai (fD T i (R i).length kd nd o s v)=cd+1):=by show ai _=_;rw [hown];exact herr
   clear herr hev hown
   go_wp2_with fail
   refine hchk.mono ?_
   clear hchk y0 y1 y2 y3 y4 y5 y6 y7 f8
   rintro e w7 ⟨rfl,hb7⟩
   have Z7:=OX6.o.2.1.later hb7
   have hz7:=Z7.lt
   obtain ⟨z0,z1,z2,z3,z4,z5,z6,z7,zf⟩:=Z7.cells
   unfold aR at z0 z1 z2 z3 z4 z5 z6 z7
   dsimp only at z0 z1 z2 z3 z4 z5 z6 z7
   have B7:Aside (Below w.heap.size w w7/\S=w.heap.size):=⟨zi OX6.o.2.2 hb7,H0.o.2.2.2.2.1⟩
   clear hb7 Z7
   go_wp2
   (try simp only [Exit.inBlock,Exit.then])
   refine bodyPost_ret (v:=.tuple #[bT aR,.iface 450 (.pointer (some (ad cd)))]) ?_ rfl ⟨by rw [HR.o,if_neg zj];rfl,?_⟩
   ·exact kf6
   exact kh6
 have hown:fD T i (R i).length kd nd o s v=(T+1,(i:Int),((R i).length:Int)+1,kd,nd,o,s,v):=by unfold fD;rw [if_neg hnd]
 have dnd:(nd==0)=false:=by simp [hnd]
 have hchk:=bA (T+1) (i:Int) (((R i).length:Int)+1) kd nd o s v w5 (EX.o.op4) hs1 hs2
 obtain ⟨y0,y1,y2,y3,y4,y5,y6,y7,f8⟩:=OX.o.1.cells
 dsimp only at y0 y1 y2 y3 y4 y5 y6 y7
 have hlz:=OX.o.2.1.lt
 cases herr:opE (T+1) (i:Int) (((R i).length:Int)+1) kd nd o s.data.toList v.data.toList with
 | zero=>
  rw [herr] at hchk
  have hev:eV ad 0= .nilIface:=rfl
  rw [hev] at hchk
  have HR:Aside (ai (fD T i (R i).length kd nd o s v)=0/\fD T i (R i).length kd nd o s v=(T+1,(i:Int),((R i).length:Int)+1,kd,nd,o,s,v)):=⟨by rw [hown];exact herr,hown⟩
  clear herr hev hown
  go_wp2_with fail
  refine hchk.mono ?_
  clear hchk y0 y1 y2 y3 y4 y5 y6 y7 f8
  rintro e w7 ⟨rfl,hb7⟩
  have O7:=OX.o.1.later hb7
  have Z7:=OX.o.2.1.later hb7
  have hz7:=Z7.lt
  obtain ⟨y0,y1,y2,y3,y4,y5,y6,y7,f8⟩:=O7.cells
  dsimp only at y0 y1 y2 y3 y4 y5 y6 y7
  obtain ⟨z0,z1,z2,z3,z4,z5,z6,z7,zf⟩:=Z7.cells
  unfold aR at z0 z1 z2 z3 z4 z5 z6 z7
  dsimp only at z0 z1 z2 z3 z4 z5 z6 z7
  have B7:Aside (Below w.heap.size w w7/\S=w.heap.size):=⟨zi OX.o.2.2 hb7,H0.o.2.2.2.2.1⟩
  clear hb7 O7 Z7
  go_wp2
  (try simp only [Exit.inBlock,Exit.then])
  refine bodyPost_ret (v:=.tuple #[.agg #[.int .i64 (T+1),.int .i64 (i:Int),.int .i64 (((R i).length:Int)+1),.int .u8 (kd:Int),.int .i64 (nd),.int .i64 o,.string s,.string v],.nilIface]) ?_ rfl ⟨by rw [HR.o.1,if_pos rfl,HR.o.2];rfl,?_⟩
  ·exact kf7
  exact aH (b:=S+1) B7.o.1 vy 0 [.int .i64 (T+1),.int .i64 (i:Int),.int .i64 (((R i).length:Int)+1),.int .u8 (kd:Int),.int .i64 (nd),.int .i64 o,.string s,.string v]
 | succ cd=>
  rw [herr] at hchk
  have hev:eV ad (cd+1)= .iface 450 (.pointer (some (ad cd))):=rfl
  rw [hev] at hchk
  have HR:Aside (ai (fD T i (R i).length kd nd o s v)=cd+1):=by show ai _=_;rw [hown];exact herr
  clear herr hev hown
  go_wp2_with fail
  refine hchk.mono ?_
  clear hchk y0 y1 y2 y3 y4 y5 y6 y7 f8
  rintro e w7 ⟨rfl,hb7⟩
  have Z7:=OX.o.2.1.later hb7
  have hz7:=Z7.lt
  obtain ⟨z0,z1,z2,z3,z4,z5,z6,z7,zf⟩:=Z7.cells
  unfold aR at z0 z1 z2 z3 z4 z5 z6 z7
  dsimp only at z0 z1 z2 z3 z4 z5 z6 z7
  have B7:Aside (Below w.heap.size w w7/\S=w.heap.size):=⟨zi OX.o.2.2 hb7,H0.o.2.2.2.2.1⟩
  clear hb7 Z7
  go_wp2
  (try simp only [Exit.inBlock,Exit.then])
  refine bodyPost_ret (v:=.tuple #[bT aR,.iface 450 (.pointer (some (ad cd)))]) ?_ rfl ⟨by rw [HR.o,if_neg zj];rfl,?_⟩
  ·exact kf6
  exact kh6
theorem Be (w:World) (pb:Nat) (T by_:Int) (eb:Value) (hg:w.cell? ⟨2,0,none⟩=some eb) (h0:w.cell? ⟨pb,0,none⟩=some (.int .i64 T)) (h1:w.cell? ⟨pb,1,none⟩=some (.int .i64 by_)) (hm:1073741824<=T):
  Calls prog 352 #[.pointer (some ⟨pb,0,none⟩)] w fun e w'=>e= .returned (.tuple #[.agg #[.int .i64 0,.int .i64 0],eb])/\Below w.heap.size w w':=by
 have hpl:pb<w.heap.size:=vK w ⟨pb,0,none⟩ h0
 have hgl:2<w.heap.size:=vK w ⟨2,0,none⟩ hg
 obtain ⟨S,hS⟩:=zc w.heap.size
 obtain ⟨U,hU⟩:=zc ((w.alloc (.cells #[.int .i64 0,.int .i64 0] 59)).alloc (.cells #[.int .i64 T,.int .i64 by_] 108))
 have hbU:Below w.heap.size w U:=zI
 have hu1:U.heap[S+1]? =some (.cells #[.int .i64 T,.int .i64 by_] 108 (0,0)):=by
  rw [hU,hS]
  have:=heap_alloc_new (w.alloc (.cells #[.int .i64 0,.int .i64 0] 59)) (.cells #[.int .i64 T,.int .i64 by_] 108)
  exact kd4
 have hu0:U.heap[S]? =some (.cells #[.int .i64 0,.int .i64 0] 59 (0,0)):=by
  exact kh3
 have hclk:Clk (S+1) T by_ U:=⟨xc,xc,by simp [World.frozen?,hu1]⟩
 have hcall:=Dc (S+1) T by_ U eb ((hbU.cell (p:=⟨2,0,none⟩) hgl).trans hg) hclk hm
 have HB:Aside (Below w.heap.size w U/\S=w.heap.size/\U.heap[S]? =some (.cells #[.int .i64 0,.int .i64 0] 59 (0,0))):=⟨hbU,hS,hu0⟩
 have HU:Aside (U=(w.alloc (.cells #[.int .i64 0,.int .i64 0] 59)).alloc (.cells #[.int .i64 T,.int .i64 by_] 108)):=hU
 clear hU hbU hu1 hu0 hclk
 go_enter func352,ntmps352
 go_wp2_with fail
 rw [<-HU.o,<-HB.o.2.1]
 clear hS
 refine hcall.mono ?_
 clear hcall
 rintro e w1 ⟨rfl,hb1⟩
 have hS1:w1.heap[S]? =some (.cells #[.int .i64 0,.int .i64 0] 59 (0,0)):=(hb1.block S (vD.1 HB.o.2.2).1).trans HB.o.2.2
 have y0:w1.cell? ⟨S,0,none⟩=some (.int .i64 0):=xe
 have y1:w1.cell? ⟨S,1,none⟩=some (.int .i64 0):=xe
 have yf:∀o,w1.frozen? ⟨S,o,none⟩=false:=fun o=>by simp [World.frozen?,hS1]
 have B1:Aside (Below w.heap.size w w1):=zi HB.o.1 hb1
 clear hb1 hS1
 go_wp2
 (try simp only [Exit.inBlock,Exit.then])
 refine bodyPost_ret (v:=.tuple #[.agg #[.int .i64 0,.int .i64 0],eb]) ?_ rfl ⟨rfl,?_⟩
 ·exact kf7
 exact aH (b:=S) B1.o jf 0 [.int .i64 0,.int .i64 0]
theorem JS {B:Nat} {ad:Nat->Addr} (w:World) (br:Nat) (T:Int) (i:Nat) (ao:Nat->Option Addr) (cap:Nat->Nat) (bt bx bc:Nat) (R:Rws) (kd:Nat) (nd o:Int) (s v:ByteArray) (hc:RepCell w br T (i:Int) (kvs ao cap R) bt bx bc) (hE:EnvE B ad w) (hi:i<4) (hm:1073741824<=T) (hn:(aQ R).length<=250):
  Calls prog 341 #[.pointer (some ⟨br,0,none⟩),bT (0,0,0,kd,nd,o,s,v)] w fun e w'=>e= .returned (.tuple #[bT aR,eV ad 8])/\Below w.heap.size w w':=by
 have hrl:∀i,i<4->(R i).length<=1000:=fun i hi=>qX
 obtain ⟨S,hS⟩:=zc w.heap.size
 obtain ⟨U,hU⟩:=zc ((w.alloc (.cells #[.int .i64 0,.int .i64 0,.int .i64 0,.int .u8 (kd:Int),.int .i64 nd,.int .i64 o,.string s,.string v] 61)).alloc (.cells #[.int .i64 0,.int .i64 0,.int .i64 0,.int .u8 0,.int .i64 0,.int .i64 0,.string ⟨#[]⟩,.string ⟨#[]⟩] 61))
 have hbU:Below w.heap.size w U:=zI
 have O1:OpBlk U (S+1) aR:=by
  rw [hU,hS]
  have:=OpBlk.new (w.alloc (.cells #[.int .i64 0,.int .i64 0,.int .i64 0,.int .u8 (kd:Int),.int .i64 nd,.int .i64 o,.string s,.string v] 61)) aR
  exact kd4
 have hcU:RepCell U br T (i:Int) (kvs ao cap R) bt bx bc:=hc.same (hbU.block _ hc.lt)
 have hcount:=lr U ao cap R hrl
 unfold kV at hcount
 have k2:U.cell? ⟨br,2,none⟩=some (.slice (ao 0) (R 0).length (cap 0)):=hcU.c2
 have k3:U.cell? ⟨br,3,none⟩=some (.slice (ao 1) (R 1).length (cap 1)):=hcU.c3
 have k4:U.cell? ⟨br,4,none⟩=some (.slice (ao 2) (R 2).length (cap 2)):=hcU.c4
 have k5:U.cell? ⟨br,5,none⟩=some (.slice (ao 3) (R 3).length (cap 3)):=hcU.c5
 have dn:decide ((400:Int)<=((aQ R).length:Int))=false:=zq
 have dn':decide (400<=(aQ R).length)=false:=zq
 have H0:Aside (RepCell U br T (i:Int) (kvs ao cap R) bt bx bc/\OpBlk U (S+1) aR/\Below w.heap.size w U/\S=w.heap.size/\EnvE B ad U):=⟨hcU,O1,hbU,hS,hE.later hbU⟩
 have HU:Aside (U=(w.alloc (.cells #[.int .i64 0,.int .i64 0,.int .i64 0,.int .u8 (kd:Int),.int .i64 nd,.int .i64 o,.string s,.string v] 61)).alloc (.cells #[.int .i64 0,.int .i64 0,.int .i64 0,.int .u8 0,.int .i64 0,.int .i64 0,.string ⟨#[]⟩,.string ⟨#[]⟩] 61)):=hU
 clear hU hcU O1 hbU hE hc hS
 unfold bT
 dsimp only
 go_enter func341,ntmps341
 go_upto_region 1 with fail
 rw [<-HU.o,<-H0.o.2.2.2.1]
 go_wp2_with fail
 refine hcount.mono ?_
 clear hcount k2 k3 k4 k5
 rintro e w1 ⟨rfl,hb1⟩
 have hc1:RepCell w1 br T (i:Int) (kvs ao cap R) bt bx bc:=H0.o.1.same (hb1.block _ H0.o.1.lt)
 have hnext:=Be w1 br T (i:Int) _ (H0.o.2.2.2.2.later hb1).c7 hc1.c0 hc1.c1 hm
 clear hc1
 go_wp2_with fail
 refine hnext.mono ?_
 clear hnext
 rintro e w2 ⟨rfl,hb2⟩
 have hb12:Below U.heap.size U w2:=zi hb1 hb2
 have Z7:=H0.o.2.1.later hb12
 have hz7:=Z7.lt
 have B7:Aside (Below w.heap.size w w2/\S=w.heap.size):=⟨zi H0.o.2.2.1 hb12,H0.o.2.2.2.1⟩
 clear hb1 hb2 hb12
 obtain ⟨V,hV⟩:=ze (w2.alloc (.cells #[.int .i64 0,.int .i64 0] 59))
 have hbV:Below w2.heap.size w2 V:=by rw [hV.o];exact zh w2 _
 have ZV:=Z7.later hbV
 have hzV:=ZV.lt
 obtain ⟨z0,z1,z2,z3,z4,z5,z6,z7,zf⟩:=ZV.cells
 unfold aR at z0 z1 z2 z3 z4 z5 z6 z7
 dsimp only at z0 z1 z2 z3 z4 z5 z6 z7
 have BV:Aside (Below w.heap.size w V/\S=w.heap.size):=⟨zi B7.o.1 hbV,B7.o.2⟩
 clear hbV ZV Z7 B7
 go_upto_region 5 with fail
 rw [<-hV.o]
 go_wp2
 (try simp only [Exit.inBlock,Exit.then])
 refine bodyPost_ret (v:=.tuple #[bT aR,.iface 450 (.pointer (some (ad 7)))]) ?_ rfl ⟨rfl,?_⟩
 ·exact kf6
 exact aH (b:=S+1) BV.o.1 (by have:=BV.o.2;omega) 0 [.int .i64 0,.int .i64 0,.int .i64 0,.int .u8 0,.int .i64 0,.int .i64 0,.string ⟨#[]⟩,.string ⟨#[]⟩]
theorem Kg {B:Nat} {ad:Nat->Addr} (w:World) (br:Nat) (T:Int) (i:Nat) (ao:Nat->Option Addr) (cap:Nat->Nat) (bt bx bc:Nat) (R:Rws) (kd:Nat) (nd o:Int) (s v:ByteArray) (hc:RepCell w br T (i:Int) (kvs ao cap R) bt bx bc) (hE:EnvE B ad w) (hi:i<4) (hT:0<=T) (hm:T<=1073741824) (hn:(aQ R).length<=250) (hs1:s.size<=1000000) (hs2:v.size<=1000000):
  Calls prog 341 #[.pointer (some ⟨br,0,none⟩),bT (0,0,0,kd,nd,o,s,v)] w (JC ad w (fD T i (R i).length kd nd o s v)):=by
 by_cases hm2:T<1073741824
 ·refine (own_lt w br T i ao cap bt bx bc R kd nd o s v hc hE hi hT hm2 hn hs1 hs2).mono ?_
  rintro e w' ⟨he,hb⟩
  exact ⟨by rw [If hm2];exact he,hb⟩
 refine (JS w br T i ao cap bt bx bc R kd nd o s v hc hE hi zj hn).mono ?_
 rintro e w' ⟨he,hb⟩
 have e8:ki (fD T i (R i).length kd nd o s v)=8:=if_pos (by show 1073741824<T+1;omega)
 exact ⟨by rw [e8];exact he,hb⟩
end
section
open Go.RowKit Go.Lib Go.Sort Go.Maps
def Ex (ad:Nat->Addr) (w:World) (ok:Prop) (x:OpX) (e:Ending) (w':World):Prop:=(ok/\JC ad w x e w')\/(¬ok/\e= .returned (.tuple #[bT aR,eV ad 6])/\Below w.heap.size w w')
theorem Iw {B:Nat} {ad:Nat->Addr} (w:World) (c:Nat->Nat) (br:Nat) (T:Int) (i:Nat) (ao:Nat->Option Addr) (cap:Nat->Nat) (bt bx bc:Nat) (R:Rws) (into:Int) (name:ByteArray) (hc:RepCell w br T (i:Int) (kvs ao cap R) bt bx bc) (hrows:RowsAt w c (kvs ao cap R) R) (hR:RowsK R) (hE:EnvE B ad w) (hi:i<4) (hT:0<=T) (hm:T<=1073741824) (hn:(aQ R).length<=250) (hs1:name.size<=1000000) (h2: -9223372036854775808<=into) (h3:into<=9223372036854775807):
  Calls prog 315 #[.pointer (some ⟨br,0,none⟩),.int .i64 into,.string name] w (Ex ad w (into=0\/into=1\/KnownN (aQ R) into) (fD T i (R i).length 109 0 into name ⟨#[]⟩)):=by
 have hrl:∀i,i<4->(R i).length<=1000:=fun i hi=>qX
 obtain ⟨S,hS⟩:=zc w.heap.size
 obtain ⟨U,hU⟩:=zc (w.alloc (.cells #[.int .i64 0,.int .i64 0,.int .i64 0,.int .u8 0,.int .i64 0,.int .i64 0,.string ⟨#[]⟩,.string ⟨#[]⟩] 61))
 have hbU:Below w.heap.size w U:=yA
 have Z0:OpBlk U S aR:=by rw [hU,hS];exact OpBlk.new w aR
 have hcU:RepCell U br T (i:Int) (kvs ao cap R) bt bx bc:=hc.same (hbU.block _ hc.lt)
 obtain ⟨zb,hzb⟩:∃zb:Bool,zb=true↔(into=0\/into=1\/KnownN (aQ R) into):=⟨@decide _ (Classical.propDecidable _),@decide_eq_true_iff _ (Classical.propDecidable _)⟩
 have hplace:=lA U ao cap R into zb hzb ((hE.later hbU).op4) ((KnownAt.of_rows hrows).later hbU) hR.toN hrl h2 h3
 unfold kV at hplace
 have k2:U.cell? ⟨br,2,none⟩=some (.slice (ao 0) (R 0).length (cap 0)):=hcU.c2
 have k3:U.cell? ⟨br,3,none⟩=some (.slice (ao 1) (R 1).length (cap 1)):=hcU.c3
 have k4:U.cell? ⟨br,4,none⟩=some (.slice (ao 2) (R 2).length (cap 2)):=hcU.c4
 have k5:U.cell? ⟨br,5,none⟩=some (.slice (ao 3) (R 3).length (cap 3)):=hcU.c5
 have H0:Aside (RepCell U br T (i:Int) (kvs ao cap R) bt bx bc/\OpBlk U S aR/\Below w.heap.size w U/\S=w.heap.size/\EnvE B ad U/\B<=w.heap.size/\(zb=true↔(into=0\/into=1\/KnownN (aQ R) into))):=⟨hcU,Z0,hbU,hS,hE.later hbU,hE.size,hzb⟩
 have HU:Aside (U=w.alloc (.cells #[.int .i64 0,.int .i64 0,.int .i64 0,.int .u8 0,.int .i64 0,.int .i64 0,.string ⟨#[]⟩,.string ⟨#[]⟩] 61)):=hU
 clear hU hcU Z0 hbU hE hc hS hzb hrows hR
 go_enter func315,ntmps315
 go_upto_region 1 with fail
 rw [<-HU.o,<-H0.o.2.2.2.1]
 go_wp2_with fail
 refine hplace.mono ?_
 clear hplace k2 k3 k4 k5
 rintro e w1 ⟨rfl,hb1⟩
 have Z1:=H0.o.2.1.later hb1
 have H1:Aside (OpBlk w1 S aR/\Below w.heap.size w w1/\EnvE B ad w1/\RepCell w1 br T (i:Int) (kvs ao cap R) bt bx bc):=⟨Z1,zi H0.o.2.2.1 hb1,H0.o.2.2.2.2.1.later hb1,H0.o.1.same (hb1.block _ H0.o.1.lt)⟩
 clear hb1 Z1
 cases zb with
 | false=>
  have hno:¬(into=0\/into=1\/KnownN (aQ R) into):=fun q=>by have:=H0.o.2.2.2.2.2.2.2 q;cases this
  obtain ⟨z0,z1,z2,z3,z4,z5,z6,z7,zf⟩:=H1.o.1.cells
  unfold aR at z0 z1 z2 z3 z4 z5 z6 z7
  dsimp only at z0 z1 z2 z3 z4 z5 z6 z7
  have eg:=H1.o.2.2.1.c5
  have hlo:=H1.o.2.2.1.low
  have hSw:=H0.o.2.2.2.1
  have hBw:=H0.o.2.2.2.2.2.1
  have n1:1≠S:=zj
  have n2:S≠1:=zj
  have HNO:=Lib.hid hno
  clear hlo hSw hBw hno
  go_wp2_with fail
  go_region
  all_goals
   go_wp2
   (try simp only [Exit.inBlock,Exit.then])
   refine bodyPost_ret (v:=.tuple #[bT aR,eV ad 6]) ?_ rfl (.inr ⟨HNO.o,rfl,?_⟩)
   ·rw [dX rfl]
    unfold bT aR eV
    go_simp
   exact (aH (b:=S) H1.o.2.1 (by have:=H0.o.2.2.2.1;omega) 0 [.int .i64 0,.int .i64 0,.int .i64 0,.int .u8 0,.int .i64 0,.int .i64 0,.string ⟨#[]⟩,.string ⟨#[]⟩]).drew
 | true=>
  have HOK:Aside (into=0\/into=1\/KnownN (aQ R) into):=H0.o.2.2.2.2.2.2.1 rfl
  have hown:=Kg w1 br T i ao cap bt bx bc R 109 0 into name ⟨#[]⟩ H1.o.2.2.2 H1.o.2.2.1 hi hT hm hn hs1 zr
  unfold bT at hown
  dsimp only at hown
  go_wp2_with fail
  refine hown.mono ?_
  clear hown
  rintro e w2 ⟨he,hb2⟩
  obtain ⟨y,hy⟩:=zc ((if ki (fD T i (R i).length 109 0 into name ⟨#[]⟩)=0 then fD T i (R i).length 109 0 into name ⟨#[]⟩ else aR))
  obtain ⟨er,her⟩:=zc (eV ad (ki (fD T i (R i).length 109 0 into name ⟨#[]⟩)))
  rw [<-hy,<-her] at he
  subst he
  have HY:Aside (y=(if ki (fD T i (R i).length 109 0 into name ⟨#[]⟩)=0 then fD T i (R i).length 109 0 into name ⟨#[]⟩ else aR)/\er=eV ad (ki (fD T i (R i).length 109 0 into name ⟨#[]⟩))):=⟨hy,her⟩
  clear hy her
  obtain ⟨t,b,n,kd,nd,o,s,v⟩:=y
  unfold bT
  dsimp only
  have Z2:=H1.o.1.later hb2
  obtain ⟨z0,z1,z2,z3,z4,z5,z6,z7,zf⟩:=Z2.cells
  unfold aR at z0 z1 z2 z3 z4 z5 z6 z7
  dsimp only at z0 z1 z2 z3 z4 z5 z6 z7
  have B2:Aside (Below w.heap.size w w2):=zi H1.o.2.1 hb2
  clear hb2 Z2
  go_wp2
  (try simp only [Exit.inBlock,Exit.then])
  refine bodyPost_ret (v:=.tuple #[.agg #[.int .i64 t,.int .i64 b,.int .i64 n,.int .u8 (kd:Int),.int .i64 nd,.int .i64 o,.string s,.string v],er]) ?_ rfl (.inl ⟨HOK.o,⟨by rw [<-HY.o.1,<-HY.o.2];rfl,?_⟩⟩)
  ·exact kf7
  exact aH (b:=S) B2.o (by have:=H0.o.2.2.2.1;omega) 0 [.int .i64 t,.int .i64 b,.int .i64 n,.int .u8 (kd:Int),.int .i64 nd,.int .i64 o,.string s,.string v]
end
section
open Go.RowKit Go.Lib Go.Sort Go.Maps
def wm (A:List OpX) (nd:Int) (s:ByteArray):Prop:=(¬KnownN A nd/\s=⟨#[]⟩)\/(KnownN A nd/\∃L,LineIs A nd L/\s.data.toList=cu L)
theorem Ha (w:World) (c:Nat->Nat) (br:Nat) (T by_:Int) (kv:Nat->Value) (bt bx bc:Nat) (A:List OpX) (nd:Int) (hc:RepCell w br T by_ kv bt bx bc) (ht:TextC w c bx A) (hlen:A.length<=1000) (h2: -2^63<=nd) (h3:nd<2^63):
  Calls prog 54 #[.pointer (some ⟨br,0,none⟩),.int .i64 nd] w fun e w'=>∃s,e= .returned (.string s)/\wm A nd s/\Below w.heap.size w w':=by
 obtain ⟨nx,tx,t1,t2,t3,t4,t5⟩:=ht
 have k7:=hc.c7
 have lk:=t2.look (wR h2 h3)
 cases hp:tx nd with
 | none=>
  rw [hp] at lk
  unfold mZ at lk
  simp only [Option.map_none,Option.isSome_none] at lk
  have HN:Aside (¬KnownN A nd):=fun q=>by have:=(t4 nd).2 q;rw [hp] at this;cases this
  clear t1 t2 t3 t4 t5 hp
  go_enter func54,ntmps54
  go_wp2
  go_ret
  exact ⟨_,rfl,.inl ⟨HN.o,rfl⟩,vG _ w⟩
 | some p=>
  rw [hp] at lk
  unfold mZ at lk
  simp only [Zu,Option.isSome_some] at lk
  obtain ⟨v,L,l1,l2,l3,l4⟩:=t5 nd p hp
  have hcall:=Ib w (p+1) p v L l1 (vI l2.len hlen)
  have HK:Aside (KnownN A nd/\LineIs A nd L):=⟨(t4 nd).1 (by rw [hp];rfl),l2⟩
  clear t1 t2 t3 t4 t5 hp l1 l2 l3 l4
  go_enter func54,ntmps54
  go_wp2_with fail
  refine hcall.mono ?_
  clear hcall
  rintro e w' ⟨rfl,hb⟩
  have HB:Aside (Below w.heap.size w w'):=hb
  clear hb
  go_wp2
  go_ret
  exact ⟨_,rfl,.inr ⟨HK.o.1,L,HK.o.2,zt⟩,HB.o⟩
end
section
open Go.RowKit Go.Lib Go.Sort Go.Maps
open scoped Classical
structure StSt (w:World) (S:Nat) (W1:World) (v0:Value) (ls:List (List UInt8)) (v:Value) (wr:World):Prop where
 st:TellSt S ls v wr
 below:Below S w wr
 keeps:Keeps (fun k=>k=S\/v0.ownBlock=some k) W1 wr
 own:∀k,v.ownBlock=some k->v0.ownBlock=some k\/W1.heap.size<=k
theorem StSt.start (h:TellSt S ls v W) (hb:Below S w W):StSt w S W v ls v W:=⟨h,hb,Keeps.refl _ _,fun k hk=>.inl hk⟩
theorem StSt.later {w W1 wr w':World} {S:Nat} {ls:List (List UInt8)} {v0 v:Value} (h:StSt w S W1 v0 ls v wr) (hb:Below wr.heap.size wr w'):StSt w S W1 v0 ls v w':=
 ⟨h.st.later hb,h.below.trans (hb.mono (ZG h.st.lt)),h.keeps.trans ((aX hb).mono (fun k hk e=>absurd hk zj)),h.own⟩
theorem StSt.tell {line:List UInt8} {e:Ending} (h:StSt w S W1 v0 ls v wr) (ht:sg S line ls v wr e w'):∃v',e= .returned (.tuple #[])/\StSt w S W1 v0 (ls++ [line]) v' w':=by
 obtain ⟨v',rfl,h1,h2,h3⟩:=ht
 have hs:=h.keeps.size
 refine ⟨v',rfl,h1,?_,h.keeps.then h2 (fun i hi q=>q.imp id (fun q=> ?_)),fun k hk=> ?_⟩
 ·refine h.below.trans (h2.below (ZG h.st.lt) (fun k q=> ?_))
  rcases q with rfl | q
  ·exact vB _
  have:=(h.st.row.lt k q).1
  omega
 ·rcases h.own i q with q | q
  ·exact q
  omega
 rcases h3 k hk with q | q
 ·exact h.own k q
 exact .inr zj
theorem StSt.kept (h:StSt w S W1 v0 ls v wr) (hg:g<W1.heap.size) (h1:g≠S) (h2:v0.ownBlock≠some g):wr.heap[g]? =W1.heap[g]? :=h.keeps.block g hg (fun e=>e.elim h1 h2)
theorem StSt.inRow {α:Type} {enc:α->List Value} (h:StSt w S W1 v0 ls v wr) {zs:List α} (hz:InRow enc W1 ao zs) (hk:∀g o,ao=some ⟨g,o,none⟩->g<W1.heap.size/\g≠S/\v0.ownBlock≠some g):InRow enc wr ao zs:=
 hz.kept (fun g o e=>h.kept (hk g o e).1 (hk g o e).2.1 (hk g o e).2.2)
theorem It {α:Type} {enc:α->List Value} (hlen:∀x,(enc x).length=k) (hk:0<k) {zs:List α} (h:InRow enc w ao zs) (hz:zs≠ []) {o:Nat} (e:ao=some ⟨g,o,none⟩):g<w.heap.size:=by
 cases zs with
 | nil=>exact absurd rfl hz
 | cons x t=>
  obtain ⟨b,o',e',hc⟩:=h.get hlen (i:=0) (x:=x) rfl
  rw [e] at e'
  cases e'
  cases hx:enc x with
  | nil=>have:=hlen x;rw [hx] at this;simp at this;omega
  | cons u r=>exact vK w ⟨g,_,none⟩ (hc 0 u (by rw [hx];rfl))
theorem Mz (h:PlsAt w v qs):∃ao cap,v= .slice ao qs.length cap/\InRow aP w ao qs/\∀g o,ao=some ⟨g,o,none⟩->v.ownBlock=some g/\g<w.heap.size:=by
 rcases h with ⟨rfl,rfl⟩ | ⟨g,cap,rfl,hl,hc⟩
 ·exact ⟨none,0,rfl,.inl rfl,fun g o e=>yE⟩
 exact ⟨some ⟨g,0,none⟩,cap,rfl,.inr ⟨g,0,rfl,fun j u hj=>xf⟩,fun g' o e=>by cases e;exact ⟨rfl,hl⟩⟩
theorem lR (n:Int) (h0:0<=n) (h1:n<2^62):(Lib.itoa n).length<=100:=by
 have:=Lib.itoa_length_le n zj zj
 omega
theorem Lz (M:Nat):∀ls:List (List UInt8),(∀l∈ls,l.length<=M)->(Lib.join ls [10]).length<=ls.length*(M+1)
 | [],_=>by simp [Lib.join_nil]
 | x::r,h=>by
  rw [Lib.join_length]
  have:∀r:List (List UInt8),(∀l∈r,l.length<=M)->Lib.lens r<=r.length*M:=fun r=>by
   induction r with
   | nil=>intro _;simp [Lib.lens]
   | cons y r ih=>
    intro h
    have h1:=h y zt
    have h2:=ih (fun l hl=>h l (by simp [hl]))
    simp only [Lib.lens,ut,ZK,ud] at h2 |-
    rw [Zz]
    omega
  have:=this (x::r) h
  simp only [ud,uz] at this |-
  rw [Nat.mul_add,Nat.mul_one]
  omega
theorem wD {A:List OpX} {mm:List Mrk} (h:IsMarks (du A) mm) (hm:m∈mm):0<=m.1/\m.1<2^40/\m.2.1.size<=12/\m.2.2.size<=12:=by
 obtain ⟨-,s,hs⟩:=(h.mem m).1 hm
 have hb:=kT (fI A) (io m)
 unfold du at hs
 rw [hs] at hb
 have hmem:(io m,(m.2.2,s))∈fI A:=hb.1
 obtain ⟨x,hx,e⟩:=Zl.1 hmem
 have hx0:ai x=0:=by
  unfold BM at e
  split at e
  ·rename_i q;exact q.1
  cases e
 have ek:=kS e
 have q:=ar hx0
 have e1:m.1=x.2.2.2.2.1:=congrArg (fun z=>z.1.1) ek
 have e2:m.2.1=x.2.2.2.2.2.2.1:=congrArg (fun z=>z.1.2) ek
 have e3:m.2.2=x.2.2.2.2.2.2.2:=congrArg (fun z=>z.2.1) ek
 have l1:x.2.2.2.2.2.2.1.data.toList.length=x.2.2.2.2.2.2.1.size:=zt
 have l2:x.2.2.2.2.2.2.2.data.toList.length=x.2.2.2.2.2.2.2.size:=zt
 rw [e1,e2,e3]
 omega
theorem gi {α β:Type} (f:α->β) (l:List α) {x:α} (h:l[k]? =some x):(l.take (k+1)).map f=(l.take k).map f++ [f x]:=by
 rw [uA,h,un]
 rfl
theorem AI (A:List OpX):∃tf:Int->List UInt8,Aside (∀nd L,LineIs A nd L->tf nd=cu L):=by
 refine ⟨fun nd=>if h:∃L,LineIs A nd L then cu h.choose else [],fun nd L hL=> ?_⟩
 have h:∃L,LineIs A nd L:=⟨L,hL⟩
 simp only [dif_pos h]
 rw [h.choose_spec.unique hL]
def Hk (k:Int):List Value:=[.int .i64 k]
theorem pD (k:Int):(Hk k).length=1:=rfl
theorem pE:∀ks:List Int,aI Hk ks=oq ks
 | []=>rfl
 | k::r=>by rw [ef,pE r];rfl
theorem oY (nd:Int) (ws:List (List UInt8)) (h0:0<=nd) (h1:nd<2^62) (hj:(Lib.join ws [32]).length<=5000):(iS nd ws).length<=10000:=by
 have:=lR nd h0 h1
 unfold iS
 simp only [vN,ud,uz]
 omega
theorem wY (h:FineP p):(Lib.join [[105,110],Lib.itoa p.2.1,p.2.2.data.toList] [32]).length<=200000:=by
 have h1:=lR p.2.1 h.lo' h.hi'
 have h2:=h.sz
 have h3:p.2.2.data.toList.length=p.2.2.size:=zt
 exact kd8
theorem EQ (h:FineP p):(bY p).length<=10000:=by
 refine oY _ _ h.lo h.hi ?_
 have h1:=lR p.2.1 h.lo' h.hi'
 have h2:=h.sz
 have h3:p.2.2.data.toList.length=p.2.2.size:=zt
 exact kd8
theorem Hr {t:Int×List UInt8} (h:t.2.length<=1000) (h0:0<=t.1) (h1:t.1<2^40):(cq t).length<=10000:=by
 refine oY _ _ h0 zj ?_
 exact kd8
theorem Hh (h:0<=m.1/\m.1<2^40/\m.2.1.size<=12/\m.2.2.size<=12):(gD m).length<=10000:=by
 refine oY _ _ h.1 zj ?_
 have h3:m.2.1.data.toList.length=m.2.1.size:=zt
 have h4:m.2.2.data.toList.length=m.2.2.size:=zt
 exact kd8
theorem ES (w:World) (S:Nat) (ls:List (List UInt8)) (v:Value) (h:TellSt S ls v w) (hl:ls.length<=1000000) (hm:∀l∈ls,l.length<=10000):
  Calls prog 50 #[v,.string ⟨#[10]⟩] w fun e w'=>e= .returned (.string ⟨(Lib.join ls [10]).toArray⟩)/\Below w.heap.size w w':=by
 have hlen:=Lz 10000 ls hm
 have hr:=h.row
 rcases h.row.2 with ⟨rfl,h0⟩ | ⟨g,cap,cur,rfl,hbg,hgb,r1,r2,r3,r4⟩
 ·have:ls= []:=vZ.1 h0
  subst this
  exact (Tryz.strings_Join_none none 0 ⟨#[10]⟩ w).mono fun e w' ⟨h1,h2⟩=>⟨h1,by rw [h2];exact vG _ _⟩
 have e1:(ls.map fun l=>(⟨l.toArray⟩:ByteArray)).map (·.data.toList)=ls:=by
  rw [ZC]
  exact (Zi (fun l _=>rfl)).trans (List.map_id ls)
 have e2:(ls.map fun l=>(⟨l.toArray⟩:ByteArray)).length=ls.length:=ul _
 have:=Tryz.strings_Join g 0 cap (ls.map fun l=>(⟨l.toArray⟩:ByteArray)) ⟨#[10]⟩ w (fun j x hj=>by
  rw [vQ]
  obtain ⟨l,hl',rfl⟩:∃l,ls[j]? =some l/\(⟨l.toArray⟩:ByteArray)=x:=by
   rw [uG] at hj
   cases hq:ls[j]? with
   | none=>rw [hq] at hj;cases hj
   | some l=>rw [hq] at hj;cases hj;exact ⟨l,rfl,rfl⟩
  have hjl:j<ls.length:=(vA.1 hl').1
  rw [hr.cellAt j zj]
  unfold CF
  rw [uG,hl']
  rfl) (vD.1 hgb).1 (by rw [e2];omega) (by rw [e2];exact r1) (by rw [e1];show (Lib.join ls [10]).length<=_;omega)
 rw [e1,e2] at this
 exact this
end
section
open Go.RowKit Go.Lib Go.Sort Go.Maps
def WriteAt (A:List OpX) (nd n:Int) (a:Int×Bool):Prop:=(n=0/\a.1=0/\(a.2=true↔KnownN A nd))\/(n≠0/\(¬KnownN A nd->a=(0,false))/\(KnownN A nd->∃L,LineIs A nd L/\a=atL (n - 1) L))
end
section
open Go.RowKit Go.Lib Go.Sort Go.Maps
end
section
open Go.RowKit Go.Lib Go.Sort Go.Maps
end
section
open Go.RowKit Go.Lib Go.Sort Go.Maps
def Nc (v:Nat->Int) (x:OpX):Bool:=decide (x.2.2.1<=v x.2.1.toNat)
end
section
open Go.RowKit Go.Lib Go.Sort Go.Maps
theorem tV (w:World) (o:Obj):(w.alloc o).heap=w.heap.push o:=rfl
theorem sy (w:World):w.drew.heap=w.heap:=rfl
theorem EG (w:World) (b:Int) (h0:0<=b) (h4:b<4):
  Calls prog 34 #[.int .i64 b] w (Ju w b):=by
 have hmm:= @run_makeMap prog
 have hc:=Mk b w h0 h4
 go_enter func34,ntmps34
 go_wp2_with fail
 refine hc.mono ?_
 clear hc
 rintro e w1 ⟨rfl,rfl⟩
 go_upto_region 4 with fail
 go_region_with (first | (go_at_call 66;refine (Kx _).mono ?_;rintro e w' ⟨rfl,rfl⟩) | (go_at_call 67;refine (Ii _).mono ?_;rintro e w' ⟨rfl,rfl⟩))
 all_goals (go_wp2;go_ret2)
 all_goals (first
  | (refine lC h0 h4 (w.heap.size+1+1) (w.heap.size+1) (w.heap.size+1+1+1+1+1) (w.heap.size+1+1+1+1) (w.heap.size+1+1+1) (w.heap.size+1+1+1+1+1+1) ?_ zj zj zj zj zj zj zj zj zj zj zj ?_ ?_ ?_ ?_ ?_ ?_;all_goals (first | (simp only [tV,sy,Array.getElem?_push,Array.size_push];(try (repeat first | rw [if_pos trivial] | rw [if_neg zj] | rfl));done) | ((repeat first | exact vG _ _ | refine Below.drew ?_ | refine Below.alloc ?_ qb _);done)))
  | (refine lC h0 h4 (w.heap.size+1+1) (w.heap.size+1) (w.heap.size+1+1+1) (w.heap.size+1+1+1+1+1) (w.heap.size+1+1+1+1) (w.heap.size+1+1+1+1+1+1) ?_ zj zj zj zj zj zj zj zj zj zj zj ?_ ?_ ?_ ?_ ?_ ?_;all_goals (first | (simp only [tV,sy,Array.getElem?_push,Array.size_push];(try (repeat first | rw [if_pos trivial] | rw [if_neg zj] | rfl));done) | ((repeat first | exact vG _ _ | refine Below.drew ?_ | refine Below.alloc ?_ qb _);done)))
  | (refine lC h0 h4 (w.heap.size+1+1+1) (w.heap.size+1+1) (w.heap.size+1) (w.heap.size+1+1+1+1+1) (w.heap.size+1+1+1+1) (w.heap.size+1+1+1+1+1+1) ?_ zj zj zj zj zj zj zj zj zj zj zj ?_ ?_ ?_ ?_ ?_ ?_;all_goals (first | (simp only [tV,sy,Array.getElem?_push,Array.size_push];(try (repeat first | rw [if_pos trivial] | rw [if_neg zj] | rfl));done) | ((repeat first | exact vG _ _ | refine Below.drew ?_ | refine Below.alloc ?_ qb _);done))))
end
section
open Go.RowKit Go.Lib Go.Sort Go.Maps
structure Oq (w:World) (g:Nat) (ys:List OpX):Prop where
 cell:∀j u,(cellsOf ys)[j]? =some u->w.cell? ⟨g,j,none⟩=some u
 free:∀j,j<ys.length*8->w.frozen? ⟨g,j,none⟩=false
end
section
open Go.RowKit Go.Lib Go.Sort Go.Maps
structure Ot (p:OpX->Bool) (ys:List OpX) (i j:Nat) (cs:List OpX):Prop where
 lt:i<j
 le:j<=ys.length
 len:cs.length=ys.length
 stay:cs.take i=(ys.take j).filter (fun x=> !p x)
 rest:cs.drop j=ys.drop j
end
section
open Go.RowKit Go.Lib Go.Sort Go.Maps
abbrev OZ:Value:=.agg #[.int .i64 0,.int .i64 0,.int .i64 0,.int .u8 0,.int .i64 0,.int .i64 0,.string ⟨#[]⟩,.string ⟨#[]⟩]
structure OF (w:World) (g a:Nat) (x:OpX):Prop where
 c0:w.cell? ⟨g,a,none⟩=some (.int .i64 x.1)
 c1:w.cell? ⟨g,a+1,none⟩=some (.int .i64 x.2.1)
 c2:w.cell? ⟨g,a+2,none⟩=some (.int .i64 x.2.2.1)
 c3:w.cell? ⟨g,a+3,none⟩=some (.int .u8 (x.2.2.2.1:Int))
 c4:w.cell? ⟨g,a+4,none⟩=some (.int .i64 x.2.2.2.2.1)
 c5:w.cell? ⟨g,a+5,none⟩=some (.int .i64 x.2.2.2.2.2.1)
 c6:w.cell? ⟨g,a+6,none⟩=some (.string x.2.2.2.2.2.2.1)
 c7:w.cell? ⟨g,a+7,none⟩=some (.string x.2.2.2.2.2.2.2)
 f0:w.frozen? ⟨g,a,none⟩=false
 f1:w.frozen? ⟨g,a+1,none⟩=false
 f2:w.frozen? ⟨g,a+2,none⟩=false
 f3:w.frozen? ⟨g,a+3,none⟩=false
 f4:w.frozen? ⟨g,a+4,none⟩=false
 f5:w.frozen? ⟨g,a+5,none⟩=false
 f6:w.frozen? ⟨g,a+6,none⟩=false
 f7:w.frozen? ⟨g,a+7,none⟩=false
end
section
open Go.RowKit Go.Lib Go.Sort Go.Maps
end
section
open Go.RowKit Go.Lib Go.Sort Go.Maps
end
section
open Go.RowKit Go.Lib Go.Sort Go.Maps
end
section
open Go.RowKit Go.Lib Go.Sort Go.Maps
open scoped Classical
end
section
open Go.RowKit Go.Lib Go.Sort Go.Maps
end
section
open Go Go.RowKit Go.Lib Go.Sort
def rd (ok:Bool) (x:OpX):OpX×Nat:=if ok=false then (aR,6) else if ki x=0 then (x,0) else (aR,ki x)
end
section
open Go.RowKit Go.Lib Go.Sort Go.Maps
theorem below_drewN (h:Below B w w') (q:Nat):Below B w (w'.drewN q):=⟨h.os,h.tape,h.output,h.size,h.block⟩
def stX (x:OpX):Int×Int:=(x.1,x.2.1)
def GM (x:OpX):Mov:=(stX x,(x.2.2.2.2.1,x.2.2.2.2.2.1,x.2.2.2.2.2.2.1))
theorem Aj {base n:Nat} {e:TypeId} {xs:List Value} (h:w.ownsRow base e k (.slice ao n cap) n xs) (hn:0<n):∃g,ao=some ⟨g,0,none⟩:=by
 rcases h.2 with ⟨h1,h2⟩ | ⟨g,cap',cur,h1,_⟩
 ·omega
 cases h1;exact ⟨g,rfl⟩
theorem PlsAt.three (h:PlsAt w (.slice ao qs.length cap) qs) {c q:Int} {nm:ByteArray} (hi:qs[i]? =some (c,q,nm)):∃g,ao=some ⟨g,0,none⟩/\w.cell? ⟨g,i*3,none⟩=some (.int .i64 c)/\w.cell? ⟨g,i*3+1,none⟩=some (.int .i64 q)/\w.cell? ⟨g,i*3+2,none⟩=some (.string nm):=by
 rcases h with ⟨_,rfl⟩ | ⟨g,cap',he,_,hc⟩
 ·simp at hi
 cases he
 have hg:=fun k hk=>cX (enc:=aP) (k:=3) (fun _=>rfl) (c:=k) hi hk
 exact ⟨g,rfl,hc _ _ (hg 0 zj),hc _ _ (hg 1 zj),hc _ _ (hg 2 zj)⟩
