import Derived.Test.YtehighgebbdenaaGreatDoorRa25
import Derived.Test.YtehighgebbdenaaGreatDoorRa30
set_option maxRecDepth 100000
set_option maxHeartbeats 64000000
namespace Go.Proofs.YtehighgebbdenaaGreatDoor
open Go.Proofs.Tryz
variable {L zs:List Ltr} {cap i n p:Nat} {ao:Option Addr} {v:Value} {w w':World}
section
open Go Go.RowKit Go.Lib Go.Sort
def fY (ok:Bool) (x:OpX):OpX×Nat:=if ok=false then (aV,6) else if dJ x=0 then (x,0) else (aV,dJ x)
def Cp (w:World) (a:OpX×Nat) (e:Ending) (w':World):Prop:=e= .returned (.tuple #[aD a.1,.int .i64 (a.2:Int)])/\Aside (Below w.heap.size w w')
theorem EH {T:Int} (h:0<=T) (h2:T<1073741824):wrap64 (T+1)=T+1:=yl
theorem ER (h:n<=100000):wrap64 ((n:Int)+1)=(n:Int)+1:=yl
theorem fb {m i:Nat} {ao:Option Addr} {cap:Nat} {S:List OpX} (w:World) (is:Bool) (kd:Nat) (nd o T:Int) (s v:ByteArray) (h:MRp w m (i:Int) ao cap S) (hok:∀x∈S,an x=0) (hi:i<4) (hT:eu S=T) (hT0:0<=T) (hn:S.length<400) (hnd:is=true->nd=0->kd=109) (hs1:s.size<=1000000) (hs2:v.size<=1000000):
  Calls prog 69 #[.pointer (some ⟨m,0,none⟩),.bool is,aD (0,0,0,kd,nd,o,s,v)] w (Cp w (fY is (bN T i (ae S i) kd nd o s v))):=by
 obtain ⟨S0,hS0⟩:=ze w.heap.size;obtain ⟨U,hU⟩:=ze ((w.alloc (.cells #[.int .i64 0,.int .i64 0,.int .i64 0,.int .u8 (kd:Int),.int .i64 nd,.int .i64 o,.string s,.string v] 38)).alloc (.cells #[.int .i64 0,.int .i64 0,.int .i64 0,.int .u8 0,.int .i64 0,.int .i64 0,.string ⟨#[]⟩,.string ⟨#[]⟩] 38))
 have hbU:Below w.heap.size w U:=by rw [hU.o];exact (zh w _).alloc zv _
 have O0:OpBlk U S0 (0,0,0,kd,nd,o,s,v):=by rw [hU.o,hS0.o];exact (vZ _ _ _ zv).trans (OpBlk.new w (0,0,0,kd,nd,o,s,v))
 have O1:OpBlk U (S0+1) aV:=by
  rw [hU.o,hS0.o];exact ke6
 have hTL:Aside (eu S=T):=hT
 have H0:Aside (MRp U m (i:Int) ao cap S/\OpBlk U S0 (0,0,0,kd,nd,o,s,v)/\OpBlk U (S0+1) aV/\Below w.heap.size w U/\(∀x∈S,an x=0)/\m<S0):=⟨h.later hbU,O0,O1,hbU,hok,by rw [hS0.o];exact h.lt⟩
 clear h hok hbU O0 O1 hT;unfold aD;dsimp only;go_enter func69,ntmps69;go_upto_region 1 with fail;rw [<-hU.o,<-hS0.o];clear hU
 cases is with
 | false=>
  have hans:fY false (bN T i (ae S i) kd nd o s v)=(aV,6):=rfl;have HA:=Lib.hid hans;clear hans;obtain ⟨z0,z1,z2,z3,z4,z5,z6,z7,zf⟩:=(H0.o.2.2.1).cells;unfold aV at z0 z1 z2 z3 z4 z5 z6 z7;dsimp only at z0 z1 z2 z3 z4 z5 z6 z7;go_wp2;(try simp only [Exit.inBlock,Exit.then]);refine bodyPost_ret (v:=.tuple #[aD aV,.int .i64 6]) ?_ rfl ⟨by rw [HA.o];try rfl,?_⟩
  ·exact kc3
  exact aQ (b:=S0+1) H0.o.2.2.2.1 yC 0 [.int .i64 0,.int .i64 0,.int .i64 0,.int .u8 0,.int .i64 0,.int .i64 0,.string ⟨#[]⟩,.string ⟨#[]⟩]
 | true=>
  obtain ⟨c0,c1,cf⟩:=H0.o.1.c;have dl:decide ((400:Int)<=(S.length:Int))=false:=zr;have dln:decide (400<=S.length)=false:=zr;have htm:=oD U H0.o.1 zo;rw [hTL.o] at htm;go_wp2_with fail;refine htm.mono ?_;clear htm c0 c1 cf;rintro e w1 ⟨rfl,H1⟩;by_cases hmx:1073741824<=T
  ·have dm:decide ((1073741824:Int)<=T)=true:=by simp;omega
   have hans:fY true (bN T i (ae S i) kd nd o s v)=(aV,8):=by
    have e8:dJ (bN T i (ae S i) kd nd o s v)=8:=if_pos (by show 1073741824<T+1;omega);unfold fY;rw [if_neg zu,e8,if_neg zu]
   have HA:=Lib.hid hans
   have HZ1:Aside (OpBlk w1 (S0+1) aV/\Below w.heap.size w w1):=⟨H0.o.2.2.1.later H1.o,zj H0.o.2.2.2.1 H1.o⟩
   clear hans hmx H1;obtain ⟨z0,z1,z2,z3,z4,z5,z6,z7,zf⟩:=(HZ1.o.1).cells;unfold aV at z0 z1 z2 z3 z4 z5 z6 z7;dsimp only at z0 z1 z2 z3 z4 z5 z6 z7;go_wp2;(try simp only [Exit.inBlock,Exit.then]);refine bodyPost_ret (v:=.tuple #[aD aV,.int .i64 8]) ?_ rfl ⟨by rw [HA.o];try rfl,?_⟩
   ·exact kc3
   exact aQ (b:=S0+1) HZ1.o.2 yC 0 [.int .i64 0,.int .i64 0,.int .i64 0,.int .u8 0,.int .i64 0,.int .i64 0,.string ⟨#[]⟩,.string ⟨#[]⟩]
  have dm:decide ((1073741824:Int)<=T)=false:=zr;have hTm:T<1073741824:=zo;have hvec:=nC w1 (H0.o.1.later H1.o) H0.o.2.2.2.2.1 zo;clear hmx;go_wp2_with fail;refine hvec.mono ?_;clear hvec;rintro e w2 ⟨rfl,H2⟩;obtain ⟨Bv,hBv⟩:=ze w2.heap.size;obtain ⟨V,hV⟩:=ze (w2.alloc (.cells #[.int .i64 (ae S 0:Int),.int .i64 (ae S 1:Int),.int .i64 (ae S 2:Int),.int .i64 (ae S 3:Int)] 23));have hb2:Below U.heap.size U w2:=zj H1.o H2.o
  have hbV:Below U.heap.size U V:=by rw [hV.o];exact hb2.alloc hb2.size _
  have hvb:V.heap[Bv]? =some (.cells #[.int .i64 (ae S 0:Int),.int .i64 (ae S 1:Int),.int .i64 (ae S 2:Int),.int .i64 (ae S 3:Int)] 23 (0,0)):=by rw [hV.o,hBv.o];exact heap_alloc_new w2 _
  have HV:Aside (Below U.heap.size U V/\VecAt V Bv (ae S)/\S0+1<Bv):=⟨hbV,hvb,by have:=H0.o.2.2.1.lt;have:=hb2.size;have:=hBv.o;omega⟩
  clear hb2 hbV hvb H1 H2;go_upto_region 6 with fail;rw [<-hV.o,<-hBv.o];clear hV hBv
  have HS6:Aside (∀W,Below V.heap.size V W->(fun w':World=>w'.cell? ⟨m,0,none⟩=some (.int .i64 (i:Int))) W):=fun W hW=>aT hW ((H0.o.1.later HV.o.1).c).1
  have htm:=oD V.drew ((H0.o.1.later HV.o.1).later ((vP _ V).drew)) zo;rw [hTL.o] at htm;have hwt:=EH hT0 hTm;have hwt2:IntKind.i64.wrap (T+1)=T+1:=yr;refine aO (S:=(fun w'=>w'.cell? ⟨m,0,none⟩=some (.int .i64 (i:Int)))) zq (HS6.o V.drew ((vP _ V).drew)) (fun hHeld=> ?_);refine tk 0 hHeld ?_;refine tk 3 hHeld ?_;refine tk 4 hHeld ?_;refine tk 5 hHeld ?_;refine tk 6 hHeld ?_ (hy:=Or.inl ⟨zA,jN⟩);refine aY (i:=1) zq rfl (fun K hK=> ?_);go_simp;refine htm.mono ?_;clear htm;rintro e w3 ⟨rfl,H3⟩;have B3:Below V.heap.size V w3:=((vP _ V).drew).trans H3.o;refine hK _ _ (HS6.o w3 B3) ?_;clear hK K;have HB3:Aside (Below V.heap.size V w3):=B3;clear B3 H3;refine qn ?_;refine tk 2 (HS6.o w3 HB3.o) ?_;refine tk 7 (HS6.o w3 HB3.o) ?_;refine tk 8 (HS6.o w3 HB3.o) ?_;obtain ⟨y0,y1,y2,y3,y4,y5,y6,y7,f8⟩:=((H0.o.2.1.later HV.o.1).later HB3.o).cells;dsimp only at y0 y1 y2 y3 y4 y5 y6 y7;refine aY (i:=9) zq rfl (fun K hK=> ?_);go_simp
  refine hK _ _ (by
   have hc:=HS6.o w3 HB3.o
   have hk:=aZ S0 [.int .i64 (T+1),.int .i64 (i:Int)] 0 w3
   exact (hk.cell (a:=⟨m,0,none⟩) (vR w3 ⟨m,0,none⟩ hc) (fun e=>by have e:m=S0:=e;have:=H0.o.2.2.2.2.2;omega)).trans hc) ?_
  clear hK K y0 y1 y2 y3 y4 y5 y6 y7 f8;refine qn ?_;refine wpAnyH_done zq ?_ _;refine qn ?_
  have hci:∀W,Below V.heap.size V W->W.cell? ⟨Bv,i,none⟩=some (.int .i64 (ae S i:Int)):=by
   intro W hW;have hc:=HV.o.2.1.c;have h4:i=0\/i=1\/i=2\/i=3:=zo
   rcases h4 with rfl | rfl | rfl | rfl
   ·exact aT hW hc.1
   ·exact aT hW hc.2.1
   ·exact aT hW hc.2.2.1
   exact aT hW hc.2.2.2.1
  obtain ⟨w4,hw4⟩:=ze ((w3.setCell ⟨S0,0,none⟩ (.int .i64 (T+1))).setCell ⟨S0,1,none⟩ (.int .i64 (i:Int)))
  have hk4:Keeps (fun k=>k=S0) w3 w4:=by rw [hw4.o];exact aZ S0 [.int .i64 (T+1),.int .i64 (i:Int)] 0 w3
  have O4:OpBlk w4 S0 (T+1,(i:Int),0,kd,nd,o,s,v):=by
   have hh:=af S0 [.int .i64 (T+1),.int .i64 (i:Int)] 0 w3 _ _ ((H0.o.2.1.later HV.o.1).later HB3.o);unfold OpBlk;rw [hw4.o];exact kn0
  have hmS:=H0.o.2.2.2.2.2;have hBS:=HV.o.2.2;have hm3:=(((H0.o.1.later HV.o.1).later HB3.o).c).1;have hB3l:Bv<w3.heap.size:=vR w3 ⟨Bv,i,none⟩ (hci w3 HB3.o);have k4m:w4.cell? ⟨m,0,none⟩=some (.int .i64 (i:Int)):=(hk4.cell (a:=⟨m,0,none⟩) (vR w3 ⟨m,0,none⟩ hm3) (fun e=>by have e:m=S0:=e;omega)).trans hm3;have k4v:w4.cell? ⟨Bv,i,none⟩=some (.int .i64 (ae S i:Int)):=(hk4.cell (a:=⟨Bv,i,none⟩) hB3l (fun e=>by have e:Bv=S0:=e;omega)).trans (hci w3 HB3.o);obtain ⟨y0,y1,y2,y3,y4,y5,y6,y7,f8⟩:=O4.cells;dsimp only at y0 y1 y2 y3 y4 y5 y6 y7;obtain ⟨w5,hw5⟩:=ze (w4.setCell ⟨S0,2,none⟩ (.int .i64 ((ae S i:Int)+1)))
  have hk5:Keeps (fun k=>k=S0) w4 w5:=by rw [hw5.o];exact aZ S0 [.int .i64 ((ae S i:Int)+1)] 2 w4
  have OX:Aside (OpBlk w5 S0 (T+1,(i:Int),(ae S i:Int)+1,kd,nd,o,s,v)/\OpBlk w5 (S0+1) aV/\Below w.heap.size w w5):=by
   have hk:Keeps (fun k=>k=S0) w3 w5:=hk4.trans hk5;have Z3:=(H0.o.2.2.1.later HV.o.1).later HB3.o;have hb3:Below w.heap.size w w3:=(zj H0.o.2.2.2.1 HV.o.1).trans (HB3.o.mono (uf H0.o.2.2.2.1.size HV.o.1.size));refine ⟨?_,(hk.block (S0+1) Z3.lt zo).trans Z3,hb3.trans (hk.below hb3.size (fun k e=>yC))⟩;have hh:=af S0 [.int .i64 ((ae S i:Int)+1)] 2 w4 _ _ O4;unfold OpBlk;rw [hw5.o];exact kn0
  have hcl:ae S i<=100000:=by have:=Dw S i;omega
  have hwn:=ER hcl
  have hwn2:IntKind.i64.wrap ((ae S i:Int)+1)=(ae S i:Int)+1:=by rw [IntKind.wrap_i64];clear hwn;omega
  have wi:((i:Int)).toNat=i:=zo;have pi:(0:Int)<=(i:Int):=zo;have bi:(i:Int)<4:=zo;have n1:S0≠Bv:=zo;have n2:Bv≠S0:=zo;have n3:S0≠m:=zo;have n4:m≠S0:=zo;rw [<-hw4.o];clear hw4 hk4 O4 hm3 hB3l hci HS6 hk5;go_upto_region 8 with fail;rw [<-hw5.o];clear hw5 k4m k4v y0 y1 y2 y3 y4 y5 y6 y7 f8 n1 n2 n3 n4;obtain ⟨y0,y1,y2,y3,y4,y5,y6,y7,f8⟩:=OX.o.1.cells;dsimp only at y0 y1 y2 y3 y4 y5 y6 y7;by_cases hnd0:nd=0
  ·have hk9:kd=109:=hnd (by first | trivial | rfl) hnd0;have dk:((kd:Int)==109)=true:=zr;have dkn:(kd==109)=true:=zr
   have dd:(nd==0)=true:=by simp [hnd0]
   have hown:bN T i (ae S i) kd nd o s v=(T+1,(i:Int),(ae S i:Int)+1,kd,4*(T+1)+(i:Int),o,s,v):=by
    unfold bN;rw [if_pos hnd0];have:(T+1)*4+(i:Int)=4*(T+1)+(i:Int):=zo;rw [this]
   have HOW:=Lib.hid hown;have hid:=fK (T+1) (i:Int) w5 zo zo zo zo;clear hown hk9 hnd0 hnd;go_wp2_with fail;refine hid.mono ?_;clear hid y0 y1 y2 y3 y4 y5 y6 y7 f8;rintro e w5' ⟨rfl,hb5⟩;have O5:=OX.o.1.later hb5;obtain ⟨w6,hw6⟩:=ze (w5'.setCell ⟨S0,4,none⟩ (.int .i64 (4*(T+1)+(i:Int))))
   have hk6:Keeps (fun k=>k=S0) w5' w6:=by rw [hw6.o];exact aZ S0 [.int .i64 (4*(T+1)+(i:Int))] 4 w5'
   have OX6:Aside (OpBlk w6 S0 (T+1,(i:Int),(ae S i:Int)+1,kd,4*(T+1)+(i:Int),o,s,v)/\OpBlk w6 (S0+1) aV/\Below w.heap.size w w6):=by
    have Z5:=OX.o.2.1.later hb5;have B5:=zj OX.o.2.2 hb5;refine ⟨?_,(hk6.block (S0+1) Z5.lt zo).trans Z5,B5.trans (hk6.below B5.size (fun k e=>yC))⟩;have hh:=af S0 [.int .i64 (4*(T+1)+(i:Int))] 4 w5' _ _ O5;unfold OpBlk;rw [hw6.o];exact kn0
   obtain ⟨y0,y1,y2,y3,y4,y5,y6,y7,f8⟩:=O5.cells;dsimp only at y0 y1 y2 y3 y4 y5 y6 y7;clear hk6 hb5 O5;go_upto_region 10 with fail;rw [<-hw6.o];clear hw6 y0 y1 y2 y3 y4 y5 y6 y7 f8;have hchk:=mS (T+1) (i:Int) ((ae S i:Int)+1) kd (4*(T+1)+(i:Int)) o s v w6 hs1 hs2;obtain ⟨y0,y1,y2,y3,y4,y5,y6,y7,f8⟩:=OX6.o.1.cells;dsimp only at y0 y1 y2 y3 y4 y5 y6 y7;obtain ⟨cd,hcd⟩:=ze (an (T+1,(i:Int),(ae S i:Int)+1,kd,4*(T+1)+(i:Int),o,s,v));have e0:opE (T+1) (i:Int) ((ae S i:Int)+1) kd (4*(T+1)+(i:Int)) o s.data.toList v.data.toList=cd:=jm;rw [e0] at hchk;clear e0
   have HF:Aside (dJ (bN T i (ae S i) kd nd o s v)=cd/\bN T i (ae S i) kd nd o s v=(T+1,(i:Int),(ae S i:Int)+1,kd,4*(T+1)+(i:Int),o,s,v)):=⟨by rw [lY zo,HOW.o,hcd.o],HOW.o⟩
   go_wp2_with fail;refine hchk.mono ?_;clear hchk y0 y1 y2 y3 y4 y5 y6 y7 f8;rintro e w7 ⟨rfl,hb7⟩
   have H7:Aside (OpBlk w7 S0 (T+1,(i:Int),(ae S i:Int)+1,kd,4*(T+1)+(i:Int),o,s,v)/\OpBlk w7 (S0+1) aV/\Below w.heap.size w w7):=⟨OX6.o.1.later hb7,OX6.o.2.1.later hb7,zj OX6.o.2.2 hb7⟩
   clear hb7;obtain ⟨y0,y1,y2,y3,y4,y5,y6,y7,f8⟩:=H7.o.1.cells;dsimp only at y0 y1 y2 y3 y4 y5 y6 y7;obtain ⟨z0,z1,z2,z3,z4,z5,z6,z7,zf⟩:=(H7.o.2.1).cells;unfold aV at z0 z1 z2 z3 z4 z5 z6 z7;dsimp only at z0 z1 z2 z3 z4 z5 z6 z7;by_cases hc0:cd=0
   ·subst hc0;have hans:fY true (bN T i (ae S i) kd nd o s v)=((T+1,(i:Int),(ae S i:Int)+1,kd,4*(T+1)+(i:Int),o,s,v),0):=yU;have HA:=Lib.hid hans;clear hans;go_wp2;(try simp only [Exit.inBlock,Exit.then]);refine bodyPost_ret (v:=.tuple #[aD (T+1,(i:Int),(ae S i:Int)+1,kd,4*(T+1)+(i:Int),o,s,v),.int .i64 0]) ?_ rfl ⟨by rw [HA.o];rfl,?_⟩
    ·exact ke5
    exact aQ (b:=S0+1) H7.o.2.2 yC 0 (au (T+1,(i:Int),(ae S i:Int)+1,kd,4*(T+1)+(i:Int),o,s,v))
   have dc:decide ((0:Int)<(cd:Int))=true:=zr;have dcn:decide (0<cd)=true:=zr;have dcp:0<cd:=zo;have hans:fY true (bN T i (ae S i) kd nd o s v)=(aV,cd):=yF;have HA:=Lib.hid hans;clear hans hc0;go_wp2;(try simp only [Exit.inBlock,Exit.then]);refine bodyPost_ret (v:=.tuple #[aD aV,.int .i64 (cd:Int)]) ?_ rfl ⟨by rw [HA.o];try rfl,?_⟩
   ·exact kc3
   exact kf5
  have dd:(nd==0)=false:=by simp [hnd0]
  have hown:bN T i (ae S i) kd nd o s v=(T+1,(i:Int),(ae S i:Int)+1,kd,nd,o,s,v):=by
   unfold bN;rw [if_neg hnd0]
  have HOW:=Lib.hid hown;clear hown hnd0 hnd;by_cases hk9:kd=109
  ·have dk:((kd:Int)==109)=true:=by simp;omega
   have dkn:(kd==109)=true:=zr;clear hk9;go_upto_region 10 with fail;clear y0 y1 y2 y3 y4 y5 y6 y7 f8;have hchk:=mS (T+1) (i:Int) ((ae S i:Int)+1) kd (nd) o s v w5 hs1 hs2;obtain ⟨y0,y1,y2,y3,y4,y5,y6,y7,f8⟩:=OX.o.1.cells;dsimp only at y0 y1 y2 y3 y4 y5 y6 y7;obtain ⟨cd,hcd⟩:=ze (an (T+1,(i:Int),(ae S i:Int)+1,kd,nd,o,s,v));have e0:opE (T+1) (i:Int) ((ae S i:Int)+1) kd (nd) o s.data.toList v.data.toList=cd:=jm;rw [e0] at hchk;clear e0
   have HF:Aside (dJ (bN T i (ae S i) kd nd o s v)=cd/\bN T i (ae S i) kd nd o s v=(T+1,(i:Int),(ae S i:Int)+1,kd,nd,o,s,v)):=⟨by rw [lY zo,HOW.o,hcd.o],HOW.o⟩
   go_wp2_with fail;refine hchk.mono ?_;clear hchk y0 y1 y2 y3 y4 y5 y6 y7 f8;rintro e w7 ⟨rfl,hb7⟩
   have H7:Aside (OpBlk w7 S0 (T+1,(i:Int),(ae S i:Int)+1,kd,nd,o,s,v)/\OpBlk w7 (S0+1) aV/\Below w.heap.size w w7):=⟨OX.o.1.later hb7,OX.o.2.1.later hb7,zj OX.o.2.2 hb7⟩
   clear hb7;obtain ⟨y0,y1,y2,y3,y4,y5,y6,y7,f8⟩:=H7.o.1.cells;dsimp only at y0 y1 y2 y3 y4 y5 y6 y7;obtain ⟨z0,z1,z2,z3,z4,z5,z6,z7,zf⟩:=(H7.o.2.1).cells;unfold aV at z0 z1 z2 z3 z4 z5 z6 z7;dsimp only at z0 z1 z2 z3 z4 z5 z6 z7;by_cases hc0:cd=0
   ·subst hc0;have hans:fY true (bN T i (ae S i) kd nd o s v)=((T+1,(i:Int),(ae S i:Int)+1,kd,nd,o,s,v),0):=yU;have HA:=Lib.hid hans;clear hans;go_wp2;(try simp only [Exit.inBlock,Exit.then]);refine bodyPost_ret (v:=.tuple #[aD (T+1,(i:Int),(ae S i:Int)+1,kd,nd,o,s,v),.int .i64 0]) ?_ rfl ⟨by rw [HA.o];rfl,?_⟩
    ·exact ke5
    exact kn3
   have dc:decide ((0:Int)<(cd:Int))=true:=zr;have dcn:decide (0<cd)=true:=zr;have dcp:0<cd:=zo;have hans:fY true (bN T i (ae S i) kd nd o s v)=(aV,cd):=yF;have HA:=Lib.hid hans;clear hans hc0;go_wp2;(try simp only [Exit.inBlock,Exit.then]);refine bodyPost_ret (v:=.tuple #[aD aV,.int .i64 (cd:Int)]) ?_ rfl ⟨by rw [HA.o];try rfl,?_⟩
   ·exact kc3
   exact kf5
  have dk:((kd:Int)==109)=false:=zr;have dkn:(kd==109)=false:=zr;clear hk9;go_upto_region 10 with fail;clear y0 y1 y2 y3 y4 y5 y6 y7 f8;have hchk:=mS (T+1) (i:Int) ((ae S i:Int)+1) kd (nd) o s v w5 hs1 hs2;obtain ⟨y0,y1,y2,y3,y4,y5,y6,y7,f8⟩:=OX.o.1.cells;dsimp only at y0 y1 y2 y3 y4 y5 y6 y7;obtain ⟨cd,hcd⟩:=ze (an (T+1,(i:Int),(ae S i:Int)+1,kd,nd,o,s,v));have e0:opE (T+1) (i:Int) ((ae S i:Int)+1) kd (nd) o s.data.toList v.data.toList=cd:=jm;rw [e0] at hchk;clear e0
  have HF:Aside (dJ (bN T i (ae S i) kd nd o s v)=cd/\bN T i (ae S i) kd nd o s v=(T+1,(i:Int),(ae S i:Int)+1,kd,nd,o,s,v)):=⟨by rw [lY zo,HOW.o,hcd.o],HOW.o⟩
  go_wp2_with fail;refine hchk.mono ?_;clear hchk y0 y1 y2 y3 y4 y5 y6 y7 f8;rintro e w7 ⟨rfl,hb7⟩
  have H7:Aside (OpBlk w7 S0 (T+1,(i:Int),(ae S i:Int)+1,kd,nd,o,s,v)/\OpBlk w7 (S0+1) aV/\Below w.heap.size w w7):=⟨OX.o.1.later hb7,OX.o.2.1.later hb7,zj OX.o.2.2 hb7⟩
  clear hb7;obtain ⟨y0,y1,y2,y3,y4,y5,y6,y7,f8⟩:=H7.o.1.cells;dsimp only at y0 y1 y2 y3 y4 y5 y6 y7;obtain ⟨z0,z1,z2,z3,z4,z5,z6,z7,zf⟩:=(H7.o.2.1).cells;unfold aV at z0 z1 z2 z3 z4 z5 z6 z7;dsimp only at z0 z1 z2 z3 z4 z5 z6 z7;by_cases hc0:cd=0
  ·subst hc0;have hans:fY true (bN T i (ae S i) kd nd o s v)=((T+1,(i:Int),(ae S i:Int)+1,kd,nd,o,s,v),0):=yU;have HA:=Lib.hid hans;clear hans;go_wp2;(try simp only [Exit.inBlock,Exit.then]);refine bodyPost_ret (v:=.tuple #[aD (T+1,(i:Int),(ae S i:Int)+1,kd,nd,o,s,v),.int .i64 0]) ?_ rfl ⟨by rw [HA.o];rfl,?_⟩
   ·exact ke5
   exact kn3
  have dc:decide ((0:Int)<(cd:Int))=true:=zr;have dcn:decide (0<cd)=true:=zr;have dcp:0<cd:=zo;have hans:fY true (bN T i (ae S i) kd nd o s v)=(aV,cd):=yF;have HA:=Lib.hid hans;clear hans hc0;go_wp2;(try simp only [Exit.inBlock,Exit.then]);refine bodyPost_ret (v:=.tuple #[aD aV,.int .i64 (cd:Int)]) ?_ rfl ⟨by rw [HA.o];try rfl,?_⟩
  ·exact kc3
  exact kf5
end
section
open Go.RowKit Go.Lib Go.Sort
def cz (l:Ltr):List Value:=[.int .i64 l.1,.int .u8 (l.2.1:Int),.bool l.2.2]
theorem eW (l:Ltr):(cz l).length=3:=rfl
theorem FE (l:Ltr):∀v∈cz l,v.oneCell'=true:=by
 intro v hv;simp [cz] at hv;exact kp8
theorem Dg:(prog.info? 140).map (fun i=>(i.zero,i.size,i.bytes))=some (some (.agg #[.int .i64 0,.int .u8 0,.bool false]),3,16):=zq
def LetsIn (w:World) (ao:Option Addr) (zs:List Ltr):Prop:=zs= []\/∃blk off,ao=some ⟨blk,off,none⟩/\∀j u,(aA cz zs)[j]? =some u->w.cell? ⟨blk,off+j,none⟩=some u
theorem LetsIn.later (h:LetsIn w ao zs) (hb:Below w.heap.size w w'):LetsIn w' ao zs:=by
 rcases h with h | ⟨g,o,h1,h2⟩
 ·exact .inl h
 exact .inr ⟨g,o,h1,fun j u hj=>cn hb (h2 j u hj)⟩
theorem LetsIn.at (h:LetsIn w ao zs) {a:Int} {c:Nat} {g:Bool} (hi:zs[i]? =some (a,c,g)):∃blk off,ao=some ⟨blk,off,none⟩/\w.cell? ⟨blk,off+i*3,none⟩=some (.int .i64 a)/\w.cell? ⟨blk,off+i*3+1,none⟩=some (.int .u8 (c:Int))/\w.cell? ⟨blk,off+i*3+2,none⟩=some (.bool g):=by
 rcases h with h | ⟨b,o,h1,h2⟩
 ·subst h;simp at hi
 have hg:=fun k hk=>dM (enc:=cz) (k:=3) eW (c:=k) hi hk
 refine ⟨b,o,h1,?_,?_,?_⟩
 ·exact h2 (i*3+0) _ (hg 0 zo)
 ·rw [Zc];exact h2 _ _ (hg 1 zo)
 rw [Zc];exact h2 _ _ (hg 2 zo)
theorem fB {base:Nat} (h:w.ownsRow base 140 3 (.slice ao L.length cap) L.length (aA cz L)):LetsIn w ao L:=by
 have h':=h
 rcases h.2 with ⟨h1,h2⟩ | ⟨g,cap',cur,hv,_⟩
 ·exact ks4
 cases hv
 refine .inr ⟨g,0,rfl,fun j u hj=> ?_⟩;have hl:j<(aA cz L).length:=(vL.1 hj).1;rw [bR eW] at hl;exact kq4
structure RefAt (base:Nat) (w:World) (p:Nat) (v:Value) (L:List Ltr):Prop where
 cell:w.heap[p]? =some (.cells #[v] 223 (0,0))
 row:w.ownsRow base 140 3 v L.length (aA cz L)
 low:p<base
 small:∀l∈L,l.2.1<256
theorem RefAt.c0 {base:Nat} (h:RefAt base w p v L):w.cell? ⟨p,0,none⟩=some v:=qI
theorem RefAt.fz {base:Nat} (h:RefAt base w p v L):w.frozen? ⟨p,0,none⟩=false:=xW
theorem RefAt.lt {base:Nat} (h:RefAt base w p v L):p<w.heap.size:=(vO.1 h.cell).1
theorem RefAt.ne {base:Nat} (h:RefAt base w p v L):∀g,v.ownBlock=some g->g≠p/\g<w.heap.size/\base<=g:=fun g hg=>by
 exact kl9
theorem RefAt.same {base:Nat} (h:RefAt base w p v L) (h1:w'.heap[p]? =w.heap[p]?) (h2:∀g,v.ownBlock=some g->w'.heap[g]? =w.heap[g]?):RefAt base w' p v L:=
 ⟨h1.trans h.cell,fe h.row h2,h.low,h.small⟩
theorem RefAt.later {base:Nat} (h:RefAt base w p v L) (hb:Below w.heap.size w w'):RefAt base w' p v L:=
 h.same (hb.block _ h.lt) (fun g hg=>hb.block g (h.row.lt g hg).2)
theorem mF (w:World) (base p:Nat) (v:Value) (L:List Ltr) (id:Int) (h:RefAt base w p v L) (hL:L.length<=1000):
  Calls prog 134 #[.pointer (some ⟨p,0,none⟩),.int .i64 id] w fun e w'=>e= .returned (.int .i64 (iV id L))/\w'=w:=by
 obtain ⟨ao,cap,rfl⟩:=bI h.row;have c0:=h.c0;have HI:Aside (LetsIn w ao L):=fB h.row;clear h;go_enter func134,ntmps134;go_wp2;go_loopg [5] L.length (fun kx s5 wr=>∃(k:Nat),s5= .int .i64 (k:Int)/\k<=L.length/\L.length - k<=kx/\wr=w/\Aside (∀j l,j<k->L[j]? =some l->l.1≠id))
 case atStart=>exact ⟨0,rfl,vV _,vM _,rfl,fun j l hj=>zo⟩
 case round=>
  obtain ⟨k,rfl,hk,hkx,rfl,A⟩:=hrel;by_cases hlt:k<L.length
  ·have hltz:decide ((k:Int)<(L.length:Int))=true:=by simp;omega
   have ek:((k:Int)).toNat=k:=zo;have pk:(0:Int)<=(k:Int):=zo;have bk:(k:Int)<(L.length:Int):=zo
   obtain ⟨⟨a,c,gn⟩,hl⟩:∃l,Aside (L[k]? =some l):=⟨L[k],vN hlt⟩
   obtain ⟨blk,off,rfl,f0,f1,f2⟩:=HI.o.at hl.o;by_cases ha:a=id
   ·have da:(a==id)=true:=by simp [ha]
    have HA:=Lib.hid ha;clear ha;go_wp2;go_ret;refine ⟨?_,rfl⟩;rw [<-ox (r:=(k:Int)) (.inr ⟨k,_,rfl,hl.o,by simpa using HA.o,fun j g hj hg=>by simpa using A.o j g hj hg⟩)];rfl
   have da:(a==id)=false:=by simp [ha]
   have HA:=Lib.hid ha;clear ha;go_wp2;go_roundg (L.length - (k+1))
   case measure=>omega
   case rel=>
    refine ⟨k+1,zD,zo,vM _,rfl,fun j l hj e=> ?_⟩
    rcases uJ j k with h | h
    ·exact A.o j l h e
    obtain rfl:j=k:=zo;rw [hl.o] at e
    cases e
    exact HA.o
  have hltz:decide ((k:Int)<(L.length:Int))=false:=zr;go_wp2;go_ret;refine ⟨?_,rfl⟩
  rw [<-ox (r:= -1) (.inl ⟨rfl,fun l hl=>by
   obtain ⟨j,hj,rfl⟩:=uN hl
   simpa using A.o j _ zo (vN hj)⟩)]
  rfl
theorem gi {base:Nat} {xs:List Value} (ho:w.ownsRow base 140 3 v n xs) (hn:n<=2000) (hbase:base<=w.heap.size) (ap:Option Addr) (c:Nat) (ys:List Ltr) (hy:ys.length<=2000) (hap:LetsIn w ap ys) (hc:ap=none->c=0) (ty:TypeId):
  ∃v' w',(Builtin.append_ #[135,135] ty #[v,.slice ap ys.length c]).run prog w= .ok v' w'/\w'.ownsRow base 140 3 v' (n+ys.length) (xs++aA cz ys)/\w.grownBy w' v.ownBlock:=by
 obtain ⟨i0,hi,hz0,hz1,hz2⟩:=info_parts Dg
 cases ap with
 | none=>
  have h0:ys= []:=by
   rcases hap with h | ⟨_,_,h,_⟩
   ·exact h
   cases h
  subst h0;rw [hc rfl];refine ⟨v,w,run_append_owned_none w base _ ty _ i0 3 underlying135 hi v n xs ho,by simpa [aA] using ho,⟨rfl,rfl,rfl,vM _,fun _ _ _=>rfl⟩⟩
 | some a=>
  have hl:(aA cz ys).length=ys.length*3:=bR eW ys
  obtain ⟨v',w',h1,h2,h3,-⟩:=run_append_own (P:=prog) w base 135 ty 140 i0 _ 3 16 underlying135 hi hz0 hz1 hz2 rfl zo v n xs ho a ys.length c (aA cz ys) hl (fun j u hj=>by
   rcases hap with h | ⟨b,o,h,hcell⟩
   ·subst h;simp [aA] at hj
   ·cases h
    rw [Addr.add_lit]
    exact hcell j u hj) (gO FE ys) zH zo hbase
  exact ⟨v',w',h1,h2,h3⟩
end
section
open Go.RowKit Go.Lib Go.Sort
theorem LetsIn.kept (h:LetsIn w ao zs) (hk:∀g o,ao=some ⟨g,o,none⟩->w'.heap[g]? =w.heap[g]?):LetsIn w' ao zs:=by
 rcases h with h | ⟨g,o,h1,h2⟩
 ·exact .inl h
 exact kn6
theorem LetsIn.part (h:LetsIn w ao zs) (k:Nat) (hk:k<=zs.length):LetsIn w ao (zs.take k)/\LetsIn w (ao.map (fun x=>x.add (k*3))) (zs.drop k):=by
 rcases h with h | ⟨g,o,h1,h2⟩
 ·subst h;exact ⟨.inl zv,.inl zv⟩
 refine ⟨.inr ⟨g,o,h1,fun j u hj=>h2 j u ?_⟩,.inr ⟨g,o+k*3,by rw [h1];simp [Addr.add],fun j u hj=> ?_⟩⟩
 ·rw [<-iX eW zs k hk,Zq] at hj;split at hj
  ·exact hj
  cases hj
 rw [<-dx eW zs k hk,uV] at hj;rw [Zc];exact h2 _ u hj
theorem wK (w:World) (base p k:Nat) (v:Value) (L:List Ltr) (id:Int) (c:Nat) (gn:Bool) (h:RefAt base w p v L) (hbase:base<=w.heap.size) (hL:L.length<=900) (hk:k<=L.length) (hc:c<256):
  Calls prog 135 #[.pointer (some ⟨p,0,none⟩),.int .i64 (k:Int),.agg #[.int .i64 id,.int .u8 (c:Int),.bool gn]] w fun e w'=>(∃u,e= .returned u)/\∃v',RefAt base w' p v' (L.take k++(id,c,gn)::L.drop k)/\Keeps (fun b=>b=p) w w'/\(∀g,v'.ownBlock=some g->w.heap.size<=g):=by
 obtain ⟨ao,cap,rfl⟩:=bI h.row
 have hnc:(ao=none->cap=0)/\L.length<=cap:=by
  rcases h.row.2 with ⟨h1,h2⟩ | ⟨g,cap',cur,hv,_,_,h3,_⟩
  ·simp only [Value.slice.injEq] at h1;exact ⟨fun _=>h1.2.2,zo⟩
  cases hv;exact ⟨fun e=>yL,h3⟩
 have hlt:∀g o,ao=some ⟨g,o,none⟩->g<w.heap.size:=fun g o e=>by
  subst e
  rcases h.row.2 with ⟨h1,_⟩ | ⟨g',cap',cur,hv,_⟩
  ·simp at h1
  cases hv
  exact (h.row.lt g rfl).2
 obtain ⟨W0,hW0⟩:=zc (w.alloc (.cells #[.int .i64 id,.int .u8 (c:Int),.bool gn] 140))
 have hs0:W0.heap.size=w.heap.size+1:=by rw [hW0];simp
 have hk0:Keeps (fun _=>False) w W0:=by rw [hW0];exact (Keeps.refl _ w).alloc _
 have hx0:W0.heap[w.heap.size]? =some (.cells #[.int .i64 id,.int .u8 (c:Int),.bool gn] 140 (0,0)):=by rw [hW0];exact heap_alloc_new w _
 have hIn:=fB h.row;have hI0:LetsIn W0 ao L:=hIn.kept (fun g o e=>hk0.block g (hlt g o e) (fun e=>e));have l1:(L.take k).length=k:=ym;obtain ⟨v1,W1,r1,o1,g1⟩:=gi (w:=W0) (base:=w.heap.size) (n:=0) (v:=.slice none 0 0) (xs:=[]) (un _ _ _ _) zo zo ao cap (L.take k) zo (hI0.part k hk).1 hnc.1 135;rw [l1] at r1 o1;have hk1:Keeps (fun _=>False) W0 W1:=(aP g1).mono (fun b _ e=>yL);have hs1:=hk1.size;obtain ⟨W2,hW2⟩:=zc (W1.alloc (.cells #[.int .i64 id,.int .u8 (c:Int),.bool gn] 140));have hk2:Keeps (fun _=>False) W1 W2:=vi
 have hs2:W2.heap.size=W1.heap.size+1:=by rw [hW2];simp
 have hx2:W2.heap[W1.heap.size]? =some (.cells #[.int .i64 id,.int .u8 (c:Int),.bool gn] 140 (0,0)):=by rw [hW2];exact heap_alloc_new W1 _
 have hI2:LetsIn W2 (some ⟨W1.heap.size,0,none⟩) [(id,c,gn)]:=.inr ⟨_,0,rfl,fun j u hj=>by
  simp only [World.cell?,hx2]
  rw [<-hj]
  simp [aA,cz]⟩
 have o2:W2.ownsRow w.heap.size 140 3 v1 (0+k) ([]++aA cz (L.take k)):=fe o1 (fun g hg=>hk2.block g (o1.lt g hg).2 (fun e=>e));obtain ⟨v3,W3,r3,o3,g3⟩:=gi (base:=w.heap.size) (by rw [vY] at o2;exact o2) zo zo (some ⟨W1.heap.size,0,none⟩) 1 [(id,c,gn)] zv hI2 (fun e=>yL) 135;have hk3:Keeps (fun b=>some b=v1.ownBlock) W2 W3:=aP g3;have hs3:=hk3.size
 have hv1:∀b,some b=v1.ownBlock->w.heap.size<=b:=fun b e=>(o1.lt b e.symm).1
 have hI3:LetsIn W3 ao L:=hI0.kept (fun g o e=>by
  have hg:=hlt g o e
  rw [hk3.block g zo (fun e'=>by have:=hv1 g e';omega),hk2.block g zo (fun e=>e),hk1.block g zo (fun e=>e)])
 have hp3:W3.heap[p]? =w.heap[p]? :=by
  have hg:=h.lt;rw [hk3.block p zo (fun e'=>by have:=hv1 p e';omega),hk2.block p zo (fun e=>e),hk1.block p zo (fun e=>e),hk0.block p zo (fun e=>e)]
 have ld:(L.drop k).length=L.length - k:=uy
 have o3':W3.ownsRow w.heap.size 140 3 v3 (k+1) (aA cz (L.take k++ [(id,c,gn)])):=by rw [bX];exact o3
 have hx1:∀j u,(cz (id,c,gn))[j]? =some u->W1.cell? ⟨w.heap.size,j,none⟩=some u:=fun j u hj=>by
  rw [uk (a:=⟨w.heap.size,j,none⟩) (hk1.block w.heap.size zo (fun e=>e))];simp only [World.cell?,hx0];rw [<-hj];simp [cz]
 have b0:W1.cell? ⟨w.heap.size,0,none⟩=some (.int .i64 id):=hx1 0 _ rfl;have b1:W1.cell? ⟨w.heap.size,1,none⟩=some (.int .u8 (c:Int)):=hx1 1 _ rfl;have b2:W1.cell? ⟨w.heap.size,2,none⟩=some (.bool gn):=hx1 2 _ rfl
 have cp0:W0.cell? ⟨p,0,none⟩=some (.slice ao L.length cap):=by rw [uk (a:=⟨p,0,none⟩) (hk0.block p h.lt (fun e=>e))];exact h.c0
 have cp3:W3.cell? ⟨p,0,none⟩=some (.slice ao L.length cap):=by rw [uk (a:=⟨p,0,none⟩) hp3];exact h.c0
 have FIN:∀ap c',LetsIn W3 ap (L.drop k)->(ap=none->c'=0)->∃v4 W4,(∃a4 n4 c4,v4=Value.slice a4 n4 c4)/\(Builtin.append_ #[135,135] 135 #[v3,.slice ap (L.length - k) c']).run prog W3= .ok v4 W4/\W4.cell? ⟨p,0,none⟩=some (.slice ao L.length cap)/\W4.frozen? ⟨p,0,none⟩=false/\Aside (RefAt base (W4.setCell ⟨p,0,none⟩ v4) p v4 (L.take k++(id,c,gn)::L.drop k)/\Keeps (fun b=>b=p) w (W4.setCell ⟨p,0,none⟩ v4)/\(∀g,v4.ownBlock=some g->w.heap.size<=g)):=fun ap c' hap hc'=>by
  obtain ⟨v4,W4,r4,o4,g4⟩:=gi (base:=w.heap.size) o3' zo zo ap c' (L.drop k) zo hap hc' 135;rw [ld] at r4;have hk4:Keeps (fun b=>some b=v3.ownBlock) W3 W4:=aP g4
  have hv3:∀b,some b=v3.ownBlock->w.heap.size<=b:=fun b e=>(o3.lt b e.symm).1
  have hg:=h.lt;have hp4:W4.heap[p]? =w.heap[p]? :=(hk4.block p zo (fun e'=>by have:=hv3 p e';omega)).trans hp3;have hc4:W4.heap[p]? =some (.cells #[.slice ao L.length cap] 223 (0,0)):=hp4.trans h.cell;refine ⟨v4,W4,(by obtain ⟨a4,c4,e⟩:=bI o4;exact ⟨_,_,_,e⟩),r4,by simp [World.cell?,hc4],by simp [World.frozen?,hc4],?_,?_,fun g hg=>(o4.lt g hg).1⟩
  ·have hks:Keeps (fun b=>b=p) W4 (W4.setCell ⟨p,0,none⟩ v4):=aZ p [_] 0 W4
   have e1:aA cz (L.take k++ [(id,c,gn)])++aA cz (L.drop k)=aA cz (L.take k++(id,c,gn)::L.drop k):=by rw [<-bX];simp
   have e2:k+1+(L.drop k).length=(L.take k++(id,c,gn)::L.drop k).length:=zr;rw [e1,e2] at o4
   have o5:(W4.setCell ⟨p,0,none⟩ v4).ownsRow base 140 3 v4 (L.take k++(id,c,gn)::L.drop k).length (aA cz (L.take k++(id,c,gn)::L.drop k)):=by
    have:=fe (w':=W4.setCell ⟨p,0,none⟩ v4) o4 (fun g hg'=>hks.block g (o4.lt g hg').2 (fun e=>by have:=(o4.lt g hg').1;omega));refine ⟨this.1,this.2.imp (fun e=>e) ?_⟩;exact kt2
   refine ⟨heap_setCell_same W4 p 0 _ _ _ hc4,o5,h.low,fun l hl=> ?_⟩
   rcases vW.1 hl with hl | hl
   ·exact h.small l (ZB hl)
   rcases vT.1 hl with rfl | hl
   ·exact hc
   exact h.small l (Zr hl)
  refine ((((((hk0.mono (fun _ _ e=>e.elim)).then hk1 (fun _ _ e=>e.elim)).then hk2 (fun _ _ e=>e.elim)).then hk3 (fun b hb e=> ?_)).then hk4 (fun b hb e=> ?_)).then (aZ p [v4] 0 W4) (fun b _ e=>e))
  ·have:=hv1 b e;omega
  have:=hv3 b e;omega
 have HF:=Lib.hid FIN;have HI3:=Lib.hid (hI3.part k hk);have hlc:=hnc.2;clear FIN hI3 hI0 o1 o2 o3 o3' hk0 hk1 hk2 hk3 g1 g3 hs0 hs1 hs2 hs3 hx0 hx1 hx2 hI2 hv1 hp3 l1 ld
 rcases hIn with h0 | ⟨g,o,hao,-⟩
 ·
  have hL0:L.length=0:=by rw [h0];rfl
  obtain rfl:k=0:=zo
  have hc0:Aside (∃v4 W4,(∃a4 n4 c4,v4=Value.slice a4 n4 c4)/\(Builtin.append_ #[135,135] 135 #[v3,.slice ao 0 (if cap=0 then 0 else cap)]).run prog W3= .ok v4 W4/\W4.cell? ⟨p,0,none⟩=some (.slice ao L.length cap)/\W4.frozen? ⟨p,0,none⟩=false/\Aside (RefAt base (W4.setCell ⟨p,0,none⟩ v4) p v4 (L.take 0++(id,c,gn)::L.drop 0)/\Keeps (fun b=>b=p) w (W4.setCell ⟨p,0,none⟩ v4)/\(∀g,v4.ownBlock=some g->w.heap.size<=g))):=by
   have:=HF.o ao (if cap=0 then 0 else cap) (.inl (by rw [h0];rfl)) (fun e=>by rw [hnc.1 e];rfl)
   rwa [hL0] at this |-
  obtain ⟨v4,W4,⟨a4,n4,k4,rfl⟩,r4,c4,z4,H4⟩:=hc0.o;have HF':=H4;rw [hL0] at cp0 cp3
  have hcase:ao=none\/∃g,ao=some ⟨g,0,none⟩:=by
   rcases h.row.2 with ⟨h1,_⟩ | ⟨g',cap',cur,hv,_⟩
   ·simp only [Value.slice.injEq] at h1;exact .inl h1.1
   simp only [Value.slice.injEq] at hv;exact .inr ⟨g',hv.1⟩
  clear HF HI3 H4 hc0 hL0 h0 hlt hlc h
  rcases hcase with rfl | ⟨g,rfl⟩
  ·obtain rfl:cap=0:=hnc.1 rfl;rw [if_pos rfl] at r4;clear hnc;exact ka7
  clear hnc;by_cases hc1:cap=0
  ·subst hc1;rw [if_pos rfl] at r4;exact ka7
  rw [if_neg hc1] at r4;exact ka7
 have ho:o=0:=by
  rcases h.row.2 with ⟨h1,_⟩ | ⟨g',cap',cur,hv,_⟩
  ·rw [hao] at h1;simp at h1
  rw [hao] at hv;simp only [Value.slice.injEq,Option.some.injEq,Addr.mk.injEq,and_true] at hv;exact hv.1.2
 subst hao ho;clear h hlt hnc;by_cases hck:cap=k
 ·subst hck;have hd0:L.drop cap= []:=Zk zo;obtain ⟨v4,W4,⟨a4,n4,k4,rfl⟩,r4,c4,z4,H4⟩:=HF.o (some ⟨g,0,none⟩) 0 (.inl hd0) (fun e=>qt);have HF':=H4;clear HF HI3 H4 hd0;have hz:L.length - cap=0:=zo;rw [hz] at r4;clear hz;exact ka7
 obtain ⟨v4,W4,⟨a4,n4,k4,rfl⟩,r4,c4,z4,H4⟩:=HF.o _ (cap - k) HI3.o.2 (fun e=>qt);have HF':=H4;clear HF HI3 H4;simp only [Zs,Addr.add_lit,vY] at r4;exact ka7
end
section
open Go.RowKit
def Hj (u:Nat):UInt8:=UInt8.ofNat u
theorem ng (u:Nat) (w:World) (h2:u<=255):
  Calls prog 153 #[.int .i64 (u:Int)] w fun e w'=>e= .returned (.string ⟨#[Hj u]⟩)/\Below w.heap.size w w':=by
 have hcv:(convert 221 9 (.slice (some ⟨w.heap.size,0,none⟩) 1 1)).run prog (w.alloc (.cells #[.int .u8 (u:Int)] 5))= .ok (.string ⟨#[Hj u]⟩) (w.alloc (.cells #[.int .u8 (u:Int)] 5)):=by
  refine run_convert_bytes_back (P:=prog) _ 221 9 5 ⟨w.heap.size,0,none⟩ 1 [Hj u] underlying221 underlying5 underlying9 ?_;intro j hj;have hj0:j=0:=yO;subst hj0;simp [go_sem,Addr.add,Hj];omega
 go_enter func153,ntmps153;exact kc0
theorem lJ (x y:List UInt8) (h:x.length+y.length<=9223372036854775807) (w:World):(Op.stringOp .add ⟨x.toArray⟩ ⟨y.toArray⟩).run prog w= .ok (.string ⟨(x++y).toArray⟩) w:=by
 rw [run_string_add_sum w ⟨x.toArray⟩ ⟨y.toArray⟩ (by simpa [ByteArray.size] using h)];congr 2
