import Derived.Test.YtehighgebbdenaaGreatDoorRa39
set_option linter.unusedVariables false
set_option linter.unusedSimpArgs false
set_option maxRecDepth 100000
set_option maxHeartbeats 64000000
namespace Go.Proofs.YtehighgebbdenaaGreatDoor
open Go.Proofs.Tryz
section
open Go Go.RowKit Go.Lib Go.Sort Go.Maps
open scoped Classical
theorem JQ {m i:Nat} {ao:Option Addr} {cap:Nat} {S:List OpX} (w:World) (x:OpX) (T:Int) (h:MRp w m (i:Int) ao cap S) (hsh:Shp ao cap) (hW:WellK S) (hst:S.Pairwise (fun a b=>CLt (stO a) (stO b))) (hi:i<4) (hT:eu S=T) (hT0:0<=T) (hn:S.length<=140) (hs1:x.2.2.2.2.2.2.1.size<=1000000) (hs2:x.2.2.2.2.2.2.2.size<=1000000) (hk:kdO x=105/\x.2.2.2.2.2.2.2.size=0) (ho:aJ x<=9223372036854775807):
  Calls prog 15 #[.pointer (some ⟨m,0,none⟩),aD x] w (MkO w S T i (ae S i) x):=by
 obtain ⟨xt,xb,xn,xk,xd,xo,xs,xv⟩:=x;dsimp only at hs1 hs2;have HK_:=Lib.hid hk;clear hk;have ho:xo<=9223372036854775807:=ho;have hnd:S.Nodup:=hst.imp (fun {a b} q e=>yu);obtain ⟨S0,hS0⟩:=ze w.heap.size;obtain ⟨U,hU⟩:=ze ((w.alloc (.cells #[.int .i64 xt,.int .i64 xb,.int .i64 xn,.int .u8 (xk:Int),.int .i64 xd,.int .i64 xo,.string xs,.string xv] 38)).alloc (.cells #[.int .i64 0,.int .i64 0,.int .i64 0,.int .u8 0,.int .i64 0,.int .i64 0,.string ⟨#[]⟩,.string ⟨#[]⟩] 38))
 have HF:Aside (MkF w S0 (xt,xb,xn,xk,xd,xo,xs,xv) U):=by
  exact ka6
 have H0:Aside (MRp w m (i:Int) ao cap S/\WellK S/\Shp ao cap/\eu S=T/\S.Nodup/\0<=T):=⟨h,hW,hsh,hT,hnd,hT0⟩
 have HPM:Aside (ax (ai S)):=cD hst;obtain ⟨zk,hzk⟩:=ze (bT S xd);obtain ⟨zp,hzp⟩:=ze (kP S xo)
 have HKN:Aside (∀W,MkF w S0 (xt,xb,xn,xk,xd,xo,xs,xv) W->Calls prog 61 #[.pointer (some ⟨m,0,none⟩),.int .i64 xd] W fun e w'=>e= .returned (.bool zk)/\Aside (Below W.heap.size W w')):=by
  exact kd5
 have HPL:Aside (∀W,MkF w S0 (xt,xb,xn,xk,xd,xo,xs,xv) W->Calls prog 62 #[.pointer (some ⟨m,0,none⟩),.int .i64 xo] W fun e w'=>e= .returned (.bool zp)/\Aside (Below W.heap.size W w')):=by
  exact kd6
 have HLN:Aside (∀W,MkF w S0 (xt,xb,xn,xk,xd,xo,xs,xv) W->Calls prog 70 #[.slice ao S.length cap,.int .i64 xd] W fun e w'=>∃p v M base,e= .returned (.pointer (some ⟨p,0,none⟩))/\Aside (RefAt base w' p v M/\LineIs S xd (M.map fX)/\M.length<=400/\Below W.heap.size W w')):=by
  exact kc4
 have HND:Aside (zk=true->xd≠0):=by
  exact ke3
 clear h hsh hW hst hT hT0 hnd;unfold aD;dsimp only;go_enter func15,ntmps15;go_upto_region 1 with fail;rw [<-hU.o,<-hS0.o];clear hU;obtain ⟨y0,y1,y2,y3,y4,y5,y6,y7,yf⟩:=HF.o.x.cells;dsimp only at y0 y1 y2 y3 y4 y5 y6 y7;have hk:=HK_.o;have k2:xk=105:=hk.1;have k1:xk≠109:=zo;have kv0:xv.size=0:=hk.2;have d1:((xk:Int)==109)=false:=zr;have d1n:(xk==109)=false:=zr;have d2:((xk:Int)==105)=true:=zr;have d2n:(xk==105)=true:=zr;have HKK:=Lib.hid k2;clear k1 k2 hk;have he:=fG kv0
 have HLT:Aside ((⟨#[0]⟩:ByteArray)=⟨#[chO xv]⟩):=by
  show (⟨#[0]⟩:ByteArray)=_
  rw [AR kv0]
 clear kv0;go_upto_region 13 with fail;clear y0 y1 y2 y3 y4 y5 y6 y7 yf;have HW0:Aside (MkF w S0 (xt,xb,xn,xk,xd,xo,xs,xv) U.drew):=HF.o.later ((vP _ U).drew);refine aO (S:=(fun w'=>OpBlk w' S0 (xt,xb,xn,xk,xd,xo,xs,xv)/\Below w.heap.size w w')) zq ⟨HW0.o.x,HW0.o.b⟩ (fun hHeld=> ?_);refine tk 0 hHeld ?_;refine tk 1 hHeld ?_;refine tk 2 hHeld ?_;refine tk 3 hHeld ?_ (hy:=Or.inl ⟨zA,zT⟩);refine tk 4 hHeld ?_;refine tk 5 hHeld ?_ (hy:=Or.inl ⟨zA,zt⟩);refine aY (i:=6) zq rfl (fun K hK=> ?_);go_simp;refine (HLN.o U.drew HW0.o).mono ?_;rintro e w1 ⟨p1,v1,M,base,rfl,H1⟩;have HW1:Aside (MkF w S0 (xt,xb,xn,xk,xd,xo,xs,xv) w1):=HW0.o.later H1.o.2.2.2;refine hK _ _ ⟨HW1.o.x,HW1.o.b⟩ ?_;clear hK K;refine qn ?_;refine aY (i:=7) zq rfl (fun K hK=> ?_);go_simp;refine (iG w1 base p1 v1 M H1.o.1 xV).mono ?_;rintro e w2 ⟨vs,rfl,hrow,hb2⟩;obtain ⟨sa,sc,rfl⟩:=bI hrow
 have HSN:Aside (LetsIn w2 sa (aK M)/\LineIs S xd (M.map fX)):=⟨fB hrow,H1.o.2.1⟩
 have HW2:Aside (MkF w S0 (xt,xb,xn,xk,xd,xo,xs,xv) w2):=HW1.o.later hb2;refine hK _ _ ⟨HW2.o.x,HW2.o.b⟩ ?_;clear hK K;refine qn ?_;clear hrow hb2;refine tk 8 ⟨HW2.o.x,HW2.o.b⟩ ?_;refine wpAnyH_done zq ?_ _;refine qn ?_;obtain ⟨zi,hzi⟩:=ze ((zk &&(decide (0<=xo) &&decide (xo<=((aK M).length:Int)))));obtain ⟨bh,hbh⟩:=ze (AD (zi &&decide (0<xo)) M (xo - 1))
 have HWA:Aside (WriteAt S xd xo (bh,zi)):=by
  exact ks2
 obtain ⟨y0,y1,y2,y3,y4,y5,y6,y7,yf⟩:=HW2.o.x.cells;dsimp only at y0 y1 y2 y3 y4 y5 y6 y7;go_upto_region 14 with fail;go_cut [10] (fun s10 wx=>s10= .bool zi/\Aside (Below w2.heap.size w2 wx))
 case first=>
  go_wp2_with fail;refine (HKN.o w2 HW2.o).mono ?_;rintro e w3 ⟨rfl,hb3⟩;clear y0 y1 y2 y3 y4 y5 y6 y7 yf;obtain ⟨y0,y1,y2,y3,y4,y5,y6,y7,yf⟩:=(HW2.o.later hb3.o).x.cells;dsimp only at y0 y1 y2 y3 y4 y5 y6 y7
  cases zk with
  | false=>
   exact kn4
  | true=>
   by_cases h0:0<=xo
   ·have e0:decide (0<=xo)=true:=decide_eq_true h0;by_cases h1:xo<=((aK M).length:Int)
    ·have e1:decide (xo<=((aK M).length:Int))=true:=decide_eq_true h1;exact ke2
    have e1:decide (xo<=((aK M).length:Int))=false:=decide_eq_false h1;exact ke2
   exact kh2
 obtain ⟨rfl,HB7⟩:=hcut;obtain ⟨W7,hW7⟩:=zc wc;subst hW7;have HW7:Aside (MkF w S0 (xt,xb,xn,xk,xd,xo,xs,xv) W7):=HW2.o.later HB7.o;have HSN7:Aside (LetsIn W7 sa (aK M)):=HSN.o.1.later HB7.o
 have HNZ:Aside (zi=true->xd≠0):=fun q=>HND.o qo
 clear y0 y1 y2 y3 y4 y5 y6 y7 yf HND;have HND:=HNZ;obtain ⟨y0,y1,y2,y3,y4,y5,y6,y7,yf⟩:=HW7.o.x.cells;dsimp only at y0 y1 y2 y3 y4 y5 y6 y7;go_upto_region 16 with fail;go_cut [118] (fun s118 wx=>s118= .bool (zi &&decide (0<xo))/\wx=W7)
 case first=>
  cases zi with
  | false=>
   go_wp2;go_meet;exact km8
  | true=>
   by_cases h0:0<xo
   ·have e0:decide (0<xo)=true:=decide_eq_true h0;exact kj1
   have e0:decide (0<xo)=false:=decide_eq_false h0;exact kj1
 obtain ⟨rfl,rfl⟩:=hcut;obtain ⟨W7,hW7⟩:=zc wc;subst hW7;obtain ⟨z16,hz16⟩:=ze ((zi &&decide (0<xo)));rw [<-hz16.o];go_upto_if 118 with fail;go_cut [11] (fun s11 wx=>s11= .int .i64 bh/\wx=W7)
 case first=>
  cases z16 with
  | false=>
   exact kl3
  | true=>
   exact kb0
 obtain ⟨rfl,rfl⟩:=hcut;obtain ⟨W7,hW7⟩:=zc wc;subst hW7
 obtain ⟨⟨⟨yt,yb,yn,yk,yd,yo,ys,yv⟩,cd⟩,hya⟩:∃a,Aside (a=fY zi (bN T i (ae S i) 105 xd bh ⟨#[]⟩ ⟨#[0]⟩)):=⟨_,rfl⟩
 have HNX:Aside (∀W,MkF w S0 (xt,xb,xn,xk,xd,xo,xs,xv) W->Calls prog 69 #[.pointer (some ⟨m,0,none⟩),.bool zi,.agg #[.int .i64 0,.int .i64 0,.int .i64 0,.int .u8 (105:Int),.int .i64 xd,.int .i64 bh,.string ⟨#[]⟩,(.string ⟨#[0]⟩)]] W fun e w'=>e= .returned (.tuple #[aD (yt,yb,yn,yk,yd,yo,ys,yv),.int .i64 (cd:Int)])/\Aside (Below W.heap.size W w')):=by
  intro W hW;have hx:=fb W zi 105 xd bh T ⟨#[]⟩ ⟨#[0]⟩ (H0.o.1.later hW.b) H0.o.2.1.ok hi H0.o.2.2.2.1 H0.o.2.2.2.2.2 zo (fun q e=>absurd e (HND.o q)) zX zX;exact kh5
 go_wp2_with fail;refine (HNX.o W7 HW7.o).mono ?_;clear y0 y1 y2 y3 y4 y5 y6 y7 yf;rintro e w8 ⟨rfl,hb8⟩;have HW8:Aside (MkF w S0 (xt,xb,xn,xk,xd,xo,xs,xv) w8):=HW7.o.later hb8.o;clear hb8;unfold aD;dsimp only;obtain ⟨z0,z1,z2,z3,z4,z5,z6,z7,zf⟩:=OpBlk.cells HW8.o.z;unfold aV at z0 z1 z2 z3 z4 z5 z6 z7;dsimp only at z0 z1 z2 z3 z4 z5 z6 z7;go_wp2;(try simp only [Exit.inBlock,Exit.then]);refine bodyPost_ret (v:=.tuple #[aD (yt,yb,yn,yk,yd,yo,ys,yv),.int .i64 (cd:Int)]) ?_ rfl ⟨((yt,yb,yn,yk,yd,yo,ys,yv),cd),rfl,?_,.inr (.inr (.inl ⟨HKK.o,(bh,zi),HWA.o,by rw [hya.o,<-HLT.o]⟩))⟩
 ·exact ke5
 exact kj0
end
section
open Go Go.RowKit Go.Lib Go.Sort Go.Maps
open scoped Classical
theorem Iq {m i:Nat} {ao:Option Addr} {cap:Nat} {S:List OpX} (w:World) (x:OpX) (T:Int) (h:MRp w m (i:Int) ao cap S) (hsh:Shp ao cap) (hW:WellK S) (hst:S.Pairwise (fun a b=>CLt (stO a) (stO b))) (hi:i<4) (hT:eu S=T) (hT0:0<=T) (hn:S.length<=140) (hs1:x.2.2.2.2.2.2.1.size<=1000000) (hs2:x.2.2.2.2.2.2.2.size<=1000000) (hk:kdO x=100) (ho:aJ x<=9223372036854775807):
  Calls prog 15 #[.pointer (some ⟨m,0,none⟩),aD x] w (MkO w S T i (ae S i) x):=by
 obtain ⟨xt,xb,xn,xk,xd,xo,xs,xv⟩:=x;dsimp only at hs1 hs2;have HK_:=Lib.hid hk;clear hk;have ho:xo<=9223372036854775807:=ho;have hnd:S.Nodup:=hst.imp (fun {a b} q e=>yu);obtain ⟨S0,hS0⟩:=ze w.heap.size;obtain ⟨U,hU⟩:=ze ((w.alloc (.cells #[.int .i64 xt,.int .i64 xb,.int .i64 xn,.int .u8 (xk:Int),.int .i64 xd,.int .i64 xo,.string xs,.string xv] 38)).alloc (.cells #[.int .i64 0,.int .i64 0,.int .i64 0,.int .u8 0,.int .i64 0,.int .i64 0,.string ⟨#[]⟩,.string ⟨#[]⟩] 38))
 have HF:Aside (MkF w S0 (xt,xb,xn,xk,xd,xo,xs,xv) U):=by
  exact ka6
 have H0:Aside (MRp w m (i:Int) ao cap S/\WellK S/\Shp ao cap/\eu S=T/\S.Nodup/\0<=T):=⟨h,hW,hsh,hT,hnd,hT0⟩
 have HPM:Aside (ax (ai S)):=cD hst;obtain ⟨zk,hzk⟩:=ze (bT S xd);obtain ⟨zp,hzp⟩:=ze (kP S xo)
 have HKN:Aside (∀W,MkF w S0 (xt,xb,xn,xk,xd,xo,xs,xv) W->Calls prog 61 #[.pointer (some ⟨m,0,none⟩),.int .i64 xd] W fun e w'=>e= .returned (.bool zk)/\Aside (Below W.heap.size W w')):=by
  exact kd5
 have HPL:Aside (∀W,MkF w S0 (xt,xb,xn,xk,xd,xo,xs,xv) W->Calls prog 62 #[.pointer (some ⟨m,0,none⟩),.int .i64 xo] W fun e w'=>e= .returned (.bool zp)/\Aside (Below W.heap.size W w')):=by
  exact kd6
 have HLN:Aside (∀W,MkF w S0 (xt,xb,xn,xk,xd,xo,xs,xv) W->Calls prog 70 #[.slice ao S.length cap,.int .i64 xd] W fun e w'=>∃p v M base,e= .returned (.pointer (some ⟨p,0,none⟩))/\Aside (RefAt base w' p v M/\LineIs S xd (M.map fX)/\M.length<=400/\Below W.heap.size W w')):=by
  exact kc4
 have HND:Aside (zk=true->xd≠0):=by
  exact ke3
 clear h hsh hW hst hT hT0 hnd;unfold aD;dsimp only;go_enter func15,ntmps15;go_upto_region 1 with fail;rw [<-hU.o,<-hS0.o];clear hU;obtain ⟨y0,y1,y2,y3,y4,y5,y6,y7,yf⟩:=HF.o.x.cells;dsimp only at y0 y1 y2 y3 y4 y5 y6 y7;have hk:=HK_.o;have k3:xk=100:=hk;have k1:xk≠109:=zo;have k2:xk≠105:=zo;have d1:((xk:Int)==109)=false:=zr;have d1n:(xk==109)=false:=zr;have d2:((xk:Int)==105)=false:=zr;have d2n:(xk==105)=false:=zr;have d3:((xk:Int)==100)=true:=zr;have d3n:(xk==100)=true:=zr;have HKK:=Lib.hid k3;clear k1 k2 k3 hk;go_upto_region 20 with fail;clear y0 y1 y2 y3 y4 y5 y6 y7 yf;have HW0:Aside (MkF w S0 (xt,xb,xn,xk,xd,xo,xs,xv) U.drew):=HF.o.later ((vP _ U).drew);refine aO (S:=(fun w'=>OpBlk w' S0 (xt,xb,xn,xk,xd,xo,xs,xv)/\Below w.heap.size w w')) zq ⟨HW0.o.x,HW0.o.b⟩ (fun hHeld=> ?_);refine tk 0 hHeld ?_;refine tk 1 hHeld ?_;refine tk 2 hHeld ?_;refine tk 3 hHeld ?_ (hy:=Or.inl ⟨zA,zT⟩);refine tk 4 hHeld ?_;refine tk 5 hHeld ?_ (hy:=Or.inl ⟨zA,zt⟩);refine aY (i:=6) zq rfl (fun K hK=> ?_);go_simp;refine (HLN.o U.drew HW0.o).mono ?_;rintro e w1 ⟨p1,v1,M,base,rfl,H1⟩;have HW1:Aside (MkF w S0 (xt,xb,xn,xk,xd,xo,xs,xv) w1):=HW0.o.later H1.o.2.2.2;refine hK _ _ ⟨HW1.o.x,HW1.o.b⟩ ?_;clear hK K;refine qn ?_;refine aY (i:=7) zq rfl (fun K hK=> ?_);go_simp;refine (iG w1 base p1 v1 M H1.o.1 xV).mono ?_;rintro e w2 ⟨vs,rfl,hrow,hb2⟩;obtain ⟨sa,sc,rfl⟩:=bI hrow
 have HSN:Aside (LetsIn w2 sa (aK M)/\LineIs S xd (M.map fX)):=⟨fB hrow,H1.o.2.1⟩
 have HW2:Aside (MkF w S0 (xt,xb,xn,xk,xd,xo,xs,xv) w2):=HW1.o.later hb2;refine hK _ _ ⟨HW2.o.x,HW2.o.b⟩ ?_;clear hK K;refine qn ?_;clear hrow hb2;refine tk 8 ⟨HW2.o.x,HW2.o.b⟩ ?_;refine wpAnyH_done zq ?_ _;refine qn ?_;obtain ⟨zi,hzi⟩:=ze ((zk &&(decide (0<=xo) &&decide (xo<((aK M).length:Int)))));obtain ⟨bh,hbh⟩:=ze (AD zi M xo)
 have HWA:Aside (EraseAt S xd xo (bh,zi)):=by
  rw [hbh.o];exact FJ HSN.o.2 (by rw [<-hzk.o];exact hzi.o)
 obtain ⟨y0,y1,y2,y3,y4,y5,y6,y7,yf⟩:=HW2.o.x.cells;dsimp only at y0 y1 y2 y3 y4 y5 y6 y7;go_upto_region 21 with fail;go_cut [13] (fun s13 wx=>s13= .bool zi/\Aside (Below w2.heap.size w2 wx))
 case first=>
  go_wp2_with fail;refine (HKN.o w2 HW2.o).mono ?_;rintro e w3 ⟨rfl,hb3⟩;clear y0 y1 y2 y3 y4 y5 y6 y7 yf;obtain ⟨y0,y1,y2,y3,y4,y5,y6,y7,yf⟩:=(HW2.o.later hb3.o).x.cells;dsimp only at y0 y1 y2 y3 y4 y5 y6 y7
  cases zk with
  | false=>
   exact kn4
  | true=>
   by_cases h0:0<=xo
   ·have e0:decide (0<=xo)=true:=decide_eq_true h0;by_cases h1:xo<((aK M).length:Int)
    ·have e1:decide (xo<((aK M).length:Int))=true:=decide_eq_true h1;exact ke2
    have e1:decide (xo<((aK M).length:Int))=false:=decide_eq_false h1;exact ke2
   exact kh2
 obtain ⟨rfl,HB7⟩:=hcut;obtain ⟨W7,hW7⟩:=zc wc;subst hW7;have HW7:Aside (MkF w S0 (xt,xb,xn,xk,xd,xo,xs,xv) W7):=HW2.o.later HB7.o;have HSN7:Aside (LetsIn W7 sa (aK M)):=HSN.o.1.later HB7.o
 have HNZ:Aside (zi=true->xd≠0):=fun q=>HND.o qo
 clear y0 y1 y2 y3 y4 y5 y6 y7 yf HND;have HND:=HNZ;obtain ⟨y0,y1,y2,y3,y4,y5,y6,y7,yf⟩:=HW7.o.x.cells;dsimp only at y0 y1 y2 y3 y4 y5 y6 y7;go_upto_if 162 with fail;go_cut [14] (fun s14 wx=>s14= .int .i64 bh/\wx=W7)
 case first=>
  cases zi with
  | false=>
   have HB0:Aside (bh=0):=by
    show bh=0
    rw [hbh.o];rfl
   go_wp2;go_meet;exact ⟨by rw [HB0.o],rfl⟩
  | true=>
   have hz:=hzi.o.symm;rw [uB,uB,decide_eq_true_eq,decide_eq_true_eq] at hz
   obtain ⟨j,hj⟩:∃j:Nat,xo=(j:Int):=⟨xo.toNat,zo⟩
   have hjl:j<(aK M).length:=zo
   obtain ⟨⟨la,lc,lg⟩,hla⟩:∃l,(aK M)[j]? =some l:=⟨_,vN hjl⟩
   have HBH:Aside (bh=la):=by
    show bh=la
    rw [hbh.o];unfold AD;rw [if_pos rfl,show xo.toNat=j by omega,hla];rfl
   obtain ⟨g1,o1,e1,l0,l1,l2⟩:=HSN7.o.at hla;subst e1
   have hoj:W7.cell? ⟨S0,5,none⟩=some (.int .i64 (j:Int)):=by rw [<-hj];exact y5
   have wj:((j:Int)).toNat=j:=zo;have pj:(0:Int)<=(j:Int):=zo;have bj:(j:Int)<((aK M).length:Int):=zo;clear hz hj hla hjl y5;go_wp2;go_meet;exact ⟨by rw [HBH.o],rfl⟩
 obtain ⟨rfl,rfl⟩:=hcut;obtain ⟨W7,hW7⟩:=zc wc;subst hW7
 obtain ⟨⟨⟨yt,yb,yn,yk,yd,yo,ys,yv⟩,cd⟩,hya⟩:∃a,Aside (a=fY zi (bN T i (ae S i) 100 xd bh ⟨#[]⟩ ⟨#[]⟩)):=⟨_,rfl⟩
 have HNX:Aside (∀W,MkF w S0 (xt,xb,xn,xk,xd,xo,xs,xv) W->Calls prog 69 #[.pointer (some ⟨m,0,none⟩),.bool zi,.agg #[.int .i64 0,.int .i64 0,.int .i64 0,.int .u8 (100:Int),.int .i64 xd,.int .i64 bh,.string ⟨#[]⟩,.string ⟨#[]⟩]] W fun e w'=>e= .returned (.tuple #[aD (yt,yb,yn,yk,yd,yo,ys,yv),.int .i64 (cd:Int)])/\Aside (Below W.heap.size W w')):=by
  intro W hW;have hx:=fb W zi 100 xd bh T ⟨#[]⟩ ⟨#[]⟩ (H0.o.1.later hW.b) H0.o.2.1.ok hi H0.o.2.2.2.1 H0.o.2.2.2.2.2 zo (fun q e=>absurd e (HND.o q)) zX zX;exact kh5
 go_wp2_with fail;refine (HNX.o W7 HW7.o).mono ?_;clear y0 y1 y2 y3 y4 y5 y6 y7 yf;rintro e w8 ⟨rfl,hb8⟩;have HW8:Aside (MkF w S0 (xt,xb,xn,xk,xd,xo,xs,xv) w8):=HW7.o.later hb8.o;clear hb8;unfold aD;dsimp only;obtain ⟨z0,z1,z2,z3,z4,z5,z6,z7,zf⟩:=OpBlk.cells HW8.o.z;unfold aV at z0 z1 z2 z3 z4 z5 z6 z7;dsimp only at z0 z1 z2 z3 z4 z5 z6 z7;go_wp2;(try simp only [Exit.inBlock,Exit.then]);refine bodyPost_ret (v:=.tuple #[aD (yt,yb,yn,yk,yd,yo,ys,yv),.int .i64 (cd:Int)]) ?_ rfl ⟨((yt,yb,yn,yk,yd,yo,ys,yv),cd),rfl,?_,.inr (.inr (.inr (.inl ⟨HKK.o,(bh,zi),HWA.o,hya.o⟩)))⟩
 ·exact ke5
 exact kj0
end
section
open Go Go.RowKit Go.Lib Go.Sort Go.Maps
open scoped Classical
theorem Jk {m i:Nat} {ao:Option Addr} {cap:Nat} {S:List OpX} (w:World) (x:OpX) (T:Int) (h:MRp w m (i:Int) ao cap S) (hsh:Shp ao cap) (hW:WellK S) (hst:S.Pairwise (fun a b=>CLt (stO a) (stO b))) (hi:i<4) (hT:eu S=T) (hT0:0<=T) (hn:S.length<=140) (hs1:x.2.2.2.2.2.2.1.size<=1000000) (hs2:x.2.2.2.2.2.2.2.size<=1000000) (hk:kdO x=115) (ho:aJ x<=9223372036854775807):
  Calls prog 15 #[.pointer (some ⟨m,0,none⟩),aD x] w (MkO w S T i (ae S i) x):=by
 obtain ⟨xt,xb,xn,xk,xd,xo,xs,xv⟩:=x;dsimp only at hs1 hs2;have HK_:=Lib.hid hk;clear hk;have ho:xo<=9223372036854775807:=ho;have hnd:S.Nodup:=hst.imp (fun {a b} q e=>yu);obtain ⟨S0,hS0⟩:=ze w.heap.size;obtain ⟨U,hU⟩:=ze ((w.alloc (.cells #[.int .i64 xt,.int .i64 xb,.int .i64 xn,.int .u8 (xk:Int),.int .i64 xd,.int .i64 xo,.string xs,.string xv] 38)).alloc (.cells #[.int .i64 0,.int .i64 0,.int .i64 0,.int .u8 0,.int .i64 0,.int .i64 0,.string ⟨#[]⟩,.string ⟨#[]⟩] 38))
 have HF:Aside (MkF w S0 (xt,xb,xn,xk,xd,xo,xs,xv) U):=by
  exact ka6
 have H0:Aside (MRp w m (i:Int) ao cap S/\WellK S/\Shp ao cap/\eu S=T/\S.Nodup/\0<=T):=⟨h,hW,hsh,hT,hnd,hT0⟩
 have HPM:Aside (ax (ai S)):=cD hst;obtain ⟨zk,hzk⟩:=ze (bT S xd);obtain ⟨zp,hzp⟩:=ze (kP S xo)
 have HKN:Aside (∀W,MkF w S0 (xt,xb,xn,xk,xd,xo,xs,xv) W->Calls prog 61 #[.pointer (some ⟨m,0,none⟩),.int .i64 xd] W fun e w'=>e= .returned (.bool zk)/\Aside (Below W.heap.size W w')):=by
  exact kd5
 have HPL:Aside (∀W,MkF w S0 (xt,xb,xn,xk,xd,xo,xs,xv) W->Calls prog 62 #[.pointer (some ⟨m,0,none⟩),.int .i64 xo] W fun e w'=>e= .returned (.bool zp)/\Aside (Below W.heap.size W w')):=by
  exact kd6
 have HLN:Aside (∀W,MkF w S0 (xt,xb,xn,xk,xd,xo,xs,xv) W->Calls prog 70 #[.slice ao S.length cap,.int .i64 xd] W fun e w'=>∃p v M base,e= .returned (.pointer (some ⟨p,0,none⟩))/\Aside (RefAt base w' p v M/\LineIs S xd (M.map fX)/\M.length<=400/\Below W.heap.size W w')):=by
  exact kc4
 have HND:Aside (zk=true->xd≠0):=by
  exact ke3
 clear h hsh hW hst hT hT0 hnd;unfold aD;dsimp only;go_enter func15,ntmps15;go_upto_region 1 with fail;rw [<-hU.o,<-hS0.o];clear hU;obtain ⟨y0,y1,y2,y3,y4,y5,y6,y7,yf⟩:=HF.o.x.cells;dsimp only at y0 y1 y2 y3 y4 y5 y6 y7;have hk:=HK_.o;have k4:xk=115:=hk;have k1:xk≠109:=zo;have k2:xk≠105:=zo;have k3:xk≠100:=zo;have d1:((xk:Int)==109)=false:=zr;have d1n:(xk==109)=false:=zr;have d2:((xk:Int)==105)=false:=zr;have d2n:(xk==105)=false:=zr;have d3:((xk:Int)==100)=false:=zr;have d3n:(xk==100)=false:=zr;have d4:((xk:Int)==115)=true:=zr;have d4n:(xk==115)=true:=zr;have HKK:=Lib.hid (And.intro k1 (And.intro k2 k3));clear k1 k2 k3 hk
 obtain ⟨⟨⟨yt,yb,yn,yk,yd,yo,ys,yv⟩,cd⟩,hya⟩:∃a,Aside (a=fY zk (bN T i (ae S i) 115 xd 0 xs xv)):=⟨_,rfl⟩
 have HNX:Aside (∀W,MkF w S0 (xt,xb,xn,xk,xd,xo,xs,xv) W->Calls prog 69 #[.pointer (some ⟨m,0,none⟩),.bool zk,.agg #[.int .i64 0,.int .i64 0,.int .i64 0,.int .u8 (115:Int),.int .i64 xd,.int .i64 0,.string xs,.string xv]] W fun e w'=>e= .returned (.tuple #[aD (yt,yb,yn,yk,yd,yo,ys,yv),.int .i64 (cd:Int)])/\Aside (Below W.heap.size W w')):=by
  intro W hW;have hx:=fb W zk 115 xd 0 T xs xv (H0.o.1.later hW.b) H0.o.2.1.ok hi H0.o.2.2.2.1 H0.o.2.2.2.2.2 zo (fun q e=>absurd e (HND.o q)) zX zX;exact kh5
 go_upto_region 27 with fail;clear y0 y1 y2 y3 y4 y5 y6 y7 yf;have HW0:Aside (MkF w S0 (xt,xb,xn,xk,xd,xo,xs,xv) U.drew):=HF.o.later ((vP _ U).drew);refine aO (S:=(fun w'=>OpBlk w' S0 (xt,xb,xn,xk,xd,xo,xs,xv)/\Below w.heap.size w w')) zq ⟨HW0.o.x,HW0.o.b⟩ (fun hHeld=> ?_);refine tk 0 hHeld ?_;refine tk 1 hHeld ?_;refine tk 2 hHeld ?_;refine tk 3 hHeld ?_ (hy:=Or.inl ⟨zA,zt⟩);refine tk 5 hHeld ?_;refine tk 6 hHeld ?_ (hy:=Or.inl ⟨zA,zt⟩);refine tk 7 hHeld ?_;refine tk 8 hHeld ?_ (hy:=Or.inl ⟨zA,zt⟩);refine tk 9 hHeld ?_;refine tk 10 hHeld ?_ (hy:=Or.inl ⟨zA,zt⟩);refine tk 11 hHeld ?_;refine aY (i:=4) zq rfl (fun K hK=> ?_);go_simp;refine (HKN.o U.drew HW0.o).mono ?_;rintro e w1 ⟨rfl,hb_w1⟩;have HW1:Aside (MkF w S0 (xt,xb,xn,xk,xd,xo,xs,xv) w1):=HW0.o.later hb_w1.o;refine hK _ _ ⟨HW1.o.x,HW1.o.b⟩ ?_;clear hK K;refine qn ?_;refine aY (i:=12) zq rfl (fun K hK=> ?_);go_simp;refine (HNX.o w1 HW1.o).mono ?_;rintro e w2 ⟨rfl,hb_w2⟩;have HW2:Aside (MkF w S0 (xt,xb,xn,xk,xd,xo,xs,xv) w2):=HW1.o.later hb_w2.o;refine hK _ _ ⟨HW2.o.x,HW2.o.b⟩ ?_;clear hK K;refine qn ?_;unfold aD;dsimp only;refine qn ?_;refine tk 13 ⟨HW2.o.x,HW2.o.b⟩ ?_;refine tk 14 ⟨HW2.o.x,HW2.o.b⟩ ?_;obtain ⟨z0,z1,z2,z3,z4,z5,z6,z7,zf'⟩:=OpBlk.cells (HW2.o.z);unfold aV at z0 z1 z2 z3 z4 z5 z6 z7;dsimp only at z0 z1 z2 z3 z4 z5 z6 z7;obtain ⟨Z,hZ⟩:=ze (w2.setCells (S0+1) 0 (au (yt,yb,yn,yk,yd,yo,ys,yv)))
 have HZ:Aside (OpBlk Z S0 (xt,xb,xn,xk,xd,xo,xs,xv)/\Below w.heap.size w Z/\OpBlk Z (S0+1) (yt,yb,yn,yk,yd,yo,ys,yv)):=by
  exact kg6
 refine aY (i:=15) zq rfl (fun K hK=> ?_);go_simp;refine hK _ _ (show (fun w'=>OpBlk w' S0 (xt,xb,xn,xk,xd,xo,xs,xv)/\Below w.heap.size w w') (w2.setCells (S0+1) 0 (au (yt,yb,yn,yk,yd,yo,ys,yv))) from by rw [<-hZ.o];exact ⟨HZ.o.1,HZ.o.2.1⟩) ?_;clear hK K z0 z1 z2 z3 z4 z5 z6 z7 zf';have eZ:w2.setCells (S0+1) 0 (au (yt,yb,yn,yk,yd,yo,ys,yv))=Z:=hZ.o.symm;unfold World.setCells au at eZ
 try simp only [World.setCells] at eZ
 try rw [eZ]
 refine qn ?_;refine tk 16 ⟨HZ.o.1,HZ.o.2.1⟩ ?_;refine wpAnyH_done zq ?_ _;refine qn ?_;clear eZ;obtain ⟨y0,y1,y2,y3,y4,y5,y6,y7,yf⟩:=HZ.o.2.2.cells;dsimp only at y0 y1 y2 y3 y4 y5 y6 y7;go_wp2;(try simp only [Exit.inBlock,Exit.then]);refine bodyPost_ret (v:=.tuple #[aD (yt,yb,yn,yk,yd,yo,ys,yv),.int .i64 (cd:Int)]) ?_ rfl ⟨((yt,yb,yn,yk,yd,yo,ys,yv),cd),rfl,HZ.o.2.1,.inr (.inr (.inr (.inr ⟨HKK.o.1,HKK.o.2.1,HKK.o.2.2,by rw [hya.o,hzk.o]⟩)))⟩;exact ke5
