import Derived.Test.YtehighgebbdenaaGreatDoorRa39
set_option linter.unusedVariables false
set_option linter.unusedSimpArgs false
set_option maxRecDepth 100000
set_option maxHeartbeats 64000000
namespace Go.Proofs.YtehighgebbdenaaGreatDoor
open Go.Proofs.Tryz
section
open Go Go.RowKit Go.Lib Go.Sort Go.Maps
open scoped Classical
theorem JN {m i:Nat} {ao:Option Addr} {cap:Nat} {S:List OpX} (w:World) (x:OpX) (T:Int) (h:MRp w m (i:Int) ao cap S) (hsh:Shp ao cap) (hW:WellK S) (hst:S.Pairwise (fun a b=>CLt (stO a) (stO b))) (hi:i<4) (hT:eu S=T) (hT0:0<=T) (hn:S.length<=140) (hs1:x.2.2.2.2.2.2.1.size<=1000000) (hs2:x.2.2.2.2.2.2.2.size<=1000000) (hk:kdO x=109/\aL x=0) (ho:aJ x<=9223372036854775807):
  Calls prog 15 #[.pointer (some ⟨m,0,none⟩),aD x] w (MkO w S T i (ae S i) x):=by
 obtain ⟨xt,xb,xn,xk,xd,xo,xs,xv⟩:=x;dsimp only at hs1 hs2;have HK_:=Lib.hid hk;clear hk;have ho:xo<=9223372036854775807:=ho;have hnd:S.Nodup:=hst.imp (fun {a b} q e=>yu);obtain ⟨S0,hS0⟩:=ze w.heap.size;obtain ⟨U,hU⟩:=ze ((w.alloc (.cells #[.int .i64 xt,.int .i64 xb,.int .i64 xn,.int .u8 (xk:Int),.int .i64 xd,.int .i64 xo,.string xs,.string xv] 38)).alloc (.cells #[.int .i64 0,.int .i64 0,.int .i64 0,.int .u8 0,.int .i64 0,.int .i64 0,.string ⟨#[]⟩,.string ⟨#[]⟩] 38))
 have HF:Aside (MkF w S0 (xt,xb,xn,xk,xd,xo,xs,xv) U):=by
  exact ka6
 have H0:Aside (MRp w m (i:Int) ao cap S/\WellK S/\Shp ao cap/\eu S=T/\S.Nodup/\0<=T):=⟨h,hW,hsh,hT,hnd,hT0⟩
 have HPM:Aside (ax (ai S)):=cD hst;obtain ⟨zk,hzk⟩:=ze (bT S xd);obtain ⟨zp,hzp⟩:=ze (kP S xo)
 have HKN:Aside (∀W,MkF w S0 (xt,xb,xn,xk,xd,xo,xs,xv) W->Calls prog 61 #[.pointer (some ⟨m,0,none⟩),.int .i64 xd] W fun e w'=>e= .returned (.bool zk)/\Aside (Below W.heap.size W w')):=by
  exact kd5
 have HPL:Aside (∀W,MkF w S0 (xt,xb,xn,xk,xd,xo,xs,xv) W->Calls prog 62 #[.pointer (some ⟨m,0,none⟩),.int .i64 xo] W fun e w'=>e= .returned (.bool zp)/\Aside (Below W.heap.size W w')):=by
  exact kd6
 have HLN:Aside (∀W,MkF w S0 (xt,xb,xn,xk,xd,xo,xs,xv) W->Calls prog 70 #[.slice ao S.length cap,.int .i64 xd] W fun e w'=>∃p v M base,e= .returned (.pointer (some ⟨p,0,none⟩))/\Aside (RefAt base w' p v M/\LineIs S xd (M.map fX)/\M.length<=400/\Below W.heap.size W w')):=by
  exact kc4
 have HND:Aside (zk=true->xd≠0):=by
  exact ke3
 clear h hsh hW hst hT hT0 hnd;unfold aD;dsimp only;go_enter func15,ntmps15;go_upto_region 1 with fail;rw [<-hU.o,<-hS0.o];clear hU;obtain ⟨y0,y1,y2,y3,y4,y5,y6,y7,yf⟩:=HF.o.x.cells;dsimp only at y0 y1 y2 y3 y4 y5 y6 y7;have hk:=HK_.o;have k1:xk=109:=hk.1;have k0:xd=0:=hk.2;have d1:((xk:Int)==109)=true:=zr;have d1n:(xk==109)=true:=zr
 have d0:(xd==0)=true:=by simp [k0]
 have HKK:=Lib.hid (And.intro k1 k0);clear k1 k0 hk
 obtain ⟨⟨⟨yt,yb,yn,yk,yd,yo,ys,yv⟩,cd⟩,hya⟩:∃a,Aside (a=fY zp (bN T i (ae S i) 109 0 xo xs ⟨#[]⟩)):=⟨_,rfl⟩
 have HNX:Aside (∀W,MkF w S0 (xt,xb,xn,xk,xd,xo,xs,xv) W->Calls prog 69 #[.pointer (some ⟨m,0,none⟩),.bool zp,.agg #[.int .i64 0,.int .i64 0,.int .i64 0,.int .u8 (109:Int),.int .i64 0,.int .i64 xo,.string xs,.string ⟨#[]⟩]] W fun e w'=>e= .returned (.tuple #[aD (yt,yb,yn,yk,yd,yo,ys,yv),.int .i64 (cd:Int)])/\Aside (Below W.heap.size W w')):=by
  intro W hW;have hx:=fb W zp 109 0 xo T xs ⟨#[]⟩ (H0.o.1.later hW.b) H0.o.2.1.ok hi H0.o.2.2.2.1 H0.o.2.2.2.2.2 zo (fun _ _=>rfl) zX zX;exact kh5
 go_upto_region 4 with fail;clear y0 y1 y2 y3 y4 y5 y6 y7 yf;have HW0:Aside (MkF w S0 (xt,xb,xn,xk,xd,xo,xs,xv) U.drew):=HF.o.later ((vP _ U).drew);refine aO (S:=(fun w'=>OpBlk w' S0 (xt,xb,xn,xk,xd,xo,xs,xv)/\Below w.heap.size w w')) zq ⟨HW0.o.x,HW0.o.b⟩ (fun hHeld=> ?_);refine tk 0 hHeld ?_;refine tk 1 hHeld ?_;refine tk 2 hHeld ?_;refine tk 3 hHeld ?_ (hy:=Or.inl ⟨zA,zt⟩);refine tk 5 hHeld ?_;refine tk 6 hHeld ?_ (hy:=Or.inl ⟨zA,zt⟩);refine tk 7 hHeld ?_;refine tk 8 hHeld ?_ (hy:=Or.inl ⟨zA,zt⟩);refine tk 9 hHeld ?_;refine aY (i:=4) zq rfl (fun K hK=> ?_);go_simp;refine (HPL.o U.drew HW0.o).mono ?_;rintro e w1 ⟨rfl,hb_w1⟩;have HW1:Aside (MkF w S0 (xt,xb,xn,xk,xd,xo,xs,xv) w1):=HW0.o.later hb_w1.o;refine hK _ _ ⟨HW1.o.x,HW1.o.b⟩ ?_;clear hK K;refine qn ?_;refine aY (i:=10) zq rfl (fun K hK=> ?_);go_simp;refine (HNX.o w1 HW1.o).mono ?_;rintro e w2 ⟨rfl,hb_w2⟩;have HW2:Aside (MkF w S0 (xt,xb,xn,xk,xd,xo,xs,xv) w2):=HW1.o.later hb_w2.o;refine hK _ _ ⟨HW2.o.x,HW2.o.b⟩ ?_;clear hK K;refine qn ?_;unfold aD;dsimp only;refine qn ?_;refine tk 11 ⟨HW2.o.x,HW2.o.b⟩ ?_;refine tk 12 ⟨HW2.o.x,HW2.o.b⟩ ?_;obtain ⟨z0,z1,z2,z3,z4,z5,z6,z7,zf'⟩:=OpBlk.cells (HW2.o.z);unfold aV at z0 z1 z2 z3 z4 z5 z6 z7;dsimp only at z0 z1 z2 z3 z4 z5 z6 z7;obtain ⟨Z,hZ⟩:=ze (w2.setCells (S0+1) 0 (au (yt,yb,yn,yk,yd,yo,ys,yv)))
 have HZ:Aside (OpBlk Z S0 (xt,xb,xn,xk,xd,xo,xs,xv)/\Below w.heap.size w Z/\OpBlk Z (S0+1) (yt,yb,yn,yk,yd,yo,ys,yv)):=by
  exact kg6
 refine aY (i:=13) zq rfl (fun K hK=> ?_);go_simp;refine hK _ _ (show (fun w'=>OpBlk w' S0 (xt,xb,xn,xk,xd,xo,xs,xv)/\Below w.heap.size w w') (w2.setCells (S0+1) 0 (au (yt,yb,yn,yk,yd,yo,ys,yv))) from by rw [<-hZ.o];exact ⟨HZ.o.1,HZ.o.2.1⟩) ?_;clear hK K z0 z1 z2 z3 z4 z5 z6 z7 zf';have eZ:w2.setCells (S0+1) 0 (au (yt,yb,yn,yk,yd,yo,ys,yv))=Z:=hZ.o.symm;unfold World.setCells au at eZ
 try simp only [World.setCells] at eZ
 try rw [eZ]
 refine qn ?_;refine tk 14 ⟨HZ.o.1,HZ.o.2.1⟩ ?_;refine wpAnyH_done zq ?_ _;refine qn ?_;clear eZ;obtain ⟨y0,y1,y2,y3,y4,y5,y6,y7,yf⟩:=HZ.o.2.2.cells;dsimp only at y0 y1 y2 y3 y4 y5 y6 y7;go_wp2;(try simp only [Exit.inBlock,Exit.then]);refine bodyPost_ret (v:=.tuple #[aD (yt,yb,yn,yk,yd,yo,ys,yv),.int .i64 (cd:Int)]) ?_ rfl ⟨((yt,yb,yn,yk,yd,yo,ys,yv),cd),rfl,HZ.o.2.1,.inl ⟨HKK.o.1,HKK.o.2,by rw [hya.o,hzp.o]⟩⟩;exact ke5
