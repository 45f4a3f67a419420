import Derived.Test.YtehighgebbdenaaGreatDoorRa39
set_option linter.unusedVariables false
set_option linter.unusedSimpArgs false
set_option maxRecDepth 100000
set_option maxHeartbeats 64000000
namespace Go.Proofs.YtehighgebbdenaaGreatDoor
open Go.Proofs.Tryz
section
open Go Go.RowKit Go.Lib Go.Sort Go.Maps
open scoped Classical
theorem Ir {m i:Nat} {ao:Option Addr} {cap:Nat} {S:List OpX} (w:World) (x:OpX) (T:Int) (h:MRp w m (i:Int) ao cap S) (hsh:Shp ao cap) (hW:WellK S) (hst:S.Pairwise (fun a b=>CLt (stO a) (stO b))) (hi:i<4) (hT:eu S=T) (hT0:0<=T) (hn:S.length<=140) (hs1:x.2.2.2.2.2.2.1.size<=1000000) (hs2:x.2.2.2.2.2.2.2.size<=1000000) (hk:kdO x=109/\aL x≠0) (ho:aJ x<=9223372036854775807):
  Calls prog 15 #[.pointer (some ⟨m,0,none⟩),aD x] w (MkO w S T i (ae S i) x):=by
 obtain ⟨xt,xb,xn,xk,xd,xo,xs,xv⟩:=x;dsimp only at hs1 hs2;have HK_:=Lib.hid hk;clear hk;have ho:xo<=9223372036854775807:=ho;have hnd:S.Nodup:=hst.imp (fun {a b} q e=>yu);obtain ⟨S0,hS0⟩:=ze w.heap.size;obtain ⟨U,hU⟩:=ze ((w.alloc (.cells #[.int .i64 xt,.int .i64 xb,.int .i64 xn,.int .u8 (xk:Int),.int .i64 xd,.int .i64 xo,.string xs,.string xv] 38)).alloc (.cells #[.int .i64 0,.int .i64 0,.int .i64 0,.int .u8 0,.int .i64 0,.int .i64 0,.string ⟨#[]⟩,.string ⟨#[]⟩] 38))
 have HF:Aside (MkF w S0 (xt,xb,xn,xk,xd,xo,xs,xv) U):=by
  exact ka6
 have H0:Aside (MRp w m (i:Int) ao cap S/\WellK S/\Shp ao cap/\eu S=T/\S.Nodup/\0<=T):=⟨h,hW,hsh,hT,hnd,hT0⟩
 have HPM:Aside (ax (ai S)):=cD hst;obtain ⟨zk,hzk⟩:=ze (bT S xd);obtain ⟨zp,hzp⟩:=ze (kP S xo)
 have HKN:Aside (∀W,MkF w S0 (xt,xb,xn,xk,xd,xo,xs,xv) W->Calls prog 61 #[.pointer (some ⟨m,0,none⟩),.int .i64 xd] W fun e w'=>e= .returned (.bool zk)/\Aside (Below W.heap.size W w')):=by
  exact kd5
 have HPL:Aside (∀W,MkF w S0 (xt,xb,xn,xk,xd,xo,xs,xv) W->Calls prog 62 #[.pointer (some ⟨m,0,none⟩),.int .i64 xo] W fun e w'=>e= .returned (.bool zp)/\Aside (Below W.heap.size W w')):=by
  exact kd6
 have HLN:Aside (∀W,MkF w S0 (xt,xb,xn,xk,xd,xo,xs,xv) W->Calls prog 70 #[.slice ao S.length cap,.int .i64 xd] W fun e w'=>∃p v M base,e= .returned (.pointer (some ⟨p,0,none⟩))/\Aside (RefAt base w' p v M/\LineIs S xd (M.map fX)/\M.length<=400/\Below W.heap.size W w')):=by
  exact kc4
 have HND:Aside (zk=true->xd≠0):=by
  exact ke3
 clear h hsh hW hst hT hT0 hnd;unfold aD;dsimp only;go_enter func15,ntmps15;go_upto_region 1 with fail;rw [<-hU.o,<-hS0.o];clear hU;obtain ⟨y0,y1,y2,y3,y4,y5,y6,y7,yf⟩:=HF.o.x.cells;dsimp only at y0 y1 y2 y3 y4 y5 y6 y7;have hk:=HK_.o;have k1:xk=109:=hk.1;have k0:xd≠0:=hk.2;have d1:((xk:Int)==109)=true:=zr;have d1n:(xk==109)=true:=zr
 have d0:(xd==0)=false:=by simp [k0]
 have HKK:=Lib.hid (And.intro k1 k0);have HK0:=Lib.hid k0;clear k1 k0 hk
 obtain ⟨⟨⟨yt,yb,yn,yk,yd,yo,ys,yv⟩,cd⟩,hya⟩:∃a,Aside (a=fY (zk &&zp) (bN T i (ae S i) 109 xd xo xs ⟨#[]⟩)):=⟨_,rfl⟩
 have HNX:Aside (∀W,MkF w S0 (xt,xb,xn,xk,xd,xo,xs,xv) W->Calls prog 69 #[.pointer (some ⟨m,0,none⟩),.bool (zk &&zp),.agg #[.int .i64 0,.int .i64 0,.int .i64 0,.int .u8 (109:Int),.int .i64 xd,.int .i64 xo,.string xs,.string ⟨#[]⟩]] W fun e w'=>e= .returned (.tuple #[aD (yt,yb,yn,yk,yd,yo,ys,yv),.int .i64 (cd:Int)])/\Aside (Below W.heap.size W w')):=by
  intro W hW;have hx:=fb W (zk &&zp) 109 xd xo T xs ⟨#[]⟩ (H0.o.1.later hW.b) H0.o.2.1.ok hi H0.o.2.2.2.1 H0.o.2.2.2.2.2 zo (fun _ e=>absurd e HK0.o) zX zX;exact kh5
 have HANS:Aside (((yt,yb,yn,yk,yd,yo,ys,yv),cd)=fY (bT S xd &&kP S xo) (bN T i (ae S i) 109 xd xo xs ⟨#[]⟩)):=by
  show _=_
  rw [<-hzk.o,<-hzp.o];exact hya.o
 go_upto_region 5 with fail;clear y0 y1 y2 y3 y4 y5 y6 y7 yf;go_cut [6,7] (fun s6 s7 wx=>∃QQ:Nat,s6= .pointer (some ⟨QQ,0,none⟩)/\s7= .int .i64 (cd:Int)/\Aside (MkF w S0 (xt,xb,xn,xk,xd,xo,xs,xv) wx/\OpBlk wx QQ (yt,yb,yn,yk,yd,yo,ys,yv)))
 case first=>
  cases zk with
  | true=>
   have HW0:Aside (MkF w S0 (xt,xb,xn,xk,xd,xo,xs,xv) U.drew):=HF.o.later ((vP _ U).drew);refine aO (S:=(fun w'=>OpBlk w' S0 (xt,xb,xn,xk,xd,xo,xs,xv)/\Below w.heap.size w w')) zq ⟨HW0.o.x,HW0.o.b⟩ (fun hHeld=> ?_);refine tk 0 hHeld ?_;refine tk 1 hHeld ?_;refine tk 2 hHeld ?_;refine tk 3 hHeld ?_ (hy:=Or.inl ⟨zA,zt⟩);refine tk 11 hHeld ?_;refine tk 12 hHeld ?_ (hy:=Or.inl ⟨zA,zt⟩);refine tk 13 hHeld ?_;refine tk 14 hHeld ?_ (hy:=Or.inl ⟨zA,zt⟩);refine tk 15 hHeld ?_;refine tk 16 hHeld ?_ (hy:=Or.inl ⟨zA,zt⟩);refine tk 17 hHeld ?_;refine dQ (i:=4) (j:=22) zq rfl rfl (fun K hK=> ?cat4) (fun K hK=> ?alt4)
   case cat4=>
    go_simp;refine (HKN.o U.drew HW0.o).mono ?_;rintro e vtc4 ⟨rfl,hb_vtc4⟩;have HVtc4:Aside (MkF w S0 (xt,xb,xn,xk,xd,xo,xs,xv) vtc4):=HW0.o.later hb_vtc4.o;refine hK _ _ ⟨HVtc4.o.x,HVtc4.o.b⟩ ?_;clear hK K;refine qn ?_;refine tk 5 ⟨HVtc4.o.x,HVtc4.o.b⟩ ?_;refine tk 6 ⟨HVtc4.o.x,HVtc4.o.b⟩ ?_;refine tk 7 ⟨HVtc4.o.x,HVtc4.o.b⟩ ?_;refine tk 8 ⟨HVtc4.o.x,HVtc4.o.b⟩ ?_ (hy:=Or.inl ⟨zA,zt⟩);refine dQ (i:=9) (j:=22) zq rfl rfl (fun K hK=> ?catc9) (fun K hK=> ?altc9)
    case catc9=>
     go_simp;refine (HPL.o vtc4 HVtc4.o).mono ?_;rintro e vtcc9 ⟨rfl,hb_vtcc9⟩;have HVtcc9:Aside (MkF w S0 (xt,xb,xn,xk,xd,xo,xs,xv) vtcc9):=HVtc4.o.later hb_vtcc9.o;refine hK _ _ ⟨HVtcc9.o.x,HVtcc9.o.b⟩ ?_;clear hK K;refine qn ?_;refine tk 10 ⟨HVtcc9.o.x,HVtcc9.o.b⟩ ?_;refine dQ (i:=18) (j:=22) zq rfl rfl (fun K hK=> ?catcc18) (fun K hK=> ?altcc18)
     case catcc18=>
      go_simp;refine (HNX.o vtcc9 HVtcc9.o).mono ?_;rintro e vtccc18 ⟨rfl,hb_vtccc18⟩;have HVtccc18:Aside (MkF w S0 (xt,xb,xn,xk,xd,xo,xs,xv) vtccc18):=HVtcc9.o.later hb_vtccc18.o;refine hK _ _ ⟨HVtccc18.o.x,HVtccc18.o.b⟩ ?_;clear hK K;refine qn ?_;unfold aD;dsimp only;refine qn ?_;refine tk 19 ⟨HVtccc18.o.x,HVtccc18.o.b⟩ ?_;refine tk 20 ⟨HVtccc18.o.x,HVtccc18.o.b⟩ ?_;refine tk 21 ⟨HVtccc18.o.x,HVtccc18.o.b⟩ ?_;refine aY (i:=22) zq rfl (fun K hK=> ?_)
      obtain ⟨Xtccc,hXtccc⟩:∃X,Aside (X=vtccc18.alloc (.cells #[.int .i64 0,.int .i64 0,.int .i64 0,.int .u8 0,.int .i64 0,.int .i64 0,.string ⟨#[]⟩,.string ⟨#[]⟩] 38)):=⟨_,rfl⟩
      obtain ⟨QQ,hQQtccc⟩:=ze vtccc18.heap.size
      have hbX:Below vtccc18.heap.size vtccc18 Xtccc:=by rw [hXtccc.o];exact zh _ _
      have HXtccc:Aside (MkF w S0 (xt,xb,xn,xk,xd,xo,xs,xv) Xtccc):=HVtccc18.o.later hbX
      have HQtccc:Aside (OpBlk Xtccc QQ aV/\S0+1<QQ):=by
       have hlz:=HVtccc18.o.z.lt;rw [hXtccc.o,hQQtccc.o];exact kl1
      clear hbX;go_simp;rw [<-hXtccc.o,<-hQQtccc.o];refine hK _ _ ⟨HXtccc.o.x,HXtccc.o.b⟩ ?_;clear hK K;refine qn ?_;obtain ⟨z0,z1,z2,z3,z4,z5,z6,z7,zf'⟩:=OpBlk.cells (HQtccc.o.1);unfold aV at z0 z1 z2 z3 z4 z5 z6 z7;dsimp only at z0 z1 z2 z3 z4 z5 z6 z7;obtain ⟨Z,hZ⟩:=ze (Xtccc.setCells (QQ) 0 (au (yt,yb,yn,yk,yd,yo,ys,yv)))
      have HZ:Aside (OpBlk Z S0 (xt,xb,xn,xk,xd,xo,xs,xv)/\Below w.heap.size w Z/\OpBlk Z (QQ) (yt,yb,yn,yk,yd,yo,ys,yv)):=by
       have hq:=HQtccc.o.2;rw [hZ.o];have hk:=aZ (QQ) (au (yt,yb,yn,yk,yd,yo,ys,yv)) 0 Xtccc;have hs0:=hS0.o;exact ⟨(hk.block S0 HXtccc.o.x.lt zo).trans HXtccc.o.x,HXtccc.o.b.trans (hk.below HXtccc.o.b.size (fun q e=>zo)),ci (HQtccc.o.1) (yt,yb,yn,yk,yd,yo,ys,yv)⟩
      refine aY (i:=23) zq rfl (fun K hK=> ?_);go_simp;refine hK _ _ (show (fun w'=>OpBlk w' S0 (xt,xb,xn,xk,xd,xo,xs,xv)/\Below w.heap.size w w') (Xtccc.setCells (QQ) 0 (au (yt,yb,yn,yk,yd,yo,ys,yv))) from by rw [<-hZ.o];exact ⟨HZ.o.1,HZ.o.2.1⟩) ?_;clear hK K z0 z1 z2 z3 z4 z5 z6 z7 zf';have eZ:Xtccc.setCells (QQ) 0 (au (yt,yb,yn,yk,yd,yo,ys,yv))=Z:=hZ.o.symm;unfold World.setCells au at eZ
      try simp only [World.setCells] at eZ
      try rw [eZ]
      refine qn ?_;refine tk 24 ⟨HZ.o.1,HZ.o.2.1⟩ ?_;refine wpAnyH_done zq ?_ _;refine qn ?_;clear eZ;go_wp2;go_meet;refine ⟨QQ,rfl,rfl,⟨HZ.o.1,?_,HZ.o.2.1⟩,HZ.o.2.2⟩;rw [hZ.o];have hk:=aZ QQ (au (yt,yb,yn,yk,yd,yo,ys,yv)) 0 Xtccc;have hq:=HQtccc.o.2;exact (hk.block (S0+1) HXtccc.o.z.lt zo).trans HXtccc.o.z
     case altcc18=>
      obtain ⟨Xtccl,hXtccl⟩:∃X,Aside (X=vtcc9.alloc (.cells #[.int .i64 0,.int .i64 0,.int .i64 0,.int .u8 0,.int .i64 0,.int .i64 0,.string ⟨#[]⟩,.string ⟨#[]⟩] 38)):=⟨_,rfl⟩
      obtain ⟨QQ,hQQtccl⟩:=ze vtcc9.heap.size
      have hbX:Below vtcc9.heap.size vtcc9 Xtccl:=by rw [hXtccl.o];exact zh _ _
      have HXtccl:Aside (MkF w S0 (xt,xb,xn,xk,xd,xo,xs,xv) Xtccl):=HVtcc9.o.later hbX
      have HQtccl:Aside (OpBlk Xtccl QQ aV/\S0+1<QQ):=by
       have hlz:=HVtcc9.o.z.lt;rw [hXtccl.o,hQQtccl.o];exact kl1
      clear hbX;go_simp;rw [<-hXtccl.o,<-hQQtccl.o];refine hK _ _ ⟨HXtccl.o.x,HXtccl.o.b⟩ ?_;clear hK K;refine qn ?_;refine aY (i:=18) zq rfl (fun K hK=> ?_);go_simp;refine (HNX.o Xtccl HXtccl.o).mono ?_;rintro e vtccl18 ⟨rfl,hb_vtccl18⟩;have HVtccl18:Aside (MkF w S0 (xt,xb,xn,xk,xd,xo,xs,xv) vtccl18):=HXtccl.o.later hb_vtccl18.o
      have HQtccl18:Aside (OpBlk vtccl18 QQ aV/\S0+1<QQ):=⟨HQtccl.o.1.later hb_vtccl18.o,HQtccl.o.2⟩
      refine hK _ _ ⟨HVtccl18.o.x,HVtccl18.o.b⟩ ?_;clear hK K;refine qn ?_;unfold aD;dsimp only;refine qn ?_;refine tk 19 ⟨HVtccl18.o.x,HVtccl18.o.b⟩ ?_;refine tk 20 ⟨HVtccl18.o.x,HVtccl18.o.b⟩ ?_;refine tk 21 ⟨HVtccl18.o.x,HVtccl18.o.b⟩ ?_;obtain ⟨z0,z1,z2,z3,z4,z5,z6,z7,zf'⟩:=OpBlk.cells (HQtccl18.o.1);unfold aV at z0 z1 z2 z3 z4 z5 z6 z7;dsimp only at z0 z1 z2 z3 z4 z5 z6 z7;obtain ⟨Z,hZ⟩:=ze (vtccl18.setCells (QQ) 0 (au (yt,yb,yn,yk,yd,yo,ys,yv)))
      have HZ:Aside (OpBlk Z S0 (xt,xb,xn,xk,xd,xo,xs,xv)/\Below w.heap.size w Z/\OpBlk Z (QQ) (yt,yb,yn,yk,yd,yo,ys,yv)):=by
       have hq:=HQtccl18.o.2;rw [hZ.o];have hk:=aZ (QQ) (au (yt,yb,yn,yk,yd,yo,ys,yv)) 0 vtccl18;have hs0:=hS0.o;exact ⟨(hk.block S0 HVtccl18.o.x.lt zo).trans HVtccl18.o.x,HVtccl18.o.b.trans (hk.below HVtccl18.o.b.size (fun q e=>zo)),ci (HQtccl18.o.1) (yt,yb,yn,yk,yd,yo,ys,yv)⟩
      refine aY (i:=23) zq rfl (fun K hK=> ?_);go_simp;refine hK _ _ (show (fun w'=>OpBlk w' S0 (xt,xb,xn,xk,xd,xo,xs,xv)/\Below w.heap.size w w') (vtccl18.setCells (QQ) 0 (au (yt,yb,yn,yk,yd,yo,ys,yv))) from by rw [<-hZ.o];exact ⟨HZ.o.1,HZ.o.2.1⟩) ?_;clear hK K z0 z1 z2 z3 z4 z5 z6 z7 zf';have eZ:vtccl18.setCells (QQ) 0 (au (yt,yb,yn,yk,yd,yo,ys,yv))=Z:=hZ.o.symm;unfold World.setCells au at eZ
      try simp only [World.setCells] at eZ
      try rw [eZ]
      refine qn ?_;refine tk 24 ⟨HZ.o.1,HZ.o.2.1⟩ ?_;refine wpAnyH_done zq ?_ _;refine qn ?_;clear eZ;go_wp2;go_meet;refine ⟨QQ,rfl,rfl,⟨HZ.o.1,?_,HZ.o.2.1⟩,HZ.o.2.2⟩;rw [hZ.o];have hk:=aZ QQ (au (yt,yb,yn,yk,yd,yo,ys,yv)) 0 vtccl18;have hq:=HQtccl18.o.2;exact (hk.block (S0+1) HVtccl18.o.z.lt zo).trans HVtccl18.o.z
    case altc9=>
     obtain ⟨Xtcl,hXtcl⟩:∃X,Aside (X=vtc4.alloc (.cells #[.int .i64 0,.int .i64 0,.int .i64 0,.int .u8 0,.int .i64 0,.int .i64 0,.string ⟨#[]⟩,.string ⟨#[]⟩] 38)):=⟨_,rfl⟩
     obtain ⟨QQ,hQQtcl⟩:=ze vtc4.heap.size
     have hbX:Below vtc4.heap.size vtc4 Xtcl:=by rw [hXtcl.o];exact zh _ _
     have HXtcl:Aside (MkF w S0 (xt,xb,xn,xk,xd,xo,xs,xv) Xtcl):=HVtc4.o.later hbX
     have HQtcl:Aside (OpBlk Xtcl QQ aV/\S0+1<QQ):=by
      have hlz:=HVtc4.o.z.lt;rw [hXtcl.o,hQQtcl.o];exact kl1
     clear hbX;go_simp;rw [<-hXtcl.o,<-hQQtcl.o];refine hK _ _ ⟨HXtcl.o.x,HXtcl.o.b⟩ ?_;clear hK K;refine qn ?_;refine aY (i:=9) zq rfl (fun K hK=> ?_);go_simp;refine (HPL.o Xtcl HXtcl.o).mono ?_;rintro e vtcl9 ⟨rfl,hb_vtcl9⟩;have HVtcl9:Aside (MkF w S0 (xt,xb,xn,xk,xd,xo,xs,xv) vtcl9):=HXtcl.o.later hb_vtcl9.o
     have HQtcl9:Aside (OpBlk vtcl9 QQ aV/\S0+1<QQ):=⟨HQtcl.o.1.later hb_vtcl9.o,HQtcl.o.2⟩
     refine hK _ _ ⟨HVtcl9.o.x,HVtcl9.o.b⟩ ?_;clear hK K;refine qn ?_;refine tk 10 ⟨HVtcl9.o.x,HVtcl9.o.b⟩ ?_;refine aY (i:=18) zq rfl (fun K hK=> ?_);go_simp;refine (HNX.o vtcl9 HVtcl9.o).mono ?_;rintro e vtcl18 ⟨rfl,hb_vtcl18⟩;have HVtcl18:Aside (MkF w S0 (xt,xb,xn,xk,xd,xo,xs,xv) vtcl18):=HVtcl9.o.later hb_vtcl18.o
     have HQtcl18:Aside (OpBlk vtcl18 QQ aV/\S0+1<QQ):=⟨HQtcl9.o.1.later hb_vtcl18.o,HQtcl9.o.2⟩
     refine hK _ _ ⟨HVtcl18.o.x,HVtcl18.o.b⟩ ?_;clear hK K;refine qn ?_;unfold aD;dsimp only;refine qn ?_;refine tk 19 ⟨HVtcl18.o.x,HVtcl18.o.b⟩ ?_;refine tk 20 ⟨HVtcl18.o.x,HVtcl18.o.b⟩ ?_;refine tk 21 ⟨HVtcl18.o.x,HVtcl18.o.b⟩ ?_;obtain ⟨z0,z1,z2,z3,z4,z5,z6,z7,zf'⟩:=OpBlk.cells (HQtcl18.o.1);unfold aV at z0 z1 z2 z3 z4 z5 z6 z7;dsimp only at z0 z1 z2 z3 z4 z5 z6 z7;obtain ⟨Z,hZ⟩:=ze (vtcl18.setCells (QQ) 0 (au (yt,yb,yn,yk,yd,yo,ys,yv)))
     have HZ:Aside (OpBlk Z S0 (xt,xb,xn,xk,xd,xo,xs,xv)/\Below w.heap.size w Z/\OpBlk Z (QQ) (yt,yb,yn,yk,yd,yo,ys,yv)):=by
      have hq:=HQtcl18.o.2;rw [hZ.o];have hk:=aZ (QQ) (au (yt,yb,yn,yk,yd,yo,ys,yv)) 0 vtcl18;have hs0:=hS0.o;exact ⟨(hk.block S0 HVtcl18.o.x.lt zo).trans HVtcl18.o.x,HVtcl18.o.b.trans (hk.below HVtcl18.o.b.size (fun q e=>zo)),ci (HQtcl18.o.1) (yt,yb,yn,yk,yd,yo,ys,yv)⟩
     refine aY (i:=23) zq rfl (fun K hK=> ?_);go_simp;refine hK _ _ (show (fun w'=>OpBlk w' S0 (xt,xb,xn,xk,xd,xo,xs,xv)/\Below w.heap.size w w') (vtcl18.setCells (QQ) 0 (au (yt,yb,yn,yk,yd,yo,ys,yv))) from by rw [<-hZ.o];exact ⟨HZ.o.1,HZ.o.2.1⟩) ?_;clear hK K z0 z1 z2 z3 z4 z5 z6 z7 zf';have eZ:vtcl18.setCells (QQ) 0 (au (yt,yb,yn,yk,yd,yo,ys,yv))=Z:=hZ.o.symm;unfold World.setCells au at eZ
     try simp only [World.setCells] at eZ
     try rw [eZ]
     refine qn ?_;refine tk 24 ⟨HZ.o.1,HZ.o.2.1⟩ ?_;refine wpAnyH_done zq ?_ _;refine qn ?_;clear eZ;go_wp2;go_meet;refine ⟨QQ,rfl,rfl,⟨HZ.o.1,?_,HZ.o.2.1⟩,HZ.o.2.2⟩;rw [hZ.o];have hk:=aZ QQ (au (yt,yb,yn,yk,yd,yo,ys,yv)) 0 vtcl18;have hq:=HQtcl18.o.2;exact (hk.block (S0+1) HVtcl18.o.z.lt zo).trans HVtcl18.o.z
   case alt4=>
    obtain ⟨Xtl,hXtl⟩:∃X,Aside (X=(U.alloc (.cells #[.int .i64 0,.int .i64 0,.int .i64 0,.int .u8 0,.int .i64 0,.int .i64 0,.string ⟨#[]⟩,.string ⟨#[]⟩] 38)).drew):=⟨_,rfl⟩
    obtain ⟨QQ,hQQtl⟩:=ze U.heap.size
    have hbX:Below U.heap.size U Xtl:=by rw [hXtl.o];exact ((zh U _).drew)
    have HXtl:Aside (MkF w S0 (xt,xb,xn,xk,xd,xo,xs,xv) Xtl):=HF.o.later hbX
    have HQtl:Aside (OpBlk Xtl QQ aV/\S0+1<QQ):=by
     have hlz:=HF.o.z.lt;rw [hXtl.o,hQQtl.o];exact kl1
    clear hbX;go_simp;rw [<-hXtl.o,<-hQQtl.o];refine hK _ _ ⟨HXtl.o.x,HXtl.o.b⟩ ?_;clear hK K;refine qn ?_;refine aY (i:=4) zq rfl (fun K hK=> ?_);go_simp;refine (HKN.o Xtl HXtl.o).mono ?_;rintro e vtl4 ⟨rfl,hb_vtl4⟩;have HVtl4:Aside (MkF w S0 (xt,xb,xn,xk,xd,xo,xs,xv) vtl4):=HXtl.o.later hb_vtl4.o
    have HQtl4:Aside (OpBlk vtl4 QQ aV/\S0+1<QQ):=⟨HQtl.o.1.later hb_vtl4.o,HQtl.o.2⟩
    refine hK _ _ ⟨HVtl4.o.x,HVtl4.o.b⟩ ?_;clear hK K;refine qn ?_;refine tk 5 ⟨HVtl4.o.x,HVtl4.o.b⟩ ?_;refine tk 6 ⟨HVtl4.o.x,HVtl4.o.b⟩ ?_;refine tk 7 ⟨HVtl4.o.x,HVtl4.o.b⟩ ?_;refine tk 8 ⟨HVtl4.o.x,HVtl4.o.b⟩ ?_ (hy:=Or.inl ⟨zA,zt⟩);refine aY (i:=9) zq rfl (fun K hK=> ?_);go_simp;refine (HPL.o vtl4 HVtl4.o).mono ?_;rintro e vtl9 ⟨rfl,hb_vtl9⟩;have HVtl9:Aside (MkF w S0 (xt,xb,xn,xk,xd,xo,xs,xv) vtl9):=HVtl4.o.later hb_vtl9.o
    have HQtl9:Aside (OpBlk vtl9 QQ aV/\S0+1<QQ):=⟨HQtl4.o.1.later hb_vtl9.o,HQtl4.o.2⟩
    refine hK _ _ ⟨HVtl9.o.x,HVtl9.o.b⟩ ?_;clear hK K;refine qn ?_;refine tk 10 ⟨HVtl9.o.x,HVtl9.o.b⟩ ?_;refine aY (i:=18) zq rfl (fun K hK=> ?_);go_simp;refine (HNX.o vtl9 HVtl9.o).mono ?_;rintro e vtl18 ⟨rfl,hb_vtl18⟩;have HVtl18:Aside (MkF w S0 (xt,xb,xn,xk,xd,xo,xs,xv) vtl18):=HVtl9.o.later hb_vtl18.o
    have HQtl18:Aside (OpBlk vtl18 QQ aV/\S0+1<QQ):=⟨HQtl9.o.1.later hb_vtl18.o,HQtl9.o.2⟩
    refine hK _ _ ⟨HVtl18.o.x,HVtl18.o.b⟩ ?_;clear hK K;refine qn ?_;unfold aD;dsimp only;refine qn ?_;refine tk 19 ⟨HVtl18.o.x,HVtl18.o.b⟩ ?_;refine tk 20 ⟨HVtl18.o.x,HVtl18.o.b⟩ ?_;refine tk 21 ⟨HVtl18.o.x,HVtl18.o.b⟩ ?_;obtain ⟨z0,z1,z2,z3,z4,z5,z6,z7,zf'⟩:=OpBlk.cells (HQtl18.o.1);unfold aV at z0 z1 z2 z3 z4 z5 z6 z7;dsimp only at z0 z1 z2 z3 z4 z5 z6 z7;obtain ⟨Z,hZ⟩:=ze (vtl18.setCells (QQ) 0 (au (yt,yb,yn,yk,yd,yo,ys,yv)))
    have HZ:Aside (OpBlk Z S0 (xt,xb,xn,xk,xd,xo,xs,xv)/\Below w.heap.size w Z/\OpBlk Z (QQ) (yt,yb,yn,yk,yd,yo,ys,yv)):=by
     have hq:=HQtl18.o.2;rw [hZ.o];have hk:=aZ (QQ) (au (yt,yb,yn,yk,yd,yo,ys,yv)) 0 vtl18;have hs0:=hS0.o;exact ⟨(hk.block S0 HVtl18.o.x.lt zo).trans HVtl18.o.x,HVtl18.o.b.trans (hk.below HVtl18.o.b.size (fun q e=>zo)),ci (HQtl18.o.1) (yt,yb,yn,yk,yd,yo,ys,yv)⟩
    refine aY (i:=23) zq rfl (fun K hK=> ?_);go_simp;refine hK _ _ (show (fun w'=>OpBlk w' S0 (xt,xb,xn,xk,xd,xo,xs,xv)/\Below w.heap.size w w') (vtl18.setCells (QQ) 0 (au (yt,yb,yn,yk,yd,yo,ys,yv))) from by rw [<-hZ.o];exact ⟨HZ.o.1,HZ.o.2.1⟩) ?_;clear hK K z0 z1 z2 z3 z4 z5 z6 z7 zf';have eZ:vtl18.setCells (QQ) 0 (au (yt,yb,yn,yk,yd,yo,ys,yv))=Z:=hZ.o.symm;unfold World.setCells au at eZ
    try simp only [World.setCells] at eZ
    try rw [eZ]
    refine qn ?_;refine tk 24 ⟨HZ.o.1,HZ.o.2.1⟩ ?_;refine wpAnyH_done zq ?_ _;refine qn ?_;clear eZ;go_wp2;go_meet;refine ⟨QQ,rfl,rfl,⟨HZ.o.1,?_,HZ.o.2.1⟩,HZ.o.2.2⟩;rw [hZ.o];have hk:=aZ QQ (au (yt,yb,yn,yk,yd,yo,ys,yv)) 0 vtl18;have hq:=HQtl18.o.2;exact (hk.block (S0+1) HVtl18.o.z.lt zo).trans HVtl18.o.z
  | false=>
   have HW0:Aside (MkF w S0 (xt,xb,xn,xk,xd,xo,xs,xv) U.drew):=HF.o.later ((vP _ U).drew);refine aO (S:=(fun w'=>OpBlk w' S0 (xt,xb,xn,xk,xd,xo,xs,xv)/\Below w.heap.size w w')) zq ⟨HW0.o.x,HW0.o.b⟩ (fun hHeld=> ?_);refine tk 0 hHeld ?_;refine tk 1 hHeld ?_;refine tk 2 hHeld ?_;refine tk 3 hHeld ?_ (hy:=Or.inl ⟨zA,zt⟩);refine tk 11 hHeld ?_;refine tk 12 hHeld ?_ (hy:=Or.inl ⟨zA,zt⟩);refine tk 13 hHeld ?_;refine tk 14 hHeld ?_ (hy:=Or.inl ⟨zA,zt⟩);refine tk 15 hHeld ?_;refine tk 16 hHeld ?_ (hy:=Or.inl ⟨zA,zt⟩);refine tk 17 hHeld ?_;refine dQ (i:=4) (j:=22) zq rfl rfl (fun K hK=> ?caf4) (fun K hK=> ?alf4)
   case caf4=>
    go_simp;refine (HKN.o U.drew HW0.o).mono ?_;rintro e vfc4 ⟨rfl,hb_vfc4⟩;have HVfc4:Aside (MkF w S0 (xt,xb,xn,xk,xd,xo,xs,xv) vfc4):=HW0.o.later hb_vfc4.o;refine hK _ _ ⟨HVfc4.o.x,HVfc4.o.b⟩ ?_;clear hK K;refine qn ?_;refine tk 5 ⟨HVfc4.o.x,HVfc4.o.b⟩ ?_;refine tk 6 ⟨HVfc4.o.x,HVfc4.o.b⟩ ?_ (hy:=Or.inr ⟨zA,rfl⟩);refine tk 7 ⟨HVfc4.o.x,HVfc4.o.b⟩ ?_ (hy:=Or.inr ⟨zA,rfl⟩);refine tk 8 ⟨HVfc4.o.x,HVfc4.o.b⟩ ?_ (hy:=Or.inr ⟨zA,rfl⟩);refine tk 9 ⟨HVfc4.o.x,HVfc4.o.b⟩ ?_ (hy:=Or.inr ⟨zA,rfl⟩);refine tk 10 ⟨HVfc4.o.x,HVfc4.o.b⟩ ?_;refine dQ (i:=18) (j:=22) zq rfl rfl (fun K hK=> ?cafc18) (fun K hK=> ?alfc18)
    case cafc18=>
     go_simp;refine (HNX.o vfc4 HVfc4.o).mono ?_;rintro e vfcc18 ⟨rfl,hb_vfcc18⟩;have HVfcc18:Aside (MkF w S0 (xt,xb,xn,xk,xd,xo,xs,xv) vfcc18):=HVfc4.o.later hb_vfcc18.o;refine hK _ _ ⟨HVfcc18.o.x,HVfcc18.o.b⟩ ?_;clear hK K;refine qn ?_;unfold aD;dsimp only;refine qn ?_;refine tk 19 ⟨HVfcc18.o.x,HVfcc18.o.b⟩ ?_;refine tk 20 ⟨HVfcc18.o.x,HVfcc18.o.b⟩ ?_;refine tk 21 ⟨HVfcc18.o.x,HVfcc18.o.b⟩ ?_;refine aY (i:=22) zq rfl (fun K hK=> ?_)
     obtain ⟨Xfcc,hXfcc⟩:∃X,Aside (X=vfcc18.alloc (.cells #[.int .i64 0,.int .i64 0,.int .i64 0,.int .u8 0,.int .i64 0,.int .i64 0,.string ⟨#[]⟩,.string ⟨#[]⟩] 38)):=⟨_,rfl⟩
     obtain ⟨QQ,hQQfcc⟩:=ze vfcc18.heap.size
     have hbX:Below vfcc18.heap.size vfcc18 Xfcc:=by rw [hXfcc.o];exact zh _ _
     have HXfcc:Aside (MkF w S0 (xt,xb,xn,xk,xd,xo,xs,xv) Xfcc):=HVfcc18.o.later hbX
     have HQfcc:Aside (OpBlk Xfcc QQ aV/\S0+1<QQ):=by
      have hlz:=HVfcc18.o.z.lt;rw [hXfcc.o,hQQfcc.o];exact kl1
     clear hbX;go_simp;rw [<-hXfcc.o,<-hQQfcc.o];refine hK _ _ ⟨HXfcc.o.x,HXfcc.o.b⟩ ?_;clear hK K;refine qn ?_;obtain ⟨z0,z1,z2,z3,z4,z5,z6,z7,zf'⟩:=OpBlk.cells (HQfcc.o.1);unfold aV at z0 z1 z2 z3 z4 z5 z6 z7;dsimp only at z0 z1 z2 z3 z4 z5 z6 z7;obtain ⟨Z,hZ⟩:=ze (Xfcc.setCells (QQ) 0 (au (yt,yb,yn,yk,yd,yo,ys,yv)))
     have HZ:Aside (OpBlk Z S0 (xt,xb,xn,xk,xd,xo,xs,xv)/\Below w.heap.size w Z/\OpBlk Z (QQ) (yt,yb,yn,yk,yd,yo,ys,yv)):=by
      have hq:=HQfcc.o.2;rw [hZ.o];have hk:=aZ (QQ) (au (yt,yb,yn,yk,yd,yo,ys,yv)) 0 Xfcc;have hs0:=hS0.o;exact ⟨(hk.block S0 HXfcc.o.x.lt zo).trans HXfcc.o.x,HXfcc.o.b.trans (hk.below HXfcc.o.b.size (fun q e=>zo)),ci (HQfcc.o.1) (yt,yb,yn,yk,yd,yo,ys,yv)⟩
     refine aY (i:=23) zq rfl (fun K hK=> ?_);go_simp;refine hK _ _ (show (fun w'=>OpBlk w' S0 (xt,xb,xn,xk,xd,xo,xs,xv)/\Below w.heap.size w w') (Xfcc.setCells (QQ) 0 (au (yt,yb,yn,yk,yd,yo,ys,yv))) from by rw [<-hZ.o];exact ⟨HZ.o.1,HZ.o.2.1⟩) ?_;clear hK K z0 z1 z2 z3 z4 z5 z6 z7 zf';have eZ:Xfcc.setCells (QQ) 0 (au (yt,yb,yn,yk,yd,yo,ys,yv))=Z:=hZ.o.symm;unfold World.setCells au at eZ
     try simp only [World.setCells] at eZ
     try rw [eZ]
     refine qn ?_;refine tk 24 ⟨HZ.o.1,HZ.o.2.1⟩ ?_;refine wpAnyH_done zq ?_ _;refine qn ?_;clear eZ;go_wp2;go_meet;refine ⟨QQ,rfl,rfl,⟨HZ.o.1,?_,HZ.o.2.1⟩,HZ.o.2.2⟩;rw [hZ.o];have hk:=aZ QQ (au (yt,yb,yn,yk,yd,yo,ys,yv)) 0 Xfcc;have hq:=HQfcc.o.2;exact (hk.block (S0+1) HXfcc.o.z.lt zo).trans HXfcc.o.z
    case alfc18=>
     obtain ⟨Xfcl,hXfcl⟩:∃X,Aside (X=vfc4.alloc (.cells #[.int .i64 0,.int .i64 0,.int .i64 0,.int .u8 0,.int .i64 0,.int .i64 0,.string ⟨#[]⟩,.string ⟨#[]⟩] 38)):=⟨_,rfl⟩
     obtain ⟨QQ,hQQfcl⟩:=ze vfc4.heap.size
     have hbX:Below vfc4.heap.size vfc4 Xfcl:=by rw [hXfcl.o];exact zh _ _
     have HXfcl:Aside (MkF w S0 (xt,xb,xn,xk,xd,xo,xs,xv) Xfcl):=HVfc4.o.later hbX
     have HQfcl:Aside (OpBlk Xfcl QQ aV/\S0+1<QQ):=by
      have hlz:=HVfc4.o.z.lt;rw [hXfcl.o,hQQfcl.o];exact kl1
     clear hbX;go_simp;rw [<-hXfcl.o,<-hQQfcl.o];refine hK _ _ ⟨HXfcl.o.x,HXfcl.o.b⟩ ?_;clear hK K;refine qn ?_;refine aY (i:=18) zq rfl (fun K hK=> ?_);go_simp;refine (HNX.o Xfcl HXfcl.o).mono ?_;rintro e vfcl18 ⟨rfl,hb_vfcl18⟩;have HVfcl18:Aside (MkF w S0 (xt,xb,xn,xk,xd,xo,xs,xv) vfcl18):=HXfcl.o.later hb_vfcl18.o
     have HQfcl18:Aside (OpBlk vfcl18 QQ aV/\S0+1<QQ):=⟨HQfcl.o.1.later hb_vfcl18.o,HQfcl.o.2⟩
     refine hK _ _ ⟨HVfcl18.o.x,HVfcl18.o.b⟩ ?_;clear hK K;refine qn ?_;unfold aD;dsimp only;refine qn ?_;refine tk 19 ⟨HVfcl18.o.x,HVfcl18.o.b⟩ ?_;refine tk 20 ⟨HVfcl18.o.x,HVfcl18.o.b⟩ ?_;refine tk 21 ⟨HVfcl18.o.x,HVfcl18.o.b⟩ ?_;obtain ⟨z0,z1,z2,z3,z4,z5,z6,z7,zf'⟩:=OpBlk.cells (HQfcl18.o.1);unfold aV at z0 z1 z2 z3 z4 z5 z6 z7;dsimp only at z0 z1 z2 z3 z4 z5 z6 z7;obtain ⟨Z,hZ⟩:=ze (vfcl18.setCells (QQ) 0 (au (yt,yb,yn,yk,yd,yo,ys,yv)))
     have HZ:Aside (OpBlk Z S0 (xt,xb,xn,xk,xd,xo,xs,xv)/\Below w.heap.size w Z/\OpBlk Z (QQ) (yt,yb,yn,yk,yd,yo,ys,yv)):=by
      have hq:=HQfcl18.o.2;rw [hZ.o];have hk:=aZ (QQ) (au (yt,yb,yn,yk,yd,yo,ys,yv)) 0 vfcl18;have hs0:=hS0.o;exact ⟨(hk.block S0 HVfcl18.o.x.lt zo).trans HVfcl18.o.x,HVfcl18.o.b.trans (hk.below HVfcl18.o.b.size (fun q e=>zo)),ci (HQfcl18.o.1) (yt,yb,yn,yk,yd,yo,ys,yv)⟩
     refine aY (i:=23) zq rfl (fun K hK=> ?_);go_simp;refine hK _ _ (show (fun w'=>OpBlk w' S0 (xt,xb,xn,xk,xd,xo,xs,xv)/\Below w.heap.size w w') (vfcl18.setCells (QQ) 0 (au (yt,yb,yn,yk,yd,yo,ys,yv))) from by rw [<-hZ.o];exact ⟨HZ.o.1,HZ.o.2.1⟩) ?_;clear hK K z0 z1 z2 z3 z4 z5 z6 z7 zf';have eZ:vfcl18.setCells (QQ) 0 (au (yt,yb,yn,yk,yd,yo,ys,yv))=Z:=hZ.o.symm;unfold World.setCells au at eZ
     try simp only [World.setCells] at eZ
     try rw [eZ]
     refine qn ?_;refine tk 24 ⟨HZ.o.1,HZ.o.2.1⟩ ?_;refine wpAnyH_done zq ?_ _;refine qn ?_;clear eZ;go_wp2;go_meet;refine ⟨QQ,rfl,rfl,⟨HZ.o.1,?_,HZ.o.2.1⟩,HZ.o.2.2⟩;rw [hZ.o];have hk:=aZ QQ (au (yt,yb,yn,yk,yd,yo,ys,yv)) 0 vfcl18;have hq:=HQfcl18.o.2;exact (hk.block (S0+1) HVfcl18.o.z.lt zo).trans HVfcl18.o.z
   case alf4=>
    obtain ⟨Xfl,hXfl⟩:∃X,Aside (X=(U.alloc (.cells #[.int .i64 0,.int .i64 0,.int .i64 0,.int .u8 0,.int .i64 0,.int .i64 0,.string ⟨#[]⟩,.string ⟨#[]⟩] 38)).drew):=⟨_,rfl⟩
    obtain ⟨QQ,hQQfl⟩:=ze U.heap.size
    have hbX:Below U.heap.size U Xfl:=by rw [hXfl.o];exact ((zh U _).drew)
    have HXfl:Aside (MkF w S0 (xt,xb,xn,xk,xd,xo,xs,xv) Xfl):=HF.o.later hbX
    have HQfl:Aside (OpBlk Xfl QQ aV/\S0+1<QQ):=by
     have hlz:=HF.o.z.lt;rw [hXfl.o,hQQfl.o];exact kl1
    clear hbX;go_simp;rw [<-hXfl.o,<-hQQfl.o];refine hK _ _ ⟨HXfl.o.x,HXfl.o.b⟩ ?_;clear hK K;refine qn ?_;refine aY (i:=4) zq rfl (fun K hK=> ?_);go_simp;refine (HKN.o Xfl HXfl.o).mono ?_;rintro e vfl4 ⟨rfl,hb_vfl4⟩;have HVfl4:Aside (MkF w S0 (xt,xb,xn,xk,xd,xo,xs,xv) vfl4):=HXfl.o.later hb_vfl4.o
    have HQfl4:Aside (OpBlk vfl4 QQ aV/\S0+1<QQ):=⟨HQfl.o.1.later hb_vfl4.o,HQfl.o.2⟩
    refine hK _ _ ⟨HVfl4.o.x,HVfl4.o.b⟩ ?_;clear hK K;refine qn ?_;refine tk 5 ⟨HVfl4.o.x,HVfl4.o.b⟩ ?_;refine tk 6 ⟨HVfl4.o.x,HVfl4.o.b⟩ ?_ (hy:=Or.inr ⟨zA,rfl⟩);refine tk 7 ⟨HVfl4.o.x,HVfl4.o.b⟩ ?_ (hy:=Or.inr ⟨zA,rfl⟩);refine tk 8 ⟨HVfl4.o.x,HVfl4.o.b⟩ ?_ (hy:=Or.inr ⟨zA,rfl⟩);refine tk 9 ⟨HVfl4.o.x,HVfl4.o.b⟩ ?_ (hy:=Or.inr ⟨zA,rfl⟩);refine tk 10 ⟨HVfl4.o.x,HVfl4.o.b⟩ ?_;refine aY (i:=18) zq rfl (fun K hK=> ?_);go_simp;refine (HNX.o vfl4 HVfl4.o).mono ?_;rintro e vfl18 ⟨rfl,hb_vfl18⟩;have HVfl18:Aside (MkF w S0 (xt,xb,xn,xk,xd,xo,xs,xv) vfl18):=HVfl4.o.later hb_vfl18.o
    have HQfl18:Aside (OpBlk vfl18 QQ aV/\S0+1<QQ):=⟨HQfl4.o.1.later hb_vfl18.o,HQfl4.o.2⟩
    refine hK _ _ ⟨HVfl18.o.x,HVfl18.o.b⟩ ?_;clear hK K;refine qn ?_;unfold aD;dsimp only;refine qn ?_;refine tk 19 ⟨HVfl18.o.x,HVfl18.o.b⟩ ?_;refine tk 20 ⟨HVfl18.o.x,HVfl18.o.b⟩ ?_;refine tk 21 ⟨HVfl18.o.x,HVfl18.o.b⟩ ?_;obtain ⟨z0,z1,z2,z3,z4,z5,z6,z7,zf'⟩:=OpBlk.cells (HQfl18.o.1);unfold aV at z0 z1 z2 z3 z4 z5 z6 z7;dsimp only at z0 z1 z2 z3 z4 z5 z6 z7;obtain ⟨Z,hZ⟩:=ze (vfl18.setCells (QQ) 0 (au (yt,yb,yn,yk,yd,yo,ys,yv)))
    have HZ:Aside (OpBlk Z S0 (xt,xb,xn,xk,xd,xo,xs,xv)/\Below w.heap.size w Z/\OpBlk Z (QQ) (yt,yb,yn,yk,yd,yo,ys,yv)):=by
     have hq:=HQfl18.o.2;rw [hZ.o];have hk:=aZ (QQ) (au (yt,yb,yn,yk,yd,yo,ys,yv)) 0 vfl18;have hs0:=hS0.o;exact ⟨(hk.block S0 HVfl18.o.x.lt zo).trans HVfl18.o.x,HVfl18.o.b.trans (hk.below HVfl18.o.b.size (fun q e=>zo)),ci (HQfl18.o.1) (yt,yb,yn,yk,yd,yo,ys,yv)⟩
    refine aY (i:=23) zq rfl (fun K hK=> ?_);go_simp;refine hK _ _ (show (fun w'=>OpBlk w' S0 (xt,xb,xn,xk,xd,xo,xs,xv)/\Below w.heap.size w w') (vfl18.setCells (QQ) 0 (au (yt,yb,yn,yk,yd,yo,ys,yv))) from by rw [<-hZ.o];exact ⟨HZ.o.1,HZ.o.2.1⟩) ?_;clear hK K z0 z1 z2 z3 z4 z5 z6 z7 zf';have eZ:vfl18.setCells (QQ) 0 (au (yt,yb,yn,yk,yd,yo,ys,yv))=Z:=hZ.o.symm;unfold World.setCells au at eZ
    try simp only [World.setCells] at eZ
    try rw [eZ]
    refine qn ?_;refine tk 24 ⟨HZ.o.1,HZ.o.2.1⟩ ?_;refine wpAnyH_done zq ?_ _;refine qn ?_;clear eZ;go_wp2;go_meet;refine ⟨QQ,rfl,rfl,⟨HZ.o.1,?_,HZ.o.2.1⟩,HZ.o.2.2⟩;rw [hZ.o];have hk:=aZ QQ (au (yt,yb,yn,yk,yd,yo,ys,yv)) 0 vfl18;have hq:=HQfl18.o.2;exact (hk.block (S0+1) HVfl18.o.z.lt zo).trans HVfl18.o.z
 obtain ⟨QQ,rfl,rfl,HVF⟩:=hcut;obtain ⟨V,hV⟩:=zc wc;subst hV;clear HNX HKN HPL HLN;by_cases hc:cd=0
 ·have dc:((cd:Int)==0)=true:=by simp [hc]
  have dcn:(cd==0)=true:=by simp [hc]
  have hce:Aside (cd=0):=hc;clear hc;by_cases he:xo=xd
  ·have de:(xd==xo)=true:=by simp [he]
   have hsame:Aside (xo=xd):=he;clear he;go_upto_region 6 with fail;have HW0:Aside (MkF w S0 (xt,xb,xn,xk,xd,xo,xs,xv) V.drew):=HVF.o.1.later ((vP _ V).drew);refine aO (S:=(fun w'=>OpBlk w' S0 (xt,xb,xn,xk,xd,xo,xs,xv)/\Below w.heap.size w w')) zq ⟨HW0.o.x,HW0.o.b⟩ (fun hHeld=> ?_);refine tk 0 hHeld ?_;refine tk 1 hHeld ?_;refine tk 2 hHeld ?_;refine tk 3 hHeld ?_;refine tk 4 hHeld ?_ (hy:=Or.inl ⟨zA,zt⟩);refine tk 5 hHeld ?_;refine tk 6 hHeld ?_ (hy:=Or.inl ⟨zA,zt⟩);refine tk 7 hHeld ?_;refine tk 8 hHeld ?_;refine tk 9 hHeld ?_ (hy:=Or.inr ⟨zA,rfl⟩);refine tk 10 hHeld ?_ (hy:=Or.inr ⟨zA,rfl⟩);refine tk 11 hHeld ?_ (hy:=Or.inr ⟨zA,rfl⟩);refine tk 12 hHeld ?_ (hy:=Or.inr ⟨zA,rfl⟩);refine tk 13 hHeld ?_ (hy:=Or.inr ⟨zA,rfl⟩);refine tk 14 hHeld ?_ (hy:=Or.inr ⟨zA,rfl⟩);refine tk 15 hHeld ?_ (hy:=Or.inr ⟨zA,rfl⟩);refine tk 16 hHeld ?_ (hy:=Or.inr ⟨zA,rfl⟩);refine tk 17 hHeld ?_ (hy:=Or.inr ⟨zA,rfl⟩);refine tk 18 hHeld ?_ (hy:=Or.inr ⟨zA,rfl⟩);refine tk 19 hHeld ?_;refine tk 20 hHeld ?_;refine wpAnyH_done zq ?_ _;refine qn ?_;clear hHeld
   generalize V.drew=D at HW0 |-
   obtain ⟨z0,z1,z2,z3,z4,z5,z6,z7,zf⟩:=OpBlk.cells HW0.o.z;unfold aV at z0 z1 z2 z3 z4 z5 z6 z7;dsimp only at z0 z1 z2 z3 z4 z5 z6 z7;go_wp2;(try simp only [Exit.inBlock,Exit.then]);refine bodyPost_ret (v:=.tuple #[aD aV,.int .i64 10]) ?_ rfl ⟨(aV,10),rfl,?_,.inr (.inl ⟨HKK.o.1,HKK.o.2,IG HPM.o HANS.o hce.o hsame.o⟩)⟩
   ·exact kc3
   exact aQ (b:=S0+1) HW0.o.b yC 0 [.int .i64 0,.int .i64 0,.int .i64 0,.int .u8 0,.int .i64 0,.int .i64 0,.string ⟨#[]⟩,.string ⟨#[]⟩]
  have de:(xd==xo)=false:=zr;have hsame:Aside (xo≠xd):=he;have hpl:=kJ V.drew (.slice ao S.length cap) S (H0.o.2.2.1.at ((H0.o.1.later HVF.o.1.b).later ((vP _ V).drew)).ops) H0.o.2.1 H0.o.2.2.2.2.1 zo;clear he;go_upto_region 6 with fail;have HW0:Aside (MkF w S0 (xt,xb,xn,xk,xd,xo,xs,xv) V.drew):=HVF.o.1.later ((vP _ V).drew);refine aO (S:=(fun w'=>OpBlk w' S0 (xt,xb,xn,xk,xd,xo,xs,xv)/\Below w.heap.size w w')) zq ⟨HW0.o.x,HW0.o.b⟩ (fun hHeld=> ?_);refine tk 0 hHeld ?_;refine tk 1 hHeld ?_;refine tk 2 hHeld ?_;refine tk 3 hHeld ?_;refine tk 4 hHeld ?_ (hy:=Or.inl ⟨zA,zt⟩);refine tk 5 hHeld ?_;refine tk 6 hHeld ?_ (hy:=Or.inl ⟨zA,zt⟩);refine tk 7 hHeld ?_;refine tk 8 hHeld ?_;refine tk 9 hHeld ?_;refine tk 10 hHeld ?_;refine tk 11 hHeld ?_;refine tk 12 hHeld ?_ (hy:=Or.inl ⟨zA,zT⟩);refine tk 14 hHeld ?_;refine tk 15 hHeld ?_ (hy:=Or.inl ⟨zA,zt⟩);refine tk 16 hHeld ?_;refine tk 17 hHeld ?_ (hy:=Or.inl ⟨zA,zt⟩);refine aY (i:=13) zq rfl (fun K hK=> ?_);go_simp;refine hpl.mono ?_;clear hpl;rintro e w3 ⟨v3,qs,ms,rfl,P1,P2,P3,P4,P5,P6⟩;obtain ⟨ga,gc,rfl⟩:=bI P5
  have HP:Aside (ms.Perm (ai S)/\ax ms/\IsPlaces (aN ms) qs):=⟨P1,P2,P3⟩
  have HB3:Aside (Below V.drew.heap.size V.drew w3):=P6;have hins:=kM w3 ga gc qs _ xo xd (mH H0.o.2.1.ok P1) P3 (nX P5) zo;have HW3:Aside (MkF w S0 (xt,xb,xn,xk,xd,xo,xs,xv) w3):=HW0.o.later P6;refine hK _ _ ⟨HW3.o.x,HW3.o.b⟩ ?_;clear hK K;refine qn ?_;obtain ⟨zi,hzi⟩:=ze (ki (aN ms) (qs.length+1) xo xd);rw [<-hzi.o] at hins
  have HZI:Aside (zi=true↔Ins (aN ms) xo xd):=by rw [hzi.o];exact (kY (mH H0.o.2.1.ok HP.o.1) HP.o.2.2).symm
  clear P1 P2 P3 P4 P5 P6;refine aY (i:=18) zq rfl (fun K hK=> ?_);go_simp;refine hins.mono ?_;clear hins;rintro e w4 ⟨rfl,hw4⟩;subst hw4;refine hK _ _ ⟨HW3.o.x,HW3.o.b⟩ ?_;clear hK K;refine qn ?_;refine tk 19 ⟨HW3.o.x,HW3.o.b⟩ ?_;refine tk 20 ⟨HW3.o.x,HW3.o.b⟩ ?_;refine wpAnyH_done zq ?_ _;refine qn ?_
  cases zi with
  | true=>
   obtain ⟨z0,z1,z2,z3,z4,z5,z6,z7,zf⟩:=OpBlk.cells HW3.o.z;unfold aV at z0 z1 z2 z3 z4 z5 z6 z7;dsimp only at z0 z1 z2 z3 z4 z5 z6 z7;go_wp2;(try simp only [Exit.inBlock,Exit.then]);refine bodyPost_ret (v:=.tuple #[aD aV,.int .i64 10]) ?_ rfl ⟨(aV,10),rfl,?_,.inr (.inl ⟨HKK.o.1,HKK.o.2,Ly HP.o HANS.o hce.o (HZI.o.1 (by first | rfl | trivial))⟩)⟩
   ·exact kc3
   exact aQ (b:=S0+1) HW3.o.b yC 0 [.int .i64 0,.int .i64 0,.int .i64 0,.int .u8 0,.int .i64 0,.int .i64 0,.string ⟨#[]⟩,.string ⟨#[]⟩]
  | false=>
   obtain ⟨z0,z1,z2,z3,z4,z5,z6,z7,zf⟩:=OpBlk.cells HW3.o.z;unfold aV at z0 z1 z2 z3 z4 z5 z6 z7;dsimp only at z0 z1 z2 z3 z4 z5 z6 z7;obtain ⟨y0,y1,y2,y3,y4,y5,y6,y7,yf⟩:=OpBlk.cells ((HVF.o.2.later ((vP _ V).drew)).later HB3.o);dsimp only at y0 y1 y2 y3 y4 y5 y6 y7;go_wp2;(try simp only [Exit.inBlock,Exit.then]);refine bodyPost_ret (v:=.tuple #[aD (yt,yb,yn,yk,yd,yo,ys,yv),.int .i64 (cd:Int)]) ?_ rfl ⟨((yt,yb,yn,yk,yd,yo,ys,yv),cd),rfl,?_,.inr (.inl ⟨HKK.o.1,HKK.o.2,Lt HP.o HANS.o hce.o hsame.o (fun q=>by have:=HZI.o.2 q;cases this)⟩)⟩
   ·exact ke5
   exact aQ (b:=S0+1) HW3.o.b yC 0 (au (yt,yb,yn,yk,yd,yo,ys,yv))
 have dc:((cd:Int)==0)=false:=zr;have dcn:(cd==0)=false:=zr;have hce:Aside (cd≠0):=hc;clear hc;go_upto_region 6 with fail;have HW0:Aside (MkF w S0 (xt,xb,xn,xk,xd,xo,xs,xv) V.drew):=HVF.o.1.later ((vP _ V).drew);refine aO (S:=(fun w'=>OpBlk w' S0 (xt,xb,xn,xk,xd,xo,xs,xv)/\Below w.heap.size w w')) zq ⟨HW0.o.x,HW0.o.b⟩ (fun hHeld=> ?_);refine tk 0 hHeld ?_;refine tk 1 hHeld ?_;refine tk 2 hHeld ?_;refine tk 3 hHeld ?_ (hy:=Or.inr ⟨zA,rfl⟩);refine tk 4 hHeld ?_ (hy:=Or.inr ⟨zA,rfl⟩);refine tk 5 hHeld ?_ (hy:=Or.inr ⟨zA,rfl⟩);refine tk 6 hHeld ?_ (hy:=Or.inr ⟨zA,rfl⟩);refine tk 7 hHeld ?_ (hy:=Or.inr ⟨zA,rfl⟩);refine tk 8 hHeld ?_ (hy:=Or.inr ⟨zA,rfl⟩);refine tk 9 hHeld ?_ (hy:=Or.inr ⟨zA,rfl⟩);refine tk 10 hHeld ?_ (hy:=Or.inr ⟨zA,rfl⟩);refine tk 11 hHeld ?_ (hy:=Or.inr ⟨zA,rfl⟩);refine tk 12 hHeld ?_ (hy:=Or.inr ⟨zA,rfl⟩);refine tk 13 hHeld ?_ (hy:=Or.inr ⟨zA,rfl⟩);refine tk 14 hHeld ?_ (hy:=Or.inr ⟨zA,rfl⟩);refine tk 15 hHeld ?_ (hy:=Or.inr ⟨zA,rfl⟩);refine tk 16 hHeld ?_ (hy:=Or.inr ⟨zA,rfl⟩);refine tk 17 hHeld ?_ (hy:=Or.inr ⟨zA,rfl⟩);refine tk 18 hHeld ?_ (hy:=Or.inr ⟨zA,rfl⟩);refine tk 19 hHeld ?_ (hy:=Or.inr ⟨zA,rfl⟩);refine tk 20 hHeld ?_;refine wpAnyH_done zq ?_ _;refine qn ?_;have HQD:Aside (OpBlk V.drew QQ (yt,yb,yn,yk,yd,yo,ys,yv)):=HVF.o.2.later ((vP _ V).drew);clear hHeld
 generalize V.drew=D at HW0 HQD |-
 obtain ⟨z0,z1,z2,z3,z4,z5,z6,z7,zf⟩:=OpBlk.cells HW0.o.z;unfold aV at z0 z1 z2 z3 z4 z5 z6 z7;dsimp only at z0 z1 z2 z3 z4 z5 z6 z7;obtain ⟨y0,y1,y2,y3,y4,y5,y6,y7,yf⟩:=OpBlk.cells (HQD.o);dsimp only at y0 y1 y2 y3 y4 y5 y6 y7;go_wp2;(try simp only [Exit.inBlock,Exit.then]);refine bodyPost_ret (v:=.tuple #[aD (yt,yb,yn,yk,yd,yo,ys,yv),.int .i64 (cd:Int)]) ?_ rfl ⟨((yt,yb,yn,yk,yd,yo,ys,yv),cd),rfl,?_,.inr (.inl ⟨HKK.o.1,HKK.o.2,Kl HPM.o HANS.o hce.o⟩)⟩
 ·exact ke5
 exact aQ (b:=S0+1) HW0.o.b yC 0 (au (yt,yb,yn,yk,yd,yo,ys,yv))
