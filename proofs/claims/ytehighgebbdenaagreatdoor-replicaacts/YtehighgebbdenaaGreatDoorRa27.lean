import Derived.Test.YtehighgebbdenaaGreatDoorRa25
import Derived.Test.YtehighgebbdenaaGreatDoorRa26
set_option maxRecDepth 100000
set_option maxHeartbeats 64000000
namespace Go.Proofs.YtehighgebbdenaaGreatDoor
open Go.Proofs.Tryz
variable {by_:Int} {R S T:List OpX} {C cap m:Nat} {mk:Nat×Nat} {x y:OpX} {ao ra:Option Addr} {ty:TypeId} {a b:Value} {W w w':World}
section
open Go Go.RowKit Go.Lib Go.Sort
def FC (m:Nat) (by_:Int) (ao:Option Addr) (cap:Nat) (S l:List OpX) (w:World) (e:Ending) (w':World):Prop:=∃a,aB S l a/\Keeps (fun k=>k=m) w w'/\(match a with
 | .inl (i,cd)=>e= .returned (.tuple #[.int .i64 0,.agg #[.int .i64 (cd:Int),.int .i64 i]])/\MRp w' m by_ ao cap S
 | .inr fresh=>e= .returned (.tuple #[.int .i64 (fresh.length:Int),.agg #[.int .i64 0,.int .i64 (-1)]])/\∃ao' cap' S',MRp w' m by_ ao' cap' S'/\Shp ao' cap'/\S'.Perm (S++fresh)/\S'.Pairwise (fun a b=>¬CLt (stO b) (stO a))/\∀b o,ao'=some ⟨b,o,none⟩->w.heap.size<=b)
structure L1 (w:World) (C:Nat) (T:List OpX) (ov:Value) (W:World):Prop where
 row:W.ownsRow (w.heap.size+1) 38 8 ov T.length (cellsOf T)
 flt:W.heap[C]? =some (.cells #[.int .i64 0,.int .i64 0] 46 (0,0))
 below:Below w.heap.size w W
 size:w.heap.size+1<=W.heap.size
theorem L1.later {ov:Value} {W':World} (h:L1 w C T ov W) (hb:Below W.heap.size W W'):L1 w C T ov W':=
 ⟨IX h.row (fun g hg=>hb.block g (h.row.lt g hg).2),(hb.block C (vO.1 h.flt).1).trans h.flt,zj h.below hb,uf h.size hb.size⟩
theorem fV {p:OpX->Bool} {k:Nat} (hx:T[k]? =some x):(T.take (k+1)).any p=((T.take k).any p ||p x):=by
 have hi:=(vL.1 hx).1;rw [uK hi,(vL.1 hx).2,List.any_append];simp
theorem IE (h:ar x=1):rd T x=false:=by unfold rd;simp [h]
theorem Gp (h:ar x=1):fE T x=false:=by unfold fE;simp [h]
theorem FV (h:ar x≠1) (hl:av T (byO x) (ar x - 1)=none):rd T x=true:=by unfold rd;rw [hl];simp [h]
theorem Fe (hl:av T (byO x) (ar x - 1)=some y):rd T x=false:=by unfold rd;rw [hl];simp
theorem Ex (hl:av T (byO x) (ar x - 1)=none):fE T x=false:=by unfold fE;rw [hl];simp
theorem rF (hl:av T (byO x) (ar x - 1)=some y):fE T x=(decide (ar x≠1) && !bL y.1 y.2.1 x.1 x.2.1):=by unfold fE;rw [hl]
theorem gx {i:Nat} (h:oJ w ao i x) (hb:Below w.heap.size w w'):oJ w' ao i x:=by
 obtain ⟨blk,off,e,E⟩:=h;exact ⟨blk,off,e,E.later hb⟩
theorem L1.ops {ka:Option Addr} {kc:Nat} (h:L1 w C T (.slice ka T.length kc) W):OpsIn W ka T:=by
 obtain ⟨a,c,e,hh⟩:=kn (dI h.row)
 cases e
 exact hh
theorem om {n:Nat} (h:n<=100000):wrap64 (n:Int)=(n:Int):=yl
theorem Cu {B:Nat} (h:Below B w w') (q:Nat):Below B w (w'.drewN q):=⟨h.os,h.tape,h.output,h.size,h.block⟩
theorem rk (hc:w.heap[C]? =some (.cells #[a,b] ty mk)) (hr:OpsIn w ra R) (p:Nat) (vs:List Value):OpsIn (w.setCells C p vs) ra R:=by
 rcases hr with e | ⟨g,o,e,hcell⟩
 ·exact .inl e
 by_cases hR:R= []
 ·exact .inl hR
 refine .inr ⟨g,o,e,fun j u hj=> ?_⟩
 have hne:g≠C:=by
  intro e2;subst e2
  cases R with
  | nil=>exact hR rfl
  | cons x t=>
   have h7:=hcell 7 _ (show (cellsOf (x::t))[7]? =some _ from rfl);simp [World.cell?,hc] at h7
   try omega
 have hlt:g<w.heap.size:=vR w ⟨g,o+j,none⟩ (hcell j u hj);exact ((aZ C _ p w).cell (a:=⟨g,o+j,none⟩) hlt (fun e=>hne e)).trans (hcell j u hj)
theorem MRp.put (h:MRp w m by_ ao cap S) (rc:Nat) (hr:OpsIn w ra R):MRp (w.setCells m 1 [.slice ra R.length rc]) m by_ ra rc R:=by
 have hc:=h.cell;refine ⟨?_,rk hc hr 1 _⟩;exact heap_setCell_same w m 1 _ _ (.slice ra R.length rc) hc
theorem MRp.two (h:MRp w m by_ ao cap S) (hc:w.heap[C]? =some (.cells #[a,b] ty mk)) (hne:m≠C) (p:Nat) (vs:List Value):MRp (w.setCells C p vs) m by_ ao cap S:=
 ⟨((aZ C _ p w).block m h.lt (fun e=>hne e)).trans h.cell,rk hc h.ops p vs⟩
theorem FO (R:List OpX) (xt xb xn:Int) (xk:Nat) (xd xo:Int) (xs xv:ByteArray):re R (xt,xb,xn,xk,xd,xo,xs,xv)=(((((decide (xk=109) &&decide (xt*4+xb=xd)) ||bT R xd) && !(decide (xk=109) && !kP R xo))) &&(!((decide (xk=105) &&decide (0<xo)) ||decide (xk=100)) ||fJ R xd xo)):=by
 show (((decide (xk=109) &&decide (xt*4+xb=xd)) ||bT R xd) &&((!decide (xk=109) ||kP R xo) &&(!((decide (xk=105) &&decide (0<xo)) ||decide (xk=100)) ||fJ R xd xo)))=_
 generalize decide (xk=109)=a;generalize decide (xt*4+xb=xd)=b;generalize bT R xd=c;generalize kP R xo=d;generalize ((decide (xk=105) &&decide (0<xo)) ||decide (xk=100))=e;generalize fJ R xd xo=f
 cases a<;>cases b<;>cases c<;>cases d<;>cases e<;>cases f<;>rfl
theorem Db (w:World) (la:Option Addr) (lc:Nat) (l:List OpX) (h:MRp w m by_ ao cap S) (hnc:Shp ao cap) (hw:WellK S) (hin:OpsIn w la l) (hsz:oL l) (hn:S.length<=400) (hl:l.length<=400):
  Calls prog 12 #[.pointer (some ⟨m,0,none⟩),.slice la l.length lc] w (FC m by_ ao cap S l w):=by
 obtain ⟨C,hC⟩:=ze w.heap.size;obtain ⟨U,hU⟩:=ze (w.alloc (.cells #[.int .i64 0,.int .i64 0] 46));have hbU:Below w.heap.size w U:=yS
 have hsU:U.heap.size=w.heap.size+1:=by rw [hU.o];simp
 have hfU:U.heap[C]? =some (.cells #[.int .i64 0,.int .i64 0] 46 (0,0)):=by rw [hU.o,hC.o];exact heap_alloc_new w _
 obtain ⟨v1,W1,r1,o1,g1⟩:=Br (w:=U) (base:=w.heap.size+1) (n:=0) (v:=.slice none 0 0) (xs:=[]) (un _ _ _ _) zo zo ao cap S zo ((h.later hbU).ops) hnc.nil 32;have hk1:Keeps (fun _=>False) U W1:=(aP g1).mono (fun b _ e=>yL);have hb1:Below w.heap.size w W1:=hbU.trans (hk1.below zo (fun k q=>q.elim));obtain ⟨c0,c1,cf⟩:=(h.later hbU).c
 have H0:Aside (MRp w m by_ ao cap S/\OpsIn w la l/\oL l/\WellK S):=⟨h,hin,hsz,hw⟩
 have HL0:Aside (L1 w C (S++ []) v1 W1):=by
  refine ⟨by rw [vY] at o1;simpa using o1,?_,hb1,by have:=hk1.size;omega⟩;rw [hk1.block C (by rw [hC.o,hsU];omega) (fun q=>q)];exact hfU
 clear h hin hsz hbU hk1 hb1 o1 g1 hfU;go_enter func12,ntmps12;go_upto_region 1 with fail;rw [<-hU.o,<-hC.o];go_wp2_with (at_builtin;refine Lib.wpList_append_run _ rfl _ _ _ _ rfl _ _ rfl rfl _ _ r1 ?_);clear r1 c0 c1 cf;go_loopg [6,7] l.length (fun kx s6 s7 wr=>∃(i:Nat) (fresh:List OpX) (ov:Value),ov=s6/\s7= .int .i64 (i:Int)/\i<=l.length/\l.length - i<=kx/\Aside (L1 w C (S++fresh) ov wr/\SiftAt S l i fresh))
 case atStart=>exact ⟨0,[],_,rfl,rfl,vV _,vM _,HL0.o,SiftAt.start S l⟩
 case round=>
  obtain ⟨i,fresh,ov,rfl,rfl,hi,hix,A⟩:=hrel;obtain ⟨u,hu⟩:=zc wr;subst hu;by_cases hlt:i<l.length
  ·have d1:decide ((i:Int)<(l.length:Int))=true:=by simp;omega
   have d1n:decide (i<l.length)=true:=zr
   obtain ⟨x,hx⟩:∃x,Aside (l[i]? =some x):=⟨l[i],vN hlt⟩
   obtain ⟨b1,o1,e1,E1⟩:=(H0.o.2.1.later A.o.1.below).one hx.o;have hsx:=H0.o.2.2.1 x (vQ hx.o);obtain ⟨xt,xb,xn,xk,xd,xo,xs,xv⟩:=x;have hop:=mS xt xb xn xk xd xo xs xv u (by have:=hsx.1;dsimp only at this;omega) (by have:=hsx.2;dsimp only at this;omega);obtain ⟨cd,hcd⟩:=ze (an (xt,xb,xn,xk,xd,xo,xs,xv));have e0:opE xt xb xn xk xd xo xs.data.toList xv.data.toList=cd:=jm;rw [e0] at hop;clear e0;dsimp only at E1;subst e1;have wi:((i:Int)).toNat=i:=zo;have pi:(0:Int)<=(i:Int):=zo;have bi:(i:Int)<(l.length:Int):=zo;obtain ⟨q0,q1,q2,q3,q4,q5,q6,q7⟩:=E1;go_wp2_with fail;refine hop.mono ?_;clear hop q0 q1 q2 q3 q4 q5 q6 q7;rintro e u1 ⟨rfl,hbu⟩
   have H1:Aside (L1 w C (S++fresh) ov u1/\SiftAt S l i fresh/\oJ u1 (some ⟨b1,o1,none⟩) i (xt,xb,xn,xk,xd,xo,xs,xv)):=by
    refine ⟨A.o.1.later hbu,A.o.2,?_⟩;exact ((H0.o.2.1.later A.o.1.below).later hbu).one hx.o
   clear hbu A;by_cases he:cd=0
   case neg=>
    have dc:decide ((0:Int)<(cd:Int))=true:=zr;have dcn:decide (0<cd)=true:=zr;have dcp:0<cd:=zo;have hfl:=H1.o.1.flt;have z0:u1.cell? ⟨C,0,none⟩=some (.int .i64 0):=zV;have z1:u1.cell? ⟨C,1,none⟩=some (.int .i64 0):=zV
    have zf:∀o,u1.frozen? ⟨C,o,none⟩=false:=fun o=>yH
    clear hfl
    have HJ:Aside (aB S l (.inl ((i:Int),cd))):=by
     have:=H1.o.2.1.bad hx.o (by rw [<-hcd.o];exact he);rw [<-hcd.o] at this;exact this
    have HB:Aside (Below w.heap.size w (u1.setCells C 0 [.int .i64 (cd:Int),.int .i64 (i:Int)])):=aQ H1.o.1.below zZ 0 _;go_wp2;(try simp only [Exit.inBlock,Exit.then]);refine bodyPost_ret (v:=.tuple #[.int .i64 0,.agg #[.int .i64 (cd:Int),.int .i64 (i:Int)]]) ?_ rfl ⟨.inl ((i:Int),cd),HJ.o,(aW HB.o).mono (fun k hk q=>yV),rfl,H0.o.1.later HB.o⟩;exact kk9
   subst he;have he0:Aside (an (xt,xb,xn,xk,xd,xo,xs,xv)=0):=hcd.o.symm;obtain ⟨T,hTT⟩:=ze (S++fresh);rw [<-hTT.o] at H1;obtain ⟨ka,kc,hkv,hin1⟩:=kn (dI H1.o.1.row);subst hkv
   have hTl:T.length<=2000:=by
    have:=H1.o.2.1.2.2;rw [hTT.o,ub];omega
   have HOWN:Aside (∀W,Below u1.heap.size u1 W->Calls prog 56 #[.slice ka T.length kc,.int .i64 xb,.int .i64 xn] W fun e w'=>e= .returned (.tuple #[aD ((av T xb xn).getD aV),.bool (av T xb xn).isSome])/\Aside (Below W.heap.size W w')):=fun W hW=>DN W ka kc T xb xn (hin1.later hW) zo
   obtain ⟨LK,hLK⟩:=ze (av T xb xn);rw [<-hLK.o] at HOWN
   obtain ⟨⟨yt,yb,yn,yk,yd,yo,ys,yv⟩,hyy⟩:∃y,Aside (y=LK.getD aV):=⟨_,rfl⟩
   rw [<-hyy.o] at HOWN;obtain ⟨zz,hzz⟩:=ze LK.isSome;rw [<-hzz.o] at HOWN;have hown:=HOWN.o u1.drew ((vP _ u1).drew);obtain ⟨b3,o3,e3,E3⟩:=H1.o.2.2
   cases e3
   dsimp only at E3;obtain ⟨q0,q1,q2,q3,q4,q5,q6,q7⟩:=E3
   have HS9:Aside (∀W,Below u1.heap.size u1 W->(fun w':World=>w'.cell? ⟨b1,o1+i*8+1,none⟩=some (.int .i64 xb)/\w'.cell? ⟨b1,o1+i*8+2,none⟩=some (.int .i64 xn)) W):=fun W hW=>⟨aT hW q1,aT hW q2⟩
   have N0:=HS9.o u1.drew ((vP _ u1).drew);clear hin1;go_upto_region 9 with fail;clear q0 q1 q2 q3 q4 q5 q6 q7;go_cut [9,10] (fun s9 s10 wx=>∃QQ:Nat,s9= .pointer (some ⟨QQ,0,none⟩)/\s10= .bool zz/\Aside (Below u1.heap.size u1 wx/\OpBlk wx QQ (yt,yb,yn,yk,yd,yo,ys,yv)))
   case first=>
    refine aO (S:=(fun w'=>w'.cell? ⟨b1,o1+i*8+1,none⟩=some (.int .i64 xb)/\w'.cell? ⟨b1,o1+i*8+2,none⟩=some (.int .i64 xn))) zq N0 (fun hHeld=> ?_);refine tk 0 hHeld ?_;refine tk 1 hHeld ?_;refine tk 2 hHeld ?_;refine tk 3 hHeld ?_;refine tk 4 hHeld ?_;refine tk 5 hHeld ?_;refine tk 6 hHeld ?_ (hy:=Or.inl ⟨zA,zL⟩);refine tk 7 hHeld ?_;refine tk 8 hHeld ?_;refine tk 9 hHeld ?_;refine tk 10 hHeld ?_;refine tk 11 hHeld ?_ (hy:=Or.inl ⟨zA,zL⟩);refine dQ (i:=12) (j:=16) zq rfl rfl (fun K hK=> ?cap) (fun K hK=> ?alp)
    case cap=>
     go_simp;refine hown.mono ?_;clear hown;rintro e w6 ⟨rfl,H6⟩;have B6:Below u1.heap.size u1 w6:=((vP _ u1).drew).trans H6.o;refine hK _ _ (HS9.o w6 B6) ?_;clear hK K;have HB6:Aside (Below u1.heap.size u1 w6):=B6;clear B6;unfold aD;dsimp only;refine qn ?_;refine tk 13 (HS9.o w6 HB6.o) ?_;refine tk 14 (HS9.o w6 HB6.o) ?_;refine tk 15 (HS9.o w6 HB6.o) ?_;obtain ⟨X,hX⟩:=ze (w6.alloc (.cells #[.int .i64 0,.int .i64 0,.int .i64 0,.int .u8 0,.int .i64 0,.int .i64 0,.string ⟨#[]⟩,.string ⟨#[]⟩] 38));obtain ⟨QQ,hQQ⟩:=ze w6.heap.size;have hbX:Below u1.heap.size u1 X:=jy;have ZX:OpBlk X QQ aV:=jG
     have hQl:u1.heap.size<=QQ:=by rw [hQQ.o];exact HB6.o.size
     refine aY (i:=16) zq rfl (fun K hK=> ?_);go_simp;rw [<-hX.o,<-hQQ.o];refine hK _ _ (HS9.o X hbX) ?_;clear hK K;refine qn ?_;obtain ⟨z0,z1,z2,z3,z4,z5,z6,z7,zf'⟩:=ZX.cells;unfold aV at z0 z1 z2 z3 z4 z5 z6 z7;dsimp only at z0 z1 z2 z3 z4 z5 z6 z7;obtain ⟨Z,hZ⟩:=ze (X.setCells QQ 0 (au (yt,yb,yn,yk,yd,yo,ys,yv)));have HZ:Aside (Below u1.heap.size u1 Z/\OpBlk Z QQ (yt,yb,yn,yk,yd,yo,ys,yv)):=zM;refine aY (i:=17) zq rfl (fun K hK=> ?_);go_simp;refine hK _ _ (show (fun w'=>w'.cell? ⟨b1,o1+i*8+1,none⟩=some (.int .i64 xb)/\w'.cell? ⟨b1,o1+i*8+2,none⟩=some (.int .i64 xn)) (X.setCells QQ 0 (au (yt,yb,yn,yk,yd,yo,ys,yv))) from by rw [<-hZ.o];exact HS9.o Z HZ.o.1) ?_;clear hK K z0 z1 z2 z3 z4 z5 z6 z7 zf';have eZ:X.setCells QQ 0 (au (yt,yb,yn,yk,yd,yo,ys,yv))=Z:=hZ.o.symm;unfold World.setCells au at eZ
     try simp only [World.setCells] at eZ
     try rw [eZ]
     refine qn ?_;refine tk 18 (HS9.o Z HZ.o.1) ?_;exact kk4
    case alp=>
     obtain ⟨X0,hX0⟩:=ze ((u1.alloc (.cells #[.int .i64 0,.int .i64 0,.int .i64 0,.int .u8 0,.int .i64 0,.int .i64 0,.string ⟨#[]⟩,.string ⟨#[]⟩] 38)).drew);obtain ⟨QQ,hQQ⟩:=ze u1.heap.size
     have hbX0:Below u1.heap.size u1 X0:=by rw [hX0.o];exact (zh u1 _).drew
     have ZX0:OpBlk X0 QQ aV:=by rw [hX0.o,hQQ.o];exact OpBlk.new u1 aV
     have hQl:u1.heap.size<=QQ:=by rw [hQQ.o];exact vM _
     have hown2:=HOWN.o X0 hbX0;go_simp;rw [<-hX0.o,<-hQQ.o];refine hK _ _ (HS9.o X0 hbX0) ?_;clear hK K hown;refine qn ?_;refine aY (i:=12) zq rfl (fun K hK=> ?_);go_simp;refine hown2.mono ?_;clear hown2;rintro e X ⟨rfl,H6⟩;have hbX:Below u1.heap.size u1 X:=zj hbX0 H6.o;have ZX:OpBlk X QQ aV:=ZX0.later H6.o;refine hK _ _ (HS9.o X hbX) ?_;clear hK K;unfold aD;dsimp only;refine qn ?_;refine tk 13 (HS9.o X hbX) ?_;refine tk 14 (HS9.o X hbX) ?_;refine tk 15 (HS9.o X hbX) ?_;obtain ⟨z0,z1,z2,z3,z4,z5,z6,z7,zf'⟩:=ZX.cells;unfold aV at z0 z1 z2 z3 z4 z5 z6 z7;dsimp only at z0 z1 z2 z3 z4 z5 z6 z7;obtain ⟨Z,hZ⟩:=ze (X.setCells QQ 0 (au (yt,yb,yn,yk,yd,yo,ys,yv)));have HZ:Aside (Below u1.heap.size u1 Z/\OpBlk Z QQ (yt,yb,yn,yk,yd,yo,ys,yv)):=zM;refine aY (i:=17) zq rfl (fun K hK=> ?_);go_simp;refine hK _ _ (show (fun w'=>w'.cell? ⟨b1,o1+i*8+1,none⟩=some (.int .i64 xb)/\w'.cell? ⟨b1,o1+i*8+2,none⟩=some (.int .i64 xn)) (X.setCells QQ 0 (au (yt,yb,yn,yk,yd,yo,ys,yv))) from by rw [<-hZ.o];exact HS9.o Z HZ.o.1) ?_;clear hK K z0 z1 z2 z3 z4 z5 z6 z7 zf';have eZ:X.setCells QQ 0 (au (yt,yb,yn,yk,yd,yo,ys,yv))=Z:=hZ.o.symm;unfold World.setCells au at eZ
     try simp only [World.setCells] at eZ
     try rw [eZ]
     refine qn ?_;refine tk 18 (HS9.o Z HZ.o.1) ?_;exact kj6
   obtain ⟨QQ,rfl,rfl,HZ⟩:=hcut;obtain ⟨Z,hZ⟩:=zc wc;subst hZ
   have HR:Aside (L1 w C T (.slice ka T.length kc) Z/\OpBlk Z QQ (yt,yb,yn,yk,yd,yo,ys,yv)/\oJ Z (some ⟨b1,o1,none⟩) i (xt,xb,xn,xk,xd,xo,xs,xv)/\SiftAt S l i fresh):=⟨H1.o.1.later HZ.o.1,HZ.o.2,((H0.o.2.1.later H1.o.1.below).later HZ.o.1).one hx.o,H1.o.2.1⟩
   clear HS9 HOWN HZ H1 hown N0
   cases LK with
   | none=>
    have zf0:zz=false:=hzz.o;subst zf0
    have hlk:Aside (av (S++fresh) xb xn=none):=by show _=none;rw [<-hTT.o];exact hLK.o.symm
    clear hLK hyy hzz;go_upto_region 10 with fail;go_quiet (fail);have HBq:Below Z.heap.size Z (Z.drewN nq):=Cu (vP _ Z) nq
    have HD:Aside (L1 w C T (.slice ka T.length kc) (Z.drewN nq)/\oJ (Z.drewN nq) (some ⟨b1,o1,none⟩) i (xt,xb,xn,xk,xd,xo,xs,xv)/\SiftAt S l i fresh):=⟨HR.o.1.later HBq,gx HR.o.2.2.1 HBq,HR.o.2.2.2⟩
    clear HBq HR
    generalize Z.drewN nq=D at HD |-
    obtain ⟨b5,o5,e5,E5⟩:=HD.o.2.1
    cases e5
    dsimp only at E5;obtain ⟨q0,q1,q2,q3,q4,q5,q6,q7⟩:=E5;obtain ⟨i0,hi0,hz0,hz1,hz2⟩:=info_parts dX;go_wp2_with (at_builtin;refine wpList_append_own _ rfl _ _ 32 rfl (w.heap.size+1) 38 i0 _ 8 80 underlying32 hi0 hz0 hz1 hz2 rfl zo _ _ _ rfl (HD.o.1.row.alloc _) ⟨D.heap.size,0,none⟩ 1 1 (au (xt,xb,xn,xk,xd,xo,xs,xv)) rfl ?qc1 ?qc2 ?qc3 ?qc4 ?qc5 ?qc6 ?_)
    case qc1=>rfl
    case qc2=>first | exact Kx D (xt,xb,xn,xk,xd,xo,xs,xv) | exact fun j u h=>h
    case qc3=>exact KX _
    case qc4=>simp only [maxLen];omega
    case qc5=>omega
    case qc6=>have:=HD.o.1.size;first | omega | (simp;omega)
    intro v' w4 hown hgrow hnil
    have HN:Aside (L1 w C (S++(fresh++ [(xt,xb,xn,xk,xd,xo,xs,xv)])) v' w4/\SiftAt S l (i+1) (fresh++ [(xt,xb,xn,xk,xd,xo,xs,xv)])):=by
     have hg4:=aP hgrow
     have hlow:∀k,some k=(Value.slice ka T.length kc).ownBlock->w.heap.size+1<=k:=fun k hk=>(HD.o.1.row.lt k hk.symm).1
     have hCs:C<D.heap.size:=(vO.1 HD.o.1.flt).1;refine ⟨⟨?_,?_,?_,?_⟩,HD.o.2.2.more hx.o he0.o hlk.o⟩
     ·rw [<-ux,<-hTT.o,lf,ub];exact hown
     ·rw [hg4.block C zr (fun e=>by have:=hlow C e;have:=hC.o;omega),vZ _ _ C hCs];exact HD.o.1.flt
     ·exact (HD.o.1.below.alloc HD.o.1.below.size _).grown hgrow (by simp;have:=HD.o.1.size;omega) (fun k hk=>by have:=hlow k hk.symm;omega)
     have:=hg4.size;have h2:=HD.o.1.size;simp at this;omega
    clear hown hgrow hnil q0 q1 q2 q3 q4 q5 q6 q7 HD;go_wp2;go_roundg (l.length - (i+1))
    case measure=>omega
    case rel=>exact ⟨i+1,_,_,rfl,zD,zo,vM _,HN.o⟩
   | some yy=>
    have zt0:zz=true:=hzz.o;subst zt0
    have hlk:Aside (av (S++fresh) xb xn=some (yt,yb,yn,yk,yd,yo,ys,yv)):=by show _=some _;rw [<-hTT.o,<-hLK.o];exact congrArg some hyy.o.symm
    clear hLK hyy hzz;obtain ⟨y0,y1,y2,y3,y4,y5,y6,y7,yf⟩:=HR.o.2.1.cells;dsimp only at y0 y1 y2 y3 y4 y5 y6 y7;obtain ⟨b5,o5,e5,E5⟩:=HR.o.2.2.1
    cases e5
    dsimp only at E5;obtain ⟨q0,q1,q2,q3,q4,q5,q6,q7⟩:=E5
    have heq:=fun w=>LI yt yb yn yk yd yo ys yv xt xb xn xk xd xo xs xv w
    cases hq:eqB yt yb yn yk yd yo ys yv xt xb xn xk xd xo xs xv with
    | true=>
     have HQ:Aside ((yt,yb,yn,yk,yd,yo,ys,yv)=(xt,xb,xn,xk,xd,xo,xs,xv)):=by
      exact ki6
     rw [hq] at heq;clear hq;go_upto_region 10 with fail;go_quiet (fail);clear heq q0 q1 q2 q3 q4 q5 q6 q7 y0 y1 y2 y3 y4 y5 y6 y7 yf;have HBq:Below Z.heap.size Z (Z.drewN nq):=Cu (vP _ Z) nq
     have HD:Aside (L1 w C T (.slice ka T.length kc) (Z.drewN nq)/\oJ (Z.drewN nq) (some ⟨b1,o1,none⟩) i (xt,xb,xn,xk,xd,xo,xs,xv)/\SiftAt S l i fresh):=⟨HR.o.1.later HBq,gx HR.o.2.2.1 HBq,HR.o.2.2.2⟩
     clear HBq HR
     generalize Z.drewN nq=D at HD |-
     have HN:Aside (L1 w C (S++fresh) (.slice ka T.length kc) D/\SiftAt S l (i+1) fresh):=⟨by rw [<-hTT.o];exact HD.o.1,HD.o.2.2.same hx.o he0.o (by show av _ xb xn=_;rw [hlk.o,HQ.o])⟩
     clear HD;go_wp2;go_roundg (l.length - (i+1))
     case measure=>omega
     case rel=>exact ⟨i+1,fresh,_,rfl,zD,zo,vM _,HN.o⟩
    | false=>
     have HQ:Aside ((yt,yb,yn,yk,yd,yo,ys,yv)≠(xt,xb,xn,xk,xd,xo,xs,xv)):=fun e=>by
      exact ko5
     rw [hq] at heq;clear hq;go_upto_region 10 with fail;go_quiet (fail);clear heq q0 q1 q2 q3 q4 q5 q6 q7 y0 y1 y2 y3 y4 y5 y6 y7 yf;have HBq:Below Z.heap.size Z (Z.drewN nq):=Cu (vP _ Z) nq
     have HD:Aside (L1 w C T (.slice ka T.length kc) (Z.drewN nq)/\oJ (Z.drewN nq) (some ⟨b1,o1,none⟩) i (xt,xb,xn,xk,xd,xo,xs,xv)/\SiftAt S l i fresh):=⟨HR.o.1.later HBq,gx HR.o.2.2.1 HBq,HR.o.2.2.2⟩
     clear HBq HR
     generalize Z.drewN nq=D at HD |-
     have hfl:=HD.o.1.flt;have z0:D.cell? ⟨C,0,none⟩=some (.int .i64 0):=zV;have z1:D.cell? ⟨C,1,none⟩=some (.int .i64 0):=zV
     have zf:∀o,D.frozen? ⟨C,o,none⟩=false:=fun o=>yH
     clear hfl;have HJ:Aside (aB S l (.inl ((i:Int),7))):=HD.o.2.2.other hx.o he0.o hlk.o HQ.o;have HB:Aside (Below w.heap.size w (D.setCells C 0 [.int .i64 7,.int .i64 (i:Int)])):=aQ HD.o.1.below zZ 0 _;go_wp2;(try simp only [Exit.inBlock,Exit.then]);refine bodyPost_ret (v:=.tuple #[.int .i64 0,.agg #[.int .i64 7,.int .i64 (i:Int)]]) ?_ rfl ⟨.inl ((i:Int),7),HJ.o,(aW HB.o).mono (fun k hk q=>yV),rfl,H0.o.1.later HB.o⟩;exact kk9
  have d1:decide ((i:Int)<(l.length:Int))=false:=zr;have d1n:decide (i<l.length)=false:=zr
  have HSF:Aside (bp S 0 [] l= .inr fresh/\FreshK S fresh/\fresh.length<=400):=⟨A.o.2.all zo,A.o.2.2.1,by have:=A.o.2.2.2;omega⟩
  obtain ⟨T,hTT⟩:=ze (S++fresh)
  have H2:Aside (L1 w C T ov u):=by
   show L1 w C T ov u
   rw [hTT.o];exact A.o.1
  clear A HL0;obtain ⟨ka,kc,hkv,-⟩:=kn (dI H2.o.row);subst hkv
  have hTl:T.length<=800:=by
   have:=HSF.o.2.2;rw [hTT.o,ub];omega
  have hTok:Aside (∀x∈T,an x=0):=by
   intro x hx;rw [hTT.o] at hx
   rcases vW.1 hx with q | q
   ·exact H0.o.2.2.2.ok x q
   exact HSF.o.2.1.ok x q
  go_wp2;go_loopg [11,12,13] T.length (fun kx s11 s12 s13 wr=>∃(k:Nat) (za zb:Bool),s11= .bool za/\s12= .bool zb/\s13= .int .i64 (k:Int)/\k<=T.length/\T.length - k<=kx/\Aside (L1 w C T (.slice ka T.length kc) wr/\za=(T.take k).any (rd T)/\zb=(T.take k).any (fE T)))
  case atStart=>exact ⟨0,false,false,rfl,rfl,rfl,vV _,vM _,H2.o,zv,zv⟩
  case round=>
   obtain ⟨k,za,zb,rfl,rfl,rfl,hk,hkx,A2⟩:=hrel;obtain ⟨u2,hu2⟩:=zc wr;subst hu2;by_cases hlt2:k<T.length
   ·have d2:decide ((k:Int)<(T.length:Int))=true:=by simp;omega
    have d2n:decide (k<T.length)=true:=zr
    obtain ⟨x,hx⟩:∃x,Aside (T[k]? =some x):=⟨T[k],vN hlt2⟩
    obtain ⟨b1,o1,e1,E1⟩:=A2.o.1.ops.one hx.o;have hex:=hTok.o x (vQ hx.o);obtain ⟨xt,xb,xn,xk,xd,xo,xs,xv⟩:=x;have hst:=aq hex;have hna:1<=xn:=hst.2.2.2.2.1;have hnb:xn<=400:=hst.2.2.2.2.2.1;clear hst hex;dsimp only at E1;subst e1;have wi:((k:Int)).toNat=k:=zo;have pi:(0:Int)<=(k:Int):=zo;have bi:(k:Int)<(T.length:Int):=zo;obtain ⟨q0,q1,q2,q3,q4,q5,q6,q7⟩:=E1;by_cases hn1:xn=1
    ·have dn:(xn==1)=true:=by simp [hn1]
     have HN:Aside (L1 w C T (.slice (some ⟨b1,o1,none⟩) T.length kc) u2/\za=(T.take (k+1)).any (rd T)/\zb=(T.take (k+1)).any (fE T)):=by
      refine ⟨A2.o.1,?_,?_⟩
      ·rw [fV hx.o,IE hn1,Bool.or_false];exact A2.o.2.1
      rw [fV hx.o,Gp hn1,Bool.or_false];exact A2.o.2.2
     clear A2 hn1 hna hnb;go_wp2;go_roundg (T.length - (k+1))
     case measure=>omega
     case rel=>exact ⟨k+1,za,zb,rfl,rfl,zD,zo,vM _,HN.o⟩
    have dn:(xn==1)=false:=by simp [hn1]
    have HQ0:Aside (u2.cell? ⟨b1,o1+k*8,none⟩=some (.int .i64 xt)/\u2.cell? ⟨b1,o1+k*8+1,none⟩=some (.int .i64 xb)):=⟨q0,q1⟩
    have hin1:=A2.o.1.ops
    have HOWN:Aside (∀W,Below u2.heap.size u2 W->Calls prog 56 #[.slice (some ⟨b1,o1,none⟩) T.length kc,.int .i64 xb,.int .i64 (xn - 1)] W fun e w'=>e= .returned (.tuple #[aD ((av T xb (xn - 1)).getD aV),.bool (av T xb (xn - 1)).isSome])/\Aside (Below W.heap.size W w')):=fun W hW=>DN W _ kc T xb (xn - 1) (hin1.later hW) zo
    obtain ⟨LK,hLK⟩:=ze (av T xb (xn - 1));rw [<-hLK.o] at HOWN
    obtain ⟨⟨yt,yb,yn,yk,yd,yo,ys,yv⟩,hyy⟩:∃y,Aside (y=LK.getD aV):=⟨_,rfl⟩
    rw [<-hyy.o] at HOWN;obtain ⟨zz,hzz⟩:=ze LK.isSome;rw [<-hzz.o] at HOWN;have hown:=HOWN.o u2.drew ((vP _ u2).drew)
    have HS9:Aside (∀W,Below u2.heap.size u2 W->(fun w':World=>w'.cell? ⟨b1,o1+k*8+1,none⟩=some (.int .i64 xb)/\w'.cell? ⟨b1,o1+k*8+2,none⟩=some (.int .i64 xn)) W):=fun W hW=>⟨aT hW q1,aT hW q2⟩
    have N0:=HS9.o u2.drew ((vP _ u2).drew);have hwr0:wrap64 (xn - 1)=xn - 1:=yl;have hwr:IntKind.i64.wrap (xn - 1)=xn - 1:=zB;clear hin1;go_upto_region 20 with fail;clear q0 q1 q2 q3 q4 q5 q6 q7;go_cut [14,15] (fun s14 s15 wx=>∃QQ:Nat,s14= .pointer (some ⟨QQ,0,none⟩)/\s15= .bool zz/\Aside (Below u2.heap.size u2 wx/\OpBlk wx QQ (yt,yb,yn,yk,yd,yo,ys,yv)))
    case first=>
     refine aO (S:=(fun w'=>w'.cell? ⟨b1,o1+k*8+1,none⟩=some (.int .i64 xb)/\w'.cell? ⟨b1,o1+k*8+2,none⟩=some (.int .i64 xn))) zq N0 (fun hHeld=> ?_);refine tk 0 hHeld ?_;refine tk 1 hHeld ?_;refine tk 2 hHeld ?_;refine tk 3 hHeld ?_;refine tk 4 hHeld ?_;refine tk 5 hHeld ?_;refine tk 6 hHeld ?_ (hy:=Or.inl ⟨zA,zL⟩);refine tk 7 hHeld ?_;refine tk 8 hHeld ?_;refine tk 9 hHeld ?_;refine tk 10 hHeld ?_;refine tk 11 hHeld ?_ (hy:=Or.inl ⟨zA,zL⟩);refine tk 12 hHeld ?_;refine dQ (i:=13) (j:=17) zq rfl rfl (fun K hK=> ?caq) (fun K hK=> ?alq)
     case caq=>
      go_simp;refine hown.mono ?_;clear hown;rintro e w6 ⟨rfl,H6⟩;have B6:Below u2.heap.size u2 w6:=((vP _ u2).drew).trans H6.o;refine hK _ _ (HS9.o w6 B6) ?_;clear hK K;have HB6:Aside (Below u2.heap.size u2 w6):=B6;clear B6;unfold aD;dsimp only;refine qn ?_;refine tk 14 (HS9.o w6 HB6.o) ?_;refine tk 15 (HS9.o w6 HB6.o) ?_;refine tk 16 (HS9.o w6 HB6.o) ?_;obtain ⟨X,hX⟩:=ze (w6.alloc (.cells #[.int .i64 0,.int .i64 0,.int .i64 0,.int .u8 0,.int .i64 0,.int .i64 0,.string ⟨#[]⟩,.string ⟨#[]⟩] 38));obtain ⟨QQ,hQQ⟩:=ze w6.heap.size;have hbX:Below u2.heap.size u2 X:=jy;have ZX:OpBlk X QQ aV:=jG
      have hQl:u2.heap.size<=QQ:=by rw [hQQ.o];exact HB6.o.size
      refine aY (i:=17) zq rfl (fun K hK=> ?_);go_simp;rw [<-hX.o,<-hQQ.o];refine hK _ _ (HS9.o X hbX) ?_;clear hK K;refine qn ?_;obtain ⟨z0,z1,z2,z3,z4,z5,z6,z7,zf'⟩:=ZX.cells;unfold aV at z0 z1 z2 z3 z4 z5 z6 z7;dsimp only at z0 z1 z2 z3 z4 z5 z6 z7;obtain ⟨Z,hZ⟩:=ze (X.setCells QQ 0 (au (yt,yb,yn,yk,yd,yo,ys,yv)));have HZ:Aside (Below u2.heap.size u2 Z/\OpBlk Z QQ (yt,yb,yn,yk,yd,yo,ys,yv)):=zM;refine aY (i:=18) zq rfl (fun K hK=> ?_);go_simp;refine hK _ _ (show (fun w'=>w'.cell? ⟨b1,o1+k*8+1,none⟩=some (.int .i64 xb)/\w'.cell? ⟨b1,o1+k*8+2,none⟩=some (.int .i64 xn)) (X.setCells QQ 0 (au (yt,yb,yn,yk,yd,yo,ys,yv))) from by rw [<-hZ.o];exact HS9.o Z HZ.o.1) ?_;clear hK K z0 z1 z2 z3 z4 z5 z6 z7 zf';have eZ:X.setCells QQ 0 (au (yt,yb,yn,yk,yd,yo,ys,yv))=Z:=hZ.o.symm;unfold World.setCells au at eZ
      try simp only [World.setCells] at eZ
      try rw [eZ]
      refine qn ?_;refine tk 19 (HS9.o Z HZ.o.1) ?_;exact kk4
     case alq=>
      obtain ⟨X0,hX0⟩:=ze ((u2.alloc (.cells #[.int .i64 0,.int .i64 0,.int .i64 0,.int .u8 0,.int .i64 0,.int .i64 0,.string ⟨#[]⟩,.string ⟨#[]⟩] 38)).drew);obtain ⟨QQ,hQQ⟩:=ze u2.heap.size
      have hbX0:Below u2.heap.size u2 X0:=by rw [hX0.o];exact (zh u2 _).drew
      have ZX0:OpBlk X0 QQ aV:=by rw [hX0.o,hQQ.o];exact OpBlk.new u2 aV
      have hQl:u2.heap.size<=QQ:=by rw [hQQ.o];exact vM _
      have hown2:=HOWN.o X0 hbX0;go_simp;rw [<-hX0.o,<-hQQ.o];refine hK _ _ (HS9.o X0 hbX0) ?_;clear hK K hown;refine qn ?_;refine aY (i:=13) zq rfl (fun K hK=> ?_);go_simp;refine hown2.mono ?_;clear hown2;rintro e X ⟨rfl,H6⟩;have hbX:Below u2.heap.size u2 X:=zj hbX0 H6.o;have ZX:OpBlk X QQ aV:=ZX0.later H6.o;refine hK _ _ (HS9.o X hbX) ?_;clear hK K;unfold aD;dsimp only;refine qn ?_;refine tk 14 (HS9.o X hbX) ?_;refine tk 15 (HS9.o X hbX) ?_;refine tk 16 (HS9.o X hbX) ?_;obtain ⟨z0,z1,z2,z3,z4,z5,z6,z7,zf'⟩:=ZX.cells;unfold aV at z0 z1 z2 z3 z4 z5 z6 z7;dsimp only at z0 z1 z2 z3 z4 z5 z6 z7;obtain ⟨Z,hZ⟩:=ze (X.setCells QQ 0 (au (yt,yb,yn,yk,yd,yo,ys,yv)));have HZ:Aside (Below u2.heap.size u2 Z/\OpBlk Z QQ (yt,yb,yn,yk,yd,yo,ys,yv)):=zM;refine aY (i:=18) zq rfl (fun K hK=> ?_);go_simp;refine hK _ _ (show (fun w'=>w'.cell? ⟨b1,o1+k*8+1,none⟩=some (.int .i64 xb)/\w'.cell? ⟨b1,o1+k*8+2,none⟩=some (.int .i64 xn)) (X.setCells QQ 0 (au (yt,yb,yn,yk,yd,yo,ys,yv))) from by rw [<-hZ.o];exact HS9.o Z HZ.o.1) ?_;clear hK K z0 z1 z2 z3 z4 z5 z6 z7 zf';have eZ:X.setCells QQ 0 (au (yt,yb,yn,yk,yd,yo,ys,yv))=Z:=hZ.o.symm;unfold World.setCells au at eZ
      try simp only [World.setCells] at eZ
      try rw [eZ]
      refine qn ?_;refine tk 19 (HS9.o Z HZ.o.1) ?_;exact kj6
    obtain ⟨QQ,rfl,rfl,HZ⟩:=hcut;obtain ⟨Z,hZ⟩:=zc wc;subst hZ;have HR:Aside (L1 w C T (.slice (some ⟨b1,o1,none⟩) T.length kc) Z):=A2.o.1.later HZ.o.1
    have HS23:Aside (∀W,Below Z.heap.size Z W->(fun w':World=>w'.cell? ⟨QQ,0,none⟩=some (.int .i64 yt)/\w'.cell? ⟨QQ,1,none⟩=some (.int .i64 yb)/\w'.cell? ⟨b1,o1+k*8,none⟩=some (.int .i64 xt)/\w'.cell? ⟨b1,o1+k*8+1,none⟩=some (.int .i64 xb)) W):=by
     intro W hW;have hc:=HZ.o.2.cells;exact ⟨aT hW hc.1,aT hW hc.2.1,aT hW (aT HZ.o.1 HQ0.o.1),aT hW (aT HZ.o.1 HQ0.o.2)⟩
    clear HS9 HOWN HZ hown N0
    obtain ⟨zl,hzl⟩:∃zl,bL yt yb xt xb=zl:=⟨_,rfl⟩
    have hle:=Hu yt yb xt xb zl Z.drew hzl;have HZL:Aside (bL yt yb xt xb=zl):=hzl;clear hzl
    cases LK with
    | none=>
     have zf0:zz=false:=hzz.o;subst zf0;go_upto_region 23 with fail;refine aO (S:=(fun w'=>w'.cell? ⟨QQ,0,none⟩=some (.int .i64 yt)/\w'.cell? ⟨QQ,1,none⟩=some (.int .i64 yb)/\w'.cell? ⟨b1,o1+k*8,none⟩=some (.int .i64 xt)/\w'.cell? ⟨b1,o1+k*8+1,none⟩=some (.int .i64 xb))) zq (HS23.o Z.drew ((vP _ Z).drew)) (fun hHeld=> ?_);refine tk 0 hHeld ?_;refine tk 1 hHeld ?_ (hy:=Or.inl ⟨zA,zw⟩);refine tk 2 hHeld ?_;refine tk 3 hHeld ?_;refine tk 4 hHeld ?_;refine tk 5 hHeld ?_;refine tk 6 hHeld ?_ (hy:=Or.inl ⟨zA,zw⟩);refine aY (i:=7) zq rfl (fun K hK=> ?_);go_simp;refine hle.mono ?_;clear hle;rintro e w7 ⟨rfl,hb7⟩;have B7:Below Z.heap.size Z w7:=((vP _ Z).drew).trans hb7;refine hK _ _ (HS23.o w7 B7) ?_;clear hK K;have HB7:Aside (Below Z.heap.size Z w7):=B7;clear B7 hb7;refine qn ?_;refine tk 8 (HS23.o w7 HB7.o) ?_;refine wpAnyH_done zq ?_ _;refine qn ?_
     have HN:Aside (L1 w C T (.slice (some ⟨b1,o1,none⟩) T.length kc) w7/\true=(T.take (k+1)).any (rd T)/\zb=(T.take (k+1)).any (fE T)):=by
      refine ⟨HR.o.later HB7.o,?_,?_⟩
      ·rw [fV hx.o];rw [FV (by simpa using hn1) hLK.o.symm,Bool.or_true]
      rw [fV hx.o];rw [Ex hLK.o.symm,Bool.or_false];exact A2.o.2.2
     go_wp2;go_roundg (T.length - (k+1))
     case measure=>omega
     case rel=>exact ⟨k+1,true,zb,rfl,rfl,zD,zo,vM _,HN.o⟩
    | some yy=>
     have zt0:zz=true:=hzz.o;subst zt0
     have hyy2:Aside (av T (byO (xt,xb,xn,xk,xd,xo,xs,xv)) (ar (xt,xb,xn,xk,xd,xo,xs,xv) - 1)=some (yt,yb,yn,yk,yd,yo,ys,yv)):=by show av T xb (xn - 1)=some _;rw [<-hLK.o];exact congrArg some hyy.o.symm
     cases zl with
     | true=>
      go_upto_region 23 with fail;refine aO (S:=(fun w'=>w'.cell? ⟨QQ,0,none⟩=some (.int .i64 yt)/\w'.cell? ⟨QQ,1,none⟩=some (.int .i64 yb)/\w'.cell? ⟨b1,o1+k*8,none⟩=some (.int .i64 xt)/\w'.cell? ⟨b1,o1+k*8+1,none⟩=some (.int .i64 xb))) zq (HS23.o Z.drew ((vP _ Z).drew)) (fun hHeld=> ?_);refine tk 0 hHeld ?_;refine tk 1 hHeld ?_ (hy:=Or.inl ⟨zA,zw⟩);refine tk 2 hHeld ?_;refine tk 3 hHeld ?_;refine tk 4 hHeld ?_;refine tk 5 hHeld ?_;refine tk 6 hHeld ?_ (hy:=Or.inl ⟨zA,zw⟩);refine aY (i:=7) zq rfl (fun K hK=> ?_);go_simp;refine hle.mono ?_;clear hle;rintro e w7 ⟨rfl,hb7⟩;have B7:Below Z.heap.size Z w7:=((vP _ Z).drew).trans hb7;refine hK _ _ (HS23.o w7 B7) ?_;clear hK K;have HB7:Aside (Below Z.heap.size Z w7):=B7;clear B7 hb7;refine qn ?_;refine tk 8 (HS23.o w7 HB7.o) ?_;refine wpAnyH_done zq ?_ _;refine qn ?_
      have HN:Aside (L1 w C T (.slice (some ⟨b1,o1,none⟩) T.length kc) w7/\za=(T.take (k+1)).any (rd T)/\zb=(T.take (k+1)).any (fE T)):=by
       refine ⟨HR.o.later HB7.o,?_,?_⟩
       ·exact ko4
       rw [fV hx.o];rw [rF hyy2.o,HZL.o,Bool.not_true,Bool.and_false,Bool.or_false];exact A2.o.2.2
      go_wp2;go_roundg (T.length - (k+1))
      case measure=>omega
      case rel=>exact ⟨k+1,za,zb,rfl,rfl,zD,zo,vM _,HN.o⟩
     | false=>
      go_upto_region 23 with fail;refine aO (S:=(fun w'=>w'.cell? ⟨QQ,0,none⟩=some (.int .i64 yt)/\w'.cell? ⟨QQ,1,none⟩=some (.int .i64 yb)/\w'.cell? ⟨b1,o1+k*8,none⟩=some (.int .i64 xt)/\w'.cell? ⟨b1,o1+k*8+1,none⟩=some (.int .i64 xb))) zq (HS23.o Z.drew ((vP _ Z).drew)) (fun hHeld=> ?_);refine tk 0 hHeld ?_;refine tk 1 hHeld ?_ (hy:=Or.inl ⟨zA,zw⟩);refine tk 2 hHeld ?_;refine tk 3 hHeld ?_;refine tk 4 hHeld ?_;refine tk 5 hHeld ?_;refine tk 6 hHeld ?_ (hy:=Or.inl ⟨zA,zw⟩);refine aY (i:=7) zq rfl (fun K hK=> ?_);go_simp;refine hle.mono ?_;clear hle;rintro e w7 ⟨rfl,hb7⟩;have B7:Below Z.heap.size Z w7:=((vP _ Z).drew).trans hb7;refine hK _ _ (HS23.o w7 B7) ?_;clear hK K;have HB7:Aside (Below Z.heap.size Z w7):=B7;clear B7 hb7;refine qn ?_;refine tk 8 (HS23.o w7 HB7.o) ?_;refine wpAnyH_done zq ?_ _;refine qn ?_
      have HN:Aside (L1 w C T (.slice (some ⟨b1,o1,none⟩) T.length kc) w7/\za=(T.take (k+1)).any (rd T)/\true=(T.take (k+1)).any (fE T)):=by
       refine ⟨HR.o.later HB7.o,?_,?_⟩
       ·exact ko4
       rw [fV hx.o];rw [rF hyy2.o,HZL.o,Bool.not_false,Bool.and_true,show decide (ar (xt,xb,xn,xk,xd,xo,xs,xv)≠1)=true from decide_eq_true hn1,Bool.or_true]
      go_wp2;go_roundg (T.length - (k+1))
      case measure=>omega
      case rel=>exact ⟨k+1,za,true,rfl,rfl,zD,zo,vM _,HN.o⟩
   have d2:decide ((k:Int)<(T.length:Int))=false:=zr;have d2n:decide (k<T.length)=false:=zr
   have HA:Aside (za=T.any (rd T)/\zb=T.any (fE T)/\L1 w C T (.slice ka T.length kc) u2):=by
    have h1:=A2.o.2.1;have h2:=A2.o.2.2;rw [uc zo] at h1 h2;exact ⟨h1,h2,A2.o.1⟩
   clear A2 H2
   cases za with
   | true=>
    have HJ:Aside (aB S l (.inl (-1,9))):=BC HSF.o.1 vu;have hbr:=ko 9 u2;go_wp2_with fail;refine hbr.mono ?_;clear hbr;rintro e w6 ⟨rfl,H6⟩;have HL6:Aside (L1 w C T (.slice ka T.length kc) w6):=HA.o.2.2.later H6.o;have hfl:=HL6.o.flt;have z0:w6.cell? ⟨C,0,none⟩=some (.int .i64 0):=zV;have z1:w6.cell? ⟨C,1,none⟩=some (.int .i64 0):=zV
    have zf:∀o,w6.frozen? ⟨C,o,none⟩=false:=fun o=>yH
    clear hfl;have HB:Aside (Below w.heap.size w (w6.setCells C 0 [.int .i64 9,.int .i64 (-1)])):=aQ HL6.o.below zZ 0 _;go_wp2;(try simp only [Exit.inBlock,Exit.then]);refine bodyPost_ret (v:=.tuple #[.int .i64 0,.agg #[.int .i64 9,.int .i64 (-1)]]) ?_ rfl ⟨.inl (-1,9),HJ.o,(aW HB.o).mono (fun k hk q=>yV),rfl,H0.o.1.later HB.o⟩;exact kk9
   | false=>
    have HJR:Aside (∀R:List OpX,R.Perm T->(T.any (fE T)=true->aB S l (.inl (-1,3)))/\(T.any (fE T)=false->(R.any (fun x=> !re R x)=true->aB S l (.inl (-1,6)))/\(R.any (fun x=> !re R x)=false->(400<T.length->aB S l (.inl (-1,8)))/\(T.length<=400->aB S l (.inr fresh))))):=by
     intro R hR;have:=tw (T:=R) H0.o.2.2.2 HSF.o.2.1 HSF.o.1 vu (by rw [<-hTT.o];exact hR);rw [<-hTT.o] at this
     have e:S.length+fresh.length=T.length:=by rw [hTT.o,ub]
     rw [e] at this;exact this
    cases zb with
    | true=>
     have HJ:Aside (aB S l (.inl (-1,3))):=(HJR.o T (List.Perm.refl _)).1 HA.o.2.1.symm;have hbr:=ko 3 u2;go_wp2_with fail;refine hbr.mono ?_;clear hbr;rintro e w6 ⟨rfl,H6⟩;have HL6:Aside (L1 w C T (.slice ka T.length kc) w6):=HA.o.2.2.later H6.o;have hfl:=HL6.o.flt;have z0:w6.cell? ⟨C,0,none⟩=some (.int .i64 0):=zV;have z1:w6.cell? ⟨C,1,none⟩=some (.int .i64 0):=zV
     have zf:∀o,w6.frozen? ⟨C,o,none⟩=false:=fun o=>yH
     clear hfl;have HB:Aside (Below w.heap.size w (w6.setCells C 0 [.int .i64 3,.int .i64 (-1)])):=aQ HL6.o.below zZ 0 _;go_wp2;(try simp only [Exit.inBlock,Exit.then]);refine bodyPost_ret (v:=.tuple #[.int .i64 0,.agg #[.int .i64 3,.int .i64 (-1)]]) ?_ rfl ⟨.inl (-1,3),HJ.o,(aW HB.o).mono (fun k hk q=>yV),rfl,H0.o.1.later HB.o⟩;exact kk9
    | false=>
     have hsrt:=np u2.drew (.slice ka T.length kc) T ((dI HA.o.2.2.row).later ((vP _ u2).drew)) zo
     have HS30:Aside (∀W,Below u2.heap.size u2 W->(fun w':World=>w'.cell? ⟨m,0,none⟩=some (.int .i64 by_)) W):=fun W hW=>aT hW ((H0.o.1.later HA.o.2.2.below).c).1
     go_upto_region 30 with fail;refine aO (S:=(fun w'=>w'.cell? ⟨m,0,none⟩=some (.int .i64 by_))) zq (HS30.o u2.drew ((vP _ u2).drew)) (fun hHeld=> ?_);refine tk 0 hHeld ?_;refine tk 1 hHeld ?_;refine tk 2 hHeld ?_;refine tk 3 hHeld ?_ (hy:=Or.inl ⟨zA,jN⟩);refine tk 4 hHeld ?_;refine aY (i:=5) zq rfl (fun K hK=> ?_);go_simp;refine hsrt.mono ?_;clear hsrt;rintro e w6 ⟨v6,R,rfl,O6,St6,hb6,nb6⟩;obtain ⟨ra,rc,hrv,hrin,hrn⟩:=Cc O6;subst hrv
     have HNW:Aside (∀b o,ra=some ⟨b,o,none⟩->w.heap.size<=b):=fun b o e=>uf HA.o.2.2.below.size (nb6 b o _ _ (by rw [e]))
     clear nb6;have B6:Below u2.heap.size u2 w6:=((vP _ u2).drew).trans hb6;refine hK _ _ (HS30.o w6 B6) ?_;clear hK K
     have H6:Aside (OpsIn w6 ra R/\Shp ra rc/\bW T R/\Below u2.heap.size u2 w6):=⟨hrin,hrn,St6,B6⟩
     clear B6 hb6 O6 St6 hrin hrn;refine qn ?_;refine tk 6 (HS30.o w6 H6.o.2.2.2) ?_;obtain ⟨X,hX⟩:=ze (w6.alloc (.cells #[.int .i64 by_,.slice ra R.length rc] 34));obtain ⟨M2,hM2⟩:=ze w6.heap.size
     have hbX:Below u2.heap.size u2 X:=by rw [hX.o];exact H6.o.2.2.2.alloc H6.o.2.2.2.size _
     have HX:Aside (Below u2.heap.size u2 X/\MRp X M2 by_ ra rc R):=by
      rw [hX.o,hM2.o];exact ⟨H6.o.2.2.2.alloc H6.o.2.2.2.size _,⟨heap_alloc_new w6 _,H6.o.1.later (zh w6 _)⟩⟩
     refine aY (i:=7) zq rfl (fun K hK=> ?_);go_simp;rw [<-hX.o,<-hM2.o];refine hK _ _ (HS30.o X hbX) ?_;clear hK K hbX;refine qn ?_;refine tk 8 (HS30.o X HX.o.1) ?_;refine wpAnyH_done zq ?_ _;refine qn ?_
     have HRK:Aside (R.Perm T/\R.Pairwise (fun a b=>¬CLt (stO b) (stO a))/\(∀x∈R,an x=0)/\L1 w C T (.slice ka T.length kc) X/\Shp ra rc):=by
      have h1:=cr H6.o.2.2.1;exact ⟨h1.1,h1.2,fun x hx=>hTok.o x (h1.1.mem_iff.1 hx),HA.o.2.2.later HX.o.1,H6.o.2.1⟩
     have hRl:R.length<=800:=by have:=HRK.o.1.length_eq;omega
     clear HS30 hX hM2 H6;go_wp2;go_loopg [18] R.length (fun kx s18 wr=>∃(k:Nat),s18= .int .i64 (k:Int)/\k<=R.length/\R.length - k<=kx/\Aside (L1 w C T (.slice ka T.length kc) wr/\MRp wr M2 by_ ra rc R/\(R.take k).any (fun x=> !re R x)=false))
     case atStart=>exact ⟨0,rfl,vV _,vM _,HRK.o.2.2.2.1,HX.o.2,zv⟩
     case round=>
      obtain ⟨k3,rfl,hk3,hkx3,A3⟩:=hrel;obtain ⟨u3,hu3⟩:=zc wr;subst hu3;obtain ⟨c0,c1,cf⟩:=A3.o.2.1.c;by_cases hlt3:k3<R.length
      ·have d3:decide ((k3:Int)<(R.length:Int))=true:=by simp;omega
       have d3n:decide (k3<R.length)=true:=zr
       obtain ⟨x,hx⟩:∃x,Aside (R[k3]? =some x):=⟨R[k3],vN hlt3⟩
       have HT:=Lib.hid (lL A3.o.2.2 hx.o);obtain ⟨b1,o1,e1,E1⟩:=A3.o.2.1.ops.one hx.o;have hex:=HRK.o.2.2.1 x (vQ hx.o);obtain ⟨xt,xb,xn,xk,xd,xo,xs,xv⟩:=x;have hst:=aq hex;dsimp only at E1;subst e1;have wi:((k3:Int)).toNat=k3:=zo;have pi:(0:Int)<=(k3:Int):=zo;have bi:(k3:Int)<(R.length:Int):=zo;obtain ⟨q0,q1,q2,q3,q4,q5,q6,q7⟩:=E1;obtain ⟨V,hV⟩:=ze (u3.alloc (.cells #[.int .i64 xt,.int .i64 xb,.int .i64 xn,.int .u8 (xk:Int),.int .i64 xd,.int .i64 xo,.string xs,.string xv] 38));obtain ⟨P,hP⟩:=ze u3.heap.size
       have HV:Aside (OpBlk V P (xt,xb,xn,xk,xd,xo,xs,xv)/\Below u3.heap.size u3 V):=by
        rw [hV.o,hP.o];exact ⟨OpBlk.new u3 (xt,xb,xn,xk,xd,xo,xs,xv),zh u3 _⟩
       have HS35:Aside (∀W,Below V.heap.size V W->(fun w':World=>w'.cell? ⟨P,0,none⟩=some (.int .i64 xt)/\w'.cell? ⟨P,1,none⟩=some (.int .i64 xb)/\w'.cell? ⟨P,4,none⟩=some (.int .i64 xd)) W):=by
        intro W hW;have hc:=HV.o.1.cells;exact ⟨aT hW hc.1,aT hW hc.2.1,aT hW hc.2.2.2.2.1⟩
       have hid:=fK xt xb V.drew hst.1 hst.2.1 hst.2.2.1 hst.2.2.2.1;clear hst hex;obtain ⟨zn,hzn⟩:=ze ((4*xt+xb==xd));go_upto_region 35 with fail;rw [<-hV.o,<-hP.o];clear q0 q1 q2 q3 q4 q5 q6 q7 c0 c1 cf;go_cut [20] (fun s20 wx=>s20= .bool zn/\Aside (Below V.heap.size V wx))
       case first=>
        refine aO (S:=(fun w'=>w'.cell? ⟨P,0,none⟩=some (.int .i64 xt)/\w'.cell? ⟨P,1,none⟩=some (.int .i64 xb)/\w'.cell? ⟨P,4,none⟩=some (.int .i64 xd))) zq (HS35.o V.drew ((vP _ V).drew)) (fun hHeld=> ?_);refine tk 0 hHeld ?_;refine tk 1 hHeld ?_ (hy:=Or.inl ⟨zA,zQ⟩);refine tk 3 hHeld ?_;refine tk 4 hHeld ?_ (hy:=Or.inl ⟨zA,zQ⟩);refine aY (i:=2) zq rfl (fun K hK=> ?_);go_simp;refine hid.mono ?_;clear hid;rintro e w7 ⟨rfl,hb7⟩;have B7:Below V.heap.size V w7:=((vP _ V).drew).trans hb7;refine hK _ _ (HS35.o w7 B7) ?_;clear hK K;have HB7:Aside (Below V.heap.size V w7):=B7;clear B7 hb7;refine qn ?_;refine tk 5 (HS35.o w7 HB7.o) ?_;refine tk 6 (HS35.o w7 HB7.o) ?_;refine wpAnyH_done zq ?_ _;refine qn ?_;go_wp2;go_meet;exact ⟨by rw [hzn.o],HB7.o⟩
       obtain ⟨rfl,HB20⟩:=hcut;obtain ⟨v1_,hv1⟩:=zc wc;subst hv1
       have HS:Aside (∀W,Below v1_.heap.size v1_ W->L1 w C T (.slice ka T.length kc) W/\MRp W M2 by_ (some ⟨b1,o1,none⟩) rc R/\OpBlk W P (xt,xb,xn,xk,xd,xo,xs,xv)):=by
        intro W hW;have hb:Below u3.heap.size u3 W:=HV.o.2.trans ((zj HB20.o hW).mono HV.o.2.size);exact ⟨A3.o.1.later hb,A3.o.2.1.later hb,(HV.o.1.later HB20.o).later hW⟩
       clear HB20 HS35 HV hV;obtain ⟨zk,hzk⟩:=ze (bT R xd);obtain ⟨zp,hzp⟩:=ze (kP R xo);obtain ⟨zl,hzl⟩:=ze (fJ R xd xo)
       have HKN:Aside (∀W,Below v1_.heap.size v1_ W->Calls prog 61 #[.pointer (some ⟨M2,0,none⟩),.int .i64 xd] W fun e w'=>e= .returned (.bool zk)/\Aside (Below W.heap.size W w')):=by
        intro W hW;rw [hzk.o];exact iE W xd (HS.o W hW).2.1 HRK.o.2.2.1 zo
       have HPL:Aside (∀W,Below v1_.heap.size v1_ W->Calls prog 62 #[.pointer (some ⟨M2,0,none⟩),.int .i64 xo] W fun e w'=>e= .returned (.bool zp)/\Aside (Below W.heap.size W w')):=by
        intro W hW;rw [hzp.o];exact ro W xo (HS.o W hW).2.1 HRK.o.2.2.1 zo
       have HLT:Aside (∀W,Below v1_.heap.size v1_ W->Calls prog 63 #[.pointer (some ⟨M2,0,none⟩),.int .i64 xd,.int .i64 xo] W fun e w'=>e= .returned (.bool zl)/\Aside (Below W.heap.size W w')):=by
        intro W hW;rw [hzl.o];exact Ab W xd xo (HS.o W hW).2.1 HRK.o.2.2.1 zo
       obtain ⟨zm,hzm⟩:=ze (decide (xk=109));obtain ⟨y0,y1,y2,y3,y4,y5,y6,y7,yf⟩:=(HS.o v1_ (vP _ _)).2.2.cells;dsimp only at y0 y1 y2 y3 y4 y5 y6 y7;have HBV:Aside (Below v1_.heap.size v1_ v1_):=vP _ _;go_upto_region 36 with fail;go_cut [21] (fun s21 wx=>s21= .bool ((zm &&zn) ||zk)/\Aside (Below v1_.heap.size v1_ wx))
       case first=>
        by_cases hk109:xk=109
        ·have dk:((xk:Int)==109)=true:=by simp;omega
         have dkn:(xk==109)=true:=zr;obtain rfl:zm=true:=vy;clear hk109
         cases zn with
         | true=>
          go_wp2;go_meet;exact ⟨zv,HBV.o⟩
         | false=>
          exact kb9
        have dk:((xk:Int)==109)=false:=zr;have dkn:(xk==109)=false:=zr;obtain rfl:zm=false:=vj;clear hk109
        cases zn with
        | true=>
         exact kb9
        | false=>
         exact kb9
       obtain ⟨rfl,HB36⟩:=hcut;obtain ⟨v2_,hv2⟩:=zc wc;subst hv2;obtain ⟨zo1,hzo1⟩:=ze (((zm &&zn) ||zk));rw [<-hzo1.o];clear y0 y1 y2 y3 y4 y5 y6 y7 yf;obtain ⟨y0,y1,y2,y3,y4,y5,y6,y7,yf⟩:=(HS.o v2_ HB36.o).2.2.cells;dsimp only at y0 y1 y2 y3 y4 y5 y6 y7;go_upto_region 37 with fail;go_cut [181] (fun s181 wx=>s181= .bool (zm && !zp)/\Aside (Below v1_.heap.size v1_ wx))
       case first=>
        by_cases hk109:xk=109
        ·have dk:((xk:Int)==109)=true:=by simp;omega
         have dkn:(xk==109)=true:=zr;obtain rfl:zm=true:=vy;clear hk109;have hcl:=HPL.o v2_ HB36.o;go_wp2_with fail;refine hcl.mono ?_;clear hcl;rintro e w8 ⟨rfl,H8⟩;have H9:Aside (Below v1_.heap.size v1_ w8):=zj HB36.o H8.o;clear H8;exact km0
        have dk:((xk:Int)==109)=false:=zr;have dkn:(xk==109)=false:=zr;obtain rfl:zm=false:=vj;clear hk109;go_wp2;go_meet;exact ⟨zv,HB36.o⟩
       obtain ⟨rfl,HB37⟩:=hcut;obtain ⟨v3_,hv3⟩:=zc wc;subst hv3;obtain ⟨z37,hz37⟩:=ze ((zm && !zp));rw [<-hz37.o];clear y0 y1 y2 y3 y4 y5 y6 y7 yf;go_upto_if 181 with fail;go_cut [21] (fun s21 wx=>s21= .bool (zo1 && !z37)/\wx=v3_)
       case first=>
        cases z37 with
        | true=>
         exact kt0
        | false=>
         exact kt0
       obtain ⟨rfl,rfl⟩:=hcut;obtain ⟨v4_,hv4⟩:=zc wc;subst hv4;obtain ⟨zo2,hzo2⟩:=ze ((zo1 && !z37));rw [<-hzo2.o];obtain ⟨y0,y1,y2,y3,y4,y5,y6,y7,yf⟩:=(HS.o v4_ HB37.o).2.2.cells;dsimp only at y0 y1 y2 y3 y4 y5 y6 y7;go_upto_region 39 with fail;go_cut [194] (fun s194 wx=>s194= .bool ((decide (xk=105) &&decide (0<xo)) ||decide (xk=100))/\wx=v4_)
       case first=>
        by_cases hk5:xk=105
        ·have dk105:((xk:Int)==105)=true:=by simp;omega
         have dkn105:(xk==105)=true:=zr;by_cases hxo:0<xo
         ·have dxo:decide (0<xo)=true:=decide_eq_true hxo;have e5:decide (xk=105)=true:=decide_eq_true hk5;clear hk5 hxo;go_wp2;go_meet;exact ⟨by rw [e5,dxo];rfl,rfl⟩
         have dxo:decide (0<xo)=false:=decide_eq_false hxo;have e5:decide (xk=105)=true:=decide_eq_true hk5;have e0:decide (xk=100)=false:=decide_eq_false zo;have dk100:((xk:Int)==100)=false:=zr;have dkn100:(xk==100)=false:=zr;clear hk5 hxo;go_wp2;go_meet;exact ⟨by rw [e5,dxo,e0];rfl,rfl⟩
        have dk105:((xk:Int)==105)=false:=zr;have dkn105:(xk==105)=false:=zr;by_cases hk0:xk=100
        ·have dk100:((xk:Int)==100)=true:=by simp;omega
         have dkn100:(xk==100)=true:=zr;have e5:decide (xk=105)=false:=decide_eq_false hk5;have e0:decide (xk=100)=true:=decide_eq_true hk0;exact kn7
        have dk100:((xk:Int)==100)=false:=zr;have dkn100:(xk==100)=false:=zr;have e5:decide (xk=105)=false:=decide_eq_false hk5;have e0:decide (xk=100)=false:=decide_eq_false hk0;exact kn7
       obtain ⟨rfl,rfl⟩:=hcut;obtain ⟨v5_,hv5⟩:=zc wc;subst hv5;obtain ⟨z39,hz39⟩:=ze (((decide (xk=105) &&decide (0<xo)) ||decide (xk=100)));rw [<-hz39.o];go_upto_if 194 with fail;go_cut [21] (fun s21 wx=>s21= .bool (zo2 &&(!z39 ||zl))/\Aside (Below v1_.heap.size v1_ wx))
       case first=>
        cases z39 with
        | false=>
         go_wp2;go_meet;exact ⟨zv,HB37.o⟩
        | true=>
         have hlt:=HLT.o v5_ HB37.o;go_wp2_with fail;refine hlt.mono ?_;clear hlt;rintro e w8 ⟨rfl,H8⟩;have H9:Aside (Below v1_.heap.size v1_ w8):=zj HB37.o H8.o;clear H8 y0 y1 y2 y3 y4 y5 y6 y7 yf
         cases zo2 with
         | true=>
          exact km0
         | false=>
          exact km0
       obtain ⟨rfl,HB39⟩:=hcut;obtain ⟨u4,hu4⟩:=zc wc;subst hu4;obtain ⟨zo3,hzo3⟩:=ze ((zo2 &&(!z39 ||zl)));rw [<-hzo3.o]
       have HRB:Aside (zo3=re R (xt,xb,xn,xk,xd,xo,xs,xv)):=by
        show zo3=_
        rw [FO,hzo3.o,hzo2.o,hz39.o,hz37.o,hzo1.o,hzm.o,hzn.o,hzk.o,hzp.o,hzl.o]
        have e:(4*xt+xb==xd)=decide (xt*4+xb=xd):=by
         by_cases q:xt*4+xb=xd
         ·rw [decide_eq_true q];simp;omega
         rw [decide_eq_false q];simp;omega
        rw [e]
       have HL4:Aside (L1 w C T (.slice ka T.length kc) u4):=(HS.o u4 HB39.o).1;clear y0 y1 y2 y3 y4 y5 y6 y7 yf HKN HPL HLT
       cases zo3 with
       | true=>
        have HN:Aside (L1 w C T (.slice ka T.length kc) u4/\MRp u4 M2 by_ (some ⟨b1,o1,none⟩) rc R/\(R.take (k3+1)).any (fun x=> !re R x)=false):=⟨HL4.o,(HS.o u4 HB39.o).2.1,HT.o.2 (by show (!re R _)=false;rw [<-HRB.o];rfl)⟩
        go_wp2;go_roundg (R.length - (k3+1))
        case measure=>omega
        case rel=>exact ⟨k3+1,zD,zo,vM _,HN.o⟩
       | false=>
        have HJ:Aside (aB S l (.inl (-1,6))):=((HJR.o R HRK.o.1).2 HA.o.2.1.symm).1 (HT.o.1 (by show (!re R _)=true;rw [<-HRB.o];rfl));have hbr:=ko 6 u4;go_wp2_with fail;refine hbr.mono ?_;clear hbr;rintro e w6 ⟨rfl,H6⟩;have HL6:Aside (L1 w C T (.slice ka T.length kc) w6):=HL4.o.later H6.o;have hfl:=HL6.o.flt;have z0:w6.cell? ⟨C,0,none⟩=some (.int .i64 0):=zV;have z1:w6.cell? ⟨C,1,none⟩=some (.int .i64 0):=zV
        have zf:∀o,w6.frozen? ⟨C,o,none⟩=false:=fun o=>yH
        clear hfl;have HB:Aside (Below w.heap.size w (w6.setCells C 0 [.int .i64 6,.int .i64 (-1)])):=aQ HL6.o.below zZ 0 _;go_wp2;(try simp only [Exit.inBlock,Exit.then]);refine bodyPost_ret (v:=.tuple #[.int .i64 0,.agg #[.int .i64 6,.int .i64 (-1)]]) ?_ rfl ⟨.inl (-1,6),HJ.o,(aW HB.o).mono (fun k hk q=>yV),rfl,H0.o.1.later HB.o⟩;exact kk9
      have d3:decide ((k3:Int)<(R.length:Int))=false:=zr;have d3n:decide (k3<R.length)=false:=zr
      have HRA:Aside (R.any (fun x=> !re R x)=false):=by
       have:=A3.o.2.2;rwa [uc zo] at this
      have HJ4:=Lib.hid (((HJR.o R HRK.o.1).2 HA.o.2.1.symm).2 HRA.o);by_cases h4:400<T.length
      ·have d4:decide ((400:Int)<(T.length:Int))=true:=by simp;omega
       have d4n:decide (400<T.length)=true:=zr;have HJ:Aside (aB S l (.inl (-1,8))):=HJ4.o.1 h4;have hbr:=ko 8 u3;go_wp2_with fail;refine hbr.mono ?_;clear hbr;rintro e w6 ⟨rfl,H6⟩;have HL6:Aside (L1 w C T (.slice ka T.length kc) w6):=A3.o.1.later H6.o;have hfl:=HL6.o.flt;have z0:w6.cell? ⟨C,0,none⟩=some (.int .i64 0):=zV;have z1:w6.cell? ⟨C,1,none⟩=some (.int .i64 0):=zV
       have zf:∀o,w6.frozen? ⟨C,o,none⟩=false:=fun o=>yH
       clear hfl;have HB:Aside (Below w.heap.size w (w6.setCells C 0 [.int .i64 8,.int .i64 (-1)])):=aQ HL6.o.below zZ 0 _;go_wp2;(try simp only [Exit.inBlock,Exit.then]);refine bodyPost_ret (v:=.tuple #[.int .i64 0,.agg #[.int .i64 8,.int .i64 (-1)]]) ?_ rfl ⟨.inl (-1,8),HJ.o,(aW HB.o).mono (fun k hk q=>yV),rfl,H0.o.1.later HB.o⟩;exact kk9
      have d4:decide ((400:Int)<(T.length:Int))=false:=zr;have d4n:decide (400<T.length)=false:=zr;have HJ:Aside (aB S l (.inr fresh)):=HJ4.o.2 zo;have HMm:Aside (MRp u3 m by_ ao cap S):=H0.o.1.later A3.o.1.below;obtain ⟨m0,m1,mf⟩:=HMm.o.c
      have hsz:(T.length:Int) - (S.length:Int)=(fresh.length:Int):=by
       have:=congrArg List.length hTT.o;rw [ub] at this;omega
      have hfl4:fresh.length<=100000:=by have:=HSF.o.2.2;omega
      have hwr:wrap64 ((fresh.length:Int))=(fresh.length:Int):=om hfl4
      have hwr2:IntKind.i64.wrap ((fresh.length:Int))=(fresh.length:Int):=by rw [IntKind.wrap_i64];clear hwr;omega
      obtain ⟨W9,hW9⟩:=ze (u3.setCells m 1 [.slice ra R.length rc])
      have hmC:m≠C:=by have:=H0.o.1.lt;have:=hC.o;omega
      have HM9:Aside (MRp W9 m by_ ra rc R/\Keeps (fun k=>k=m) u3 W9/\W9.heap[C]? =some (.cells #[.int .i64 0,.int .i64 0] 46 (0,0))):=by
       rw [hW9.o];refine ⟨HMm.o.put rc A3.o.2.1.ops,aZ m _ 1 u3,?_⟩;exact ((aZ m _ 1 u3).block C (vO.1 A3.o.1.flt).1 (fun e=>hmC e.symm)).trans A3.o.1.flt
      have e9:u3.setCell ⟨m,1,none⟩ (.slice ra R.length rc)=W9:=hW9.o.symm;have hfi:=GE W9;go_upto_region 48 with fail
      try rw [e9]
      clear e9 m0 m1 mf c0 c1 cf;go_wp2_with fail;refine hfi.mono ?_;clear hfi;rintro e w9 ⟨rfl,H9⟩;have HC9:Aside (w9.heap[C]? =some (.cells #[.int .i64 0,.int .i64 0] 46 (0,0))):=(H9.o.block C (vO.1 HM9.o.2.2).1).trans HM9.o.2.2;have hfl:=HC9.o;have z0:w9.cell? ⟨C,0,none⟩=some (.int .i64 0):=zV;have z1:w9.cell? ⟨C,1,none⟩=some (.int .i64 0):=zV
      have zf:∀o,w9.frozen? ⟨C,o,none⟩=false:=fun o=>yH
      clear hfl
      have HE:Aside (Keeps (fun k=>k=m) w (w9.setCells C 0 [.int .i64 0,.int .i64 (-1)])/\MRp (w9.setCells C 0 [.int .i64 0,.int .i64 (-1)]) m by_ ra rc R):=by
       refine ⟨?_,(HM9.o.1.later H9.o).two HC9.o hmC 0 _⟩;have k1:Keeps (fun k=>k=m) w u3:=(aW A3.o.1.below).mono (fun k hk q=>absurd q zo)
       have k2:=k1.then HM9.o.2.1 (fun i _ e=>e)
       have k3:=k2.then (aW H9.o) (fun i hi q=>by have:=k2.size;omega)
       exact k3.then (aZ C _ 0 w9) (fun i hi e=>by have:=hC.o;omega)
      go_wp2;(try simp only [Exit.inBlock,Exit.then]);refine bodyPost_ret (v:=.tuple #[.int .i64 (fresh.length:Int),.agg #[.int .i64 0,.int .i64 (-1)]]) ?_ rfl ⟨.inr fresh,HJ.o,HE.o.1,rfl,ra,rc,R,HE.o.2,HRK.o.2.2.2.2,by rw [<-hTT.o];exact HRK.o.1,HRK.o.2.1,HNW.o⟩;exact kk9
