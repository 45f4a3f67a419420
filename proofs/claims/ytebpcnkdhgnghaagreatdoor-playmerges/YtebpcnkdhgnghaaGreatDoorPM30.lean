import Derived.Test.YtebpcnkdhgnghaaGreatDoorPM25
set_option linter.unusedSimpArgs false
set_option linter.unusedVariables false
set_option maxRecDepth 100000
set_option maxHeartbeats 64000000
namespace Go.Proofs.YtebpcnkdhgnghaaGreatDoor
open Go.Proofs.Tryz
variable {by_:Int} {R S T:List OpX} {C cap m:Nat} {mk:Nat×Nat} {x y:OpX} {ao ra:Option Addr} {ty:TypeId} {a b:Value} {W w w':World}
section
open Go Go.RowKit Go.Lib Go.Sort
def AO (m:Nat) (by_:Int) (ao:Option Addr) (cap:Nat) (S l:List OpX) (w:World) (e:Ending) (w':World):Prop:=∃a,aK S l a/\Keeps (fun k=>k=m) w w'/\(match a with
 | .inl (i,cd)=>e= .returned (.tuple #[.int .i64 0,.agg #[.int .i64 (cd:Int),.int .i64 i]])/\MRp w' m by_ ao cap S
 | .inr fresh=>e= .returned (.tuple #[.int .i64 (fresh.length:Int),.agg #[.int .i64 0,.int .i64 (-1)]])/\∃ao' cap' S',MRp w' m by_ ao' cap' S'/\Shp ao' cap'/\S'.Perm (S++fresh)/\S'.Pairwise (fun a b=>¬CLt (stO b) (stO a))/\∀b o,ao'=some ⟨b,o,none⟩->w.heap.size<=b)
structure L1 (w:World) (C:Nat) (T:List OpX) (ov:Value) (W:World):Prop where
 row:W.ownsRow (w.heap.size+1) 61 8 ov T.length (cellsOf T)
 flt:W.heap[C]? =some (.cells #[.int .i64 0,.int .i64 0] 29 (0,0))
 below:Below w.heap.size w W
 size:w.heap.size+1<=W.heap.size
theorem L1.later {ov:Value} {W':World} (h:L1 w C T ov W) (hb:Below W.heap.size W W'):L1 w C T ov W':=
 ⟨MB h.row (fun g hg=>hb.block g (h.row.lt g hg).2),(hb.block C (vD.1 h.flt).1).trans h.flt,zi h.below hb,vI h.size hb.size⟩
theorem fU {p:OpX->Bool} {k:Nat} (hx:T[k]? =some x):(T.take (k+1)).any p=((T.take k).any p ||p x):=by
 have hi:=(vA.1 hx).1
 rw [uF hi,(vA.1 hx).2,List.any_append]
 simp
theorem LA (h:aw x=1):sK T x=false:=by unfold sK;simp [h]
theorem Gb (h:aw x=1):fH T x=false:=by unfold fH;simp [h]
theorem JW (h:aw x≠1) (hl:ax T (byO x) (aw x - 1)=none):sK T x=true:=by unfold sK;rw [hl];simp [h]
theorem Gd (hl:ax T (byO x) (aw x - 1)=some y):sK T x=false:=by unfold sK;rw [hl];simp
theorem Ff (hl:ax T (byO x) (aw x - 1)=none):fH T x=false:=by unfold fH;rw [hl];simp
theorem rX (hl:ax T (byO x) (aw x - 1)=some y):fH T x=(decide (aw x≠1) && !bM y.1 y.2.1 x.1 x.2.1):=by unfold fH;rw [hl]
theorem gz {i:Nat} (h:pd w ao i x) (hb:Below w.heap.size w w'):pd w' ao i x:=by
 obtain ⟨blk,off,e,E⟩:=h
 exact ⟨blk,off,e,E.later hb⟩
theorem L1.ops {ka:Option Addr} {kc:Nat} (h:L1 w C T (.slice ka T.length kc) W):OpsIn W ka T:=by
 obtain ⟨a,c,e,hh⟩:=kh (ft h.row)
 cases e
 exact hh
theorem Hg {n:Nat} (h:n<=100000):wrap64 (n:Int)=(n:Int):=vi
theorem GO {B:Nat} (h:Below B w w') (q:Nat):Below B w (w'.drewN q):=⟨h.os,h.tape,h.output,h.size,h.block⟩
theorem rU (hc:w.heap[C]? =some (.cells #[a,b] ty mk)) (hr:OpsIn w ra R) (p:Nat) (vs:List Value):OpsIn (w.setCells C p vs) ra R:=by
 rcases hr with e | ⟨g,o,e,hcell⟩
 ·exact .inl e
 by_cases hR:R= []
 ·exact .inl hR
 refine .inr ⟨g,o,e,fun j u hj=> ?_⟩
 have hne:g≠C:=by
  intro e2
  subst e2
  cases R with
  | nil=>exact hR rfl
  | cons x t=>
   have h7:=hcell 7 _ (show (cellsOf (x::t))[7]? =some _ from rfl)
   simp [World.cell?,hc] at h7
   try omega
 have hlt:g<w.heap.size:=vK w ⟨g,o+j,none⟩ (hcell j u hj)
 exact ((aZ C _ p w).cell (a:=⟨g,o+j,none⟩) hlt (fun e=>hne e)).trans (hcell j u hj)
theorem MRp.put (h:MRp w m by_ ao cap S) (rc:Nat) (hr:OpsIn w ra R):MRp (w.setCells m 1 [.slice ra R.length rc]) m by_ ra rc R:=by
 have hc:=h.cell
 refine ⟨?_,rU hc hr 1 _⟩
 exact heap_setCell_same w m 1 _ _ (.slice ra R.length rc) hc
theorem MRp.two (h:MRp w m by_ ao cap S) (hc:w.heap[C]? =some (.cells #[a,b] ty mk)) (hne:m≠C) (p:Nat) (vs:List Value):MRp (w.setCells C p vs) m by_ ao cap S:=
 ⟨((aZ C _ p w).block m h.lt (fun e=>hne e)).trans h.cell,rU hc h.ops p vs⟩
theorem Hl (R:List OpX) (xt xb xn:Int) (xk:Nat) (xd xo:Int) (xs xv:ByteArray):sI R (xt,xb,xn,xk,xd,xo,xs,xv)=(((((decide (xk=109) &&decide (xt*4+xb=xd)) ||eW R xd) && !(decide (xk=109) && !wy R xo))) &&(!((decide (xk=105) &&decide (0<xo)) ||decide (xk=100)) ||fK R xd xo)):=by
 show (((decide (xk=109) &&decide (xt*4+xb=xd)) ||eW R xd) &&((!decide (xk=109) ||wy R xo) &&(!((decide (xk=105) &&decide (0<xo)) ||decide (xk=100)) ||fK R xd xo)))=_
 generalize decide (xk=109)=a
 generalize decide (xt*4+xb=xd)=b
 generalize eW R xd=c
 generalize wy R xo=d
 generalize ((decide (xk=105) &&decide (0<xo)) ||decide (xk=100))=e
 generalize fK R xd xo=f
 cases a<;>cases b<;>cases c<;>cases d<;>cases e<;>cases f<;>rfl
theorem DE (w:World) (la:Option Addr) (lc:Nat) (l:List OpX) (h:MRp w m by_ ao cap S) (hnc:Shp ao cap) (hw:WellK S) (hin:OpsIn w la l) (hsz:il l) (hn:S.length<=400) (hl:l.length<=400):
  Calls prog 10 #[.pointer (some ⟨m,0,none⟩),.slice la l.length lc] w (AO m by_ ao cap S l w):=by
 obtain ⟨C,hC⟩:=ze w.heap.size
 obtain ⟨U,hU⟩:=ze (w.alloc (.cells #[.int .i64 0,.int .i64 0] 29))
 have hbU:Below w.heap.size w U:=yq
 have hsU:U.heap.size=w.heap.size+1:=by rw [hU.o];simp
 have hfU:U.heap[C]? =some (.cells #[.int .i64 0,.int .i64 0] 29 (0,0)):=by rw [hU.o,hC.o];exact heap_alloc_new w _
 obtain ⟨v1,W1,r1,o1,g1⟩:=Cp (w:=U) (base:=w.heap.size+1) (n:=0) (v:=.slice none 0 0) (xs:=[]) (uf _ _ _ _) zj zj ao cap S zj ((h.later hbU).ops) hnc.nil 25
 have hk1:Keeps (fun _=>False) U W1:=(aV g1).mono (fun b _ e=>yE)
 have hb1:Below w.heap.size w W1:=hbU.trans (hk1.below zj (fun k q=>q.elim))
 obtain ⟨c0,c1,cf⟩:=(h.later hbU).c
 have H0:Aside (MRp w m by_ ao cap S/\OpsIn w la l/\il l/\WellK S):=⟨h,hin,hsz,hw⟩
 have HL0:Aside (L1 w C (S++ []) v1 W1):=by
  refine ⟨by rw [vQ] at o1;simpa using o1,?_,hb1,by have:=hk1.size;omega⟩
  rw [hk1.block C (by rw [hC.o,hsU];omega) (fun q=>q)]
  exact hfU
 clear h hin hsz hbU hk1 hb1 o1 g1 hfU
 go_enter func10,ntmps10
 go_upto_region 1 with fail
 rw [<-hU.o,<-hC.o]
 go_wp2_with (at_builtin;refine Lib.wpList_append_run _ rfl _ _ _ _ rfl _ _ rfl rfl _ _ r1 ?_)
 clear r1 c0 c1 cf
 go_loopg [6,7] l.length (fun kx s6 s7 wr=>∃(i:Nat) (fresh:List OpX) (ov:Value),ov=s6/\s7= .int .i64 (i:Int)/\i<=l.length/\l.length - i<=kx/\Aside (L1 w C (S++fresh) ov wr/\SiftAt S l i fresh))
 case atStart=>exact ⟨0,[],_,rfl,rfl,vM _,vB _,HL0.o,SiftAt.start S l⟩
 case round=>
  obtain ⟨i,fresh,ov,rfl,rfl,hi,hix,A⟩:=hrel
  obtain ⟨u,hu⟩:=zc wr
  subst hu
  by_cases hlt:i<l.length
  ·have d1:decide ((i:Int)<(l.length:Int))=true:=by simp;omega
   have d1n:decide (i<l.length)=true:=zq
   obtain ⟨x,hx⟩:∃x,Aside (l[i]? =some x):=⟨l[i],vF hlt⟩
   obtain ⟨b1,o1,e1,E1⟩:=(H0.o.2.1.later A.o.1.below).one hx.o
   have hsx:=H0.o.2.2.1 x (vH hx.o)
   obtain ⟨xt,xb,xn,xk,xd,xo,xs,xv⟩:=x
   have hop:=DJ xt xb xn xk xd xo xs xv u (by have:=hsx.1;dsimp only at this;omega) (by have:=hsx.2;dsimp only at this;omega)
   obtain ⟨cd,hcd⟩:=ze (ai (xt,xb,xn,xk,xd,xo,xs,xv))
   have e0:opE xt xb xn xk xd xo xs.data.toList xv.data.toList=cd:=by rw [hcd.o];rfl
   rw [e0] at hop
   clear e0
   dsimp only at E1
   subst e1
   have wi:((i:Int)).toNat=i:=zj
   have pi:(0:Int)<=(i:Int):=zj
   have bi:(i:Int)<(l.length:Int):=zj
   obtain ⟨q0,q1,q2,q3,q4,q5,q6,q7⟩:=E1
   go_wp2_with fail
   refine hop.mono ?_
   clear hop q0 q1 q2 q3 q4 q5 q6 q7
   rintro e u1 ⟨rfl,hbu⟩
   have H1:Aside (L1 w C (S++fresh) ov u1/\SiftAt S l i fresh/\pd u1 (some ⟨b1,o1,none⟩) i (xt,xb,xn,xk,xd,xo,xs,xv)):=by
    refine ⟨A.o.1.later hbu,A.o.2,?_⟩
    exact ((H0.o.2.1.later A.o.1.below).later hbu).one hx.o
   clear hbu A
   by_cases he:cd=0
   case neg=>
    have dc:decide ((0:Int)<(cd:Int))=true:=zq
    have dcn:decide (0<cd)=true:=zq
    have dcp:0<cd:=zj
    have hfl:=H1.o.1.flt
    have z0:u1.cell? ⟨C,0,none⟩=some (.int .i64 0):=zP
    have z1:u1.cell? ⟨C,1,none⟩=some (.int .i64 0):=zP
    have zf:∀o,u1.frozen? ⟨C,o,none⟩=false:=fun o=>yF
    clear hfl
    have HJ:Aside (aK S l (.inl ((i:Int),cd))):=by
     have:=H1.o.2.1.bad hx.o (by rw [<-hcd.o];exact he)
     rw [<-hcd.o] at this
     exact this
    have HB:Aside (Below w.heap.size w (u1.setCells C 0 [.int .i64 (cd:Int),.int .i64 (i:Int)])):=aH H1.o.1.below zV 0 _
    go_wp2
    (try simp only [Exit.inBlock,Exit.then])
    refine bodyPost_ret (v:=.tuple #[.int .i64 0,.agg #[.int .i64 (cd:Int),.int .i64 (i:Int)]]) ?_ rfl ⟨.inl ((i:Int),cd),HJ.o,(aX HB.o).mono (fun k hk q=>yQ),rfl,H0.o.1.later HB.o⟩
    exact kj0
   subst he
   have he0:Aside (ai (xt,xb,xn,xk,xd,xo,xs,xv)=0):=hcd.o.symm
   obtain ⟨T,hTT⟩:=ze (S++fresh)
   rw [<-hTT.o] at H1
   obtain ⟨ka,kc,hkv,hin1⟩:=kh (ft H1.o.1.row)
   subst hkv
   have hTl:T.length<=2000:=by
    have:=H1.o.2.1.2.2
    rw [hTT.o,vN]
    omega
   have HOWN:Aside (∀W,Below u1.heap.size u1 W->Calls prog 26 #[.slice ka T.length kc,.int .i64 xb,.int .i64 xn] W fun e w'=>e= .returned (.tuple #[bT ((ax T xb xn).getD aR),.bool (ax T xb xn).isSome])/\Aside (Below W.heap.size W w')):=fun W hW=>EN W ka kc T xb xn (hin1.later hW) zj
   obtain ⟨LK,hLK⟩:=ze (ax T xb xn)
   rw [<-hLK.o] at HOWN
   obtain ⟨⟨yt,yb,yn,yk,yd,yo,ys,yv⟩,hyy⟩:∃y,Aside (y=LK.getD aR):=⟨_,rfl⟩
   rw [<-hyy.o] at HOWN
   obtain ⟨zz,hzz⟩:=ze LK.isSome
   rw [<-hzz.o] at HOWN
   have hown:=HOWN.o u1.drew ((vG _ u1).drew)
   obtain ⟨b3,o3,e3,E3⟩:=H1.o.2.2
   cases e3
   dsimp only at E3
   obtain ⟨q0,q1,q2,q3,q4,q5,q6,q7⟩:=E3
   have HS9:Aside (∀W,Below u1.heap.size u1 W->(fun w':World=>w'.cell? ⟨b1,o1+i*8+1,none⟩=some (.int .i64 xb)/\w'.cell? ⟨b1,o1+i*8+2,none⟩=some (.int .i64 xn)) W):=fun W hW=>⟨aT hW q1,aT hW q2⟩
   have N0:=HS9.o u1.drew ((vG _ u1).drew)
   clear hin1
   go_upto_region 9 with fail
   clear q0 q1 q2 q3 q4 q5 q6 q7
   go_cut [9,10] (fun s9 s10 wx=>∃QQ:Nat,s9= .pointer (some ⟨QQ,0,none⟩)/\s10= .bool zz/\Aside (Below u1.heap.size u1 wx/\OpBlk wx QQ (yt,yb,yn,yk,yd,yo,ys,yv)))
   case first=>
    refine aL (S:=(fun w'=>w'.cell? ⟨b1,o1+i*8+1,none⟩=some (.int .i64 xb)/\w'.cell? ⟨b1,o1+i*8+2,none⟩=some (.int .i64 xn))) zo N0 (fun hHeld=> ?_)
    refine tk 0 hHeld ?_
    refine tk 1 hHeld ?_
    refine tk 2 hHeld ?_
    refine tk 3 hHeld ?_
    refine tk 4 hHeld ?_
    refine tk 5 hHeld ?_
    refine tk 6 hHeld ?_ (hy:=Or.inl ⟨zv,yh⟩)
    refine tk 7 hHeld ?_
    refine tk 8 hHeld ?_
    refine tk 9 hHeld ?_
    refine tk 10 hHeld ?_
    refine tk 11 hHeld ?_ (hy:=Or.inl ⟨zv,yh⟩)
    refine eB (i:=12) (j:=16) zo rfl rfl (fun K hK=> ?cap) (fun K hK=> ?alp)
    case cap=>
     go_simp
     refine hown.mono ?_
     clear hown
     rintro e w6 ⟨rfl,H6⟩
     have B6:Below u1.heap.size u1 w6:=((vG _ u1).drew).trans H6.o
     refine hK _ _ (HS9.o w6 B6) ?_
     clear hK K
     have HB6:Aside (Below u1.heap.size u1 w6):=B6
     clear B6
     unfold bT
     dsimp only
     refine qn ?_
     refine tk 13 (HS9.o w6 HB6.o) ?_
     refine tk 14 (HS9.o w6 HB6.o) ?_
     refine tk 15 (HS9.o w6 HB6.o) ?_
     obtain ⟨X,hX⟩:=ze (w6.alloc (.cells #[.int .i64 0,.int .i64 0,.int .i64 0,.int .u8 0,.int .i64 0,.int .i64 0,.string ⟨#[]⟩,.string ⟨#[]⟩] 61))
     obtain ⟨QQ,hQQ⟩:=ze w6.heap.size
     have hbX:Below u1.heap.size u1 X:=jw
     have ZX:OpBlk X QQ aR:=jG
     have hQl:u1.heap.size<=QQ:=by rw [hQQ.o];exact HB6.o.size
     refine aW (i:=16) zo rfl (fun K hK=> ?_)
     go_simp
     rw [<-hX.o,<-hQQ.o]
     refine hK _ _ (HS9.o X hbX) ?_
     clear hK K
     refine qn ?_
     obtain ⟨z0,z1,z2,z3,z4,z5,z6,z7,zf'⟩:=ZX.cells
     unfold aR at z0 z1 z2 z3 z4 z5 z6 z7
     dsimp only at z0 z1 z2 z3 z4 z5 z6 z7
     obtain ⟨Z,hZ⟩:=ze (X.setCells QQ 0 (bq (yt,yb,yn,yk,yd,yo,ys,yv)))
     have HZ:Aside (Below u1.heap.size u1 Z/\OpBlk Z QQ (yt,yb,yn,yk,yd,yo,ys,yv)):=zJ
     refine aW (i:=17) zo rfl (fun K hK=> ?_)
     go_simp
     refine hK _ _ (show (fun w'=>w'.cell? ⟨b1,o1+i*8+1,none⟩=some (.int .i64 xb)/\w'.cell? ⟨b1,o1+i*8+2,none⟩=some (.int .i64 xn)) (X.setCells QQ 0 (bq (yt,yb,yn,yk,yd,yo,ys,yv))) from by rw [<-hZ.o];exact HS9.o Z HZ.o.1) ?_
     clear hK K z0 z1 z2 z3 z4 z5 z6 z7 zf'
     have eZ:X.setCells QQ 0 (bq (yt,yb,yn,yk,yd,yo,ys,yv))=Z:=hZ.o.symm
     unfold World.setCells bq at eZ
     try simp only [World.setCells] at eZ
     try rw [eZ]
     refine qn ?_
     refine tk 18 (HS9.o Z HZ.o.1) ?_
     exact ki6
    case alp=>
     obtain ⟨X0,hX0⟩:=ze ((u1.alloc (.cells #[.int .i64 0,.int .i64 0,.int .i64 0,.int .u8 0,.int .i64 0,.int .i64 0,.string ⟨#[]⟩,.string ⟨#[]⟩] 61)).drew)
     obtain ⟨QQ,hQQ⟩:=ze u1.heap.size
     have hbX0:Below u1.heap.size u1 X0:=by rw [hX0.o];exact (zh u1 _).drew
     have ZX0:OpBlk X0 QQ aR:=by rw [hX0.o,hQQ.o];exact OpBlk.new u1 aR
     have hQl:u1.heap.size<=QQ:=by rw [hQQ.o];exact vB _
     have hown2:=HOWN.o X0 hbX0
     go_simp
     rw [<-hX0.o,<-hQQ.o]
     refine hK _ _ (HS9.o X0 hbX0) ?_
     clear hK K hown
     refine qn ?_
     refine aW (i:=12) zo rfl (fun K hK=> ?_)
     go_simp
     refine hown2.mono ?_
     clear hown2
     rintro e X ⟨rfl,H6⟩
     have hbX:Below u1.heap.size u1 X:=zi hbX0 H6.o
     have ZX:OpBlk X QQ aR:=ZX0.later H6.o
     refine hK _ _ (HS9.o X hbX) ?_
     clear hK K
     unfold bT
     dsimp only
     refine qn ?_
     refine tk 13 (HS9.o X hbX) ?_
     refine tk 14 (HS9.o X hbX) ?_
     refine tk 15 (HS9.o X hbX) ?_
     obtain ⟨z0,z1,z2,z3,z4,z5,z6,z7,zf'⟩:=ZX.cells
     unfold aR at z0 z1 z2 z3 z4 z5 z6 z7
     dsimp only at z0 z1 z2 z3 z4 z5 z6 z7
     obtain ⟨Z,hZ⟩:=ze (X.setCells QQ 0 (bq (yt,yb,yn,yk,yd,yo,ys,yv)))
     have HZ:Aside (Below u1.heap.size u1 Z/\OpBlk Z QQ (yt,yb,yn,yk,yd,yo,ys,yv)):=zJ
     refine aW (i:=17) zo rfl (fun K hK=> ?_)
     go_simp
     refine hK _ _ (show (fun w'=>w'.cell? ⟨b1,o1+i*8+1,none⟩=some (.int .i64 xb)/\w'.cell? ⟨b1,o1+i*8+2,none⟩=some (.int .i64 xn)) (X.setCells QQ 0 (bq (yt,yb,yn,yk,yd,yo,ys,yv))) from by rw [<-hZ.o];exact HS9.o Z HZ.o.1) ?_
     clear hK K z0 z1 z2 z3 z4 z5 z6 z7 zf'
     have eZ:X.setCells QQ 0 (bq (yt,yb,yn,yk,yd,yo,ys,yv))=Z:=hZ.o.symm
     unfold World.setCells bq at eZ
     try simp only [World.setCells] at eZ
     try rw [eZ]
     refine qn ?_
     refine tk 18 (HS9.o Z HZ.o.1) ?_
     exact kh7
   obtain ⟨QQ,rfl,rfl,HZ⟩:=hcut
   obtain ⟨Z,hZ⟩:=zc wc
   subst hZ
   have HR:Aside (L1 w C T (.slice ka T.length kc) Z/\OpBlk Z QQ (yt,yb,yn,yk,yd,yo,ys,yv)/\pd Z (some ⟨b1,o1,none⟩) i (xt,xb,xn,xk,xd,xo,xs,xv)/\SiftAt S l i fresh):=⟨H1.o.1.later HZ.o.1,HZ.o.2,((H0.o.2.1.later H1.o.1.below).later HZ.o.1).one hx.o,H1.o.2.1⟩
   clear HS9 HOWN HZ H1 hown N0
   cases LK with
   | none=>
    have zf0:zz=false:=hzz.o
    subst zf0
    have hlk:Aside (ax (S++fresh) xb xn=none):=by show _=none;rw [<-hTT.o];exact hLK.o.symm
    clear hLK hyy hzz
    go_upto_region 10 with fail
    go_quiet (fail)
    have HBq:Below Z.heap.size Z (Z.drewN nq):=GO (vG _ Z) nq
    have HD:Aside (L1 w C T (.slice ka T.length kc) (Z.drewN nq)/\pd (Z.drewN nq) (some ⟨b1,o1,none⟩) i (xt,xb,xn,xk,xd,xo,xs,xv)/\SiftAt S l i fresh):=⟨HR.o.1.later HBq,gz HR.o.2.2.1 HBq,HR.o.2.2.2⟩
    clear HBq HR
    generalize Z.drewN nq=D at HD |-
    obtain ⟨b5,o5,e5,E5⟩:=HD.o.2.1
    cases e5
    dsimp only at E5
    obtain ⟨q0,q1,q2,q3,q4,q5,q6,q7⟩:=E5
    obtain ⟨i0,hi0,hz0,hz1,hz2⟩:=info_parts fw
    go_wp2_with (at_builtin;refine wpList_append_own _ rfl _ _ 25 rfl (w.heap.size+1) 61 i0 _ 8 80 underlying25 hi0 hz0 hz1 hz2 rfl zj _ _ _ rfl (HD.o.1.row.alloc _) ⟨D.heap.size,0,none⟩ 1 1 (bq (xt,xb,xn,xk,xd,xo,xs,xv)) rfl ?qc1 ?qc2 ?qc3 ?qc4 ?qc5 ?qc6 ?_)
    case qc1=>rfl
    case qc2=>first | exact Nk D (xt,xb,xn,xk,xd,xo,xs,xv) | exact fun j u h=>h
    case qc3=>exact OV _
    case qc4=>simp only [maxLen];omega
    case qc5=>omega
    case qc6=>have:=HD.o.1.size;first | omega | (simp;omega)
    intro v' w4 hown hgrow hnil
    have HN:Aside (L1 w C (S++(fresh++ [(xt,xb,xn,xk,xd,xo,xs,xv)])) v' w4/\SiftAt S l (i+1) (fresh++ [(xt,xb,xn,xk,xd,xo,xs,xv)])):=by
     have hg4:=aV hgrow
     have hlow:∀k,some k=(Value.slice ka T.length kc).ownBlock->w.heap.size+1<=k:=fun k hk=>(HD.o.1.row.lt k hk.symm).1
     have hCs:C<D.heap.size:=(vD.1 HD.o.1.flt).1
     refine ⟨⟨?_,?_,?_,?_⟩,HD.o.2.2.more hx.o he0.o hlk.o⟩
     ·rw [<-uj,<-hTT.o,tN,vN]
      exact hown
     ·rw [hg4.block C zq (fun e=>by have:=hlow C e;have:=hC.o;omega),vP _ _ C hCs]
      exact HD.o.1.flt
     ·exact (HD.o.1.below.alloc HD.o.1.below.size _).grown hgrow (by simp;have:=HD.o.1.size;omega) (fun k hk=>by have:=hlow k hk.symm;omega)
     have:=hg4.size
     have h2:=HD.o.1.size
     simp at this
     omega
    clear hown hgrow hnil q0 q1 q2 q3 q4 q5 q6 q7 HD
    go_wp2
    go_roundg (l.length - (i+1))
    case measure=>omega
    case rel=>exact ⟨i+1,_,_,rfl,zw,zj,vB _,HN.o⟩
   | some yy=>
    have zt0:zz=true:=hzz.o
    subst zt0
    have hlk:Aside (ax (S++fresh) xb xn=some (yt,yb,yn,yk,yd,yo,ys,yv)):=by show _=some _;rw [<-hTT.o,<-hLK.o];exact congrArg some hyy.o.symm
    clear hLK hyy hzz
    obtain ⟨y0,y1,y2,y3,y4,y5,y6,y7,yf⟩:=HR.o.2.1.cells
    dsimp only at y0 y1 y2 y3 y4 y5 y6 y7
    obtain ⟨b5,o5,e5,E5⟩:=HR.o.2.2.1
    cases e5
    dsimp only at E5
    obtain ⟨q0,q1,q2,q3,q4,q5,q6,q7⟩:=E5
    have heq:=fun w=>Nv yt yb yn yk yd yo ys yv xt xb xn xk xd xo xs xv w
    cases hq:eqB yt yb yn yk yd yo ys yv xt xb xn xk xd xo xs xv with
    | true=>
     have HQ:Aside ((yt,yb,yn,yk,yd,yo,ys,yv)=(xt,xb,xn,xk,xd,xo,xs,xv)):=by
      exact kh2
     rw [hq] at heq
     clear hq
     go_upto_region 10 with fail
     go_quiet (fail)
     clear heq q0 q1 q2 q3 q4 q5 q6 q7 y0 y1 y2 y3 y4 y5 y6 y7 yf
     have HBq:Below Z.heap.size Z (Z.drewN nq):=GO (vG _ Z) nq
     have HD:Aside (L1 w C T (.slice ka T.length kc) (Z.drewN nq)/\pd (Z.drewN nq) (some ⟨b1,o1,none⟩) i (xt,xb,xn,xk,xd,xo,xs,xv)/\SiftAt S l i fresh):=⟨HR.o.1.later HBq,gz HR.o.2.2.1 HBq,HR.o.2.2.2⟩
     clear HBq HR
     generalize Z.drewN nq=D at HD |-
     have HN:Aside (L1 w C (S++fresh) (.slice ka T.length kc) D/\SiftAt S l (i+1) fresh):=⟨by rw [<-hTT.o];exact HD.o.1,HD.o.2.2.same hx.o he0.o (by show ax _ xb xn=_;rw [hlk.o,HQ.o])⟩
     clear HD
     go_wp2
     go_roundg (l.length - (i+1))
     case measure=>omega
     case rel=>exact ⟨i+1,fresh,_,rfl,zw,zj,vB _,HN.o⟩
    | false=>
     have HQ:Aside ((yt,yb,yn,yk,yd,yo,ys,yv)≠(xt,xb,xn,xk,xd,xo,xs,xv)):=fun e=>by
      exact km2
     rw [hq] at heq
     clear hq
     go_upto_region 10 with fail
     go_quiet (fail)
     clear heq q0 q1 q2 q3 q4 q5 q6 q7 y0 y1 y2 y3 y4 y5 y6 y7 yf
     have HBq:Below Z.heap.size Z (Z.drewN nq):=GO (vG _ Z) nq
     have HD:Aside (L1 w C T (.slice ka T.length kc) (Z.drewN nq)/\pd (Z.drewN nq) (some ⟨b1,o1,none⟩) i (xt,xb,xn,xk,xd,xo,xs,xv)/\SiftAt S l i fresh):=⟨HR.o.1.later HBq,gz HR.o.2.2.1 HBq,HR.o.2.2.2⟩
     clear HBq HR
     generalize Z.drewN nq=D at HD |-
     have hfl:=HD.o.1.flt
     have z0:D.cell? ⟨C,0,none⟩=some (.int .i64 0):=zP
     have z1:D.cell? ⟨C,1,none⟩=some (.int .i64 0):=zP
     have zf:∀o,D.frozen? ⟨C,o,none⟩=false:=fun o=>yF
     clear hfl
     have HJ:Aside (aK S l (.inl ((i:Int),7))):=HD.o.2.2.other hx.o he0.o hlk.o HQ.o
     have HB:Aside (Below w.heap.size w (D.setCells C 0 [.int .i64 7,.int .i64 (i:Int)])):=aH HD.o.1.below zV 0 _
     go_wp2
     (try simp only [Exit.inBlock,Exit.then])
     refine bodyPost_ret (v:=.tuple #[.int .i64 0,.agg #[.int .i64 7,.int .i64 (i:Int)]]) ?_ rfl ⟨.inl ((i:Int),7),HJ.o,(aX HB.o).mono (fun k hk q=>yQ),rfl,H0.o.1.later HB.o⟩
     exact kj0
  have d1:decide ((i:Int)<(l.length:Int))=false:=zq
  have d1n:decide (i<l.length)=false:=zq
  have HSF:Aside (bw S 0 [] l= .inr fresh/\FreshK S fresh/\fresh.length<=400):=⟨A.o.2.all zj,A.o.2.2.1,by have:=A.o.2.2.2;omega⟩
  obtain ⟨T,hTT⟩:=ze (S++fresh)
  have H2:Aside (L1 w C T ov u):=by
   show L1 w C T ov u
   rw [hTT.o]
   exact A.o.1
  clear A HL0
  obtain ⟨ka,kc,hkv,-⟩:=kh (ft H2.o.row)
  subst hkv
  have hTl:T.length<=800:=by
   have:=HSF.o.2.2
   rw [hTT.o,vN]
   omega
  have hTok:Aside (∀x∈T,ai x=0):=by
   intro x hx
   rw [hTT.o] at hx
   rcases vL.1 hx with q | q
   ·exact H0.o.2.2.2.ok x q
   exact HSF.o.2.1.ok x q
  go_wp2
  go_loopg [11,12,13] T.length (fun kx s11 s12 s13 wr=>∃(k:Nat) (za zb:Bool),s11= .bool za/\s12= .bool zb/\s13= .int .i64 (k:Int)/\k<=T.length/\T.length - k<=kx/\Aside (L1 w C T (.slice ka T.length kc) wr/\za=(T.take k).any (sK T)/\zb=(T.take k).any (fH T)))
  case atStart=>exact ⟨0,false,false,rfl,rfl,rfl,vM _,vB _,H2.o,zt,zt⟩
  case round=>
   obtain ⟨k,za,zb,rfl,rfl,rfl,hk,hkx,A2⟩:=hrel
   obtain ⟨u2,hu2⟩:=zc wr
   subst hu2
   by_cases hlt2:k<T.length
   ·have d2:decide ((k:Int)<(T.length:Int))=true:=by simp;omega
    have d2n:decide (k<T.length)=true:=zq
    obtain ⟨x,hx⟩:∃x,Aside (T[k]? =some x):=⟨T[k],vF hlt2⟩
    obtain ⟨b1,o1,e1,E1⟩:=A2.o.1.ops.one hx.o
    have hex:=hTok.o x (vH hx.o)
    obtain ⟨xt,xb,xn,xk,xd,xo,xs,xv⟩:=x
    have hst:=ar hex
    have hna:1<=xn:=hst.2.2.2.2.1
    have hnb:xn<=400:=hst.2.2.2.2.2.1
    clear hst hex
    dsimp only at E1
    subst e1
    have wi:((k:Int)).toNat=k:=zj
    have pi:(0:Int)<=(k:Int):=zj
    have bi:(k:Int)<(T.length:Int):=zj
    obtain ⟨q0,q1,q2,q3,q4,q5,q6,q7⟩:=E1
    by_cases hn1:xn=1
    ·have dn:(xn==1)=true:=by simp [hn1]
     have HN:Aside (L1 w C T (.slice (some ⟨b1,o1,none⟩) T.length kc) u2/\za=(T.take (k+1)).any (sK T)/\zb=(T.take (k+1)).any (fH T)):=by
      refine ⟨A2.o.1,?_,?_⟩
      ·rw [fU hx.o,LA hn1,Bool.or_false]
       exact A2.o.2.1
      rw [fU hx.o,Gb hn1,Bool.or_false]
      exact A2.o.2.2
     clear A2 hn1 hna hnb
     go_wp2
     go_roundg (T.length - (k+1))
     case measure=>omega
     case rel=>exact ⟨k+1,za,zb,rfl,rfl,zw,zj,vB _,HN.o⟩
    have dn:(xn==1)=false:=by simp [hn1]
    have HQ0:Aside (u2.cell? ⟨b1,o1+k*8,none⟩=some (.int .i64 xt)/\u2.cell? ⟨b1,o1+k*8+1,none⟩=some (.int .i64 xb)):=⟨q0,q1⟩
    have hin1:=A2.o.1.ops
    have HOWN:Aside (∀W,Below u2.heap.size u2 W->Calls prog 26 #[.slice (some ⟨b1,o1,none⟩) T.length kc,.int .i64 xb,.int .i64 (xn - 1)] W fun e w'=>e= .returned (.tuple #[bT ((ax T xb (xn - 1)).getD aR),.bool (ax T xb (xn - 1)).isSome])/\Aside (Below W.heap.size W w')):=fun W hW=>EN W _ kc T xb (xn - 1) (hin1.later hW) zj
    obtain ⟨LK,hLK⟩:=ze (ax T xb (xn - 1))
    rw [<-hLK.o] at HOWN
    obtain ⟨⟨yt,yb,yn,yk,yd,yo,ys,yv⟩,hyy⟩:∃y,Aside (y=LK.getD aR):=⟨_,rfl⟩
    rw [<-hyy.o] at HOWN
    obtain ⟨zz,hzz⟩:=ze LK.isSome
    rw [<-hzz.o] at HOWN
    have hown:=HOWN.o u2.drew ((vG _ u2).drew)
    have HS9:Aside (∀W,Below u2.heap.size u2 W->(fun w':World=>w'.cell? ⟨b1,o1+k*8+1,none⟩=some (.int .i64 xb)/\w'.cell? ⟨b1,o1+k*8+2,none⟩=some (.int .i64 xn)) W):=fun W hW=>⟨aT hW q1,aT hW q2⟩
    have N0:=HS9.o u2.drew ((vG _ u2).drew)
    have hwr0:wrap64 (xn - 1)=xn - 1:=vi
    have hwr:IntKind.i64.wrap (xn - 1)=xn - 1:=zu
    clear hin1
    go_upto_region 20 with fail
    clear q0 q1 q2 q3 q4 q5 q6 q7
    go_cut [14,15] (fun s14 s15 wx=>∃QQ:Nat,s14= .pointer (some ⟨QQ,0,none⟩)/\s15= .bool zz/\Aside (Below u2.heap.size u2 wx/\OpBlk wx QQ (yt,yb,yn,yk,yd,yo,ys,yv)))
    case first=>
     refine aL (S:=(fun w'=>w'.cell? ⟨b1,o1+k*8+1,none⟩=some (.int .i64 xb)/\w'.cell? ⟨b1,o1+k*8+2,none⟩=some (.int .i64 xn))) zo N0 (fun hHeld=> ?_)
     refine tk 0 hHeld ?_
     refine tk 1 hHeld ?_
     refine tk 2 hHeld ?_
     refine tk 3 hHeld ?_
     refine tk 4 hHeld ?_
     refine tk 5 hHeld ?_
     refine tk 6 hHeld ?_ (hy:=Or.inl ⟨zv,yh⟩)
     refine tk 7 hHeld ?_
     refine tk 8 hHeld ?_
     refine tk 9 hHeld ?_
     refine tk 10 hHeld ?_
     refine tk 11 hHeld ?_ (hy:=Or.inl ⟨zv,yh⟩)
     refine tk 12 hHeld ?_
     refine eB (i:=13) (j:=17) zo rfl rfl (fun K hK=> ?caq) (fun K hK=> ?alq)
     case caq=>
      go_simp
      refine hown.mono ?_
      clear hown
      rintro e w6 ⟨rfl,H6⟩
      have B6:Below u2.heap.size u2 w6:=((vG _ u2).drew).trans H6.o
      refine hK _ _ (HS9.o w6 B6) ?_
      clear hK K
      have HB6:Aside (Below u2.heap.size u2 w6):=B6
      clear B6
      unfold bT
      dsimp only
      refine qn ?_
      refine tk 14 (HS9.o w6 HB6.o) ?_
      refine tk 15 (HS9.o w6 HB6.o) ?_
      refine tk 16 (HS9.o w6 HB6.o) ?_
      obtain ⟨X,hX⟩:=ze (w6.alloc (.cells #[.int .i64 0,.int .i64 0,.int .i64 0,.int .u8 0,.int .i64 0,.int .i64 0,.string ⟨#[]⟩,.string ⟨#[]⟩] 61))
      obtain ⟨QQ,hQQ⟩:=ze w6.heap.size
      have hbX:Below u2.heap.size u2 X:=jw
      have ZX:OpBlk X QQ aR:=jG
      have hQl:u2.heap.size<=QQ:=by rw [hQQ.o];exact HB6.o.size
      refine aW (i:=17) zo rfl (fun K hK=> ?_)
      go_simp
      rw [<-hX.o,<-hQQ.o]
      refine hK _ _ (HS9.o X hbX) ?_
      clear hK K
      refine qn ?_
      obtain ⟨z0,z1,z2,z3,z4,z5,z6,z7,zf'⟩:=ZX.cells
      unfold aR at z0 z1 z2 z3 z4 z5 z6 z7
      dsimp only at z0 z1 z2 z3 z4 z5 z6 z7
      obtain ⟨Z,hZ⟩:=ze (X.setCells QQ 0 (bq (yt,yb,yn,yk,yd,yo,ys,yv)))
      have HZ:Aside (Below u2.heap.size u2 Z/\OpBlk Z QQ (yt,yb,yn,yk,yd,yo,ys,yv)):=zJ
      refine aW (i:=18) zo rfl (fun K hK=> ?_)
      go_simp
      refine hK _ _ (show (fun w'=>w'.cell? ⟨b1,o1+k*8+1,none⟩=some (.int .i64 xb)/\w'.cell? ⟨b1,o1+k*8+2,none⟩=some (.int .i64 xn)) (X.setCells QQ 0 (bq (yt,yb,yn,yk,yd,yo,ys,yv))) from by rw [<-hZ.o];exact HS9.o Z HZ.o.1) ?_
      clear hK K z0 z1 z2 z3 z4 z5 z6 z7 zf'
      have eZ:X.setCells QQ 0 (bq (yt,yb,yn,yk,yd,yo,ys,yv))=Z:=hZ.o.symm
      unfold World.setCells bq at eZ
      try simp only [World.setCells] at eZ
      try rw [eZ]
      refine qn ?_
      refine tk 19 (HS9.o Z HZ.o.1) ?_
      exact ki6
     case alq=>
      obtain ⟨X0,hX0⟩:=ze ((u2.alloc (.cells #[.int .i64 0,.int .i64 0,.int .i64 0,.int .u8 0,.int .i64 0,.int .i64 0,.string ⟨#[]⟩,.string ⟨#[]⟩] 61)).drew)
      obtain ⟨QQ,hQQ⟩:=ze u2.heap.size
      have hbX0:Below u2.heap.size u2 X0:=by rw [hX0.o];exact (zh u2 _).drew
      have ZX0:OpBlk X0 QQ aR:=by rw [hX0.o,hQQ.o];exact OpBlk.new u2 aR
      have hQl:u2.heap.size<=QQ:=by rw [hQQ.o];exact vB _
      have hown2:=HOWN.o X0 hbX0
      go_simp
      rw [<-hX0.o,<-hQQ.o]
      refine hK _ _ (HS9.o X0 hbX0) ?_
      clear hK K hown
      refine qn ?_
      refine aW (i:=13) zo rfl (fun K hK=> ?_)
      go_simp
      refine hown2.mono ?_
      clear hown2
      rintro e X ⟨rfl,H6⟩
      have hbX:Below u2.heap.size u2 X:=zi hbX0 H6.o
      have ZX:OpBlk X QQ aR:=ZX0.later H6.o
      refine hK _ _ (HS9.o X hbX) ?_
      clear hK K
      unfold bT
      dsimp only
      refine qn ?_
      refine tk 14 (HS9.o X hbX) ?_
      refine tk 15 (HS9.o X hbX) ?_
      refine tk 16 (HS9.o X hbX) ?_
      obtain ⟨z0,z1,z2,z3,z4,z5,z6,z7,zf'⟩:=ZX.cells
      unfold aR at z0 z1 z2 z3 z4 z5 z6 z7
      dsimp only at z0 z1 z2 z3 z4 z5 z6 z7
      obtain ⟨Z,hZ⟩:=ze (X.setCells QQ 0 (bq (yt,yb,yn,yk,yd,yo,ys,yv)))
      have HZ:Aside (Below u2.heap.size u2 Z/\OpBlk Z QQ (yt,yb,yn,yk,yd,yo,ys,yv)):=zJ
      refine aW (i:=18) zo rfl (fun K hK=> ?_)
      go_simp
      refine hK _ _ (show (fun w'=>w'.cell? ⟨b1,o1+k*8+1,none⟩=some (.int .i64 xb)/\w'.cell? ⟨b1,o1+k*8+2,none⟩=some (.int .i64 xn)) (X.setCells QQ 0 (bq (yt,yb,yn,yk,yd,yo,ys,yv))) from by rw [<-hZ.o];exact HS9.o Z HZ.o.1) ?_
      clear hK K z0 z1 z2 z3 z4 z5 z6 z7 zf'
      have eZ:X.setCells QQ 0 (bq (yt,yb,yn,yk,yd,yo,ys,yv))=Z:=hZ.o.symm
      unfold World.setCells bq at eZ
      try simp only [World.setCells] at eZ
      try rw [eZ]
      refine qn ?_
      refine tk 19 (HS9.o Z HZ.o.1) ?_
      exact kh7
    obtain ⟨QQ,rfl,rfl,HZ⟩:=hcut
    obtain ⟨Z,hZ⟩:=zc wc
    subst hZ
    have HR:Aside (L1 w C T (.slice (some ⟨b1,o1,none⟩) T.length kc) Z):=A2.o.1.later HZ.o.1
    have HS23:Aside (∀W,Below Z.heap.size Z W->(fun w':World=>w'.cell? ⟨QQ,0,none⟩=some (.int .i64 yt)/\w'.cell? ⟨QQ,1,none⟩=some (.int .i64 yb)/\w'.cell? ⟨b1,o1+k*8,none⟩=some (.int .i64 xt)/\w'.cell? ⟨b1,o1+k*8+1,none⟩=some (.int .i64 xb)) W):=by
     intro W hW
     have hc:=HZ.o.2.cells
     exact ⟨aT hW hc.1,aT hW hc.2.1,aT hW (aT HZ.o.1 HQ0.o.1),aT hW (aT HZ.o.1 HQ0.o.2)⟩
    clear HS9 HOWN HZ hown N0
    obtain ⟨zl,hzl⟩:∃zl,bM yt yb xt xb=zl:=⟨_,rfl⟩
    have hle:=Gu yt yb xt xb zl Z.drew hzl
    have HZL:Aside (bM yt yb xt xb=zl):=hzl
    clear hzl
    cases LK with
    | none=>
     have zf0:zz=false:=hzz.o
     subst zf0
     go_upto_region 23 with fail
     refine aL (S:=(fun w'=>w'.cell? ⟨QQ,0,none⟩=some (.int .i64 yt)/\w'.cell? ⟨QQ,1,none⟩=some (.int .i64 yb)/\w'.cell? ⟨b1,o1+k*8,none⟩=some (.int .i64 xt)/\w'.cell? ⟨b1,o1+k*8+1,none⟩=some (.int .i64 xb))) zo (HS23.o Z.drew ((vG _ Z).drew)) (fun hHeld=> ?_)
     refine tk 0 hHeld ?_
     refine tk 1 hHeld ?_ (hy:=Or.inl ⟨zv,zL⟩)
     refine tk 2 hHeld ?_
     refine tk 3 hHeld ?_
     refine tk 4 hHeld ?_
     refine tk 5 hHeld ?_
     refine tk 6 hHeld ?_ (hy:=Or.inl ⟨zv,zL⟩)
     refine aW (i:=7) zo rfl (fun K hK=> ?_)
     go_simp
     refine hle.mono ?_
     clear hle
     rintro e w7 ⟨rfl,hb7⟩
     have B7:Below Z.heap.size Z w7:=((vG _ Z).drew).trans hb7
     refine hK _ _ (HS23.o w7 B7) ?_
     clear hK K
     have HB7:Aside (Below Z.heap.size Z w7):=B7
     clear B7 hb7
     refine qn ?_
     refine tk 8 (HS23.o w7 HB7.o) ?_
     refine wpAnyH_done zo ?_ _
     refine qn ?_
     have HN:Aside (L1 w C T (.slice (some ⟨b1,o1,none⟩) T.length kc) w7/\true=(T.take (k+1)).any (sK T)/\zb=(T.take (k+1)).any (fH T)):=by
      refine ⟨HR.o.later HB7.o,?_,?_⟩
      ·rw [fU hx.o]
       rw [JW (by simpa using hn1) hLK.o.symm,Bool.or_true]
      rw [fU hx.o]
      rw [Ff hLK.o.symm,Bool.or_false]
      exact A2.o.2.2
     go_wp2
     go_roundg (T.length - (k+1))
     case measure=>omega
     case rel=>exact ⟨k+1,true,zb,rfl,rfl,zw,zj,vB _,HN.o⟩
    | some yy=>
     have zt0:zz=true:=hzz.o
     subst zt0
     have hyy2:Aside (ax T (byO (xt,xb,xn,xk,xd,xo,xs,xv)) (aw (xt,xb,xn,xk,xd,xo,xs,xv) - 1)=some (yt,yb,yn,yk,yd,yo,ys,yv)):=by show ax T xb (xn - 1)=some _;rw [<-hLK.o];exact congrArg some hyy.o.symm
     cases zl with
     | true=>
      go_upto_region 23 with fail
      refine aL (S:=(fun w'=>w'.cell? ⟨QQ,0,none⟩=some (.int .i64 yt)/\w'.cell? ⟨QQ,1,none⟩=some (.int .i64 yb)/\w'.cell? ⟨b1,o1+k*8,none⟩=some (.int .i64 xt)/\w'.cell? ⟨b1,o1+k*8+1,none⟩=some (.int .i64 xb))) zo (HS23.o Z.drew ((vG _ Z).drew)) (fun hHeld=> ?_)
      refine tk 0 hHeld ?_
      refine tk 1 hHeld ?_ (hy:=Or.inl ⟨zv,zL⟩)
      refine tk 2 hHeld ?_
      refine tk 3 hHeld ?_
      refine tk 4 hHeld ?_
      refine tk 5 hHeld ?_
      refine tk 6 hHeld ?_ (hy:=Or.inl ⟨zv,zL⟩)
      refine aW (i:=7) zo rfl (fun K hK=> ?_)
      go_simp
      refine hle.mono ?_
      clear hle
      rintro e w7 ⟨rfl,hb7⟩
      have B7:Below Z.heap.size Z w7:=((vG _ Z).drew).trans hb7
      refine hK _ _ (HS23.o w7 B7) ?_
      clear hK K
      have HB7:Aside (Below Z.heap.size Z w7):=B7
      clear B7 hb7
      refine qn ?_
      refine tk 8 (HS23.o w7 HB7.o) ?_
      refine wpAnyH_done zo ?_ _
      refine qn ?_
      have HN:Aside (L1 w C T (.slice (some ⟨b1,o1,none⟩) T.length kc) w7/\za=(T.take (k+1)).any (sK T)/\zb=(T.take (k+1)).any (fH T)):=by
       refine ⟨HR.o.later HB7.o,?_,?_⟩
       ·exact km1
       rw [fU hx.o]
       rw [rX hyy2.o,HZL.o,Bool.not_true,Bool.and_false,Bool.or_false]
       exact A2.o.2.2
      go_wp2
      go_roundg (T.length - (k+1))
      case measure=>omega
      case rel=>exact ⟨k+1,za,zb,rfl,rfl,zw,zj,vB _,HN.o⟩
     | false=>
      go_upto_region 23 with fail
      refine aL (S:=(fun w'=>w'.cell? ⟨QQ,0,none⟩=some (.int .i64 yt)/\w'.cell? ⟨QQ,1,none⟩=some (.int .i64 yb)/\w'.cell? ⟨b1,o1+k*8,none⟩=some (.int .i64 xt)/\w'.cell? ⟨b1,o1+k*8+1,none⟩=some (.int .i64 xb))) zo (HS23.o Z.drew ((vG _ Z).drew)) (fun hHeld=> ?_)
      refine tk 0 hHeld ?_
      refine tk 1 hHeld ?_ (hy:=Or.inl ⟨zv,zL⟩)
      refine tk 2 hHeld ?_
      refine tk 3 hHeld ?_
      refine tk 4 hHeld ?_
      refine tk 5 hHeld ?_
      refine tk 6 hHeld ?_ (hy:=Or.inl ⟨zv,zL⟩)
      refine aW (i:=7) zo rfl (fun K hK=> ?_)
      go_simp
      refine hle.mono ?_
      clear hle
      rintro e w7 ⟨rfl,hb7⟩
      have B7:Below Z.heap.size Z w7:=((vG _ Z).drew).trans hb7
      refine hK _ _ (HS23.o w7 B7) ?_
      clear hK K
      have HB7:Aside (Below Z.heap.size Z w7):=B7
      clear B7 hb7
      refine qn ?_
      refine tk 8 (HS23.o w7 HB7.o) ?_
      refine wpAnyH_done zo ?_ _
      refine qn ?_
      have HN:Aside (L1 w C T (.slice (some ⟨b1,o1,none⟩) T.length kc) w7/\za=(T.take (k+1)).any (sK T)/\true=(T.take (k+1)).any (fH T)):=by
       refine ⟨HR.o.later HB7.o,?_,?_⟩
       ·exact km1
       rw [fU hx.o]
       rw [rX hyy2.o,HZL.o,Bool.not_false,Bool.and_true,show decide (aw (xt,xb,xn,xk,xd,xo,xs,xv)≠1)=true from decide_eq_true hn1,Bool.or_true]
      go_wp2
      go_roundg (T.length - (k+1))
      case measure=>omega
      case rel=>exact ⟨k+1,za,true,rfl,rfl,zw,zj,vB _,HN.o⟩
   have d2:decide ((k:Int)<(T.length:Int))=false:=zq
   have d2n:decide (k<T.length)=false:=zq
   have HA:Aside (za=T.any (sK T)/\zb=T.any (fH T)/\L1 w C T (.slice ka T.length kc) u2):=by
    have h1:=A2.o.2.1
    have h2:=A2.o.2.2
    rw [vT zj] at h1 h2
    exact ⟨h1,h2,A2.o.1⟩
   clear A2 H2
   cases za with
   | true=>
    have HJ:Aside (aK S l (.inl (-1,9))):=Cx HSF.o.1 vp
    have hbr:=lT 9 u2
    go_wp2_with fail
    refine hbr.mono ?_
    clear hbr
    rintro e w6 ⟨rfl,H6⟩
    have HL6:Aside (L1 w C T (.slice ka T.length kc) w6):=HA.o.2.2.later H6.o
    have hfl:=HL6.o.flt
    have z0:w6.cell? ⟨C,0,none⟩=some (.int .i64 0):=zP
    have z1:w6.cell? ⟨C,1,none⟩=some (.int .i64 0):=zP
    have zf:∀o,w6.frozen? ⟨C,o,none⟩=false:=fun o=>yF
    clear hfl
    have HB:Aside (Below w.heap.size w (w6.setCells C 0 [.int .i64 9,.int .i64 (-1)])):=aH HL6.o.below zV 0 _
    go_wp2
    (try simp only [Exit.inBlock,Exit.then])
    refine bodyPost_ret (v:=.tuple #[.int .i64 0,.agg #[.int .i64 9,.int .i64 (-1)]]) ?_ rfl ⟨.inl (-1,9),HJ.o,(aX HB.o).mono (fun k hk q=>yQ),rfl,H0.o.1.later HB.o⟩
    exact kj0
   | false=>
    have HJR:Aside (∀R:List OpX,R.Perm T->(T.any (fH T)=true->aK S l (.inl (-1,3)))/\(T.any (fH T)=false->(R.any (fun x=> !sI R x)=true->aK S l (.inl (-1,6)))/\(R.any (fun x=> !sI R x)=false->(400<T.length->aK S l (.inl (-1,8)))/\(T.length<=400->aK S l (.inr fresh))))):=by
     intro R hR
     have:=wE (T:=R) H0.o.2.2.2 HSF.o.2.1 HSF.o.1 vp (by rw [<-hTT.o];exact hR)
     rw [<-hTT.o] at this
     have e:S.length+fresh.length=T.length:=by rw [hTT.o,vN]
     rw [e] at this
     exact this
    cases zb with
    | true=>
     have HJ:Aside (aK S l (.inl (-1,3))):=(HJR.o T (List.Perm.refl _)).1 HA.o.2.1.symm
     have hbr:=lT 3 u2
     go_wp2_with fail
     refine hbr.mono ?_
     clear hbr
     rintro e w6 ⟨rfl,H6⟩
     have HL6:Aside (L1 w C T (.slice ka T.length kc) w6):=HA.o.2.2.later H6.o
     have hfl:=HL6.o.flt
     have z0:w6.cell? ⟨C,0,none⟩=some (.int .i64 0):=zP
     have z1:w6.cell? ⟨C,1,none⟩=some (.int .i64 0):=zP
     have zf:∀o,w6.frozen? ⟨C,o,none⟩=false:=fun o=>yF
     clear hfl
     have HB:Aside (Below w.heap.size w (w6.setCells C 0 [.int .i64 3,.int .i64 (-1)])):=aH HL6.o.below zV 0 _
     go_wp2
     (try simp only [Exit.inBlock,Exit.then])
     refine bodyPost_ret (v:=.tuple #[.int .i64 0,.agg #[.int .i64 3,.int .i64 (-1)]]) ?_ rfl ⟨.inl (-1,3),HJ.o,(aX HB.o).mono (fun k hk q=>yQ),rfl,H0.o.1.later HB.o⟩
     exact kj0
    | false=>
     have hsrt:=oh u2.drew (.slice ka T.length kc) T ((ft HA.o.2.2.row).later ((vG _ u2).drew)) zj
     have HS30:Aside (∀W,Below u2.heap.size u2 W->(fun w':World=>w'.cell? ⟨m,0,none⟩=some (.int .i64 by_)) W):=fun W hW=>aT hW ((H0.o.1.later HA.o.2.2.below).c).1
     go_upto_region 30 with fail
     refine aL (S:=(fun w'=>w'.cell? ⟨m,0,none⟩=some (.int .i64 by_))) zo (HS30.o u2.drew ((vG _ u2).drew)) (fun hHeld=> ?_)
     refine tk 0 hHeld ?_
     refine tk 1 hHeld ?_
     refine tk 2 hHeld ?_
     refine tk 3 hHeld ?_ (hy:=Or.inl ⟨zv,by intro w' hSw;go_simp;try with_reducible rfl⟩)
     refine tk 4 hHeld ?_
     refine aW (i:=5) zo rfl (fun K hK=> ?_)
     go_simp
     refine hsrt.mono ?_
     clear hsrt
     rintro e w6 ⟨v6,R,rfl,O6,St6,hb6,nb6⟩
     obtain ⟨ra,rc,hrv,hrin,hrn⟩:=Fj O6
     subst hrv
     have HNW:Aside (∀b o,ra=some ⟨b,o,none⟩->w.heap.size<=b):=fun b o e=>vI HA.o.2.2.below.size (nb6 b o _ _ (by rw [e]))
     clear nb6
     have B6:Below u2.heap.size u2 w6:=((vG _ u2).drew).trans hb6
     refine hK _ _ (HS30.o w6 B6) ?_
     clear hK K
     have H6:Aside (OpsIn w6 ra R/\Shp ra rc/\cY T R/\Below u2.heap.size u2 w6):=⟨hrin,hrn,St6,B6⟩
     clear B6 hb6 O6 St6 hrin hrn
     refine qn ?_
     refine tk 6 (HS30.o w6 H6.o.2.2.2) ?_
     obtain ⟨X,hX⟩:=ze (w6.alloc (.cells #[.int .i64 by_,.slice ra R.length rc] 27))
     obtain ⟨M2,hM2⟩:=ze w6.heap.size
     have hbX:Below u2.heap.size u2 X:=by rw [hX.o];exact H6.o.2.2.2.alloc H6.o.2.2.2.size _
     have HX:Aside (Below u2.heap.size u2 X/\MRp X M2 by_ ra rc R):=by
      rw [hX.o,hM2.o]
      exact ⟨H6.o.2.2.2.alloc H6.o.2.2.2.size _,⟨heap_alloc_new w6 _,H6.o.1.later (zh w6 _)⟩⟩
     refine aW (i:=7) zo rfl (fun K hK=> ?_)
     go_simp
     rw [<-hX.o,<-hM2.o]
     refine hK _ _ (HS30.o X hbX) ?_
     clear hK K hbX
     refine qn ?_
     refine tk 8 (HS30.o X HX.o.1) ?_
     refine wpAnyH_done zo ?_ _
     refine qn ?_
     have HRK:Aside (R.Perm T/\R.Pairwise (fun a b=>¬CLt (stO b) (stO a))/\(∀x∈R,ai x=0)/\L1 w C T (.slice ka T.length kc) X/\Shp ra rc):=by
      have h1:=fo H6.o.2.2.1
      exact ⟨h1.1,h1.2,fun x hx=>hTok.o x (h1.1.mem_iff.1 hx),HA.o.2.2.later HX.o.1,H6.o.2.1⟩
     have hRl:R.length<=800:=by have:=HRK.o.1.length_eq;omega
     clear HS30 hX hM2 H6
     go_wp2
     go_loopg [18] R.length (fun kx s18 wr=>∃(k:Nat),s18= .int .i64 (k:Int)/\k<=R.length/\R.length - k<=kx/\Aside (L1 w C T (.slice ka T.length kc) wr/\MRp wr M2 by_ ra rc R/\(R.take k).any (fun x=> !sI R x)=false))
     case atStart=>exact ⟨0,rfl,vM _,vB _,HRK.o.2.2.2.1,HX.o.2,zt⟩
     case round=>
      obtain ⟨k3,rfl,hk3,hkx3,A3⟩:=hrel
      obtain ⟨u3,hu3⟩:=zc wr
      subst hu3
      obtain ⟨c0,c1,cf⟩:=A3.o.2.1.c
      by_cases hlt3:k3<R.length
      ·have d3:decide ((k3:Int)<(R.length:Int))=true:=by simp;omega
       have d3n:decide (k3<R.length)=true:=zq
       obtain ⟨x,hx⟩:∃x,Aside (R[k3]? =some x):=⟨R[k3],vF hlt3⟩
       have HT:=Lib.hid (mt A3.o.2.2 hx.o)
       obtain ⟨b1,o1,e1,E1⟩:=A3.o.2.1.ops.one hx.o
       have hex:=HRK.o.2.2.1 x (vH hx.o)
       obtain ⟨xt,xb,xn,xk,xd,xo,xs,xv⟩:=x
       have hst:=ar hex
       dsimp only at E1
       subst e1
       have wi:((k3:Int)).toNat=k3:=zj
       have pi:(0:Int)<=(k3:Int):=zj
       have bi:(k3:Int)<(R.length:Int):=zj
       obtain ⟨q0,q1,q2,q3,q4,q5,q6,q7⟩:=E1
       obtain ⟨V,hV⟩:=ze (u3.alloc (.cells #[.int .i64 xt,.int .i64 xb,.int .i64 xn,.int .u8 (xk:Int),.int .i64 xd,.int .i64 xo,.string xs,.string xv] 61))
       obtain ⟨P,hP⟩:=ze u3.heap.size
       have HV:Aside (OpBlk V P (xt,xb,xn,xk,xd,xo,xs,xv)/\Below u3.heap.size u3 V):=by
        rw [hV.o,hP.o]
        exact ⟨OpBlk.new u3 (xt,xb,xn,xk,xd,xo,xs,xv),zh u3 _⟩
       have HS35:Aside (∀W,Below V.heap.size V W->(fun w':World=>w'.cell? ⟨P,0,none⟩=some (.int .i64 xt)/\w'.cell? ⟨P,1,none⟩=some (.int .i64 xb)/\w'.cell? ⟨P,4,none⟩=some (.int .i64 xd)) W):=by
        intro W hW
        have hc:=HV.o.1.cells
        exact ⟨aT hW hc.1,aT hW hc.2.1,aT hW hc.2.2.2.2.1⟩
       have hid:=fC xt xb V.drew hst.1 hst.2.1 hst.2.2.1 hst.2.2.2.1
       clear hst hex
       obtain ⟨zn,hzn⟩:=ze ((4*xt+xb==xd))
       go_upto_region 35 with fail
       rw [<-hV.o,<-hP.o]
       clear q0 q1 q2 q3 q4 q5 q6 q7 c0 c1 cf
       go_cut [20] (fun s20 wx=>s20= .bool zn/\Aside (Below V.heap.size V wx))
       case first=>
        refine aL (S:=(fun w'=>w'.cell? ⟨P,0,none⟩=some (.int .i64 xt)/\w'.cell? ⟨P,1,none⟩=some (.int .i64 xb)/\w'.cell? ⟨P,4,none⟩=some (.int .i64 xd))) zo (HS35.o V.drew ((vG _ V).drew)) (fun hHeld=> ?_)
        refine tk 0 hHeld ?_
        refine tk 1 hHeld ?_ (hy:=Or.inl ⟨zv,zM⟩)
        refine tk 3 hHeld ?_
        refine tk 4 hHeld ?_ (hy:=Or.inl ⟨zv,zM⟩)
        refine aW (i:=2) zo rfl (fun K hK=> ?_)
        go_simp
        refine hid.mono ?_
        clear hid
        rintro e w7 ⟨rfl,hb7⟩
        have B7:Below V.heap.size V w7:=((vG _ V).drew).trans hb7
        refine hK _ _ (HS35.o w7 B7) ?_
        clear hK K
        have HB7:Aside (Below V.heap.size V w7):=B7
        clear B7 hb7
        refine qn ?_
        refine tk 5 (HS35.o w7 HB7.o) ?_
        refine tk 6 (HS35.o w7 HB7.o) ?_
        refine wpAnyH_done zo ?_ _
        refine qn ?_
        go_wp2
        go_meet
        exact ⟨by rw [hzn.o],HB7.o⟩
       obtain ⟨rfl,HB20⟩:=hcut
       obtain ⟨v1_,hv1⟩:=zc wc
       subst hv1
       have HS:Aside (∀W,Below v1_.heap.size v1_ W->L1 w C T (.slice ka T.length kc) W/\MRp W M2 by_ (some ⟨b1,o1,none⟩) rc R/\OpBlk W P (xt,xb,xn,xk,xd,xo,xs,xv)):=by
        intro W hW
        have hb:Below u3.heap.size u3 W:=HV.o.2.trans ((zi HB20.o hW).mono HV.o.2.size)
        exact ⟨A3.o.1.later hb,A3.o.2.1.later hb,(HV.o.1.later HB20.o).later hW⟩
       clear HB20 HS35 HV hV
       obtain ⟨zk,hzk⟩:=ze (eW R xd)
       obtain ⟨zp,hzp⟩:=ze (wy R xo)
       obtain ⟨zl,hzl⟩:=ze (fK R xd xo)
       have HKN:Aside (∀W,Below v1_.heap.size v1_ W->Calls prog 31 #[.pointer (some ⟨M2,0,none⟩),.int .i64 xd] W fun e w'=>e= .returned (.bool zk)/\Aside (Below W.heap.size W w')):=by
        intro W hW
        rw [hzk.o]
        exact mT W xd (HS.o W hW).2.1 HRK.o.2.2.1 zj
       have HPL:Aside (∀W,Below v1_.heap.size v1_ W->Calls prog 32 #[.pointer (some ⟨M2,0,none⟩),.int .i64 xo] W fun e w'=>e= .returned (.bool zp)/\Aside (Below W.heap.size W w')):=by
        intro W hW
        rw [hzp.o]
        exact EU W xo (HS.o W hW).2.1 HRK.o.2.2.1 zj
       have HLT:Aside (∀W,Below v1_.heap.size v1_ W->Calls prog 33 #[.pointer (some ⟨M2,0,none⟩),.int .i64 xd,.int .i64 xo] W fun e w'=>e= .returned (.bool zl)/\Aside (Below W.heap.size W w')):=by
        intro W hW
        rw [hzl.o]
        exact Bh W xd xo (HS.o W hW).2.1 HRK.o.2.2.1 zj
       obtain ⟨zm,hzm⟩:=ze (decide (xk=109))
       obtain ⟨y0,y1,y2,y3,y4,y5,y6,y7,yf⟩:=(HS.o v1_ (vG _ _)).2.2.cells
       dsimp only at y0 y1 y2 y3 y4 y5 y6 y7
       have HBV:Aside (Below v1_.heap.size v1_ v1_):=vG _ _
       go_upto_region 36 with fail
       go_cut [21] (fun s21 wx=>s21= .bool ((zm &&zn) ||zk)/\Aside (Below v1_.heap.size v1_ wx))
       case first=>
        by_cases hk109:xk=109
        ·have dk:((xk:Int)==109)=true:=by simp;omega
         have dkn:(xk==109)=true:=zq
         obtain rfl:zm=true:=vn
         clear hk109
         cases zn with
         | true=>
          go_wp2
          go_meet
          exact ⟨zt,HBV.o⟩
         | false=>
          exact kb7
        have dk:((xk:Int)==109)=false:=zq
        have dkn:(xk==109)=false:=zq
        obtain rfl:zm=false:=jY
        clear hk109
        cases zn with
        | true=>
         exact kb7
        | false=>
         exact kb7
       obtain ⟨rfl,HB36⟩:=hcut
       obtain ⟨v2_,hv2⟩:=zc wc
       subst hv2
       obtain ⟨zo1,hzo1⟩:=ze (((zm &&zn) ||zk))
       rw [<-hzo1.o]
       clear y0 y1 y2 y3 y4 y5 y6 y7 yf
       obtain ⟨y0,y1,y2,y3,y4,y5,y6,y7,yf⟩:=(HS.o v2_ HB36.o).2.2.cells
       dsimp only at y0 y1 y2 y3 y4 y5 y6 y7
       go_upto_region 37 with fail
       go_cut [181] (fun s181 wx=>s181= .bool (zm && !zp)/\Aside (Below v1_.heap.size v1_ wx))
       case first=>
        by_cases hk109:xk=109
        ·have dk:((xk:Int)==109)=true:=by simp;omega
         have dkn:(xk==109)=true:=zq
         obtain rfl:zm=true:=vn
         clear hk109
         have hcl:=HPL.o v2_ HB36.o
         go_wp2_with fail
         refine hcl.mono ?_
         clear hcl
         rintro e w8 ⟨rfl,H8⟩
         have H9:Aside (Below v1_.heap.size v1_ w8):=zi HB36.o H8.o
         clear H8
         exact kk1
        have dk:((xk:Int)==109)=false:=zq
        have dkn:(xk==109)=false:=zq
        obtain rfl:zm=false:=jY
        clear hk109
        go_wp2
        go_meet
        exact ⟨zt,HB36.o⟩
       obtain ⟨rfl,HB37⟩:=hcut
       obtain ⟨v3_,hv3⟩:=zc wc
       subst hv3
       obtain ⟨z37,hz37⟩:=ze ((zm && !zp))
       rw [<-hz37.o]
       clear y0 y1 y2 y3 y4 y5 y6 y7 yf
       go_upto_if 181 with fail
       go_cut [21] (fun s21 wx=>s21= .bool (zo1 && !z37)/\wx=v3_)
       case first=>
        cases z37 with
        | true=>
         exact kq6
        | false=>
         exact kq6
       obtain ⟨rfl,rfl⟩:=hcut
       obtain ⟨v4_,hv4⟩:=zc wc
       subst hv4
       obtain ⟨zo2,hzo2⟩:=ze ((zo1 && !z37))
       rw [<-hzo2.o]
       obtain ⟨y0,y1,y2,y3,y4,y5,y6,y7,yf⟩:=(HS.o v4_ HB37.o).2.2.cells
       dsimp only at y0 y1 y2 y3 y4 y5 y6 y7
       go_upto_region 39 with fail
       go_cut [194] (fun s194 wx=>s194= .bool ((decide (xk=105) &&decide (0<xo)) ||decide (xk=100))/\wx=v4_)
       case first=>
        by_cases hk5:xk=105
        ·have dk105:((xk:Int)==105)=true:=by simp;omega
         have dkn105:(xk==105)=true:=zq
         by_cases hxo:0<xo
         ·have dxo:decide (0<xo)=true:=decide_eq_true hxo
          have e5:decide (xk=105)=true:=decide_eq_true hk5
          clear hk5 hxo
          go_wp2
          go_meet
          exact ⟨by rw [e5,dxo];rfl,rfl⟩
         have dxo:decide (0<xo)=false:=decide_eq_false hxo
         have e5:decide (xk=105)=true:=decide_eq_true hk5
         have e0:decide (xk=100)=false:=decide_eq_false zj
         have dk100:((xk:Int)==100)=false:=zq
         have dkn100:(xk==100)=false:=zq
         clear hk5 hxo
         go_wp2
         go_meet
         exact ⟨by rw [e5,dxo,e0];rfl,rfl⟩
        have dk105:((xk:Int)==105)=false:=zq
        have dkn105:(xk==105)=false:=zq
        by_cases hk0:xk=100
        ·have dk100:((xk:Int)==100)=true:=by simp;omega
         have dkn100:(xk==100)=true:=zq
         have e5:decide (xk=105)=false:=decide_eq_false hk5
         have e0:decide (xk=100)=true:=decide_eq_true hk0
         exact kl2
        have dk100:((xk:Int)==100)=false:=zq
        have dkn100:(xk==100)=false:=zq
        have e5:decide (xk=105)=false:=decide_eq_false hk5
        have e0:decide (xk=100)=false:=decide_eq_false hk0
        exact kl2
       obtain ⟨rfl,rfl⟩:=hcut
       obtain ⟨v5_,hv5⟩:=zc wc
       subst hv5
       obtain ⟨z39,hz39⟩:=ze (((decide (xk=105) &&decide (0<xo)) ||decide (xk=100)))
       rw [<-hz39.o]
       go_upto_if 194 with fail
       go_cut [21] (fun s21 wx=>s21= .bool (zo2 &&(!z39 ||zl))/\Aside (Below v1_.heap.size v1_ wx))
       case first=>
        cases z39 with
        | false=>
         go_wp2
         go_meet
         exact ⟨zt,HB37.o⟩
        | true=>
         have hlt:=HLT.o v5_ HB37.o
         go_wp2_with fail
         refine hlt.mono ?_
         clear hlt
         rintro e w8 ⟨rfl,H8⟩
         have H9:Aside (Below v1_.heap.size v1_ w8):=zi HB37.o H8.o
         clear H8 y0 y1 y2 y3 y4 y5 y6 y7 yf
         cases zo2 with
         | true=>
          exact kk1
         | false=>
          exact kk1
       obtain ⟨rfl,HB39⟩:=hcut
       obtain ⟨u4,hu4⟩:=zc wc
       subst hu4
       obtain ⟨zo3,hzo3⟩:=ze ((zo2 &&(!z39 ||zl)))
       rw [<-hzo3.o]
       have HRB:Aside (zo3=sI R (xt,xb,xn,xk,xd,xo,xs,xv)):=by
        show zo3=_
        rw [Hl,hzo3.o,hzo2.o,hz39.o,hz37.o,hzo1.o,hzm.o,hzn.o,hzk.o,hzp.o,hzl.o]
        have e:(4*xt+xb==xd)=decide (xt*4+xb=xd):=by
         by_cases q:xt*4+xb=xd
         ·rw [decide_eq_true q];simp;omega
         rw [decide_eq_false q];simp;omega
        rw [e]
       have HL4:Aside (L1 w C T (.slice ka T.length kc) u4):=(HS.o u4 HB39.o).1
       clear y0 y1 y2 y3 y4 y5 y6 y7 yf HKN HPL HLT
       cases zo3 with
       | true=>
        have HN:Aside (L1 w C T (.slice ka T.length kc) u4/\MRp u4 M2 by_ (some ⟨b1,o1,none⟩) rc R/\(R.take (k3+1)).any (fun x=> !sI R x)=false):=⟨HL4.o,(HS.o u4 HB39.o).2.1,HT.o.2 (by show (!sI R _)=false;rw [<-HRB.o];rfl)⟩
        go_wp2
        go_roundg (R.length - (k3+1))
        case measure=>omega
        case rel=>exact ⟨k3+1,zw,zj,vB _,HN.o⟩
       | false=>
        have HJ:Aside (aK S l (.inl (-1,6))):=((HJR.o R HRK.o.1).2 HA.o.2.1.symm).1 (HT.o.1 (by show (!sI R _)=true;rw [<-HRB.o];rfl))
        have hbr:=lT 6 u4
        go_wp2_with fail
        refine hbr.mono ?_
        clear hbr
        rintro e w6 ⟨rfl,H6⟩
        have HL6:Aside (L1 w C T (.slice ka T.length kc) w6):=HL4.o.later H6.o
        have hfl:=HL6.o.flt
        have z0:w6.cell? ⟨C,0,none⟩=some (.int .i64 0):=zP
        have z1:w6.cell? ⟨C,1,none⟩=some (.int .i64 0):=zP
        have zf:∀o,w6.frozen? ⟨C,o,none⟩=false:=fun o=>yF
        clear hfl
        have HB:Aside (Below w.heap.size w (w6.setCells C 0 [.int .i64 6,.int .i64 (-1)])):=aH HL6.o.below zV 0 _
        go_wp2
        (try simp only [Exit.inBlock,Exit.then])
        refine bodyPost_ret (v:=.tuple #[.int .i64 0,.agg #[.int .i64 6,.int .i64 (-1)]]) ?_ rfl ⟨.inl (-1,6),HJ.o,(aX HB.o).mono (fun k hk q=>yQ),rfl,H0.o.1.later HB.o⟩
        exact kj0
      have d3:decide ((k3:Int)<(R.length:Int))=false:=zq
      have d3n:decide (k3<R.length)=false:=zq
      have HRA:Aside (R.any (fun x=> !sI R x)=false):=by
       have:=A3.o.2.2
       rwa [vT zj] at this
      have HJ4:=Lib.hid (((HJR.o R HRK.o.1).2 HA.o.2.1.symm).2 HRA.o)
      by_cases h4:400<T.length
      ·have d4:decide ((400:Int)<(T.length:Int))=true:=by simp;omega
       have d4n:decide (400<T.length)=true:=zq
       have HJ:Aside (aK S l (.inl (-1,8))):=HJ4.o.1 h4
       have hbr:=lT 8 u3
       go_wp2_with fail
       refine hbr.mono ?_
       clear hbr
       rintro e w6 ⟨rfl,H6⟩
       have HL6:Aside (L1 w C T (.slice ka T.length kc) w6):=A3.o.1.later H6.o
       have hfl:=HL6.o.flt
       have z0:w6.cell? ⟨C,0,none⟩=some (.int .i64 0):=zP
       have z1:w6.cell? ⟨C,1,none⟩=some (.int .i64 0):=zP
       have zf:∀o,w6.frozen? ⟨C,o,none⟩=false:=fun o=>yF
       clear hfl
       have HB:Aside (Below w.heap.size w (w6.setCells C 0 [.int .i64 8,.int .i64 (-1)])):=aH HL6.o.below zV 0 _
       go_wp2
       (try simp only [Exit.inBlock,Exit.then])
       refine bodyPost_ret (v:=.tuple #[.int .i64 0,.agg #[.int .i64 8,.int .i64 (-1)]]) ?_ rfl ⟨.inl (-1,8),HJ.o,(aX HB.o).mono (fun k hk q=>yQ),rfl,H0.o.1.later HB.o⟩
       exact kj0
      have d4:decide ((400:Int)<(T.length:Int))=false:=zq
      have d4n:decide (400<T.length)=false:=zq
      have HJ:Aside (aK S l (.inr fresh)):=HJ4.o.2 zj
      have HMm:Aside (MRp u3 m by_ ao cap S):=H0.o.1.later A3.o.1.below
      obtain ⟨m0,m1,mf⟩:=HMm.o.c
      have hsz:(T.length:Int) - (S.length:Int)=(fresh.length:Int):=by
       have:=congrArg List.length hTT.o
       rw [vN] at this
       omega
      have hfl4:fresh.length<=100000:=by have:=HSF.o.2.2;omega
      have hwr:wrap64 ((fresh.length:Int))=(fresh.length:Int):=Hg hfl4
      have hwr2:IntKind.i64.wrap ((fresh.length:Int))=(fresh.length:Int):=by rw [IntKind.wrap_i64];clear hwr;omega
      obtain ⟨W9,hW9⟩:=ze (u3.setCells m 1 [.slice ra R.length rc])
      have hmC:m≠C:=by have:=H0.o.1.lt;have:=hC.o;omega
      have HM9:Aside (MRp W9 m by_ ra rc R/\Keeps (fun k=>k=m) u3 W9/\W9.heap[C]? =some (.cells #[.int .i64 0,.int .i64 0] 29 (0,0))):=by
       rw [hW9.o]
       refine ⟨HMm.o.put rc A3.o.2.1.ops,aZ m _ 1 u3,?_⟩
       exact ((aZ m _ 1 u3).block C (vD.1 A3.o.1.flt).1 (fun e=>hmC e.symm)).trans A3.o.1.flt
      have e9:u3.setCell ⟨m,1,none⟩ (.slice ra R.length rc)=W9:=hW9.o.symm
      have hfi:=Az W9
      go_upto_region 48 with fail
      try rw [e9]
      clear e9 m0 m1 mf c0 c1 cf
      go_wp2_with fail
      refine hfi.mono ?_
      clear hfi
      rintro e w9 ⟨rfl,H9⟩
      have HC9:Aside (w9.heap[C]? =some (.cells #[.int .i64 0,.int .i64 0] 29 (0,0))):=(H9.o.block C (vD.1 HM9.o.2.2).1).trans HM9.o.2.2
      have hfl:=HC9.o
      have z0:w9.cell? ⟨C,0,none⟩=some (.int .i64 0):=zP
      have z1:w9.cell? ⟨C,1,none⟩=some (.int .i64 0):=zP
      have zf:∀o,w9.frozen? ⟨C,o,none⟩=false:=fun o=>yF
      clear hfl
      have HE:Aside (Keeps (fun k=>k=m) w (w9.setCells C 0 [.int .i64 0,.int .i64 (-1)])/\MRp (w9.setCells C 0 [.int .i64 0,.int .i64 (-1)]) m by_ ra rc R):=by
       refine ⟨?_,(HM9.o.1.later H9.o).two HC9.o hmC 0 _⟩
       have k1:Keeps (fun k=>k=m) w u3:=(aX A3.o.1.below).mono (fun k hk q=>absurd q zj)
       have k2:=k1.then HM9.o.2.1 (fun i _ e=>e)
       have k3:=k2.then (aX H9.o) (fun i hi q=>by have:=k2.size;omega)
       exact k3.then (aZ C _ 0 w9) (fun i hi e=>by have:=hC.o;omega)
      go_wp2
      (try simp only [Exit.inBlock,Exit.then])
      refine bodyPost_ret (v:=.tuple #[.int .i64 (fresh.length:Int),.agg #[.int .i64 0,.int .i64 (-1)]]) ?_ rfl ⟨.inr fresh,HJ.o,HE.o.1,rfl,ra,rc,R,HE.o.2,HRK.o.2.2.2.2,by rw [<-hTT.o];exact HRK.o.1,HRK.o.2.1,HNW.o⟩
      exact kj0
