import Derived.Test.YtehighgebbdenaaGreatDoorRa24
set_option linter.unusedSimpArgs false
set_option maxRecDepth 100000
set_option maxHeartbeats 64000000
namespace Go.Proofs.YtehighgebbdenaaGreatDoor
open Go.Proofs.Tryz
variable {by_:Int} {S S' l:List OpX} {b cap i j m:Nat} {f:Nat→Nat} {x:OpX} {ao:Option Addr} {W w:World}
section
open Go Go.RowKit Go.Lib Go.Sort
def ae (S:List OpX) (i:Nat):Nat:=S.countP (fun x=>decide (byO x=(i:Int)))
def VecAt (W:World) (b:Nat) (f:Nat->Nat):Prop:=W.heap[b]? =some (.cells #[.int .i64 (f 0:Int),.int .i64 (f 1:Int),.int .i64 (f 2:Int),.int .i64 (f 3:Int)] 23 (0,0))
theorem VecAt.lt (h:VecAt W b f):b<W.heap.size:=(vO.1 h).1
theorem VecAt.c (h:VecAt W b f):W.cell? ⟨b,0,none⟩=some (.int .i64 (f 0:Int))/\W.cell? ⟨b,1,none⟩=some (.int .i64 (f 1:Int))/\W.cell? ⟨b,2,none⟩=some (.int .i64 (f 2:Int))/\W.cell? ⟨b,3,none⟩=some (.int .i64 (f 3:Int))/\∀o,W.frozen? ⟨b,o,none⟩=false:=by
 unfold VecAt at h;refine ⟨?_,?_,?_,?_,fun o=> ?_⟩
 ·simp [World.cell?,h]
 ·simp [World.cell?,h]
 ·simp [World.cell?,h]
 ·simp [World.cell?,h]
 simp [World.frozen?,h]
theorem Dw (S:List OpX) (i:Nat):ae S i<=S.length:=List.countP_le_length
theorem iH (hx:S[i]? =some x) (j:Nat):ae (S.take (i+1)) j=ae (S.take i) j+(if byO x=(j:Int) then 1 else 0):=by
 have hi:=(vL.1 hx).1;unfold ae;rw [uK hi,(vL.1 hx).2,List.countP_append,List.countP_singleton];simp
theorem VecAt.up {W:World} {b:Nat} {S:List OpX} {i j:Nat} {x:OpX} (h:VecAt W b (ae (S.take i))) (hx:S[i]? =some x) (hb:byO x=(j:Int)) (hj:j<4):VecAt (W.setCell ⟨b,j,none⟩ (.int .i64 ((ae (S.take i) j:Int)+1))) b (ae (S.take (i+1)))/\Keeps (fun k=>k=b) W (W.setCell ⟨b,j,none⟩ (.int .i64 ((ae (S.take i) j:Int)+1))):=by
 refine ⟨?_,aZ b [.int .i64 ((ae (S.take i) j:Int)+1)] j W⟩;have h1:=heap_setCell_same W b j _ _ (.int .i64 ((ae (S.take i) j:Int)+1)) h;unfold VecAt;rw [h1,iH hx 0,iH hx 1,iH hx 2,iH hx 3,hb];have h4:j=0\/j=1\/j=2\/j=3:=zo
 rcases h4 with rfl | rfl | rfl | rfl<;>simp
theorem nC (w:World) (h:MRp w m by_ ao cap S) (hok:∀x∈S,an x=0) (hn:S.length<=1000000):
  Calls prog 19 #[.pointer (some ⟨m,0,none⟩)] w fun e w'=>e= .returned (.agg #[.int .i64 (ae S 0:Int),.int .i64 (ae S 1:Int),.int .i64 (ae S 2:Int),.int .i64 (ae S 3:Int)])/\Aside (Below w.heap.size w w'):=by
 have H0:Aside (MRp w m by_ ao cap S/\∀x∈S,an x=0):=⟨h,hok⟩
 obtain ⟨C,hC⟩:=ze w.heap.size;obtain ⟨Q,hQ⟩:=ze (w.heap.size+1);obtain ⟨U,hU⟩:=ze ((w.alloc (.cells #[.int .i64 0,.int .i64 0,.int .i64 0,.int .i64 0] 23)).alloc (.cells #[.int .i64 0,.int .i64 0,.int .i64 0,.int .i64 0] 23))
 have HU:Aside (VecAt U C (fun _=>0)/\VecAt U Q (ae (S.take 0))/\Below w.heap.size w U):=by
  rw [hU.o,hC.o,hQ.o];refine ⟨?_,?_,?_⟩
  ·unfold VecAt;rw [vZ _ _ _ zv];exact heap_alloc_new w _
  ·have:=heap_alloc_new (w.alloc (.cells #[.int .i64 0,.int .i64 0,.int .i64 0,.int .i64 0] 23)) (.cells #[.int .i64 0,.int .i64 0,.int .i64 0,.int .i64 0] 23);simpa [VecAt,ae] using this
  exact km3
 have hCQ:C≠Q:=by rw [hC.o,hQ.o];omega
 have hCl:Aside (w.heap.size<=C/\w.heap.size<=Q):=by rw [hC.o,hQ.o];exact ⟨vM _,zo⟩
 clear h hok;go_enter func19,ntmps19;go_upto_region 2 with fail;rw [<-hU.o,<-hQ.o,<-hC.o];go_wp2;go_loopg [4] S.length (fun kx s4 wr=>∃(i:Nat),s4= .int .i64 (i:Int)/\i<=S.length/\S.length - i<=kx/\Aside (VecAt wr C (fun _=>0)/\VecAt wr Q (ae (S.take i))/\Below w.heap.size w wr))
 case atStart=>exact ⟨0,rfl,vV _,vM _,HU.o⟩
 case round=>
  obtain ⟨i,rfl,hi,hix,A⟩:=hrel;obtain ⟨c0,c1,cf⟩:=(H0.o.1.later A.o.2.2).c;obtain ⟨v0,v1,v2,v3,vf⟩:=A.o.2.1.c;by_cases hlt:i<S.length
  ·have d1:decide ((i:Int)<(S.length:Int))=true:=by simp;omega
   have d1n:decide (i<S.length)=true:=zr
   obtain ⟨x,hx⟩:∃x,Aside (S[i]? =some x):=⟨S[i],vN hlt⟩
   have hex:=H0.o.2 x (vQ hx.o);obtain ⟨b1,o1,e1,E1⟩:=(H0.o.1.later A.o.2.2).ops.one hx.o;have hst:=aq hex
   have HUp:Aside (∀j:Nat,byO x=(j:Int)->j<4->VecAt (wr.setCell ⟨Q,j,none⟩ (.int .i64 ((ae (S.take i) j:Int)+1))) C (fun _=>0)/\VecAt (wr.setCell ⟨Q,j,none⟩ (.int .i64 ((ae (S.take i) j:Int)+1))) Q (ae (S.take (i+1)))/\Below w.heap.size w (wr.setCell ⟨Q,j,none⟩ (.int .i64 ((ae (S.take i) j:Int)+1)))):=fun j hb hj=>by
    have h1:=A.o.2.1.up hx.o hb hj;exact ⟨(h1.2.block C A.o.1.lt hCQ).trans A.o.1,h1.1,A.o.2.2.trans (h1.2.below A.o.2.2.size (fun k e=>by rw [e];exact hCl.o.2))⟩
   have hle:∀j,IntKind.i64.wrap ((ae (S.take i) j:Int)+1)=(ae (S.take i) j:Int)+1:=fun j=>by
    have:=Dw (S.take i) j;rw [ug] at this;rw [IntKind.wrap_i64];omega
   have l0:=hle 0;have l1:=hle 1;have l2:=hle 2;have l3:=hle 3;generalize ae (S.take i)=f at v0 v1 v2 v3 l0 l1 l2 l3 HUp;obtain ⟨xt,xb,xn,xk,xd,xo,xs,xv⟩:=x
   have hxb:xb=0\/xb=1\/xb=2\/xb=3:=by
    have h3:=hst.2.2.1;have h4:=hst.2.2.2.1;dsimp only at h3 h4;omega
   dsimp only at E1;subst e1;have wi:((i:Int)).toNat=i:=zo;have pi:(0:Int)<=(i:Int):=zo;have bi:(i:Int)<(S.length:Int):=zo;obtain ⟨q0,q1,q2,q3,q4,q5,q6,q7⟩:=E1;clear A hex hst hle
   rcases hxb with rfl | rfl | rfl | rfl
   ·have HN:=HUp.o 0 rfl zo;have HNA:Aside (VecAt (wr.setCell ⟨Q,0,none⟩ (.int .i64 ((f 0:Int)+1))) C (fun _=>0)/\VecAt (wr.setCell ⟨Q,0,none⟩ (.int .i64 ((f 0:Int)+1))) Q (ae (S.take (i+1)))/\Below w.heap.size w (wr.setCell ⟨Q,0,none⟩ (.int .i64 ((f 0:Int)+1)))):=HN;clear HN HUp;go_wp2;go_roundg (S.length - (i+1))
    case measure=>omega
    case rel=>exact ⟨i+1,zD,zo,vM _,HNA.o⟩
   ·have HN:=HUp.o 1 rfl zo;have HNA:Aside (VecAt (wr.setCell ⟨Q,1,none⟩ (.int .i64 ((f 1:Int)+1))) C (fun _=>0)/\VecAt (wr.setCell ⟨Q,1,none⟩ (.int .i64 ((f 1:Int)+1))) Q (ae (S.take (i+1)))/\Below w.heap.size w (wr.setCell ⟨Q,1,none⟩ (.int .i64 ((f 1:Int)+1)))):=HN;clear HN HUp;go_wp2;go_roundg (S.length - (i+1))
    case measure=>omega
    case rel=>exact ⟨i+1,zD,zo,vM _,HNA.o⟩
   ·have HN:=HUp.o 2 rfl zo;have HNA:Aside (VecAt (wr.setCell ⟨Q,2,none⟩ (.int .i64 ((f 2:Int)+1))) C (fun _=>0)/\VecAt (wr.setCell ⟨Q,2,none⟩ (.int .i64 ((f 2:Int)+1))) Q (ae (S.take (i+1)))/\Below w.heap.size w (wr.setCell ⟨Q,2,none⟩ (.int .i64 ((f 2:Int)+1)))):=HN;clear HN HUp;go_wp2;go_roundg (S.length - (i+1))
    case measure=>omega
    case rel=>exact ⟨i+1,zD,zo,vM _,HNA.o⟩
   have HN:=HUp.o 3 rfl zo;have HNA:Aside (VecAt (wr.setCell ⟨Q,3,none⟩ (.int .i64 ((f 3:Int)+1))) C (fun _=>0)/\VecAt (wr.setCell ⟨Q,3,none⟩ (.int .i64 ((f 3:Int)+1))) Q (ae (S.take (i+1)))/\Below w.heap.size w (wr.setCell ⟨Q,3,none⟩ (.int .i64 ((f 3:Int)+1)))):=HN;clear HN HUp;go_wp2;go_roundg (S.length - (i+1))
   case measure=>omega
   case rel=>exact ⟨i+1,zD,zo,vM _,HNA.o⟩
  have d1:decide ((i:Int)<(S.length:Int))=false:=zr;have d1n:decide (i<S.length)=false:=zr;have hS:S.take i=S:=uc zo;rw [hS] at v0 v1 v2 v3;obtain ⟨z0,z1,z2,z3,zf⟩:=A.o.1.c;have HB:Aside (Below w.heap.size w (wr.setCells C 0 [.int .i64 (ae S 0:Int),.int .i64 (ae S 1:Int),.int .i64 (ae S 2:Int),.int .i64 (ae S 3:Int)])):=aQ A.o.2.2 hCl.o.1 0 _;clear hS A;go_wp2;(try simp only [Exit.inBlock,Exit.then]);refine bodyPost_ret (v:=.agg #[.int .i64 (ae S 0:Int),.int .i64 (ae S 1:Int),.int .i64 (ae S 2:Int),.int .i64 (ae S 3:Int)]) (by simp [results,results19,go_sem,z0,z1,z2,z3]) rfl ⟨rfl,HB.o⟩
theorem IX {w':World} {base n:Nat} {e:TypeId} {k:Nat} {v:Value} {xs:List Value} (h:w.ownsRow base e k v n xs) (hs:∀g,v.ownBlock=some g->w'.heap[g]? =w.heap[g]?):w'.ownsRow base e k v n xs:=by
 refine ⟨h.1,?_⟩
 rcases h.2 with q | ⟨g,cap,cur,rfl,hb,hg,rest⟩
 ·exact .inl q
 exact .inr ⟨g,cap,cur,rfl,hb,(hs g rfl).trans hg,rest⟩
theorem Kx (w:World) (x:OpX):∀j u,(au x)[j]? =some u->(w.alloc (.cells #[.int .i64 x.1,.int .i64 x.2.1,.int .i64 x.2.2.1,.int .u8 (x.2.2.2.1:Int),.int .i64 x.2.2.2.2.1,.int .i64 x.2.2.2.2.2.1,.string x.2.2.2.2.2.2.1,.string x.2.2.2.2.2.2.2] 38)).cell? ((⟨w.heap.size,0,none⟩:Addr).add j)=some u:=
 World.news_of_block (cs:= #[.int .i64 x.1,.int .i64 x.2.1,.int .i64 x.2.2.1,.int .u8 (x.2.2.2.1:Int),.int .i64 x.2.2.2.2.1,.int .i64 x.2.2.2.2.2.1,.string x.2.2.2.2.2.2.1,.string x.2.2.2.2.2.2.2]) (t:=38) (fr:=(0,0)) (heap_alloc_new w _)
theorem KX (x:OpX):∀u∈au x,u.oneCell'=true:=by
 intro u hu;simp only [au,vT,ZI,or_false] at hu
 rcases hu with rfl | rfl | rfl | rfl | rfl | rfl | rfl | rfl<;>rfl
theorem lf (xs:List OpX) (x:OpX):cellsOf (xs++ [x])=cellsOf xs++au x:=xC
def vAt (v0 v1 v2 v3:Int) (b:Int):Int:=if b=0 then v0 else if b=1 then v1 else if b=2 then v2 else v3
def cl (v0 v1 v2 v3:Int) (S:List OpX):List OpX:=S.filter (fun x=>decide (vAt v0 v1 v2 v3 (byO x)<ar x))
theorem BI {v0 v1 v2 v3:Int} (hx:S[i]? =some x):cl v0 v1 v2 v3 (S.take (i+1))=if vAt v0 v1 v2 v3 (byO x)<ar x then cl v0 v1 v2 v3 (S.take i)++ [x] else cl v0 v1 v2 v3 (S.take i):=by
 have hi:=(vL.1 hx).1;unfold cl;rw [uK hi,(vL.1 hx).2,Za];by_cases h:vAt v0 v1 v2 v3 (byO x)<ar x
 ·rw [if_pos h];simp [ZO,h]
 rw [if_neg h];simp [ZO,h]
theorem Fl (w:World) (v0 v1 v2 v3:Int) (h:MRp w m by_ ao cap S) (hok:∀x∈S,an x=0) (hn:S.length<=1000):
  Calls prog 25 #[.pointer (some ⟨m,0,none⟩),.agg #[.int .i64 v0,.int .i64 v1,.int .i64 v2,.int .i64 v3]] w fun e w'=>∃rv:Value,e= .returned rv/\Aside (w'.ownsRow w.heap.size 38 8 rv (cl v0 v1 v2 v3 S).length (cellsOf (cl v0 v1 v2 v3 S))/\Below w.heap.size w w'):=by
 obtain ⟨i0,hi0,hz0,hz1,hz2⟩:=info_parts dX
 have H0:Aside (MRp w m by_ ao cap S/\∀x∈S,an x=0):=⟨h,hok⟩
 obtain ⟨C,hC⟩:=ze w.heap.size;obtain ⟨U,hU⟩:=ze (w.alloc (.cells #[.int .i64 v0,.int .i64 v1,.int .i64 v2,.int .i64 v3] 23));obtain ⟨T,hT⟩:=ze (cl v0 v1 v2 v3 S);rw [<-hT.o]
 have HU:Aside (U.heap[C]? =some (.cells #[.int .i64 v0,.int .i64 v1,.int .i64 v2,.int .i64 v3] 23 (0,0))/\Below w.heap.size w U/\U.heap.size=w.heap.size+1):=by
  rw [hU.o,hC.o];exact ⟨heap_alloc_new w _,zh w _,zv⟩
 clear h hok;go_enter func25,ntmps25;go_upto_region 2 with fail;rw [<-hU.o,<-hC.o];go_wp2;go_loopg [5,6] S.length (fun kx s5 s6 wr=>∃(i:Nat) (ov:Value),ov=s5/\s6= .int .i64 (i:Int)/\i<=S.length/\S.length - i<=kx/\Aside (wr.ownsRow (w.heap.size+1) 38 8 ov (cl v0 v1 v2 v3 (S.take i)).length (cellsOf (cl v0 v1 v2 v3 (S.take i)))/\wr.heap[C]? =some (.cells #[.int .i64 v0,.int .i64 v1,.int .i64 v2,.int .i64 v3] 23 (0,0))/\Below w.heap.size w wr/\w.heap.size+1<=wr.heap.size))
 case atStart=>exact ⟨0,_,rfl,rfl,vV _,vM _,un _ _ _ _,HU.o.1,HU.o.2.1,by rw [HU.o.2.2];exact vM _⟩
 case round=>
  obtain ⟨i,ov,rfl,rfl,hi,hix,A⟩:=hrel;obtain ⟨u,hu⟩:=zc wr;subst hu;obtain ⟨c0,c1,cf⟩:=(H0.o.1.later A.o.2.2.1).c;by_cases hlt:i<S.length
  ·have d1:decide ((i:Int)<(S.length:Int))=true:=by simp;omega
   have d1n:decide (i<S.length)=true:=zr
   obtain ⟨x,hx⟩:∃x,Aside (S[i]? =some x):=⟨S[i],vN hlt⟩
   have hex:=H0.o.2 x (vQ hx.o);obtain ⟨b1,o1,e1,E1⟩:=(H0.o.1.later A.o.2.2.1).ops.one hx.o;have hst:=aq hex;have HD:=BI (v0:=v0) (v1:=v1) (v2:=v2) (v3:=v3) hx.o
   have HE8:Aside (∀W,Below u.heap.size u W->oJ W ao i x):=fun W hW=>((H0.o.1.later A.o.2.2.1).later hW).ops.one hx.o
   obtain ⟨xt,xb,xn,xk,xd,xo,xs,xv⟩:=x
   obtain ⟨xj,hxj⟩:∃xj:Nat,xb=(xj:Int):=⟨xb.toNat,by have:=hst.2.2.1;dsimp only at this;omega⟩
   subst hxj
   have hj4:xj<4:=by have:=hst.2.2.2.1;dsimp only at this;omega
   obtain ⟨vv,hvv⟩:=ze (vAt v0 v1 v2 v3 (xj:Int))
   have hcv:u.cell? ⟨C,xj,none⟩=some (.int .i64 vv):=by
    have h1:=A.o.2.1;have h4:xj=0\/xj=1\/xj=2\/xj=3:=zo;rw [hvv.o];unfold vAt
    rcases h4 with rfl | rfl | rfl | rfl<;>simp [World.cell?,h1]
   dsimp only at E1 HD;subst e1;have wi:((i:Int)).toNat=i:=zo;have pi:(0:Int)<=(i:Int):=zo;have bi:(i:Int)<(S.length:Int):=zo;have wj:((xj:Int)).toNat=xj:=zo;have pj:(0:Int)<=(xj:Int):=zo;have bj:(xj:Int)<4:=zo;obtain ⟨q0,q1,q2,q3,q4,q5,q6,q7⟩:=E1
   have N0:(fun w'=>w'.cell? ⟨m,1,none⟩=some (.slice (some ⟨b1,o1,none⟩) S.length cap)/\w'.cell? ⟨b1,o1+i*8+1,none⟩=some (.int .i64 (xj:Int))/\w'.cell? ⟨b1,o1+i*8+2,none⟩=some (.int .i64 xn)/\w'.cell? ⟨C,xj,none⟩=some (.int .i64 vv)) u.drew:=⟨c1,q1,q2,hcv⟩
   rw [<-hvv.o] at HD
   have HA2:Aside (u.drew.ownsRow (w.heap.size+1) 38 8 ov (cl v0 v1 v2 v3 (S.take i)).length (cellsOf (cl v0 v1 v2 v3 (S.take i)))/\u.drew.heap[C]? =some (.cells #[.int .i64 v0,.int .i64 v1,.int .i64 v2,.int .i64 v3] 23 (0,0))/\Below w.heap.size w u.drew/\w.heap.size+1<=u.drew.heap.size):=⟨IX A.o.1 (fun g hg=>rfl),A.o.2.1,A.o.2.2.1.drew,A.o.2.2.2⟩
   have hdl:(cl v0 v1 v2 v3 (S.take i)).length<=1000:=by
    have h1:=Zd (fun x=>decide (vAt v0 v1 v2 v3 (byO x)<ar x)) (S.take i);rw [ug] at h1;unfold cl;omega
   clear hex hst;by_cases hv:vv<xn
   ·have dv:decide (vv<xn)=true:=by simp [hv]
    rw [if_pos hv] at HD;have HD2:Aside (cl v0 v1 v2 v3 (S.take (i+1))=cl v0 v1 v2 v3 (S.take i)++ [(xt,(xj:Int),xn,xk,xd,xo,xs,xv)]):=HD;clear hv HD A;go_upto_region 5 with fail;clear q0 q1 q2 q3 q4 q5 q6 q7;refine aO (S:=(fun w'=>w'.cell? ⟨m,1,none⟩=some (.slice (some ⟨b1,o1,none⟩) S.length cap)/\w'.cell? ⟨b1,o1+i*8+1,none⟩=some (.int .i64 (xj:Int))/\w'.cell? ⟨b1,o1+i*8+2,none⟩=some (.int .i64 xn)/\w'.cell? ⟨C,xj,none⟩=some (.int .i64 vv))) zq N0 (fun hHeld=> ?_);refine tk 0 hHeld ?_;refine tk 1 hHeld ?_;refine tk 2 hHeld ?_;refine tk 3 hHeld ?_ (hy:=Or.inl ⟨zA,zw⟩);refine tk 4 hHeld ?_;refine tk 5 hHeld ?_;refine tk 6 hHeld ?_;refine tk 7 hHeld ?_ (hy:=Or.inl ⟨zA,zw⟩);refine tk 8 hHeld ?_;refine tk 9 hHeld ?_;refine tk 10 hHeld ?_;refine tk 11 hHeld ?_ (hy:=Or.inl ⟨zA,zw⟩);refine tk 12 hHeld ?_;refine tk 13 hHeld ?_;refine tk 14 hHeld ?_;refine tk 15 hHeld ?_;refine tk 16 hHeld ?_ (hy:=Or.inl ⟨zA,zw⟩);refine tk 17 hHeld ?_;refine tk 18 hHeld ?_ (hy:=Or.inl ⟨zA,zw⟩);refine tk 19 hHeld ?_;refine wpAnyH_done zq ?_ _;refine qn ?_;obtain ⟨b2,o2,e2,E2⟩:=HE8.o u.drew ((vP _ u).drew)
    cases e2
    obtain ⟨q0,q1,q2,q3,q4,q5,q6,q7⟩:=E2;dsimp only at q0 q1 q2 q3 q4 q5 q6 q7;obtain ⟨g0,-,-,-⟩:=N0
    generalize u.drew=D at HA2 q0 q1 q2 q3 q4 q5 q6 q7 g0 |-
    go_wp2_with (at_builtin;refine wpList_append_own _ rfl _ _ 32 rfl (w.heap.size+1) 38 i0 _ 8 80 underlying32 hi0 hz0 hz1 hz2 rfl zo _ _ _ rfl (HA2.o.1.alloc _) ⟨D.heap.size,0,none⟩ 1 1 (au (xt,(xj:Int),xn,xk,xd,xo,xs,xv)) rfl ?qc1 ?qc2 ?qc3 ?qc4 ?qc5 ?qc6 ?_)
    case qc1=>rfl
    case qc2=>first | exact Kx D (xt,(xj:Int),xn,xk,xd,xo,xs,xv) | exact fun j u h=>h
    case qc3=>exact KX _
    case qc4=>simp only [maxLen];omega
    case qc5=>omega
    case qc6=>have:=HA2.o.2.2.2;first | omega | (simp;omega)
    intro v' w4 hown hgrow hnil
    have HN:Aside (w4.ownsRow (w.heap.size+1) 38 8 v' (cl v0 v1 v2 v3 (S.take (i+1))).length (cellsOf (cl v0 v1 v2 v3 (S.take (i+1))))/\w4.heap[C]? =some (.cells #[.int .i64 v0,.int .i64 v1,.int .i64 v2,.int .i64 v3] 23 (0,0))/\Below w.heap.size w w4/\w.heap.size+1<=w4.heap.size):=by
     have hg4:=aP hgrow
     have hlow:∀k,some k=ov.ownBlock->w.heap.size+1<=k:=fun k hk=>(HA2.o.1.lt k hk.symm).1
     have hCs:C<D.heap.size:=(vO.1 HA2.o.2.1).1;refine ⟨?_,?_,?_,?_⟩
     ·rw [HD2.o,lf,ub];exact hown
     ·rw [hg4.block C zr (fun e=>by have:=hlow C e;have:=hC.o;omega),vZ _ _ C hCs];exact HA2.o.2.1
     ·exact (HA2.o.2.2.1.alloc HA2.o.2.2.1.size _).grown hgrow (by simp;have:=HA2.o.2.2.2;omega) (fun k hk=>by have:=hlow k hk.symm;omega)
     have:=hg4.size;have h2:=HA2.o.2.2.2;simp at this;omega
    clear hown hgrow hnil q0 q1 q2 q3 q4 q5 q6 q7 HA2 HD2 g0;go_wp2;go_roundg (S.length - (i+1))
    case measure=>omega
    case rel=>exact ⟨i+1,_,rfl,zD,zo,vM _,HN.o⟩
   have dv:decide (vv<xn)=false:=zr;rw [if_neg hv] at HD;have HD2:Aside (cl v0 v1 v2 v3 (S.take (i+1))=cl v0 v1 v2 v3 (S.take i)):=HD;clear hv HD A;go_upto_region 5 with fail;clear q0 q1 q2 q3 q4 q5 q6 q7;refine aO (S:=(fun w'=>w'.cell? ⟨m,1,none⟩=some (.slice (some ⟨b1,o1,none⟩) S.length cap)/\w'.cell? ⟨b1,o1+i*8+1,none⟩=some (.int .i64 (xj:Int))/\w'.cell? ⟨b1,o1+i*8+2,none⟩=some (.int .i64 xn)/\w'.cell? ⟨C,xj,none⟩=some (.int .i64 vv))) zq N0 (fun hHeld=> ?_);refine tk 0 hHeld ?_;refine tk 1 hHeld ?_;refine tk 2 hHeld ?_;refine tk 3 hHeld ?_ (hy:=Or.inl ⟨zA,zw⟩);refine tk 4 hHeld ?_;refine tk 5 hHeld ?_;refine tk 6 hHeld ?_;refine tk 7 hHeld ?_ (hy:=Or.inl ⟨zA,zw⟩);refine tk 8 hHeld ?_;refine tk 9 hHeld ?_;refine tk 10 hHeld ?_;refine tk 11 hHeld ?_ (hy:=Or.inl ⟨zA,zw⟩);refine tk 12 hHeld ?_;refine tk 13 hHeld ?_;refine tk 14 hHeld ?_;refine tk 15 hHeld ?_;refine tk 16 hHeld ?_ (hy:=Or.inl ⟨zA,zw⟩);refine tk 17 hHeld ?_;refine tk 18 hHeld ?_ (hy:=Or.inl ⟨zA,zw⟩);refine tk 19 hHeld ?_;refine wpAnyH_done zq ?_ _;refine qn ?_;clear N0;go_wp2;go_roundg (S.length - (i+1))
   case measure=>omega
   case rel=>exact ⟨i+1,_,rfl,zD,zo,vM _,by rw [HD2.o];exact HA2.o⟩
  have d1:decide ((i:Int)<(S.length:Int))=false:=zr;have d1n:decide (i<S.length)=false:=zr
  have HF:Aside (u.ownsRow w.heap.size 38 8 ov T.length (cellsOf T)/\Below w.heap.size w u):=by
   have h1:=A.o.1;rw [uc (by omega:S.length<=i),<-hT.o] at h1;refine ⟨?_,A.o.2.2.1⟩
   rcases h1.2 with q | ⟨g2,cap2,cur2,e1,hb2,rest⟩
   ·exact ⟨h1.1,.inl q⟩
   exact ⟨h1.1,.inr ⟨g2,cap2,cur2,e1,zo,rest⟩⟩
  clear A;go_wp2;go_ret;exact ⟨ov,rfl,HF.o⟩
end
section
open Go
def OneK (S:List OpX):Prop:=∀x∈S,∀y∈S,byO x=byO y->ar x=ar y->x=y
theorem OneK.perm (h:OneK S) (e:S.Perm S'):OneK S':=fun x hx y hy=>h x (e.mem_iff.2 hx) y (e.mem_iff.2 hy)
theorem BU (h:OneK S) (e:S.Perm S') (b n:Int):av S b n=av S' b n:=by
 cases hl:av S b n with
 | none=>exact (lookK_none.2 (fun x hx=>lookK_none.1 hl x (e.mem_iff.2 hx))).symm
 | some x=>
  obtain ⟨hx,e1,e2⟩:=eE hl;have:=oq (h.perm e) (e.mem_iff.1 hx);rw [e1,e2] at this;exact this.symm
theorem kR {S S':List OpX} (h:OneK S) (e:S.Perm S'):∀(l:List OpX) (i:Nat) (fresh:List OpX),FreshK S fresh->bp S i fresh l=bp S' i fresh l
 | [],i,fresh,_=>rfl
 | o::t,i,fresh,hF=>by
  have hl:=BU (S:=S++fresh) (S':=S'++fresh) (nG h hF) (e.append_right fresh) (byO o) (ar o);by_cases he:an o=0
  ·cases hk:av (S++fresh) (byO o) (ar o) with
   | none=>
    rw [fI he hk,fI he (hl▸hk),kR h e t (i+1) (fresh++ [o]) (hF.snoc he hk)]
   | some x=>
    by_cases hx:x=o
    ·subst hx;rw [dL he hk,dL he (hl▸hk),kR h e t (i+1) fresh hF]
    rw [dR he hk hx,dR he (hl▸hk) hx]
  rw [gM he,gM he]
theorem lQ (h:WellK S):¬Gap S:=fun ⟨x,hx,h1,h2⟩=>by
 rcases h.gap x hx with q | q
 ·exact h1 q
 exact h2 q
theorem kN (h:WellK S):¬Falls S:=fun ⟨x,hx,y,hy,e1,e2,e3⟩=>e3 (h.rise x hx y hy e1 e2)
theorem Bj {a a':(Int×Nat)⊕List OpX} (h:aB S l a) (h':aB S l a'):a=a':=by
 unfold aB at h h'
 cases hs:bp S 0 [] l with
 | inl p=>
  obtain ⟨i,c⟩:=p;rw [hs] at h h';exact h.trans h'.symm
 | inr fresh=>
  rw [hs] at h h';dsimp only at h h'
  rcases h with ⟨q1,rfl⟩ | ⟨q1,q2,rfl⟩ | ⟨q1,q2,q3,rfl⟩ | ⟨q1,q2,rfl⟩ | ⟨q1,q2,rfl⟩<;>rcases h' with ⟨r1,rfl⟩ | ⟨r1,r2,rfl⟩ | ⟨r1,r2,r3,rfl⟩ | ⟨r1,r2,rfl⟩ | ⟨r1,r2,rfl⟩
  all_goals first
   | rfl
   | exact absurd q1 r1
   | exact absurd r1 q1
   | exact absurd q2 r2
   | exact absurd r2 q2
   | exact absurd q1 (lQ r1)
   | exact absurd r1 (lQ q1)
   | exact absurd q2 (kN r1)
   | exact absurd r2 (kN q1)
   | (obtain ⟨x,hx,hn⟩:=q3;exact absurd (r1.refs x hx) hn)
   | (obtain ⟨x,hx,hn⟩:=r3;exact absurd (q1.refs x hx) hn)
   | omega
theorem su (h1:OneK S) (e:S.Perm S') {a:(Int×Nat)⊕List OpX} (h:aB S l a):aB S' l a:=by
 unfold aB at h |-
 rw [<-kR h1 e l 0 [] (dV S)]
 cases hs:bp S 0 [] l with
 | inl p=>
  obtain ⟨i,c⟩:=p;rw [hs] at h;exact h
 | inr fresh=>
  rw [hs] at h
  dsimp only at h |-
  have em:∀x,x∈S++fresh↔x∈S'++fresh:=fun x=>(e.append_right fresh).mem_iff
  have em':∀x,x∈S'++fresh↔x∈S++fresh:=fun x=>(em x).symm
  have hl:=e.length_eq
  rcases h with ⟨q1,rfl⟩ | ⟨q1,q2,rfl⟩ | ⟨q1,q2,q3,rfl⟩ | ⟨q1,q2,rfl⟩ | ⟨q1,q2,rfl⟩
  ·exact .inl ⟨q1.congr em,rfl⟩
  ·exact .inr (.inl ⟨fun r=>q1 (r.congr em'),q2.congr em,rfl⟩)
  ·refine .inr (.inr (.inl ⟨fun r=>q1 (r.congr em'),fun r=>q2 (r.congr em'),?_,rfl⟩));obtain ⟨x,hx,hn⟩:=q3;exact ⟨x,(em x).1 hx,fun r=>hn (r.mono (fun y hy=>(em y).2 hy))⟩
  ·exact .inr (.inr (.inr (.inl ⟨q1.congr em,zo,rfl⟩)))
  exact .inr (.inr (.inr (.inr ⟨q1.congr em,zo,rfl⟩)))
theorem BC {fresh:List OpX} (hs:bp S 0 [] l= .inr fresh) (h:(S++fresh).any (rd (S++fresh))=true):aB S l (.inl (-1,9)):=by
 unfold aB;rw [hs];exact .inl ⟨gapB_iff.1 h,rfl⟩
theorem tw {fresh T:List OpX} (hw:WellK S) (hF:FreshK S fresh) (hs:bp S 0 [] l= .inr fresh) (hg:(S++fresh).any (rd (S++fresh))=false) (hT:T.Perm (S++fresh)):
  ((S++fresh).any (fE (S++fresh))=true->aB S l (.inl (-1,3)))/\((S++fresh).any (fE (S++fresh))=false->(T.any (fun x=> !re T x)=true->aB S l (.inl (-1,6)))/\(T.any (fun x=> !re T x)=false->(400<S.length+fresh.length->aB S l (.inl (-1,8)))/\(S.length+fresh.length<=400->aB S l (.inr fresh)))):=by
 have h1:=nG hw.one hF
 have hok:∀x∈S++fresh,an x=0:=fun x hx=>by
  rcases vW.1 hx with q | q
  ·exact hw.ok x q
  exact hF.ok x q
 have hG:¬Gap (S++fresh):=fun q=>by rw [gapB_iff.2 q] at hg;cases hg
 refine ⟨fun hf=> ?_,fun hf=> ?_⟩
 ·unfold aB;rw [hs];exact .inr (.inl ⟨hG,(pS h1 hok).1 hf,rfl⟩)
 have hFa:¬Falls (S++fresh):=fun q=>by rw [(pS h1 hok).2 q] at hf;cases hf
 refine ⟨fun hr=> ?_,fun hr=> ?_⟩
 ·unfold aB;rw [hs];obtain ⟨x,hx,hn⟩:=ZQ.1 hr;refine .inr (.inr (.inl ⟨hG,hFa,⟨x,hT.mem_iff.1 hx,fun q=> ?_⟩,rfl⟩));have:=refB_iff.2 (q.mono (fun y hy=>hT.mem_iff.2 hy));rw [this] at hn
  cases hn
 have hW:WellK (S++fresh):=by
  refine ⟨hok,h1,fun x hx=> ?_,fun x hx y hy e1 e2=> ?_,fun x hx=> ?_⟩
  ·by_cases q:ar x=1
   ·exact .inl q
   right;by_cases r:∃y∈S++fresh,byO y=byO x/\ar y+1=ar x
   ·exact r
   exact absurd ⟨x,hx,q,r⟩ hG
  ·by_cases q:CLt (stO x) (stO y)
   ·exact q
   exact absurd ⟨x,hx,y,hy,e1,e2,q⟩ hFa
  have hb:re T x=true:=by
   cases hb:re T x with
   | true=>rfl
   | false=>
    exfalso;have:T.any (fun x=> !re T x)=true:=ZQ.2 ⟨x,hT.mem_iff.2 hx,by rw [hb];rfl⟩;rw [this] at hr
    cases hr
  exact (refB_iff.1 hb).mono (fun y hy=>hT.mem_iff.1 hy)
 refine ⟨fun hn=> ?_,fun hn=> ?_⟩
 ·unfold aB;rw [hs];exact .inr (.inr (.inr (.inl ⟨hW,hn,rfl⟩)))
 unfold aB;rw [hs];exact .inr (.inr (.inr (.inr ⟨hW,hn,rfl⟩)))
end
section
open Go.RowKit Go.Lib Go.Sort
section
variable {P:Program} {ops:Array Oper} {Q:Exit→Act→World→Prop} {md:Region.Mode} {S:World→Prop}
theorem dQ {oi oj:Oper} {fuel:Nat} {listed:Array Bool} {a:Act} (hr:Region.ready md ops listed= [i,j]) (hoi:ops[i]? =some oi) (hoj:ops[j]? =some oj)
  (h1:∀K:Act->World->Prop,(∀a' w',S w'->wpAnyH P md ops Q S fuel (listed.setIfInBounds i true) a' w'->K a' w')->if Region.wanted oi (yielded ops a.tmps)=true then Oper.wp P oi a w K Q else K (a.put oi.dst undef) w)
  (h2:∀K:Act->World->Prop,(∀a' w',S w'->wpAnyH P md ops Q S fuel (listed.setIfInBounds j true) a' w'->K a' w')->if Region.wanted oj (yielded ops a.tmps)=true then Oper.wp P oj a w K Q else K (a.put oj.dst undef) w):wpAnyH P md ops Q S (fuel+1) listed a w:=by
 refine ⟨fun h0=>qk,fun k hk=> ?_⟩;rw [hr] at hk;simp only [vT,ZI,or_false] at hk
 rcases hk with rfl | rfl
 ·have:=h1 (fun a' w'=>S w'/\wpAnyH P md ops Q S fuel (listed.setIfInBounds k true) a' w') (fun a' w' h1 h2=>⟨h1,h2⟩);unfold wpOp;simp only [hoi];split
  ·rename_i hw;exact ki4
  rename_i hw;exact kk6
 have:=h2 (fun a' w'=>S w'/\wpAnyH P md ops Q S fuel (listed.setIfInBounds k true) a' w') (fun a' w' h1 h2=>⟨h1,h2⟩);unfold wpOp;simp only [hoj];split
 ·rename_i hw;exact ki4
 rename_i hw;exact kk6
end
theorem ci {Z:Nat} (h:OpBlk w Z x) (y:OpX):OpBlk (w.setCells Z 0 (au y)) Z y:=by
 have h1:=heap_setCell_same w Z 0 _ _ (.int .i64 y.1) h;have h2:=heap_setCell_same _ Z 1 _ _ (.int .i64 y.2.1) h1;have h3:=heap_setCell_same _ Z 2 _ _ (.int .i64 y.2.2.1) h2;have h4:=heap_setCell_same _ Z 3 _ _ (.int .u8 (y.2.2.2.1:Int)) h3;have h5:=heap_setCell_same _ Z 4 _ _ (.int .i64 y.2.2.2.2.1) h4;have h6:=heap_setCell_same _ Z 5 _ _ (.int .i64 y.2.2.2.2.2.1) h5;have h7:=heap_setCell_same _ Z 6 _ _ (.string y.2.2.2.2.2.2.1) h6;have h8:=heap_setCell_same _ Z 7 _ _ (.string y.2.2.2.2.2.2.2) h7;exact h8
