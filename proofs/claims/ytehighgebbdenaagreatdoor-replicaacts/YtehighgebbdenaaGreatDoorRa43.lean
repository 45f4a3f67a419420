import Derived.Test.YtehighgebbdenaaGreatDoorRa40
import Derived.Test.YtehighgebbdenaaGreatDoorRa41
import Derived.Test.YtehighgebbdenaaGreatDoorRa42
set_option linter.unusedVariables false
set_option linter.unusedSimpArgs false
set_option maxRecDepth 100000
set_option maxHeartbeats 64000000
namespace Go.Proofs.YtehighgebbdenaaGreatDoor
open Go.Proofs.Tryz
variable {L:List (bU×aG)} {i p:Nat} {ao:Option Addr} {v:Value} {w w':World}
section
open Go Go.RowKit Go.Lib Go.Sort Go.Maps
open scoped Classical
theorem Jf {m i:Nat} {ao:Option Addr} {cap:Nat} {S:List OpX} (w:World) (x:OpX) (T:Int) (h:MRp w m (i:Int) ao cap S) (hsh:Shp ao cap) (hW:WellK S) (hst:S.Pairwise (fun a b=>CLt (stO a) (stO b))) (hi:i<4) (hT:eu S=T) (hT0:0<=T) (hn:S.length<=140) (hs1:x.2.2.2.2.2.2.1.size<=1000000) (hs2:x.2.2.2.2.2.2.2.size<=1000000) (hk:kdO x=105/\x.2.2.2.2.2.2.2.size≠0) (ho:aJ x<=9223372036854775807):
  Calls prog 15 #[.pointer (some ⟨m,0,none⟩),aD x] w (MkO w S T i (ae S i) x):=by
 obtain ⟨xt,xb,xn,xk,xd,xo,xs,xv⟩:=x;dsimp only at hs1 hs2;have HK_:=Lib.hid hk;clear hk;have ho:xo<=9223372036854775807:=ho;have hnd:S.Nodup:=hst.imp (fun {a b} q e=>yu);obtain ⟨S0,hS0⟩:=ze w.heap.size;obtain ⟨U,hU⟩:=ze ((w.alloc (.cells #[.int .i64 xt,.int .i64 xb,.int .i64 xn,.int .u8 (xk:Int),.int .i64 xd,.int .i64 xo,.string xs,.string xv] 38)).alloc (.cells #[.int .i64 0,.int .i64 0,.int .i64 0,.int .u8 0,.int .i64 0,.int .i64 0,.string ⟨#[]⟩,.string ⟨#[]⟩] 38))
 have HF:Aside (MkF w S0 (xt,xb,xn,xk,xd,xo,xs,xv) U):=by
  exact ka6
 have H0:Aside (MRp w m (i:Int) ao cap S/\WellK S/\Shp ao cap/\eu S=T/\S.Nodup/\0<=T):=⟨h,hW,hsh,hT,hnd,hT0⟩
 have HPM:Aside (ax (ai S)):=cD hst;obtain ⟨zk,hzk⟩:=ze (bT S xd);obtain ⟨zp,hzp⟩:=ze (kP S xo)
 have HKN:Aside (∀W,MkF w S0 (xt,xb,xn,xk,xd,xo,xs,xv) W->Calls prog 61 #[.pointer (some ⟨m,0,none⟩),.int .i64 xd] W fun e w'=>e= .returned (.bool zk)/\Aside (Below W.heap.size W w')):=by
  exact kd5
 have HPL:Aside (∀W,MkF w S0 (xt,xb,xn,xk,xd,xo,xs,xv) W->Calls prog 62 #[.pointer (some ⟨m,0,none⟩),.int .i64 xo] W fun e w'=>e= .returned (.bool zp)/\Aside (Below W.heap.size W w')):=by
  exact kd6
 have HLN:Aside (∀W,MkF w S0 (xt,xb,xn,xk,xd,xo,xs,xv) W->Calls prog 70 #[.slice ao S.length cap,.int .i64 xd] W fun e w'=>∃p v M base,e= .returned (.pointer (some ⟨p,0,none⟩))/\Aside (RefAt base w' p v M/\LineIs S xd (M.map fX)/\M.length<=400/\Below W.heap.size W w')):=by
  exact kc4
 have HND:Aside (zk=true->xd≠0):=by
  exact ke3
 clear h hsh hW hst hT hT0 hnd;unfold aD;dsimp only;go_enter func15,ntmps15;go_upto_region 1 with fail;rw [<-hU.o,<-hS0.o];clear hU;obtain ⟨y0,y1,y2,y3,y4,y5,y6,y7,yf⟩:=HF.o.x.cells;dsimp only at y0 y1 y2 y3 y4 y5 y6 y7;have hk:=HK_.o;have k2:xk=105:=hk.1;have k1:xk≠109:=zo;have kv0:xv.size≠0:=hk.2;have d1:((xk:Int)==109)=false:=zr;have d1n:(xk==109)=false:=zr;have d2:((xk:Int)==105)=true:=zr;have d2n:(xk==105)=true:=zr;have HKK:=Lib.hid k2;clear k1 k2 hk;have he:=gm kv0;have hv1:1<=xv.size:=zo;have hv2:(1:Int)<=(xv.size:Int):=zo
 obtain ⟨lt,hlt⟩:∃lt:ByteArray,Aside (lt=xv.extract 0 1):=⟨_,rfl⟩
 have HLT:Aside (lt=⟨#[chO xv]⟩):=hlt.o.trans (Je kv0)
 have hsl:lt.size<=1000000:=by rw [HLT.o];show 1<=1000000;omega
 clear kv0;go_upto_region 13 with fail;rw [<-hlt.o];clear y0 y1 y2 y3 y4 y5 y6 y7 yf;have HW0:Aside (MkF w S0 (xt,xb,xn,xk,xd,xo,xs,xv) U.drew):=HF.o.later ((vP _ U).drew);refine aO (S:=(fun w'=>OpBlk w' S0 (xt,xb,xn,xk,xd,xo,xs,xv)/\Below w.heap.size w w')) zq ⟨HW0.o.x,HW0.o.b⟩ (fun hHeld=> ?_);refine tk 0 hHeld ?_;refine tk 1 hHeld ?_;refine tk 2 hHeld ?_;refine tk 3 hHeld ?_ (hy:=Or.inl ⟨zA,zT⟩);refine tk 4 hHeld ?_;refine tk 5 hHeld ?_ (hy:=Or.inl ⟨zA,zt⟩);refine aY (i:=6) zq rfl (fun K hK=> ?_);go_simp;refine (HLN.o U.drew HW0.o).mono ?_;rintro e w1 ⟨p1,v1,M,base,rfl,H1⟩;have HW1:Aside (MkF w S0 (xt,xb,xn,xk,xd,xo,xs,xv) w1):=HW0.o.later H1.o.2.2.2;refine hK _ _ ⟨HW1.o.x,HW1.o.b⟩ ?_;clear hK K;refine qn ?_;refine aY (i:=7) zq rfl (fun K hK=> ?_);go_simp;refine (iG w1 base p1 v1 M H1.o.1 xV).mono ?_;rintro e w2 ⟨vs,rfl,hrow,hb2⟩;obtain ⟨sa,sc,rfl⟩:=bI hrow
 have HSN:Aside (LetsIn w2 sa (aK M)/\LineIs S xd (M.map fX)):=⟨fB hrow,H1.o.2.1⟩
 have HW2:Aside (MkF w S0 (xt,xb,xn,xk,xd,xo,xs,xv) w2):=HW1.o.later hb2;refine hK _ _ ⟨HW2.o.x,HW2.o.b⟩ ?_;clear hK K;refine qn ?_;clear hrow hb2;refine tk 8 ⟨HW2.o.x,HW2.o.b⟩ ?_;refine wpAnyH_done zq ?_ _;refine qn ?_;obtain ⟨zi,hzi⟩:=ze ((zk &&(decide (0<=xo) &&decide (xo<=((aK M).length:Int)))));obtain ⟨bh,hbh⟩:=ze (AD (zi &&decide (0<xo)) M (xo - 1))
 have HWA:Aside (WriteAt S xd xo (bh,zi)):=by
  exact ks2
 obtain ⟨y0,y1,y2,y3,y4,y5,y6,y7,yf⟩:=HW2.o.x.cells;dsimp only at y0 y1 y2 y3 y4 y5 y6 y7;go_upto_region 14 with fail;go_cut [10] (fun s10 wx=>s10= .bool zi/\Aside (Below w2.heap.size w2 wx))
 case first=>
  go_wp2_with fail;refine (HKN.o w2 HW2.o).mono ?_;rintro e w3 ⟨rfl,hb3⟩;clear y0 y1 y2 y3 y4 y5 y6 y7 yf;obtain ⟨y0,y1,y2,y3,y4,y5,y6,y7,yf⟩:=(HW2.o.later hb3.o).x.cells;dsimp only at y0 y1 y2 y3 y4 y5 y6 y7
  cases zk with
  | false=>
   exact kn4
  | true=>
   by_cases h0:0<=xo
   ·have e0:decide (0<=xo)=true:=decide_eq_true h0;by_cases h1:xo<=((aK M).length:Int)
    ·have e1:decide (xo<=((aK M).length:Int))=true:=decide_eq_true h1;exact ke2
    have e1:decide (xo<=((aK M).length:Int))=false:=decide_eq_false h1;exact ke2
   exact kh2
 obtain ⟨rfl,HB7⟩:=hcut;obtain ⟨W7,hW7⟩:=zc wc;subst hW7;have HW7:Aside (MkF w S0 (xt,xb,xn,xk,xd,xo,xs,xv) W7):=HW2.o.later HB7.o;have HSN7:Aside (LetsIn W7 sa (aK M)):=HSN.o.1.later HB7.o
 have HNZ:Aside (zi=true->xd≠0):=fun q=>HND.o qo
 clear y0 y1 y2 y3 y4 y5 y6 y7 yf HND;have HND:=HNZ;obtain ⟨y0,y1,y2,y3,y4,y5,y6,y7,yf⟩:=HW7.o.x.cells;dsimp only at y0 y1 y2 y3 y4 y5 y6 y7;go_upto_region 16 with fail;go_cut [118] (fun s118 wx=>s118= .bool (zi &&decide (0<xo))/\wx=W7)
 case first=>
  cases zi with
  | false=>
   go_wp2;go_meet;exact km8
  | true=>
   by_cases h0:0<xo
   ·have e0:decide (0<xo)=true:=decide_eq_true h0;exact kj1
   have e0:decide (0<xo)=false:=decide_eq_false h0;exact kj1
 obtain ⟨rfl,rfl⟩:=hcut;obtain ⟨W7,hW7⟩:=zc wc;subst hW7;obtain ⟨z16,hz16⟩:=ze ((zi &&decide (0<xo)));rw [<-hz16.o];go_upto_if 118 with fail;go_cut [11] (fun s11 wx=>s11= .int .i64 bh/\wx=W7)
 case first=>
  cases z16 with
  | false=>
   exact kl3
  | true=>
   exact kb0
 obtain ⟨rfl,rfl⟩:=hcut;obtain ⟨W7,hW7⟩:=zc wc;subst hW7
 obtain ⟨⟨⟨yt,yb,yn,yk,yd,yo,ys,yv⟩,cd⟩,hya⟩:∃a,Aside (a=fY zi (bN T i (ae S i) 105 xd bh ⟨#[]⟩ lt)):=⟨_,rfl⟩
 have HNX:Aside (∀W,MkF w S0 (xt,xb,xn,xk,xd,xo,xs,xv) W->Calls prog 69 #[.pointer (some ⟨m,0,none⟩),.bool zi,.agg #[.int .i64 0,.int .i64 0,.int .i64 0,.int .u8 (105:Int),.int .i64 xd,.int .i64 bh,.string ⟨#[]⟩,.string lt]] W fun e w'=>e= .returned (.tuple #[aD (yt,yb,yn,yk,yd,yo,ys,yv),.int .i64 (cd:Int)])/\Aside (Below W.heap.size W w')):=by
  intro W hW;have hx:=fb W zi 105 xd bh T ⟨#[]⟩ lt (H0.o.1.later hW.b) H0.o.2.1.ok hi H0.o.2.2.2.1 H0.o.2.2.2.2.2 zo (fun q e=>absurd e (HND.o q)) zX zX;exact kh5
 go_wp2_with fail;refine (HNX.o W7 HW7.o).mono ?_;clear y0 y1 y2 y3 y4 y5 y6 y7 yf;rintro e w8 ⟨rfl,hb8⟩;have HW8:Aside (MkF w S0 (xt,xb,xn,xk,xd,xo,xs,xv) w8):=HW7.o.later hb8.o;clear hb8;unfold aD;dsimp only;obtain ⟨z0,z1,z2,z3,z4,z5,z6,z7,zf⟩:=OpBlk.cells HW8.o.z;unfold aV at z0 z1 z2 z3 z4 z5 z6 z7;dsimp only at z0 z1 z2 z3 z4 z5 z6 z7;go_wp2;(try simp only [Exit.inBlock,Exit.then]);refine bodyPost_ret (v:=.tuple #[aD (yt,yb,yn,yk,yd,yo,ys,yv),.int .i64 (cd:Int)]) ?_ rfl ⟨((yt,yb,yn,yk,yd,yo,ys,yv),cd),rfl,?_,.inr (.inr (.inl ⟨HKK.o,(bh,zi),HWA.o,by rw [hya.o,<-HLT.o]⟩))⟩
 ·exact ke5
 exact kj0
end
section
open Go Go.RowKit Go.Lib Go.Sort Go.Maps
open scoped Classical
theorem Cg {m i:Nat} {ao:Option Addr} {cap:Nat} {S:List OpX} (w:World) (x:OpX) (T:Int) (h:MRp w m (i:Int) ao cap S) (hsh:Shp ao cap) (hW:WellK S) (hst:S.Pairwise (fun a b=>CLt (stO a) (stO b))) (hi:i<4) (hT:eu S=T) (hT0:0<=T) (hn:S.length<=140) (hs1:x.2.2.2.2.2.2.1.size<=1000000) (hs2:x.2.2.2.2.2.2.2.size<=1000000) (hk:kdO x=109\/kdO x=105\/kdO x=100\/kdO x=115) (ho:aJ x<=9223372036854775807):
  Calls prog 15 #[.pointer (some ⟨m,0,none⟩),aD x] w (MkO w S T i (ae S i) x):=by
 rcases hk with hk | hk | hk | hk
 ·by_cases h0:aL x=0
  ·exact JN w x T h hsh hW hst hi hT hT0 hn hs1 hs2 ⟨hk,h0⟩ ho
  exact Ir w x T h hsh hW hst hi hT hT0 hn hs1 hs2 ⟨hk,h0⟩ ho
 ·by_cases h0:x.2.2.2.2.2.2.2.size=0
  ·exact JQ w x T h hsh hW hst hi hT hT0 hn hs1 hs2 ⟨hk,h0⟩ ho
  exact Jf w x T h hsh hW hst hi hT hT0 hn hs1 hs2 ⟨hk,h0⟩ ho
 ·exact Iq w x T h hsh hW hst hi hT hT0 hn hs1 hs2 hk ho
 exact Jk w x T h hsh hW hst hi hT hT0 hn hs1 hs2 hk ho
end
section
open Go Go.RowKit
def kA (m:bU×aG):List Value:=[.int .i64 m.1.1,.string m.1.2,.string m.2.1,.int .i64 m.2.2.1,.int .i64 m.2.2.2]
theorem cO (m:bU×aG):(kA m).length=5:=rfl
theorem FH (m:bU×aG):∀v∈kA m,v.oneCell'=true:=by
 intro v hv;simp [kA] at hv
 rcases hv with rfl | rfl | rfl | rfl | rfl<;>rfl
theorem LR:(prog.info? 159).map (fun i=>(i.zero,i.size,i.bytes))=some (some (.agg #[.int .i64 0,.string ⟨#[]⟩,.string ⟨#[]⟩,.int .i64 0,.int .i64 0]),5,56):=zq
theorem InRow.mark {zs:List (bU×aG)} (h:InRow kA w ao zs) {a t b:Int} {s c:ByteArray} (hi:zs[i]? =some ((a,s),(c,(t,b)))):∃blk off,ao=some ⟨blk,off,none⟩/\w.cell? ⟨blk,off+i*5,none⟩=some (.int .i64 a)/\w.cell? ⟨blk,off+i*5+1,none⟩=some (.string s)/\w.cell? ⟨blk,off+i*5+2,none⟩=some (.string c)/\w.cell? ⟨blk,off+i*5+3,none⟩=some (.int .i64 t)/\w.cell? ⟨blk,off+i*5+4,none⟩=some (.int .i64 b):=by
 obtain ⟨blk,off,h1,h2⟩:=h.get cO hi;exact ⟨blk,off,h1,h2 0 _ rfl,h2 1 _ rfl,h2 2 _ rfl,h2 3 _ rfl,h2 4 _ rfl⟩
theorem kZ {base n:Nat} {xs:List Value} (ho:w.ownsRow base 159 5 v n xs) (hn:n<=2000) (hbase:base<=w.heap.size) (ap:Option Addr) (c:Nat) (ys:List (bU×aG)) (hy:ys.length<=2000) (hap:InRow kA w ap ys) (hc:ap=none->c=0) (ty:TypeId):
  ∃v' w',(Builtin.append_ #[155,155] ty #[v,.slice ap ys.length c]).run prog w= .ok v' w'/\w'.ownsRow base 159 5 v' (n+ys.length) (xs++aA kA ys)/\w.grownBy w' v.ownBlock:=
 fZ underlying155 LR zo zo rfl cO FH ho hn hbase ap c ys hy hap hc ty
structure MksAt (base:Nat) (w:World) (p:Nat) (v:Value) (L:List (bU×aG)):Prop where
 cell:w.heap[p]? =some (.cells #[v] 157 (0,0))
 row:w.ownsRow base 159 5 v L.length (aA kA L)
 low:p<base
theorem MksAt.c0 {base:Nat} (h:MksAt base w p v L):w.cell? ⟨p,0,none⟩=some v:=qI
theorem MksAt.fz {base:Nat} (h:MksAt base w p v L):w.frozen? ⟨p,0,none⟩=false:=xW
theorem MksAt.lt {base:Nat} (h:MksAt base w p v L):p<w.heap.size:=(vO.1 h.cell).1
theorem MksAt.ne {base:Nat} (h:MksAt base w p v L):∀g,v.ownBlock=some g->g≠p/\g<w.heap.size/\base<=g:=fun g hg=>by
 exact kl9
theorem MksAt.same {base:Nat} (h:MksAt base w p v L) (h1:w'.heap[p]? =w.heap[p]?) (h2:∀g,v.ownBlock=some g->w'.heap[g]? =w.heap[g]?):MksAt base w' p v L:=
 ⟨h1.trans h.cell,dP h.row h2,h.low⟩
theorem MksAt.later {base:Nat} (h:MksAt base w p v L) (hb:Below w.heap.size w w'):MksAt base w' p v L:=
 h.same (hb.block _ h.lt) (fun g hg=>hb.block g (h.row.lt g hg).2)
def LaidIn (base:Nat) (w:World) (p:Nat) (v:Value) (L':List (bU×aG)) (w':World):Prop:=
 ∃v',MksAt base w' p v' L'/\Keeps (fun b=>b=p\/some b=v.ownBlock) w w'/\(∀g,v'.ownBlock=some g->v.ownBlock=some g\/w.heap.size<=g)
theorem Hm (u:World) (base p k:Nat) (ao:Option Addr) (cap:Nat) (L:List (bU×aG)) (a:Int) (s c:ByteArray) (t b:Int) (h:MksAt base u p (.slice ao L.length cap) L) (hbase:base<=u.heap.size) (hL:L.length<=900) (hk:k<=L.length):
  ∃v1 W1 v3 W3,(∃a1 c1,v1=Value.slice a1 k c1)/\(∃a3 c3,v3=Value.slice a3 (k+1) c3)/\
   (Builtin.append_ #[155,155] 155 #[.slice none 0 0,.slice ao k cap]).run prog u= .ok v1 W1/\
   (Builtin.append_ #[155,155] 155 #[v1,.slice (some ⟨W1.heap.size,0,none⟩) 1 1]).run prog (W1.alloc (.cells #[.int .i64 a,.string s,.string c,.int .i64 t,.int .i64 b] 159))= .ok v3 W3/\
   Keeps (fun _=>False) u W1/\W3.cell? ⟨p,0,none⟩=some (.slice ao L.length cap)/\
   (InRow kA W3 (ao.map (fun x=>x.add (k*5))) (L.drop k))/\
   ∀ap c',InRow kA W3 ap (L.drop k)->(ap=none->c'=0)->∃v4 W4,(∃a4 n4 c4,v4=Value.slice a4 n4 c4)/\(Builtin.append_ #[155,155] 155 #[v3,.slice ap (L.length - k) c']).run prog W3= .ok v4 W4/\W4.cell? ⟨p,0,none⟩=some (.slice ao L.length cap)/\W4.frozen? ⟨p,0,none⟩=false/\
    Aside (MksAt base (W4.setCell ⟨p,0,none⟩ v4) p v4 (L.take k++((a,s),(c,(t,b)))::L.drop k)/\Keeps (fun b=>b=p) u (W4.setCell ⟨p,0,none⟩ v4)/\(∀g,v4.ownBlock=some g->u.heap.size<=g)):=by
 have hnc:ao=none->cap=0:=by
  rcases h.row.2 with ⟨h1,h2⟩ | ⟨g,cap',cur,hv,_⟩
  ·simp only [Value.slice.injEq] at h1
   exact fun _=>h1.2.2
  cases hv;exact fun e=>yL
 have hlt:∀g o,ao=some ⟨g,o,none⟩->g<u.heap.size:=fun g o e=>by
  subst e
  rcases h.row.2 with ⟨h1,_⟩ | ⟨g',cap',cur,hv,_⟩
  ·simp at h1
  cases hv
  exact (h.row.lt g rfl).2
 have hIn:=tM cO h.row;have l1:(L.take k).length=k:=ym;obtain ⟨v1,W1,r1,o1,g1⟩:=kZ (w:=u) (base:=u.heap.size) (n:=0) (v:=.slice none 0 0) (xs:=[]) (un _ _ _ _) zo zo ao cap (L.take k) zo (hIn.part cO k hk).1 hnc 155;rw [l1] at r1 o1;have hk1:Keeps (fun _=>False) u W1:=(aP g1).mono (fun b _ e=>yL);have hs1:=hk1.size;obtain ⟨W2,hW2⟩:=zc (W1.alloc (.cells #[.int .i64 a,.string s,.string c,.int .i64 t,.int .i64 b] 159));have hk2:Keeps (fun _=>False) W1 W2:=vi
 have hs2:W2.heap.size=W1.heap.size+1:=by rw [hW2];simp
 have hx2:W2.heap[W1.heap.size]? =some (.cells #[.int .i64 a,.string s,.string c,.int .i64 t,.int .i64 b] 159 (0,0)):=by rw [hW2];exact heap_alloc_new W1 _
 have hI2:InRow kA W2 (some ⟨W1.heap.size,0,none⟩) [((a,s),(c,(t,b)))]:=.inr ⟨_,0,rfl,fun j x hj=>by
  simp only [World.cell?,hx2]
  rw [<-hj]
  simp [aA,kA]⟩
 have o2:W2.ownsRow u.heap.size 159 5 v1 (0+k) ([]++aA kA (L.take k)):=dP o1 (fun g hg=>hk2.block g (o1.lt g hg).2 (fun e=>e));obtain ⟨v3,W3,r3,o3,g3⟩:=kZ (base:=u.heap.size) (by rw [vY] at o2;exact o2) zo zo (some ⟨W1.heap.size,0,none⟩) 1 [((a,s),(c,(t,b)))] zv hI2 (fun e=>yL) 155;have hk3:Keeps (fun b=>some b=v1.ownBlock) W2 W3:=aP g3;have hs3:=hk3.size
 have hv1:∀b,some b=v1.ownBlock->u.heap.size<=b:=fun b e=>(o1.lt b e.symm).1
 have hI3:InRow kA W3 ao L:=hIn.kept (fun g o e=>by
  have hg:=hlt g o e
  rw [hk3.block g zo (fun e'=>by have:=hv1 g e';omega),hk2.block g zo (fun e=>e),hk1.block g zo (fun e=>e)])
 have hp3:W3.heap[p]? =u.heap[p]? :=by
  have hg:=h.lt;rw [hk3.block p zo (fun e'=>by have:=hv1 p e';omega),hk2.block p zo (fun e=>e),hk1.block p zo (fun e=>e)]
 have ld:(L.drop k).length=L.length - k:=uy
 have o3':W3.ownsRow u.heap.size 159 5 v3 (k+1) (aA kA (L.take k++ [((a,s),(c,(t,b)))])):=by rw [bX];exact o3
 refine ⟨v1,W1,v3,W3,?_,fD o3',r1,by rw [<-hW2];exact r3,hk1,by rw [uk (a:=⟨p,0,none⟩) hp3];exact h.c0,(hI3.part cO k hk).2,fun ap c' hap hc'=> ?_⟩
 ·obtain ⟨a1,c1,e⟩:=fD o1;exact ⟨a1,c1,by rw [e,vY]⟩
 obtain ⟨v4,W4,r4,o4,g4⟩:=kZ (base:=u.heap.size) o3' zo zo ap c' (L.drop k) zo hap hc' 155;rw [ld] at r4;have hk4:Keeps (fun b=>some b=v3.ownBlock) W3 W4:=aP g4
 have hv3:∀b,some b=v3.ownBlock->u.heap.size<=b:=fun b e=>(o3.lt b e.symm).1
 have hg:=h.lt;have hp4:W4.heap[p]? =u.heap[p]? :=(hk4.block p zo (fun e'=>by have:=hv3 p e';omega)).trans hp3;have hc4:W4.heap[p]? =some (.cells #[.slice ao L.length cap] 157 (0,0)):=hp4.trans h.cell;refine ⟨v4,W4,(by obtain ⟨a4,c4,e⟩:=fD o4;exact ⟨_,_,_,e⟩),r4,by simp [World.cell?,hc4],by simp [World.frozen?,hc4],?_,?_,fun g hg=>(o4.lt g hg).1⟩
 ·have hks:Keeps (fun b=>b=p) W4 (W4.setCell ⟨p,0,none⟩ v4):=aZ p [_] 0 W4
  have e1:aA kA (L.take k++ [((a,s),(c,(t,b)))])++aA kA (L.drop k)=aA kA (L.take k++((a,s),(c,(t,b)))::L.drop k):=by rw [<-bX];simp
  have e2:k+1+(L.drop k).length=(L.take k++((a,s),(c,(t,b)))::L.drop k).length:=zr;rw [e1,e2] at o4
  have o5:(W4.setCell ⟨p,0,none⟩ v4).ownsRow base 159 5 v4 (L.take k++((a,s),(c,(t,b)))::L.drop k).length (aA kA (L.take k++((a,s),(c,(t,b)))::L.drop k)):=
   EC (dP (w':=W4.setCell ⟨p,0,none⟩ v4) o4 (fun g hg'=>hks.block g (o4.lt g hg').2 (fun e=>by have:=(o4.lt g hg').1;omega))) hbase
  exact ⟨heap_setCell_same W4 p 0 _ _ _ hc4,o5,h.low⟩
 refine ((((hk1.mono (fun _ _ e=>e.elim)).then hk2 (fun _ _ e=>e.elim)).then hk3 (fun b hb e=> ?_)).then hk4 (fun b hb e=> ?_)).then (aZ p [v4] 0 W4) (fun b _ e=>e)
 ·have:=hv1 b e;omega
 have:=hv3 b e;omega
end
section
open Go.RowKit
theorem CN (t b t' b':Int) (w:World):
  Calls prog 57 #[.agg #[.int .i64 t,.int .i64 b],.agg #[.int .i64 t',.int .i64 b']] w fun e w'=>e= .returned (.bool (bL t b t' b'))/\Below w.heap.size w w':=by
 unfold bL;by_cases h:t=t'
 ·have hl:decide (t<t')=false:=by simp;omega
  have hd:(t==t')=true:=xQ;rw [if_pos h];clear h;go_enter func57,ntmps57;exact kf4
 by_cases hlt:t<t'
 ·have hl:decide (t<t')=true:=by simp;omega
  rw [if_neg h,hl];clear h;go_enter func57,ntmps57;exact kf4
 have hl:decide (t<t')=false:=zr;have hd:(t==t')=false:=xQ;rw [if_neg h,hl];clear h;go_enter func57,ntmps57;exact kf4
