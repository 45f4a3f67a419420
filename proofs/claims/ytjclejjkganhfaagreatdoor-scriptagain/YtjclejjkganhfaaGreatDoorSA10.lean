import Derived.Test.YtjclejjkganhfaaGreatDoorSA06
import Derived.Test.YtjclejjkganhfaaGreatDoorSA07
import Derived.Maps.OwnIn
set_option linter.unusedSimpArgs false
set_option linter.unusedVariables false
set_option maxRecDepth 100000
set_option maxHeartbeats 64000000
namespace Go.Proofs.YtjclejjkganhfaaGreatDoor
open Go.Proofs.Tryz
section
open RowKit Lib Go.Sort
def kV(ao:Nat->Option Addr)(cap:Nat->Nat)(R:Rws):Value:=.agg #[.slice (ao 0) (R 0).length (cap 0),.slice (ao 1) (R 1).length (cap 1),.slice (ao 2) (R 2).length (cap 2),.slice (ao 3) (R 3).length (cap 3)]
def D7(w:qW)(ao:Nat->Option Addr)(R:Rws):Prop:=∀i,i<4->F2 w (ao i) (R i)
theorem D7.later{w w'}{ao}{R}(h:D7 w ao R)(hb:qL w w'):D7 w' ao R:=fun i hi=>(h i hi).later hb
def I5(w:qW)(b:Nat)(ao:Nat->Option Addr)(cap:Nat->Nat)(R:Rws):Prop:=w.heap[b]? =some (.cells #[.slice (ao 0) (R 0).length (cap 0),.slice (ao 1) (R 1).length (cap 1),.slice (ao 2) (R 2).length (cap 2),.slice (ao 3) (R 3).length (cap 3)] 138 (0,0))
theorem I5.at{w}{b}{ao}{cap}{R}(h:I5 w b ao cap R){i}(hi:i<4):w.cell? (qA b i)=some (.slice (ao i) (R i).length (cap i)):=by
 unfold I5 at h
 match i,hi with
 | 0,_=>simp [World.cell?,h]
 | 1,_=>simp [World.cell?,h]
 | 2,_=>simp [World.cell?,h]
 | 3,_=>simp [World.cell?,h]
theorem I5.fz{w}{b}{ao}{cap}{R}(h:I5 w b ao cap R)(o):w.frozen? (qA b o)=false:=by
 unfold I5 at h;simp [World.frozen?,h]
theorem I5.lt{w}{b}{ao}{cap}{R}(h:I5 w b ao cap R):b<w.heap.size:=(uN.1 h).1
theorem I5.GA(w:qW)(ao)(cap)(R):I5 (w.alloc (.cells #[.slice (ao 0) (R 0).length (cap 0),.slice (ao 1) (R 1).length (cap 1),.slice (ao 2) (R 2).length (cap 2),.slice (ao 3) (R 3).length (cap 3)] 138)) w.heap.size ao cap R:=heap_alloc_new w _
theorem I5.later{w w'}{b}{ao}{cap}{R}(h:I5 w b ao cap R)(hb:qL w w'):I5 w' b ao cap R:=(hb.block b h.lt).trans h
theorem F2.e{w}{ao}{xs}(h:F2 w ao xs){i}{x}(hi:xs[i]? =some x):∃blk off,ao=some (qA blk off)/\∀c u,(nD x)[c]? =some u->w.cell? (qA blk (off+i*8+c))=some u:=by
 rcases h with h | ⟨b,o,h1,h2⟩
 ·subst h;simp at hi
 refine ⟨b,o,h1,fun c u hc=> ?_⟩
 have hl:=(uK.1 hi)
 have h8:c<8:=(uK.1 hc).1;have e:=nZ xs i c hl.1 h8
 grind
theorem pW{fn}{p u:Tmp}{ty}(h:fn.results= #[.cell p ty,.tmp u])(tmps)(P)(w):
  (results fn tmps).run P w=
   ((asAddr (tmps.getD p undef)).run P w).andThen fun a w1=>((loadVar ty a).run P w1).andThen fun v w2=>.ok (.tuple #[v,tmps.getD u undef]) w2:=by
 simp only [results,h]
 simp_all
theorem JW(w)(ao)(cap)(R)(i n:Nat)(hi:i<4)(hx:(R i).length<=n):
  qC 214 #[kV ao cap R,qN i,qI ((n:Int)+1)] w (qR (.tuple #[mH lQ,.bool false]) w):=by
 unfold kV;have dn:decide (((R i).length:Int)<(n:Int)+1)=true:=zl;have h4:i=0\/i=1\/i=2\/i=3:=zj
 rcases h4 with rfl | rfl | rfl | rfl
 all_goals
  go_enter func214,ntmps214;go_wp2;(try simp only [Exit.inBlock,Exit.then]);refine bodyPost_ret (v:=.tuple #[mH lQ,.bool false]) ?_ rfl ⟨rfl,?_⟩
  ·exact kf0
  exact (zh w _).alloc zq _
theorem Jk(w)(ao)(cap)(R)(i n:Nat)(x)(hK:D7 w ao R)(hi:i<4)(hn:n<1000)(hx:(R i)[n]? =some x):
  qC 214 #[kV ao cap R,qN i,qI ((n:Int)+1)] w (qR (.tuple #[mH x,.bool true]) w):=by
 obtain ⟨blk,off,ha,hc⟩:=(hK i hi).e hx;have fu:=(uK.1 hx).1;obtain ⟨t,b,m,k,nd,o,s,v⟩:=x;have cG:blk<w.heap.size:=uP w (qA blk (off+n*8+0)) (hc 0 _ rfl)
 have hcell:∀o1 o2 c u,(nD (t,b,m,k,nd,o,s,v))[c]? =some u->((w.alloc o1).alloc o2).cell? (qA blk (off+n*8+c))=some u:=fun o1 o2 c u hu=>by
  rw [(((uO w.heap.size w).alloc zg o1).alloc zq o2).cell (p:=(qA blk (off+n*8+c))) cG];exact hc c u hu
 have r0:=fun o1 o2=>hcell o1 o2 0 _ rfl
 have r1:=fun o1 o2=>hcell o1 o2 1 _ rfl
 have r2:=fun o1 o2=>hcell o1 o2 2 _ rfl
 have r3:=fun o1 o2=>hcell o1 o2 3 _ rfl
 have r4:=fun o1 o2=>hcell o1 o2 4 _ rfl
 have r5:=fun o1 o2=>hcell o1 o2 5 _ rfl
 have r6:=fun o1 o2=>hcell o1 o2 6 _ rfl
 have r7:=fun o1 o2=>hcell o1 o2 7 _ rfl
 simp only [ZG] at r0;have dn:decide (((R i).length:Int)<(n:Int)+1)=false:=zl;have en:((n:Int)+1 - 1)=(n:Int):=zj;have wn:((n:Int)).toNat=n:=zj;have pn:(0:Int)<=(n:Int):=zj;have bn:(n:Int)<((R i).length:Int):=zj;have h4:i=0\/i=1\/i=2\/i=3:=zj;unfold kV mH
 rcases h4 with rfl | rfl | rfl | rfl
 all_goals
  rw [ha];go_enter func214,ntmps214;go_wp2;(try simp only [Exit.inBlock,Exit.then]);refine bodyPost_ret (v:=.tuple #[.agg (qOa t b m k nd o s v),.bool true]) ?_ rfl ⟨rfl,?_⟩
  ·exact kc3
  exact (zh w _).alloc zq _
theorem Kc(x)(tm)(w):qC 358 #[mH x,qI tm] w (qR (qI (BU x.1 tm)) w):=by
 obtain ⟨t,b,n,k,nd,o,s,v⟩:=x;unfold mH;dsimp only;go_enter func358,ntmps358;go_wp2_with (go_at_call 178;refine (Bh _ _ _).mono ?_;rintro e w' ⟨rfl,rfl⟩);go_ret;exact ⟨rfl,zh w _⟩
def zeg(xs:qX)(tm:Int)(i:Nat)(b:Bool):Prop:=i<=xs.length/\(∀j x,j<i->xs[j]? =some x->x.1<tm)/\(∀j x,i<=j->xs[j]? =some x->tm<=x.1)/\(b=true↔∃x,xs[i]? =some x/\x.1=tm)
def Su(xs:qX):Prop:=∀(i j:Nat) (x y:OpX),i<=j->xs[i]? =some x->xs[j]? =some y->x.1<=y.1
theorem JI(ao)(cap)(xs)(tm)(w)(ar:F2 w ao xs)(hr:Su xs)(hn:xs.length<=1000):
  qC 357 #[.slice ao xs.length cap,qI tm,.func (.func 358) #[] #[]] w fun e w'=>∃(i:Nat) (b:Bool),e=qT #[qN i,.bool b]/\zeg xs tm i b/\qL w w':=by
 have HI:Aside (F2 w ao xs/\Su xs):=⟨ar,hr⟩
 clear ar hr;go_enter func357,ntmps357;go_wp2;go_loopg [9,10,11] (xs.length+1) (fun kx s9 gP iP wr=>∃(i j:Nat),s9=qN i/\gP=qN j/\i<=j/\j<=xs.length/\j - i<kx/\Aside (qL w wr/\(∀k x,k<i->xs[k]? =some x->x.1<tm)/\(∀k x,j<=k->xs[k]? =some x->tm<=x.1)))
 case atStart=>exact ⟨0,xs.length,rfl,rfl,uW _,uM _,zj,uO _ w,fun k x hk=>zj,fun k x hk h=>by have:=(uK.1 h).1;omega⟩
 case round=>
  obtain ⟨i,j,rfl,rfl,ay,hj,aY,A⟩:=hrel;by_cases hlt:i<j
  ·have d1:qlt i j=true:=by simp;omega
   obtain ⟨h,hh⟩:∃h:Nat,h=(i+j) / 2:=⟨_,rfl⟩
   have eh:((i:Int)+(j:Int)) / 2=(h:Int):=zj;have hl:h<xs.length:=zj;have wh:((h:Int)).toNat=h:=zj;have ph:(0:Int)<=(h:Int):=zj;have bh:(h:Int)<(xs.length:Int):=zj;have hih:i<=h/\h<j:=zj;clear hh
   obtain ⟨⟨t,b,n,k,nd,o,s,v⟩,hx⟩:∃x,Aside (xs[h]? =some x):=⟨xs[h],uL hl⟩
   obtain ⟨blk,off,aH,hc⟩:=(HI.o.1.later A.o.1).e hx.o;subst aH;have r0:=hc 0 _ rfl;have r1:=hc 1 _ rfl;have r2:=hc 2 _ rfl;have r3:=hc 3 _ rfl;have r4:=hc 4 _ rfl;have r5:=hc 5 _ rfl;have r6:=hc 6 _ rfl;have r7:=hc 7 _ rfl;simp only [ZG] at r0;clear hc;have ac:=Kc (t,b,n,k,nd,o,s,v) tm wr;unfold mH at ac;dsimp only at ac;by_cases hc:t<tm
   ·have ec:BU t tm= -1:=by unfold BU;rw [if_pos hc]
    rw [ec] at ac;have HC:Aside (t<tm):=hc;clear hc ec;go_wp2_with (go_at_call 358;refine ac.mono ?_;clear ac;rintro e w' ⟨rfl,hb'⟩;have A':Aside (qL w w'):=(zi A.o.1 hb');clear hb' r0 r1 r2 r3 r4 r5 r6 r7);go_roundg (j - h)
    case measure=>omega
    case rel=>
     refine ⟨h+1,j,zJ,rfl,zj,hj,zj,A'.o,fun k' x hk bD=> ?_,A.o.2.2⟩;have:=HI.o.2 k' h x _ zj bD hx.o;have:=HC.o;omega
   have hz:0<=BU t tm:=by unfold BU;rw [if_neg hc];split<;>omega
   obtain ⟨z,ez⟩:∃z,BU t tm=z:=⟨_,rfl⟩
   rw [ez] at ac hz;have dz:decide (z<0)=false:=zl;have HC:Aside (¬t<tm):=hc;clear hc ez;go_wp2_with (go_at_call 358;refine ac.mono ?_;clear ac;rintro e w' ⟨rfl,hb'⟩;have A':Aside (qL w w'):=(zi A.o.1 hb');clear hb' r0 r1 r2 r3 r4 r5 r6 r7);go_roundg (h - i+1)
   case measure=>omega
   case rel=>
    refine ⟨i,h,rfl,rfl,zj,zj,zj,A'.o,A.o.2.1,fun k' x hk bD=> ?_⟩;have:=HI.o.2 h k' _ x zj hx.o bD;have:=HC.o;omega
  have d1:qlt i j=false:=zl;obtain rfl:i=j:=zj;by_cases bl:i<xs.length
  ·have d2:qlt i xs.length=true:=by simp;omega
   have wh:((i:Int)).toNat=i:=zj;have ph:(0:Int)<=(i:Int):=zj;have bh:(i:Int)<(xs.length:Int):=zj
   obtain ⟨⟨t,b,n,k,nd,o,s,v⟩,hx⟩:∃x,Aside (xs[i]? =some x):=⟨xs[i],uL bl⟩
   obtain ⟨blk,off,aH,hc⟩:=(HI.o.1.later A.o.1).e hx.o;subst aH;have r0:=hc 0 _ rfl;have r1:=hc 1 _ rfl;have r2:=hc 2 _ rfl;have r3:=hc 3 _ rfl;have r4:=hc 4 _ rfl;have r5:=hc 5 _ rfl;have r6:=hc 6 _ rfl;have r7:=hc 7 _ rfl;simp only [ZG] at r0;clear hc;have ac:=Kc (t,b,n,k,nd,o,s,v) tm wr;unfold mH at ac;dsimp only at ac
   have hz:Aside ((BU t tm==0)=decide (t=tm)):=by
    show (BU t tm==0)=decide (t=tm)
    unfold BU;by_cases h1:t<tm
    ·rw [if_pos h1];have:t≠tm:=by omega
     simp [this]
    rw [if_neg h1];by_cases h2:tm<t
    ·rw [if_pos h2];have:t≠tm:=by omega
     simp [this]
    rw [if_neg h2];have:t=tm:=zj;simp [this]
   obtain ⟨z,ez⟩:=za (BU t tm);rw [<-ez] at ac hz;clear ez;go_wp2_with (go_at_call 358;refine ac.mono ?_;clear ac;rintro e w' ⟨rfl,hb'⟩;have A':Aside (qL w w'):=(zi A.o.1 hb');clear hb' r0 r1 r2 r3 r4 r5 r6 r7);go_ret2;refine ⟨i,_,rfl,⟨hj,A.o.2.1,A.o.2.2,?_⟩,A'.o⟩;rw [hz.o,decide_eq_true_iff];constructor
   ·intro e;exact ⟨_,hx.o,e⟩
   rintro ⟨x,bD,e⟩;rw [hx.o] at bD
   cases bD
   exact e
  have d2:qlt i xs.length=false:=zl;go_wp2;go_ret2;refine ⟨i,false,rfl,⟨hj,A.o.2.1,A.o.2.2,?_⟩,A.o.1⟩;constructor
  ·intro e;cases e
  rintro ⟨x,bD,e⟩;have:=(uK.1 bD).1;omega
def rG(R:Rws)(id:Int):Option OpX:=(lY R).find? (fun x=>decide (idO x=id))
theorem Dg{R}{id}{x}(h:rG R id=some x):x∈lY R/\idO x=id:=by
 grind [rG,List.mem_of_find?_eq_some]
theorem findK_none{R}{id} :rG R id=none↔∀x∈lY R,idO x≠id:=by
 unfold rG
 simp_all
theorem FT{R}(h:I3 R){x}(hx:x∈lY R):rG R (idO x)=some x:=by
 cases hf:rG R (idO x) with
 | none=>exact absurd rfl (findK_none.1 hf x hx)
 | some y=>
  obtain ⟨a,b⟩:=Dg hf;rw [h.J a hx (Wi (h.num.ok y a) (h.num.ok x hx) b)]
theorem Bi{x}(h:mz x=0):4<=idO x/\idO x<4294967300:=by
 have h1:=wF h;unfold idO
 grind
theorem Ov{R}(h:I3 R){id}(ho:id<4\/4294967300<=id):rG R id=none:=
 findK_none.2 (fun x hx e=>by have:=Bi (h.num.ok x hx);omega)
theorem I3.abQ{R}(h:I3 R){i}(hi:i<4):∀(a b:Nat) (x y:OpX),a<b->(R i)[a]? =some x->(R i)[b]? =some y->x.1<y.1:=by
 intro a b x y hab hx hy;obtain ⟨a1,a2,_⟩:=h.num i hi a x hx;obtain ⟨b1,b2,_⟩:=h.num i hi b y hy;have hp:=ZJ.1 (h.K7 hi) a b (uK.1 hx).1 (uK.1 hy).1 hab;rw [(uK.1 hx).2,(uK.1 hy).2] at hp
 simp_all [CLt,stO,byO]
theorem I3.ab7{R}(h:I3 R){i}(hi:i<4):Su (R i):=fun a b x y hab hx hy=>by
 rcases Yv a b with q | q
 ·have:=h.abQ hi a b x y q hx hy;omega
 grind
theorem Uw{R}(h:I3 R){id}{i k:Nat}{b}(hi:i<4)(e:id % 4=(i:Int))(hb:zeg (R i) (id / 4) k b):(b=false->rG R id=none)/\(b=true->∃x,(R i)[k]? =some x/\rG R id=some x):=by
 obtain ⟨h1,h2,h3,h4⟩:=hb;refine ⟨fun hf=>findK_none.2 (fun x hx ex=> ?_),fun ht=> ?_⟩
 ·obtain ⟨m,hm,hxm⟩:=mem_allR.1 hx;obtain ⟨j,a1,a2,a3,_⟩:=h.num.e hm hxm;have e1:x.2.1=byO x:=rfl;unfold idO at ex;obtain rfl:m=i:=zj;have ht:x.1=id / 4:=zj
  have hkj:j=k:=by
   rcases Qa j k with q | q | q
   ·have:=h2 j x q a1;omega
   ·exact q
   have hk:k<(R m).length:=by have:=(uK.1 a1).1;omega
   have ek:=uL hk;have:=h3 k _ zg ek;have:=h.abQ hm k j _ x q ek a1;omega
  simp_all
 obtain ⟨x,hx,et⟩:=h4.1 ht;refine ⟨x,hx,?_⟩;obtain ⟨b1,b2,_⟩:=h.num i hi k x hx;have e1:x.2.1=byO x:=rfl
 have:idO x=id:=by unfold idO;omega
 rw [<-this];exact FT h (mem_allR.2 ⟨i,hi,uR hx⟩)
def m6(W:qW)(b:Nat)(x:OpX):Prop:=W.heap[b]? =some (.cells (qVa x) 88 (0,0))
theorem m6.lt{W}{b}{x}(h:m6 W b x):b<W.heap.size:=(uN.1 h).1
theorem m6.later{W W'}{b}{x}(h:m6 W b x)(hb:qL W W'):m6 W' b x:=(hb.block b h.lt).trans h
theorem m6.GA(W:qW)(x):m6 (W.alloc (qVc x)) W.heap.size x:=heap_alloc_new W _
theorem m6.cells{W}{b}{x}(h:m6 W b x):W.cell? (qB b)=some (qI x.1)/\W.cell? (qA b 1)=some (qI x.2.1)/\W.cell? (qA b 2)=some (qI x.2.2.1)/\W.cell? (qA b 3)=some (.int .u8 (x.2.2.2.1:Int))/\W.cell? (qA b 4)=some (qI x.2.2.2.2.1)/\W.cell? (qA b 5)=some (qI x.2.2.2.2.2.1)/\W.cell? (qA b 6)=some (.string x.2.2.2.2.2.2.1)/\W.cell? (qA b 7)=some (.string x.2.2.2.2.2.2.2)/\∀c,W.frozen? (qA b c)=false:=by
 unfold m6 at h;exact kn4
theorem mV{w W}{b}(h:qL w W)(hb:w.heap.size<=b)(o)(vs):qL w (W.setCells b o vs):=h.trans ((lZ b vs o W).m8 h.size (fun k e=>zj))
theorem Rd{ad}(w)(ao)(cap)(R)(id)(hE:U9 ad w)(ho:id<4\/4294967300<=id)(h2: -9223372036854775808<=id)(h3:id<=9223372036854775807):
  qC 323 #[kV ao cap R,qI id] w (qR (.tuple #[mH lQ,.bool false]) w):=by
 unfold kV;obtain ⟨U,hU⟩:=za ((w.alloc (.cells #[.slice (ao 0) (R 0).length (cap 0),.slice (ao 1) (R 1).length (cap 1),.slice (ao 2) (R 2).length (cap 2),.slice (ao 3) (R 3).length (cap 3)] 138)).alloc qZc);have hb:qL w U:=zP
 have hz:U.heap[w.heap.size+1]? =some (.cells qZa 88 (0,0)):=by
  rw [hU];have:=heap_alloc_new (w.alloc (.cells #[.slice (ao 0) (R 0).length (cap 0),.slice (ao 1) (R 1).length (cap 1),.slice (ao 2) (R 2).length (cap 2),.slice (ao 3) (R 3).length (cap 3)] 138)) qZc;exact kc7
 have ee:=(hE.later hb).c1;have ac:=zb3 id U _ _ ee (uP U (qB 0) ee) ho h2 h3;have HB:Aside (qL w U):=hb;go_enter func323,ntmps323;go_wp2_with fail;rw [<-hU];refine ac.mono ?_;rintro e w1 ⟨rfl,hb1⟩;obtain ⟨S,hS⟩:=za w.heap.size
 have aw:w1.heap[S+1]? =some (.cells qZa 88 (0,0)):=by
  rw [hS,hb1.block _ (uN.1 hz).1];exact hz
 have hl1:=(uN.1 aw).1;have B1:Aside (qL w w1):=zi HB.o hb1;rw [<-hS];obtain ⟨y0,y1,y2,y3,y4,y5,y6,y7,f8⟩:=m6.cells (x:=lQ) aw;unfold lQ at y0 y1 y2 y3 y4 y5 y6 y7;dsimp only at y0 y1 y2 y3 y4 y5 y6 y7;have HS:Aside (S=w.heap.size):=hS;clear hS aw;go_wp2;(try simp only [Exit.inBlock,Exit.then]);refine bodyPost_ret (v:=.tuple #[mH lQ,.bool false]) ?_ rfl ⟨rfl,?_⟩
 ·exact kf0
 exact (mV (b:=S+1) B1.o xH 0 qZl).alloc (mV (b:=S+1) B1.o xH 0 _).size _
theorem Tn(w)(ao)(cap)(R)(id)(hK:D7 w ao R)(hR:I3 R)(hl:∀i,i<4->(R i).length<=1000)(h1:4<=id)(h2:id<4294967300):
  qC 323 #[kV ao cap R,qI id] w (qR (.tuple #[mH ((rG R id).getD lQ),.bool (rG R id).isSome]) w):=by
 obtain ⟨i,hi,ei⟩:∃i:Nat,i<4/\id % 4=(i:Int):=⟨(id % 4).toNat,zj,zj⟩
 have wi:((i:Int)).toNat=i:=zj;have pi:(0:Int)<=(i:Int):=zj;have bi:(i:Int)<4:=zj;unfold kV;obtain ⟨S,hS⟩:=za w.heap.size;obtain ⟨U,hU⟩:=za ((w.alloc (.cells #[.slice (ao 0) (R 0).length (cap 0),.slice (ao 1) (R 1).length (cap 1),.slice (ao 2) (R 2).length (cap 2),.slice (ao 3) (R 3).length (cap 3)] 138)).alloc qZc);have hb:qL w U:=zP
 have hz:m6 U (S+1) lQ:=by
  rw [hU,hS];have:=heap_alloc_new (w.alloc (.cells #[.slice (ao 0) (R 0).length (cap 0),.slice (ao 1) (R 1).length (cap 1),.slice (ao 2) (R 2).length (cap 2),.slice (ao 3) (R 3).length (cap 3)] 138)) qZc;exact kc7
 have hk:I5 U S ao cap R:=yb;have ac:=Pv id U h1 h2;rw [ei] at ac;obtain ⟨tm,etm⟩:=za (id / 4);rw [<-etm] at ac
 have HB:Aside (qL w U/\I5 U S ao cap R/\m6 U (S+1) lQ):=⟨hb,hk,hz⟩
 have HS:Aside (S=w.heap.size/\tm=id / 4/\id % 4=(i:Int)):=⟨hS,etm,ei⟩
 clear hb hz hk etm ei;go_enter func323,ntmps323;go_wp2_with fail;rw [<-hU,<-hS];clear hU hS;refine ac.mono ?_;rintro e w1 ⟨rfl,hb1⟩;obtain ⟨V,hV⟩:=za (w1.alloc (.cells #[qI tm,qN i] 86))
 have bV:qL w1 V:=by rw [hV];exact zh w1 _
 have HV:Aside (qL w V/\I5 V S ao cap R/\m6 V (S+1) lQ):=⟨HB.o.1.trans ((hb1.mono HB.o.1.size).trans (bV.mono (uQ HB.o.1.size hb1.size))),(HB.o.2.1.later hb1).later bV,(HB.o.2.2.later hb1).later bV⟩
 have aG:V.heap[w1.heap.size]? =some (.cells #[qI tm,qN i] 86 (0,0)):=by rw [hV];exact heap_alloc_new w1 _
 have s0:V.cell? (qB w1.heap.size)=some (qI tm):=by simp [World.cell?,aG]
 have s1:V.cell? (qA w1.heap.size 1)=some (qN i):=by simp [World.cell?,aG]
 have k1:=HV.o.2.1.at hi;have hbs:=JI (ao i) (cap i) (R i) tm V ((hK.later HV.o.1) i hi) (hR.ab7 hi) (hl i hi);go_upto_region 4 with fail;rw [<-hV];clear hV;go_wp2_with fail;refine hbs.mono ?_;rintro e w2 ⟨k,b,rfl,hbk,hb2⟩;have hfk:=Uw hR hi HS.o.2.2 (by rw [<-HS.o.2.1];exact hbk)
 have H2:Aside (qL w w2/\m6 w2 (S+1) lQ):=⟨zi HV.o.1 hb2,HV.o.2.2.later hb2⟩
 have KN:Aside (D7 w2 ao R):=hK.later H2.o.1;obtain ⟨y0,y1,y2,y3,y4,y5,y6,y7,f8⟩:=H2.o.2.cells;unfold lQ at y0 y1 y2 y3 y4 y5 y6 y7;dsimp only at y0 y1 y2 y3 y4 y5 y6 y7
 cases b with
 | false=>
  have HF:Aside (rG R id=none):=hfk.1 rfl;go_wp2;(try simp only [Exit.inBlock,Exit.then]);refine bodyPost_ret (v:=.tuple #[mH lQ,.bool false]) ?_ rfl ⟨by rw [HF.o];rfl,?_⟩
  ·exact kf0
  exact mV (b:=S+1) H2.o.1 xH 0 qZl
 | true=>
  obtain ⟨⟨t,b,n,kd,nd,o,s,v⟩,hx,hf⟩:=hfk.2 rfl;have HF:Aside (rG R id=some (t,b,n,kd,nd,o,s,v)):=hf;obtain ⟨blk,off,aH,hc⟩:=(KN.o i hi).e hx;have hkl:=(uK.1 hx).1;have r0:=hc 0 _ rfl;have r1:=hc 1 _ rfl;have r2:=hc 2 _ rfl;have r3:=hc 3 _ rfl;have r4:=hc 4 _ rfl;have r5:=hc 5 _ rfl;have r6:=hc 6 _ rfl;have r7:=hc 7 _ rfl;simp only [ZG] at r0;have wk:((k:Int)).toNat=k:=zj;have pk:(0:Int)<=(k:Int):=zj;have bk:(k:Int)<((R i).length:Int):=zj;rw [aH];go_wp2;(try simp only [Exit.inBlock,Exit.then]);refine bodyPost_ret (v:=.tuple #[.agg (qOa t b n kd nd o s v),.bool true]) ?_ rfl ⟨by rw [HF.o];rfl,?_⟩
  ·exact kc3
  exact mV (b:=S+1) H2.o.1 xH 0 (qOl t b n kd nd o s v)
theorem Ff{ad}(w)(ao)(cap)(R)(id)(hE:U9 ad w)(hK:D7 w ao R)(hR:I3 R)(hl:∀i,i<4->(R i).length<=1000)(h2: -9223372036854775808<=id)(h3:id<=9223372036854775807):
  qC 323 #[kV ao cap R,qI id] w (qR (.tuple #[mH ((rG R id).getD lQ),.bool (rG R id).isSome]) w):=by
 by_cases h:id<4\/4294967300<=id
 ·rw [Ov hR h];exact Rd w ao cap R id hE h h2 h3
 exact Tn w ao cap R id hK hR hl zj zj
theorem m6.ct{W}{p}{t b m}{k}{nd o}{s v}(h:m6 W p (t,b,m,k,nd,o,s,v)):W.cell? (qB p)=some (qI t)/\W.cell? (qA p 1)=some (qI b)/\W.cell? (qA p 2)=some (qI m)/\W.cell? (qA p 3)=some (.int .u8 (k:Int))/\W.cell? (qA p 4)=some (qI nd)/\W.cell? (qA p 5)=some (qI o)/\W.cell? (qA p 6)=some (.string s)/\W.cell? (qA p 7)=some (.string v)/\∀c,W.frozen? (qA p c)=false:=h.cells
theorem Ls{R}(h:I3 R){id} :m9 (lY R) id↔∃x,rG R id=some x/\kdO x=109/\mU x=id:=by
 constructor
 ·rintro ⟨x,hx,k1,k2,k3⟩
  grind [FT]
 exact kn9
theorem Jp{R}(h:I3 R){nd id} :I8 (lY R) nd id↔∃x,rG R id=some x/\kdO x=105/\mU x=nd:=by
 constructor
 ·rintro ⟨x,hx,k1,k2,k3⟩
  grind [FT]
 exact kn9
theorem rZ{ad}(w)(ao)(cap)(R)(id)(z)(hz:z=true↔m9 (lY R) id)(hE:U9 ad w)(hK:D7 w ao R)(hR:I3 R)(hl:∀i,i<4->(R i).length<=1000)(h2: -9223372036854775808<=id)(h3:id<=9223372036854775807):
  qC 262 #[kV ao cap R,qI id] w (qR (.bool z) w):=by
 obtain ⟨U,hU⟩:=za (w.alloc (.cells #[.slice (ao 0) (R 0).length (cap 0),.slice (ao 1) (R 1).length (cap 1),.slice (ao 2) (R 2).length (cap 2),.slice (ao 3) (R 3).length (cap 3)] 138));have hb:qL w U:=zX;have ac:=Ff U ao cap R id (hE.later hb) (hK.later hb) hR hl h2 h3;rw [Ls hR] at hz
 unfold kV at ac |-
 have HB:Aside (qL w U):=hb
 cases hf:rG R id with
 | none=>
  have hzf:z=false:=by
   cases z with
   | false=>rfl
   | true=>obtain ⟨x,e,_⟩:=hz.1 rfl;rw [hf] at e;cases e
  subst hzf;rw [hf] at ac;unfold mH lQ at ac;go_enter func262,ntmps262;exact kg5
 | some x=>
  obtain ⟨t,b,n,k,nd,o,s,v⟩:=x
  have HZ:Aside (z=(decide (k=109) &&decide (nd=id))):=by
   show z=(decide (k=109) &&decide (nd=id))
   rw [YX,hz,Yk,decide_eq_true_iff,decide_eq_true_iff];constructor
   ·exact kn7
   rintro ⟨k1,k2⟩;exact ⟨_,hf,k1,k2⟩
  rw [hf] at ac;unfold mH at ac;dsimp only [Option.getD_some] at ac;by_cases hk:k=109
  ·subst hk;go_enter func262,ntmps262;exact kf7
  have dk:((k:Int)==109)=false:=zl;go_enter func262,ntmps262;exact kg1
theorem Ak{ad}(w)(ao)(cap)(R)(l8 id)(z)(hz:z=true↔I8 (lY R) l8 id)(hE:U9 ad w)(hK:D7 w ao R)(hR:I3 R)(hl:∀i,i<4->(R i).length<=1000)(h2: -9223372036854775808<=id)(h3:id<=9223372036854775807):
  qC 271 #[kV ao cap R,qI l8,qI id] w (qR (.bool z) w):=by
 obtain ⟨U,hU⟩:=za (w.alloc (.cells #[.slice (ao 0) (R 0).length (cap 0),.slice (ao 1) (R 1).length (cap 1),.slice (ao 2) (R 2).length (cap 2),.slice (ao 3) (R 3).length (cap 3)] 138));have hb:qL w U:=zX;have ac:=Ff U ao cap R id (hE.later hb) (hK.later hb) hR hl h2 h3;rw [Jp hR] at hz
 unfold kV at ac |-
 have HB:Aside (qL w U):=hb
 cases hf:rG R id with
 | none=>
  have hzf:z=false:=by
   cases z with
   | false=>rfl
   | true=>obtain ⟨x,e,_⟩:=hz.1 rfl;rw [hf] at e;cases e
  subst hzf;rw [hf] at ac;unfold mH lQ at ac;go_enter func271,ntmps271;exact kg5
 | some x=>
  obtain ⟨t,b,n,k,nd,o,s,v⟩:=x
  have HZ:Aside (z=(decide (k=105) &&decide (nd=l8))):=by
   show z=(decide (k=105) &&decide (nd=l8))
   rw [YX,hz,Yk,decide_eq_true_iff,decide_eq_true_iff];constructor
   ·exact kn7
   rintro ⟨k1,k2⟩;exact ⟨_,hf,k1,k2⟩
  rw [hf] at ac;unfold mH at ac;dsimp only [Option.getD_some] at ac;by_cases hk:k=105
  ·subst hk;go_enter func271,ntmps271;exact kf7
  have dk:((k:Int)==105)=false:=zl;go_enter func271,ntmps271;exact kg1
theorem tI{ad}(w)(ao)(cap)(R)(id)(z)(hz:z=true↔id=0\/id=1\/m9 (lY R) id)(hE:U9 ad w)(hK:D7 w ao R)(hR:I3 R)(hl:∀i,i<4->(R i).length<=1000)(h2: -9223372036854775808<=id)(h3:id<=9223372036854775807):
  qC 260 #[kV ao cap R,qI id] w (qR (.bool z) w):=by
 obtain ⟨U,hU⟩:=za (w.alloc (.cells #[.slice (ao 0) (R 0).length (cap 0),.slice (ao 1) (R 1).length (cap 1),.slice (ao 2) (R 2).length (cap 2),.slice (ao 3) (R 3).length (cap 3)] 138));have hb:qL w U:=zX;have HB:Aside (qL w U):=hb;by_cases h0:id=0
 ·obtain rfl:z=true:=hz.2 (.inl h0);subst h0;exact kj8
 by_cases h1:id=1
 ·obtain rfl:z=true:=hz.2 (.inr (.inl h1));subst h1;exact kj8
 have hz':=hz.trans ⟨fun q=>(q.resolve_left h0).resolve_left h1,fun q=>.inr (.inr q)⟩;have ac:=rZ U ao cap R id z hz' (hE.later hb) (hK.later hb) hR hl h2 h3;have d0:(id==0)=false:=xn
 have d1:(id==1)=false:=by simp [h1]
 unfold kV at ac |-
 go_enter func260,ntmps260;go_wp2_with fail;rw [<-hU];refine ac.mono ?_;rintro e w1 ⟨rfl,hb1⟩;have B1:Aside (qL w w1):=zi HB.o hb1;go_wp2;go_ret;exact ⟨rfl,B1.o⟩
theorem Rq{S}{x}(hx:x∈S)(ho:0<=mT x):M0 S x↔m9 S (mU x)/\(kdO x=109->mT x=0\/mT x=1\/m9 S (mT x))/\(kdO x=105->mT x=0\/I8 S (mU x) (mT x))/\(kdO x=100->I8 S (mU x) (mT x)):=by
 constructor
 ·rintro ⟨h1,h2,h3⟩;refine ⟨?_,h2,fun k=> ?_,fun k=>h3 (.inr k)⟩
  ·rcases h1 with ⟨k,e⟩ | k
   ·exact ⟨x,hx,k,rfl,e⟩
   exact k
  grind
 rintro ⟨h1,h2,h3,h4⟩;exact ⟨.inr h1,h2,fun k=>k.elim (fun k=>(h3 k.1).resolve_left zj) h4⟩
theorem Qp{ad}(w)(ao)(cap)(R)(x)(hx:x∈lY R)(z)(hz:z=true↔M0 (lY R) x)(hE:U9 ad w)(hK:D7 w ao R)(hR:I3 R)(hl:∀i,i<4->(R i).length<=1000):
  qC 221 #[kV ao cap R,mH x] w (qR (.bool z) w):=by
 have hid:=Bi (hR.num.ok x hx);have iS:=rI (hR.num.ok x hx);rw [Rq hx zj] at hz;obtain ⟨t,b,n,k,nd,o,s,v⟩:=x;have q1:nd<=idO (t,b,n,k,nd,o,s,v):=iS.1.elim (fun q=>q.2) (fun q=>Int.le_of_lt q);have q2:o<idO (t,b,n,k,nd,o,s,v):=iS.2.1;have q3:0<=nd:=iS.2.2.1;have q4:0<=o:=iS.2.2.2.1
 have hn0:0<=nd/\nd<=4294967300:=⟨q3,zj⟩
 have ho0:0<=o/\o<=4294967300:=⟨q4,zj⟩
 change z=true↔m9 (lY R) nd/\(k=109->o=0\/o=1\/m9 (lY R) o)/\(k=105->o=0\/I8 (lY R) nd o)/\(k=100->I8 (lY R) nd o) at hz;obtain ⟨U,hU⟩:=za ((w.alloc (.cells #[.slice (ao 0) (R 0).length (cap 0),.slice (ao 1) (R 1).length (cap 1),.slice (ao 2) (R 2).length (cap 2),.slice (ao 3) (R 3).length (cap 3)] 138)).alloc (qOc t b n k nd o s v));obtain ⟨S,hS⟩:=za w.heap.size;have hb:qL w U:=zP
 have aw:m6 U (S+1) (t,b,n,k,nd,o,s,v):=by
  rw [hU,hS];have:=heap_alloc_new (w.alloc (.cells #[.slice (ao 0) (R 0).length (cap 0),.slice (ao 1) (R 1).length (cap 1),.slice (ao 2) (R 2).length (cap 2),.slice (ao 3) (R 3).length (cap 3)] 138)) (qOc t b n k nd o s v);exact kc7
 have hk:I5 U S ao cap R:=yb
 obtain ⟨zn,j8⟩:∃zn:Bool,zn=true↔m9 (lY R) nd:=by
  by_cases q:m9 (lY R) nd
  ·exact ⟨true,by simp [q]⟩
  exact ⟨false,by simp [q]⟩
 have ac:=rZ U ao cap R nd zn j8 (hE.later hb) (hK.later hb) hR hl zj zj
 have HB:Aside (qL w U/\I5 U S ao cap R/\m6 U (S+1) (t,b,n,k,nd,o,s,v)):=⟨hb,hk,aw⟩
 unfold kV at ac |-
 unfold mH;go_enter func221,ntmps221;go_wp2_with fail;rw [<-hU,<-hS];clear hU hS;refine ac.mono ?_;rintro e w1 ⟨rfl,hb1⟩
 have H1:Aside (qL w w1/\I5 w1 S ao cap R/\m6 w1 (S+1) (t,b,n,k,nd,o,s,v)):=⟨zi HB.o.1 hb1,HB.o.2.1.later hb1,HB.o.2.2.later hb1⟩
 obtain ⟨y0,y1,y2,y3,y4,y5,y6,y7,f8⟩:=m6.ct H1.o.2.2;have k0:=H1.o.2.1.at (i:=0) zj;have k1:=H1.o.2.1.at (i:=1) zj;have k2:=H1.o.2.1.at (i:=2) zj;have k3:=H1.o.2.1.at (i:=3) zj;have ee:=hE.later H1.o.1;have hK1:=hK.later H1.o.1
 cases zn with
 | false=>
  have hzf:z=false:=by
   cases z with
   | false=>rfl
   | true=>exact absurd (j8.2 (hz.1 rfl).1) zo
  subst hzf;exact kn8
 | true=>
  have cC:=j8.1 rfl;clear j8;by_cases hm:k=109
  ·subst hm;have hz':=hz.trans ⟨fun q=>q.2.1 rfl,fun q=>⟨cC,fun _=>q,fun k=>absurd k zo,fun k=>absurd k zo⟩⟩;have ac:=tI w1 ao cap R o z hz' ee hK1 hR hl zj zj;exact kd2
  have dm:((k:Int)==109)=false:=zl;by_cases hi:k=105
  ·subst hi;by_cases h0:o=0
   ·subst h0;obtain rfl:z=true:=hz.2 ⟨cC,fun k=>absurd k zo,fun _=>.inl rfl,fun k=>absurd k zo⟩;clear hz;exact kn8
   have d0:(o==0)=false:=xn;have hz':=hz.trans ⟨fun q=>(q.2.2.1 rfl).resolve_left h0,fun q=>⟨cC,fun k=>absurd k zo,fun _=>.inr q,fun k=>absurd k zo⟩⟩;have ac:=Ak w1 ao cap R nd o z hz' ee hK1 hR hl zj zj;exact kd2
  have di:((k:Int)==105)=false:=zl;by_cases hd:k=100
  ·subst hd;have hz':=hz.trans ⟨fun q=>q.2.2.2 rfl,fun q=>⟨cC,fun k=>absurd k zo,fun k=>absurd k zo,fun _=>q⟩⟩;have ac:=Ak w1 ao cap R nd o z hz' ee hK1 hR hl zj zj;exact kd2
  have dd:((k:Int)==100)=false:=zl;obtain rfl:z=true:=hz.2 ⟨cC,fun k=>absurd k hm,fun k=>absurd k hi,fun k=>absurd k hd⟩;clear hz;exact kn8
def Rw(g:Nat)(lb:Array Value)(xs:qX)(p:OpX->Bool)(w:qW):Prop:=
 ∀(W:qW) (x:OpX),x∈xs->qL w W->Calls prog g (#[mH x]++lb) W (qR (.bool (p x)) w)
def zey(p:OpX->Bool)(zs:qX)(r:Int):Prop:=
 (r= -1/\∀x∈zs,p x=false)\/∃k x,r=((k:Nat):Int)/\zs[k]? =some x/\p x=true/\∀j y,j<k->zs[j]? =some y->p y=false
theorem AH(p)(g:Nat)(lb)(eg:∀args w,(callFunc g args).run prog w= .ok (.enter g args) w)(ao)(cap)(zs)(w)(hp:Rw g lb zs p w)(fD:zs.length<=1000000)(ar:F2 w ao zs):
  qC 163 #[.slice ao zs.length cap,.func (.func g) #[] lb] w fun e w'=>∃r:Int,e= .returned (qI r)/\Aside (zey p zs r/\qL w w'):=by
 have HP:Aside (Rw g lb zs p w):=hp;have HI:Aside (F2 w ao zs):=ar;go_enter func163,ntmps163;go_wp2;go_loopg [5,8] zs.length (fun kx _ s8 wr=>∃(k:Nat),s8=qN k/\k<=zs.length/\zs.length - k<=kx/\Aside (qL w wr/\∀j l,j<k->zs[j]? =some l->p l=false))
 case atStart=>exact ⟨0,rfl,uW _,uM _,⟨uO _ w,fun j l hj=>zj⟩⟩
 case round=>
  obtain ⟨k,rfl,hk,aY,A⟩:=hrel;by_cases hlt:k<zs.length
  ·have aq:qlt k zs.length=true:=by simp;omega
   have ek:((k:Int)).toNat=k:=zj;have pk:(0:Int)<=(k:Int):=zj;have bk:(k:Int)<(zs.length:Int):=zj
   obtain ⟨⟨t,b,n,kd,nd,o,s,v⟩,hl⟩:∃l,Aside (zs[k]? =some l):=⟨zs[k],uL hlt⟩
   obtain ⟨blk,off,aH,hc⟩:=(HI.o.later A.o.1).e hl.o;subst aH;have r0:=hc 0 _ rfl;have r1:=hc 1 _ rfl;have r2:=hc 2 _ rfl;have r3:=hc 3 _ rfl;have r4:=hc 4 _ rfl;have r5:=hc 5 _ rfl;have r6:=hc 6 _ rfl;have r7:=hc 7 _ rfl;simp only [ZG] at r0;have ac:=HP.o wr (t,b,n,kd,nd,o,s,v) (uR hl.o) A.o.1;unfold mH at ac
   cases hq:p (t,b,n,kd,nd,o,s,v) with
   | true=>
    exact kh0
   | false=>
    rw [hq] at ac;have HQ:=Lib.hid hq;go_wp2_with (go_at_fn g;refine ac.mono ?_;rintro e w' ⟨rfl,hb'⟩);go_roundg (zs.length - (k+1))
    case measure=>omega
    case rel=>
     refine ⟨k+1,zJ,zj,uM _,⟨hb',fun j l hj e=> ?_⟩⟩
     rcases Yv j k with h | h
     ·exact A.o.2 j l h e
     exact kg3
  exact kb5
theorem Mn(p)(g:Nat)(lb)(eg:∀args w,(callFunc g args).run prog w= .ok (.enter g args) w)(ao)(cap)(zs)(w)(hp:Rw g lb zs p w)(fD:zs.length<=1000000)(ar:F2 w ao zs):
  qC 219 #[.slice ao zs.length cap,.func (.func g) #[] lb] w (qR (.bool (zs.any p)) w):=by
 have ac:=AH p g lb eg ao cap zs w hp fD ar;go_enter func219,ntmps219;go_wp2_with fail;refine ac.mono ?_;rintro e w' ⟨r,rfl,H⟩
 rcases H.o.1 with ⟨hr,ha⟩ | ⟨k,x,hr,hx,hpx,_⟩
 ·exact kg8
 exact kj0
theorem Hm{ad}(w)(ao)(cap)(R)(fa)(fc)(fresh)(ar:F2 w fa fresh)(hx:∀x∈fresh,x∈lY R)(z)(hz:z=true↔∀x∈fresh,M0 (lY R) x)(hE:U9 ad w)(hK:D7 w ao R)(hR:I3 R)(hl:∀i,i<4->(R i).length<=1000)(hn:fresh.length<=1000):
  Calls prog 156 #[kV ao cap R,.slice fa fresh.length fc] w fun e w'=>e= .returned (.bool z)/\Below w.heap.size w w':=by
 obtain ⟨U,hU⟩:=za (w.alloc (.cells #[.slice (ao 0) (R 0).length (cap 0),.slice (ao 1) (R 1).length (cap 1),.slice (ao 2) (R 2).length (cap 2),.slice (ao 3) (R 3).length (cap 3)] 138));have hb:Below w.heap.size w U:=zX
 have hk:I5 U w.heap.size ao cap R:=by rw [hU];exact I5.GA w ao cap R
 obtain ⟨p,hp⟩:∃p:OpX->Bool,∀x,p x=true↔¬M0 (lY R) x:=by
  refine ⟨fun x=> @decide (¬M0 (lY R) x) (Classical.propDecidable _),fun x=> ?_⟩;exact @decide_eq_true_iff _ (Classical.propDecidable _)
 have eE:Rw 220 #[.pointer (some ⟨w.heap.size,0,none⟩)] fresh p U:=by
  intro W x hxf hbW;have hkW:=hk.later hbW
  have hc:=Qp (W.alloc (.cells #[.int .i64 x.1,.int .i64 x.2.1,.int .i64 x.2.2.1,.int .u8 (x.2.2.2.1:Int),.int .i64 x.2.2.2.2.1,.int .i64 x.2.2.2.2.2.1,.string x.2.2.2.2.2.2.1,.string x.2.2.2.2.2.2.2] 88)) ao cap R x (hx x hxf) (!(p x)) (by
   rw [Bool.not_eq_true']
   constructor
   ·intro q
    refine Classical.byContradiction (fun k=> ?_)
    rw [(hp x).2 k] at q
    cases q
   ·intro q
    cases hq:p x with
    | false=>rfl
    | true=>exact absurd q ((hp x).1 hq)) ((hE.later hb).later (hbW.alloc hbW.size _)) ((hK.later hb).later (hbW.alloc hbW.size _)) hR hl
  have k0:=hkW.at (i:=0) zj;have k1:=hkW.at (i:=1) zj;have k2:=hkW.at (i:=2) zj;have k3:=hkW.at (i:=3) zj;have hlt:=hkW.lt;have hsz:=hbW.size;have HB:Aside (Below U.heap.size U W):=hbW;clear hkW hbW hp;obtain ⟨t,b,n,kd,nd,o,s,v⟩:=x;unfold kV mH at hc;dsimp only at hc
  show Calls prog 220 #[mH (t,b,n,kd,nd,o,s,v),.pointer (some ⟨w.heap.size,0,none⟩)] W _
  unfold mH;go_enter func220,ntmps220;go_wp2_with fail;refine hc.mono ?_;clear hc;rintro e w1 ⟨rfl,hb1⟩;have B1:Aside (Below U.heap.size U w1):=(HB.o.alloc HB.o.size _).trans (hb1.mono zl);clear hb1;go_wp2;go_ret;exact ⟨zq,B1.o⟩
 have ac:=Mn p 220 #[.pointer (some ⟨w.heap.size,0,none⟩)] (enters_of func220 zk rfl) fa fc fresh U eE zj (ar.later hb);have HB:Aside (Below w.heap.size w U):=hb
 have HZ:Aside (z= !(fresh.any p)):=by
  show z= !(fresh.any p)
  rw [YX,hz,Bool.not_eq_true',List.any_eq_false];exact ⟨fun q x hxf hpx=>(hp x).1 hpx (q x hxf),fun q x hxf=>Classical.byContradiction (fun k=>q x hxf ((hp x).2 k))⟩
 clear hz hp eE hb hk;unfold kV;go_enter func156,ntmps156;go_wp2_with fail;rw [<-hU];clear hU;refine ac.mono ?_;clear ac;rintro e w1 ⟨rfl,hb1⟩;have B1:Aside (Below w.heap.size w w1):=zi HB.o hb1;clear hb1;go_wp2;go_ret;exact ⟨by rw [HZ.o];rfl,B1.o⟩
theorem zej(a0 a1 a2 a3):(∀w,(Instr.index 138 (.agg #[a0,a1,a2,a3]) (qI 0)).run prog w= .ok a0 w)/\(∀w,(Instr.index 138 (.agg #[a0,a1,a2,a3]) (qI 1)).run prog w= .ok a1 w)/\(∀w,(Instr.index 138 (.agg #[a0,a1,a2,a3]) (qI 2)).run prog w= .ok a2 w)/\∀w,(Instr.index 138 (.agg #[a0,a1,a2,a3]) (qI 3)).run prog w= .ok a3 w:=
 ⟨fun _=>zk,fun _=>zk,fun _=>zk,fun _=>zk⟩
theorem DR(w)(ao)(cap)(R)(hl:∀i,i<4->(R i).length<=1000):
  qC 157 #[kV ao cap R] w (qR (qI ((lY R).length:Int)) w):=by
 have h0:=hl 0 zj;have h1:=hl 1 zj;have h2:=hl 2 zj;have h3:=hl 3 zj
 have HL:Aside (((lY R).length:Int)=(R 0).length+(R 1).length+(R 2).length+(R 3).length):=by
  show ((lY R).length:Int)=_
  unfold lY;simp;omega
 obtain ⟨x0,x1,x2,x3⟩:=zej (.slice (ao 0) (R 0).length (cap 0)) (.slice (ao 1) (R 1).length (cap 1)) (.slice (ao 2) (R 2).length (cap 2)) (.slice (ao 3) (R 3).length (cap 3));unfold kV;go_enter func157,ntmps157;go_wp2;refine wp_loop_rounds 5 ?_
 iterate 5
  rw [rounds_succ];go_wp2
 go_ret;refine ⟨?_,zh w _⟩;rw [HL.o]
 first | rfl | (refine congrArg _ (congrArg _ ?_);omega)
theorem Hw{fn}{p:Tmp}{ty}(h:fn.results= #[.cell p ty])(tmps)(P)(w):
  (results fn tmps).run P w=((asAddr (tmps.getD p undef)).run P w).andThen fun a w1=>((loadVar ty a).run P w1):=by
 simp only [results,h]
 simp_all
theorem IR(w)(ao)(cap)(R)(hl:∀i,i<4->(R i).length<=1000):
  qC 107 #[kV ao cap R] w (qR (.agg #[qI ((R 0).length:Int),qI ((R 1).length:Int),qI ((R 2).length:Int),qI ((R 3).length:Int)]) w):=by
 obtain ⟨x0,x1,x2,x3⟩:=zej (.slice (ao 0) (R 0).length (cap 0)) (.slice (ao 1) (R 1).length (cap 1)) (.slice (ao 2) (R 2).length (cap 2)) (.slice (ao 3) (R 3).length (cap 3));unfold kV;go_enter func107,ntmps107;go_wp2;refine wp_loop_rounds 5 ?_
 iterate 5
  rw [rounds_succ];go_wp2
 (try simp only [Exit.inBlock,Exit.then]);refine bodyPost_ret (v:=.agg #[qI ((R 0).length:Int),qI ((R 1).length:Int),qI ((R 2).length:Int),qI ((R 3).length:Int)]) ?_ rfl ⟨rfl,?_⟩
 ·rw [Hw rfl];go_simp
 exact ((zh w _).alloc zq _).alloc zl _
end
section
open RowKit Lib Go.Sort Maps
def Rf(ad:qF)(w:qW)(v:Value)(i:Int)(c:Nat):Prop:=∃b,v= .iface 67 (qP b)/\w.heap[b]? =some (.cells #[qI i,eV ad c] 71 (0,0))
def Be(ad:qF)(w:qW)(S l:qX)(e:Ending)(w':qW):Prop:=(match nh S 0 [] l with
 | .inl (i,c)=>∃v,e=qT #[qE,v]/\Rf ad w' v (i:Int) c
 | .inr fresh=>∃v,e=qT #[v,.nilIface]/\w'.ownsRow w.heap.size 88 8 v fresh.length (cellsOf fresh))/\qL w w'
def WN(l:qX):Prop:=∀x∈l,x.2.2.2.2.2.2.1.size<=1000000/\x.2.2.2.2.2.2.2.size<=1000000
structure X0 (w:qW) (S:Nat) (ao:Nat->Option Addr) (cap:Nat->Nat) (R:Rws) (l:qX) (k:Nat) (fresh:qX) (v:Value) (wr:qW):Prop where
 m8:qL w wr
 F9:I5 wr S ao cap R
 map:L3 wr (S+1) k (fun q=>nP fresh q.1 q.2)
 row:wr.ownsRow (S+2) 88 8 v fresh.length (cellsOf fresh)
 fk:M8 (lY R) fresh
 is:nh (lY R) 0 [] l=nh (lY R) k fresh (l.drop k)
 y9:fresh.length<=k
theorem L3.mono{w}{b n n'}{f}(h:L3 w b n f)(hn:n<=n'):L3 w b n' f:=by
 obtain ⟨D,h,r⟩:=h;exact ⟨D,h.mono hn,r⟩
theorem X0.later{w}{S}{ao}{cap}{R}{l}{k}{fresh}{v}{wr w'}(h:X0 w S ao cap R l k fresh v wr)(hb:qL wr w'):X0 w S ao cap R l k fresh v w':=
 ⟨zi h.m8 hb,h.F9.later hb,h.map.same (hb.block _ h.map.lt),mE h.row (fun g hg=>hb.block g (h.row.lt g hg).2),h.fk,h.is,h.y9⟩
theorem PI(fresh)(o):(fun q:WG=>nP (fresh++ [o]) q.1 q.2)=(fun q:WG=>if q=(byO o,mB o) then (nP fresh q.1 q.2).or (some o) else nP fresh q.1 q.2):=by
 funext q;rw [He];unfold nP
 grind
theorem pU(w:qW)(x)(T)(j)(u)(hj:(nD x)[j]? =some u):(w.alloc (.cells (qVa x) T)).cell? (((qB w.heap.size):Addr).add j)=some u:=by
 simp_all [Addr.add_lit,Ze,heap_alloc_new,nD]
theorem SB(w2:qW)(o)(a b):((w2.alloc o).alloc (.cells #[a,b] 71)).drew.heap[w2.heap.size+1]? =some (.cells #[a,b] 71 (0,0)):=by
 have:=heap_alloc_new (w2.alloc o) (.cells #[a,b] 71);exact kc7
theorem UX{ad}(w)(ao)(cap)(R)(la)(lc)(l)(hE:U9 ad w)(hX:w.cell? (qB 6)=some (.iface 437 (.pointer (some (ad 6)))))(hK:D7 w ao R)(hN:M2 R)(hl:∀i,i<4->(R i).length<=1000)(ar:F2 w la l)(hs:WN l)(hn:l.length<=1000):
  qC 154 #[kV ao cap R,.slice la l.length lc] w (Be ad w (lY R) l):=by
 obtain ⟨S,hS⟩:=za w.heap.size;obtain ⟨U,hU⟩:=za ((w.alloc (.cells #[.slice (ao 0) (R 0).length (cap 0),.slice (ao 1) (R 1).length (cap 1),.slice (ao 2) (R 2).length (cap 2),.slice (ao 3) (R 3).length (cap 3)] 138)).alloc (.map #[] 0));have hb:qL w U:=zP;have hk:I5 U S ao cap R:=yb
 have hm:L3 U (S+1) 0 (fun q=>nP [] q.1 q.2):=by
  rw [hU,hS];have:=Jo (w.alloc (.cells #[.slice (ao 0) (R 0).length (cap 0),.slice (ao 1) (R 1).length (cap 1),.slice (ao 2) (R 2).length (cap 2),.slice (ao 3) (R 3).length (cap 3)] 138));exact kc7
 have H0:Aside (X0 w S ao cap R l 0 [] qE U):=⟨hb,hk,hm,Zk _ _ _ _,pX _,rfl,uM _⟩
 have HE:Aside (U9 ad w/\D7 w ao R/\F2 w la l/\S=w.heap.size):=⟨hE,hK,ar,hS⟩
 have HX:Aside (w.cell? (qB 6)=some (.iface 437 (.pointer (some (ad 6))))):=hX;unfold kV;have ff:= @run_makeMap prog;go_enter func154,ntmps154;go_wp2;rw [<-hU,<-hS];clear hU hS ff;go_loopg [6,17] l.length (fun kx s6 ji wr=>∃(k:Nat) (fresh:qX) (ov:Value),ji=qN k/\ov=s6/\k<=l.length/\l.length - k<=kx/\Aside (X0 w S ao cap R l k fresh ov wr))
 case atStart=>exact ⟨0,[],_,rfl,rfl,uW _,uM _,H0.o⟩
 case round=>
  obtain ⟨k,fresh,ov,rfl,rfl,hkl,aY,A⟩:=hrel;by_cases hlt:k<l.length
  ·have d1:qlt k l.length=true:=by simp;omega
   have wk:((k:Int)).toNat=k:=zj;have pk:(0:Int)<=(k:Int):=zj;have bk:(k:Int)<(l.length:Int):=zj
   obtain ⟨⟨t,b,n,kd,nd,o,s,v⟩,hx⟩:∃x,Aside (l[k]? =some x):=⟨l[k],uL hlt⟩
   have cF:Aside (l.drop k=(t,b,n,kd,nd,o,s,v)::l.drop (k+1)):=by
    show l.drop k=_
    exact kp1
   have hsz:=hs _ (uR hx.o);obtain ⟨blk,off,aH,hc⟩:=(HE.o.2.2.1.later A.o.m8).e hx.o;subst aH;have r0:=hc 0 _ rfl;have r1:=hc 1 _ rfl;have r2:=hc 2 _ rfl;have r3:=hc 3 _ rfl;have r4:=hc 4 _ rfl;have r5:=hc 5 _ rfl;have r6:=hc 6 _ rfl;have r7:=hc 7 _ rfl;simp only [ZG] at r0;obtain ⟨U,hU⟩:=za (wr.alloc (qOc t b n kd nd o s v))
   have ah:qL wr U:=by rw [hU];exact zh wr _
   have O1:m6 U wr.heap.size (t,b,n,kd,nd,o,s,v):=by rw [hU];exact m6.GA wr (t,b,n,kd,nd,o,s,v)
   have bH:=mn t b n kd nd o s v U (HE.o.1.later (zi A.o.m8 ah)) hsz.1 hsz.2
   have H1:Aside (X0 w S ao cap R l k fresh ov U/\m6 U wr.heap.size (t,b,n,kd,nd,o,s,v)):=⟨A.o.later ah,O1⟩
   have e0:mz (t,b,n,kd,nd,o,s,v)=opE t b n kd nd o s.data.toList v.data.toList:=rfl;rw [<-e0] at bH;by_cases aF:mz (t,b,n,kd,nd,o,s,v)=0
   ·rw [aF] at bH;have a8:eV ad 0= .nilIface:=rfl;rw [a8] at bH;obtain ⟨i,hi,hbi,-⟩:=Ab aF;have hbi:b=(i:Int):=hbi;subst hbi
    obtain ⟨m,hm,jw⟩:∃m:Nat,n=(m:Int)+1/\m<400:=by
     have q:=mP aF;have q5:1<=n:=q.2.2.2.2.1;have q6:n<=400:=q.2.2.2.2.2.1;exact ⟨(n - 1).toNat,zj,zj⟩
    subst hm;have gD:Aside (mz (t,(i:Int),(m:Int)+1,kd,nd,o,s,v)=0):=aF;go_wp2_with fail;rw [<-hU];refine bH.mono ?_;rintro e w1 ⟨rfl,hb1⟩;obtain ⟨P,hP⟩:=za wr.heap.size;obtain ⟨Q,hQ⟩:=za w1.heap.size;obtain ⟨V,hV⟩:=za (w1.alloc (.cells #[qN i,qI ((m:Int)+1)] 300))
    have ai:qL w1 V:=by rw [hV];exact zh w1 _
    have N1:V.heap[Q]? =some (.cells #[qN i,qI ((m:Int)+1)] 300 (0,0)):=by rw [hV,hQ];exact heap_alloc_new w1 _
    have H2:Aside (X0 w S ao cap R l k fresh ov V/\m6 V P (t,(i:Int),(m:Int)+1,kd,nd,o,s,v)/\V.heap[Q]? =some (.cells #[qN i,qI ((m:Int)+1)] 300 (0,0))/\P<Q/\S+1<P/\V.heap.size=Q+1):=by
     have bR:=(H1.o.2.later hb1)
     refine ⟨(H1.o.1.later hb1).later ai,by rw [hP];exact bR.later ai,N1,by rw [hP,hQ];exact bR.lt,by rw [hP];exact A.o.map.lt,by rw [hV,hQ];simp⟩
    rw [<-hP];obtain ⟨y0,y1,y2,y3,y4,y5,y6,y7,f8⟩:=(H1.o.2.later hb1).cells;rw [<-hP] at y0 y1 y2 y3 y4 y5 y6 y7 f8;dsimp only at y0 y1 y2 y3 y4 y5 y6 y7
    have HV:Aside (V=w1.alloc (.cells #[qN i,qI ((m:Int)+1)] 300)/\Q=w1.heap.size/\P=wr.heap.size):=⟨hV,hQ,hP⟩
    clear hb1 ai H1 N1 hV hQ hP
    obtain ⟨q0,q1⟩:V.cell? (qB Q)=some (qN i)/\V.cell? (qA Q 1)=some (qI ((m:Int)+1)):=by
     have:=H2.o.2.2.1;constructor<;>simp [World.cell?,this]
    have k0:=H2.o.1.F9.at (i:=0) zj;have k1:=H2.o.1.F9.at (i:=1) zj;have k2:=H2.o.1.F9.at (i:=2) zj;have k3:=H2.o.1.F9.at (i:=3) zj;go_upto_region 10 with fail;rw [<-HV.o.1,<-HV.o.2.1];go_wp2_with fail
    have dL:Aside (nP (lY R++fresh) (byO (t,(i:Int),(m:Int)+1,kd,nd,o,s,v)) (mB (t,(i:Int),(m:Int)+1,kd,nd,o,s,v))=((R i)[m]?).or (nP fresh (i:Int) ((m:Int)+1))):=by
     show nP (lY R++fresh) (i:Int) ((m:Int)+1)=_
     rw [He,hN.A hi]
    cases hy:(R i)[m]? with
    | some y=>
     obtain ⟨t',b',n',kd',nd',o',s',v'⟩:=y;have ac:=Jk V ao cap R i m _ (HE.o.2.1.later H2.o.1.m8) hi zj hy;unfold kV mH at ac;refine ac.mono ?_;rintro e w2 ⟨rfl,hb2⟩
     have H3:Aside (X0 w S ao cap R l k fresh ov w2/\m6 w2 P (t,(i:Int),(m:Int)+1,kd,nd,o,s,v)):=⟨H2.o.1.later hb2,H2.o.2.1.later hb2⟩
     have hpl:=H3.o.2.lt;obtain ⟨y0,y1,y2,y3,y4,y5,y6,y7,f8⟩:=m6.ct H3.o.2
     have heq:=fun w=>zem t' b' n' kd' nd' o' s' v' t (i:Int) ((m:Int)+1) kd nd o s v w
     have HY:Aside ((R i)[m]? =some (t',b',n',kd',nd',o',s',v')):=hy
     cases hq:eqB t' b' n' kd' nd' o' s' v' t (i:Int) ((m:Int)+1) kd nd o s v with
     | true=>
      have HQ:Aside ((t',b',n',kd',nd',o',s',v')=(t,(i:Int),(m:Int)+1,kd,nd,o,s,v)):=by
       exact kk9
      rw [hq] at heq;go_wp2;go_roundg (l.length - (k+1))
      case measure=>omega
      case rel=>
       have fF:=H3.o.1.later ((uO w2.heap.size w2).alloc zg (qOc t' b' n' kd' nd' o' s' v'));refine ⟨k+1,fresh,ov,zJ,rfl,zj,uM _,⟨fF.m8,fF.F9,fF.map.mono zj,fF.row,fF.fk,?_,by have:=fF.y9;omega⟩⟩;rw [fF.is,cF.o];exact sW gD.o (by rw [dL.o,HY.o,HQ.o];rfl)
     | false=>
      have HQ:Aside ((t',b',n',kd',nd',o',s',v')≠(t,(i:Int),(m:Int)+1,kd,nd,o,s,v)):=fun e=>by
       cases e
       rw [Kf] at hq
       cases hq
      rw [hq] at heq;have x6:=HX.o;have x6:=(H3.o.1.m8.cell (p:=(qB 6)) (uP w (qB 6) HX.o)).trans HX.o;have ce:6<w2.heap.size:=uP w2 (qB 6) x6;go_wp2;go_region
      all_goals
       go_wp2;go_ret2;unfold Be;rw [A.o.is,cF.o,sC gD.o (by rw [dL.o,HY.o];rfl) HQ.o];exact ki6
    | none=>
     have ac:=JW V ao cap R i m hi (List.getElem?_eq_none_iff.1 hy);unfold kV mH lQ at ac;refine ac.mono ?_;rintro e w2 ⟨rfl,hb2⟩
     have H3:Aside (X0 w S ao cap R l k fresh ov w2/\m6 w2 P (t,(i:Int),(m:Int)+1,kd,nd,o,s,v)/\w2.heap[Q]? =some (.cells #[qN i,qI ((m:Int)+1)] 300 (0,0))/\P<Q/\S+1<P):=⟨H2.o.1.later hb2,H2.o.2.1.later hb2,(hb2.block Q (by have:=H2.o.2.2.2.2.2;omega)).trans H2.o.2.2.1,H2.o.2.2.2.1,H2.o.2.2.2.2.1⟩
     have hpl:=H3.o.2.1.lt;have hql:=(uN.1 H3.o.2.2.1).1;obtain ⟨y0,y1,y2,y3,y4,y5,y6,y7,f8⟩:=m6.ct H3.o.2.1
     obtain ⟨q0,q1⟩:w2.cell? (qB Q)=some (qN i)/\w2.cell? (qA Q 1)=some (qI ((m:Int)+1)):=by
      have:=H3.o.2.2.1;constructor<;>simp [World.cell?,this]
     have HN:Aside ((R i)[m]? =none):=hy;have bE:WfN ((i:Int),(m:Int)+1):=zb8 zj zj zj zj;have cq:=(H3.o.1.map.same (uT w2 qZc (S+1) H3.o.1.map.lt)).A bE;unfold No at cq;dsimp only at cq
     cases hy:nP fresh (i:Int) ((m:Int)+1) with
     | some y=>
      obtain ⟨t',b',n',kd',nd',o',s',v'⟩:=y;rw [hy] at cq;unfold mH at cq;dsimp only [Option.getD_some,Option.isSome_some] at cq
      have heq:=fun w=>zem t' b' n' kd' nd' o' s' v' t (i:Int) ((m:Int)+1) kd nd o s v w
      have HY:Aside (nP fresh (i:Int) ((m:Int)+1)=some (t',b',n',kd',nd',o',s',v')):=hy
      cases hq:eqB t' b' n' kd' nd' o' s' v' t (i:Int) ((m:Int)+1) kd nd o s v with
      | true=>
       have HQ:Aside ((t',b',n',kd',nd',o',s',v')=(t,(i:Int),(m:Int)+1,kd,nd,o,s,v)):=by
        exact kk9
       rw [hq] at heq;go_wp2;go_roundg (l.length - (k+1))
       case measure=>omega
       case rel=>
        have fF:=H3.o.1.later ((uO w2.heap.size w2).alloc zg (qOc t' b' n' kd' nd' o' s' v'));refine ⟨k+1,fresh,ov,zJ,rfl,zj,uM _,⟨fF.m8,fF.F9,fF.map.mono zj,fF.row,fF.fk,?_,by have:=fF.y9;omega⟩⟩;rw [fF.is,cF.o];exact sW gD.o (by rw [dL.o,HN.o,HY.o,HQ.o];rfl)
      | false=>
       have HQ:Aside ((t',b',n',kd',nd',o',s',v')≠(t,(i:Int),(m:Int)+1,kd,nd,o,s,v)):=fun e=>by
        cases e
        rw [Kf] at hq
        cases hq
       rw [hq] at heq;have x6:=HX.o;have x6:=(H3.o.1.m8.cell (p:=(qB 6)) (uP w (qB 6) HX.o)).trans HX.o;have ce:6<w2.heap.size:=uP w2 (qB 6) x6;go_wp2;go_region
       all_goals
        go_wp2;go_ret2;unfold Be;rw [A.o.is,cF.o,sC gD.o (by rw [dL.o,HN.o,HY.o];rfl) HQ.o];exact ki6
     | none=>
      rw [hy] at cq;unfold mH lQ at cq;dsimp only [Option.getD_none,Option.isSome_none] at cq;have HY:Aside (nP fresh (i:Int) ((m:Int)+1)=none):=hy;have hlen:=A.o.y9
      have hmapZ:=(H3.o.1.map.same (uT w2 qZc (S+1) H3.o.1.map.lt))
      obtain ⟨w3,ae,gB,hT3⟩:=hmapZ.store zB bE (t,(i:Int),(m:Int)+1,kd,nd,o,s,v);have K3:=lS hT3.grown;have HZ:=H3.o.1.later ((uO w2.heap.size w2).alloc zg qZc);have hO3:m6 w3 P (t,(i:Int),(m:Int)+1,kd,nd,o,s,v):=(K3.block P zl (fun e=>by have:=H3.o.2.2.2.2;simp at e;omega)).trans (H3.o.2.1.later ((uO w2.heap.size w2).alloc zg _));have hB3:=HZ.m8.trans (K3.m8 HZ.m8.size (fun k e=>by have:=HE.o.2.2.2;simp at e;omega));have hR3:=mE HZ.row (fun g hg=>K3.block g (HZ.row.lt g hg).2 (fun e=>by have:=(HZ.row.lt g hg).1;simp at e;omega));have hX3:I5 w3 S ao cap R:=(K3.block S HZ.F9.lt (fun e=>by simp at e)).trans HZ.F9
      have hM3':L3 w3 (S+1) (k+1) (fun q=>nP (fresh++ [(t,(i:Int),(m:Int)+1,kd,nd,o,s,v)]) q.1 q.2):=by
       rw [PI]
       have e:(fun q:WG=>if q=(byO (t,(i:Int),(m:Int)+1,kd,nd,o,s,v),mB (t,(i:Int),(m:Int)+1,kd,nd,o,s,v)) then (nP fresh q.1 q.2).or (some (t,(i:Int),(m:Int)+1,kd,nd,o,s,v)) else nP fresh q.1 q.2)=(fun q:WG=>if q=((i:Int),(m:Int)+1) then some (t,(i:Int),(m:Int)+1,kd,nd,o,s,v) else nP fresh q.1 q.2):=by
        funext q
        show (if q=((i:Int),(m:Int)+1) then _ else _)=_
        split
        ·rename_i e;rw [e];show (nP fresh (i:Int) ((m:Int)+1)).or _=_;rw [HY.o];rfl
        rfl
       rw [e];exact gB
      obtain ⟨z0,z1,z2,z3,z4,z5,z6,z7,g8⟩:=m6.ct hO3
      have H4:Aside (qL w w3/\I5 w3 S ao cap R/\L3 w3 (S+1) (k+1) (fun q=>nP (fresh++ [(t,(i:Int),(m:Int)+1,kd,nd,o,s,v)]) q.1 q.2)/\w3.ownsRow (S+2) 88 8 ov fresh.length (cellsOf fresh)/\S+1<w3.heap.size):=⟨hB3,hX3,hM3',hR3,hM3'.lt⟩
      unfold No mH at ae;dsimp only at ae;obtain ⟨i0,dY,aD,aw,aJ⟩:=info_parts rD;go_wp2_with (at_builtin;refine wpList_append_own _ rfl _ _ 136 rfl (S+2) 88 i0 _ 8 80 underlying136 dY aD aw aJ rfl zj _ _ _ rfl (H4.o.2.2.2.1.alloc _) (qB w3.heap.size) 1 1 (nD (t,(i:Int),(m:Int)+1,kd,nd,o,s,v)) rfl ?qc1 ?qc2 ?qc3 ?qc4 ?qc5 ?qc6 ?_)
      case qc1=>rfl
      case qc2=>exact pU w3 (t,(i:Int),(m:Int)+1,kd,nd,o,s,v) _
      case qc3=>exact oY _
      case qc4=>simp only [maxLen];omega
      case qc5=>omega
      case qc6=>simp;have:=H4.o.2.2.2.2;omega
      intro v' w4 hown ag hnil;have K4:=lS ag
      have hN:Aside (X0 w S ao cap R l (k+1) (fresh++ [(t,(i:Int),(m:Int)+1,kd,nd,o,s,v)]) v' w4):=by
       have jb:qL w3 (w3.alloc (qOc t (i:Int) ((m:Int)+1) kd nd o s v)):=zh w3 _;have hrow:=H4.o.2.2.2.1;have hsz:=H4.o.2.2.2.2
       have hne:∀g,some g=ov.ownBlock->S+2<=g:=fun g hg=>(hrow.lt g hg.symm).1
       refine ⟨?_,?_,?_,?_,A.o.fk.aaV gD.o ?_,?_,zl⟩
       ·exact (zi H4.o.1 jb).trans (K4.m8 (uQ H4.o.1.size jb.size) (fun g hg=>by have:=hne g hg;have:=HE.o.2.2.2;omega))
       ·exact (K4.block S zl (fun e=>by have:=hne S e;omega)).trans ((jb.block S zj).trans H4.o.2.1)
       ·exact H4.o.2.2.1.same ((K4.block (S+1) zl (fun e=>by have:=hne _ e;omega)).trans (jb.block _ hsz))
       ·rw [oL,uS]
        have:cellsOf [(t,(i:Int),(m:Int)+1,kd,nd,o,s,v)]=nD (t,(i:Int),(m:Int)+1,kd,nd,o,s,v):=by simp [cellsOf]
        rw [this];exact hown
       ·rw [dL.o,HN.o,HY.o];rfl
       rw [A.o.is,cF.o,Bl gD.o (by rw [dL.o,HN.o,HY.o];rfl)]
      go_wp2;go_roundg (l.length - (k+1))
      case measure=>omega
      case rel=>exact ⟨k+1,_,_,zJ,rfl,zj,uM _,hN.o⟩
   obtain ⟨c,hc⟩:=za (mz (t,b,n,kd,nd,o,s,v));rw [<-hc] at bH
   have a8:eV ad c= .iface 437 (.pointer (some (ad (c - 1)))):=by unfold eV;rw [if_neg zj]
   rw [a8] at bH
   have HC:Aside (mz (t,b,n,kd,nd,o,s,v)≠0/\c=mz (t,b,n,kd,nd,o,s,v)/\eV ad c= .iface 437 (.pointer (some (ad (c - 1))))):=⟨aF,hc,a8⟩
   clear a8 hc aF;go_wp2_with fail;rw [<-hU];refine bH.mono ?_;rintro e w1 ⟨rfl,hb1⟩;have B1:Aside (qL w w1):=(H1.o.1.later hb1).m8;go_wp2;go_ret2;unfold Be;rw [A.o.is,cF.o,Es HC.o.1];exact ⟨⟨_,rfl,w1.heap.size,rfl,by rw [<-HC.o.2.1,HC.o.2.2];exact heap_alloc_new w1 _⟩,B1.o.alloc B1.o.size _⟩
  have d1:qlt k l.length=false:=zl;go_wp2;go_ret2;unfold Be;have:=A.o.is;rw [YA zj,nh] at this;rw [this];refine ⟨⟨_,rfl,JK A.o.row (by have:=HE.o.2.2.2;omega)⟩,A.o.m8⟩
end
section
open RowKit Lib Go.Sort
section
variable {P:Program} {ops:Array Oper} {Q:Exit→Act→World→Prop} {md:Region.Mode} {S:World→Prop}
theorem AB{i j}{oi oj}{fuel}{listed}{a}{w}(hr:Region.ready md ops listed= [i,j])(hoi:ops[i]? =some oi)(hoj:ops[j]? =some oj)
  (h1:∀K:Act->World->Prop,(∀a' w',S w'->wpAnyH P md ops Q S fuel (listed.setIfInBounds i true) a' w'->K a' w')->if Region.wanted oi (yielded ops a.tmps)=true then Oper.wp P oi a w K Q else K (a.put oi.dst undef) w)
  (h2:∀K:Act->World->Prop,(∀a' w',S w'->wpAnyH P md ops Q S fuel (listed.setIfInBounds j true) a' w'->K a' w')->if Region.wanted oj (yielded ops a.tmps)=true then Oper.wp P oj a w K Q else K (a.put oj.dst undef) w):wpAnyH P md ops Q S (fuel+1) listed a w:=by
 refine ⟨fun h0=>zM,fun k hk=> ?_⟩;rw [hr] at hk;simp only [uZ,ZS,or_false] at hk
 rcases hk with rfl | rfl
 ·have:=h1 (fun a' w'=>S w'/\wpAnyH P md ops Q S fuel (listed.setIfInBounds k true) a' w') (fun a' w' h1 h2=>⟨h1,h2⟩);unfold wpOp
  grind
 have:=h2 (fun a' w'=>S w'/\wpAnyH P md ops Q S fuel (listed.setIfInBounds k true) a' w') (fun a' w' h1 h2=>⟨h1,h2⟩);unfold wpOp
 grind
end
end
section
open RowKit Shelf
attribute [local go_sem] Oper.semAt_some
theorem zeH(a b c d)(w):(Op.equalIn 10000 86 (.agg #[qI a,qI b]) (.agg #[qI c,qI d])).run prog w= .ok (decide ((a,b)=(c,d))) w:=by
 go_simp
 grind
theorem GT(a b):pY a.1 a.2 b.1 b.2=true↔SLt a b:=by
 unfold pY SLt
 grind
theorem Ru(F)(n)(h5:F.fn 331)(cO:F.round=none)(a)(y9 cap)(w):
  CallsIn F n prog 331 #[.slice a y9 cap] w fun e w'=>e= .returned (.func (.func 367) #[] #[qP w.heap.size])/\w'=w.alloc (.cells #[.slice a y9 cap] 186):=by
 refine callsIn_of_wp func331 rfl h5 ?_ cO;simp only [ntmps331,Zn,Zd,Zt,Nat.reduceAdd,Nat.reduceSub,Zx,Zy,ZH,ZC,ZE,ZI];gi_wp2;go_ret;exact kh6
theorem EP(F)(n)(h7:F.fn 367)(cO:F.round=none)(hn:1<=n)(Bs g off cap)(ao)(L)(hlen:L.length<=1000)(aH:L= []\/ao=some (qA g off))(w)(bN:Bs<w.heap.size)(hg:g<w.heap.size)
  (hc:w.cell? (qB Bs)=some (.slice ao L.length cap)) (hI:V6 w g off L):
  SeqStopsK F n prog 367 #[qP Bs] (zc9 L) (E5 g Bs) (fun ys=>ys=List.range L.length) (fun pre=>∃k,k<=L.length/\pre=List.range k) L.length w:=fun l J Jx W hW _ _ hY h0=>by
 have fC:=(hW.cell (p:=(qB Bs)) bN).trans hc;exact VR F n h7 cO hn l Bs g off cap ao L hlen aH J Jx hY W fC (hI.same (hW.block g hg)) h0
def aaF(w:qW)(b:Nat)(s:Int×Int):Prop:=w.heap[b]? =some (.cells #[qI s.1,qI s.2] 86 (0,0))
theorem aaF.c0{w}{b}{s}(h:aaF w b s):w.cell? (qB b)=some (qI s.1):=by unfold aaF at h;simp [World.cell?,h]
theorem aaF.c1{w}{b}{s}(h:aaF w b s):w.cell? (qA b 1)=some (qI s.2):=by unfold aaF at h;simp [World.cell?,h]
def aa6(w:qW)(b:Nat)(x:Ent):Prop:=w.heap[b]? =some (.cells #[qI x.1.1.1,qI x.1.1.2,qI x.1.2.1,qI x.1.2.2.1,.string x.1.2.2.2,qI x.2.1,qI x.2.2.1,.string x.2.2.2] 348 (0,0))
theorem aa6.cell{w}{b}{x}(h:aa6 w b x)(c){u}(hu:(tH x)[c]? =some u):w.cell? (qA b c)=some u:=by
 unfold aa6 at h;simp only [World.cell?,h];rw [<-hu];simp [tH]
theorem nW{X Y:qW}{row}{b:Nat}{cs}{t}{fr}(h:X.heap[b]? =some (.cells cs t fr))(hg:X.grownBy Y row)(hr:∀r,row=some r->∃o:Obj,X.heap[r]? =some o/\o.isCells=false):Y.heap[b]? =some (.cells cs t fr):=by
 refine (hg.block b (uN.1 h).1 (fun e=> ?_)).trans h;obtain ⟨o',ho',fC⟩:=hr b e.symm;rw [h] at ho'
 cases ho'
 cases fC
theorem zc5(w:qW)(o1 o2):((w.alloc o1).alloc o2).heap[w.heap.size]? =some o1/\((w.alloc o1).alloc o2).heap[w.heap.size+1]? =some o2:=by
 grind [uT,heap_alloc_new,Zv]
theorem zbU(w:qW)(o1 o2 o3 o4):((((w.alloc o1).alloc o2).alloc o3).alloc o4).heap[w.heap.size]? =some o1/\((((w.alloc o1).alloc o2).alloc o3).alloc o4).heap[w.heap.size+1]? =some o2/\((((w.alloc o1).alloc o2).alloc o3).alloc o4).heap[w.heap.size+1+1]? =some o3/\((((w.alloc o1).alloc o2).alloc o3).alloc o4).heap[w.heap.size+1+1+1]? =some o4:=by
 grind [zc5,Zv,uT]
theorem JZ{W}{b1 b2}{t1 t2}{v1 v2}(u1 u2)(h1:Boxed W b1 t1 v1)(h2:Boxed W b2 t2 v2)(hne:b1≠b2):
  Boxed ((W.setCell (qB b1) u1).setCell (qB b2) u2) b1 t1 u1/\Boxed ((W.setCell (qB b1) u1).setCell (qB b2) u2) b2 t2 u2:=
 ⟨(h1.set u1).kept (grownBy_setCell' _ _ _) (by simp [hne]),(h2.kept (grownBy_setCell' _ _ _) zl).set u2⟩
theorem rg{N}{W W'}(h:qL W W'):KeepsFrom N W W':=
 ⟨h.size,fun k _ _ hk _=>(h.block k (uN.1 hk).1).trans hk⟩
theorem FZ{g b}{W W'}(h:qL W W')(hg:g<W.heap.size)(hb:b<W.heap.size):E5 g b W W':=⟨h.block g hg,h.block b hb⟩
theorem sG{pre}{x}(h:pre++ [x]=List.range (pre++ [x]).length):pre=List.range pre.length/\x=pre.length:=by
 rw [uS,ZO,Yt] at h
 grind [List.append_inj']
theorem Fw{L}{r}(h:r<L.length):L[L.length - 1 - r]? =some (nv L r):=by
 grind [nv,uL]
theorem Km(w)(bt g cap)(ao)(L)(ms)(s)(hm:L.map (·.1)=ms)(bK:ml ms)(hlen:L.length<=1000)(gG:w.cell? ⟨bt,1,none⟩=some (.slice ao L.length cap))(aH:L= []\/ao=some ⟨g,0,none⟩)(hg:g<w.heap.size)(hrow:V6 w g 0 L):
  Calls prog 274 #[.pointer (some ⟨bt,0,none⟩),.agg #[.int .i64 s.1,.int .i64 s.2]] w fun e w'=>(∃(i:Nat) (b:Bool),e= .returned (.tuple #[.int .i64 (i:Int),.bool b])/\Ie ms s i b)/\Below w.heap.size w w':=by
 have hbt:bt<w.heap.size:=block_lt_of_cell gG
 have hsl3:∀o1 o2 o3,(((w.alloc o1).alloc o2).alloc o3).cell? ⟨bt,1,none⟩=some (.slice ao L.length cap):=fun o1 o2 o3=>
  (((((uO w.heap.size w).alloc zg o1).alloc zq o2).alloc zl o3).cell (p:=⟨bt,1,none⟩) hbt).trans gG
 refine (callsIn_wide (n:=4)).1 ?_;refine callsIn_of_wp_marks func274 rfl trivial ?_ rfl;simp only [ntmps274,Zn,Zd,Zt,Nat.reduceAdd,Nat.reduceSub,Zx,Zy,ZH,ZC,ZE,ZI];gi_wp2_with (refine ⟨trivial,?_⟩;gi_at_call 331;refine (Ru Fence.wide (4 - 1) trivial rfl _ _ _ _).mono ?_;rintro e w' ⟨rfl,rfl⟩);obtain ⟨w4,cR⟩:=za ((((w.alloc (.cells #[.int .i64 s.1,.int .i64 s.2] 86)).alloc (.cells #[.int .i64 0] 3)).alloc (.cells #[.bool false] 4)).alloc (.cells #[.slice ao L.length cap] 186));rw [<-cR]
 have cg:Below w.heap.size w w4:=by rw [cR];exact (((((uO w.heap.size w).alloc zg _).alloc zq _).alloc zl _).alloc zl _)
 have iR:w4.heap.size=w.heap.size+4:=by rw [cR];simp
 obtain ⟨B,hB⟩:=za w.heap.size
 have e1:aaF w4 B s:=by rw [cR,hB];exact (zbU w _ _ _ _).1
 have e2:Boxed w4 (B+1) 3 (.int .i64 0):=by rw [cR,hB];exact (zbU w _ _ _ _).2.1
 have e3:Boxed w4 (B+1+1) 4 (.bool false):=by rw [cR,hB];exact (zbU w _ _ _ _).2.2.1
 have e4:Boxed w4 (B+1+1+1) 186 (.slice ao L.length cap):=by rw [cR,hB];exact (zbU w _ _ _ _).2.2.2
 rw [<-hB] at cg iR hg hbt |-
 have HB:Aside (B=w.heap.size):=hB;have bI:B<=w.heap.size:=zj;clear hB;have g6:=hrow.same (cg.block g hg)
 have js:ms.length=L.length:=by rw [<-hm];simp
 clear cR hsl3 hrow
 refine wpIn_rangeFunc_ownH rfl zj (gf:=367) (lb:= #[.pointer (some ⟨B+1+1+1,0,none⟩)]) rfl trivial (enters_of func367 zk rfl)
  (EP Fence.wide (4 - 1) trivial rfl zj (B+1+1+1) g 0 cap ao L hlen aH w4 zj zj e4.cell g6) E5.trans (fun W l o o' hl _ _ _=>E5.put (N:=w4.heap.size) zj zj W l o' hl) (uO _ _) (fun _=>rfl)
  (fun pre W=>((pre=List.range pre.length->MM ms s (L.length - pre.length))/\aaF W B s/\Boxed W (B+1) 3 (.int .i64 0)/\Boxed W (B+1+1) 4 (.bool false)/\w4.heap.size<=W.heap.size)/\Below B w W)
  (fun c pre W=>(c= .ret/\(pre=List.range pre.length->∃(i:Nat) (b:Bool),Ie ms s i b/\Boxed W (B+1) 3 (.int .i64 (i:Int))/\Boxed W (B+1+1) 4 (.bool b)))/\Below B w W)
  (OwnFrom.and (Own.from (fun _ X Y row hs hg hr=>⟨hs.1,nW hs.2.1 hg hr,nW hs.2.2.1 hg hr,nW hs.2.2.2.1 hg hr,uQ hs.2.2.2.2 hg.size⟩) _) (ownFrom_below zj zj))
  (fun c=>OwnFrom.and (Own.from (fun _ X Y row hs hg hr=>⟨hs.1,fun hp=>by obtain ⟨i,b,f1,f2,f3⟩:=hs.2 hp;exact ⟨i,b,f1,nW f2 hg hr,nW f3 hg hr⟩⟩) _) (ownFrom_below zj zj))
  ⟨⟨fun _=>by rw [Zt,Nat.sub_zero,<-js];exact Oa ms s,e1,e2,e3,uM _⟩,cg⟩
  (fun x a' W=>∃Bx,w4.heap.size<=Bx/\aa6 W Bx (nv L x)/\a'= {tmps:= #[.pointer (some ⟨bt,0,none⟩),.agg #[.int .i64 s.1,.int .i64 s.2],undef,.pointer (some ⟨B,0,none⟩),.pointer (some ⟨B+1,0,none⟩),.pointer (some ⟨B+1+1,0,none⟩),.int .i64 ((L.length - 1 - x:Nat):Int),.pointer (some ⟨Bx,0,none⟩),.pointer (some ⟨bt,0,none⟩),.pointer (some ⟨bt,0,none⟩),.pointer (some ⟨bt,1,none⟩),.slice ao L.length cap,.func (.func 367) #[] #[.pointer (some ⟨B+1+1+1,0,none⟩)],.int .i64 ((L.length - 1 - x:Nat):Int),.agg #[.int .i64 (nv L x).1.1.1,.int .i64 (nv L x).1.1.2,.int .i64 (nv L x).1.2.1,.int .i64 (nv L x).1.2.2.1,.string (nv L x).1.2.2.2,.int .i64 (nv L x).2.1,.int .i64 (nv L x).2.2.1,.string (nv L x).2.2.2],undef,undef,undef,undef,undef,undef,undef,undef,undef,undef,undef],defers:=[]})
  (fun x a'=>Own.from (fun _ X Y row hs hg hr=>zZ) _)
  ?assign ?body ?done ?stop
 case assign=>
  rintro l pre x W K ⟨⟨jy,hst,hr1,hr2,hsz⟩,hBW⟩ hK;have bN:B<=W.heap.size:=zj;have df:Aside _:=hK
  have H1:Aside (aaF W B s/\Boxed W (B+1) 3 (.int .i64 0)/\Boxed W (B+1+1) 4 (.bool false)/\Below B w W):=⟨hst,hr1,hr2,hBW⟩
  clear hK hst hr1 hr2 hBW;unfold zc9;gi_wp2;refine df.o _ _ ((KeepsOthers.alloc _ _).from _) ⟨uT _ _ _ zj,uT _ _ _ zj⟩ ⟨⟨jy,?_,H1.o.2.1.alloc _,H1.o.2.2.1.alloc _,zl⟩,H1.o.2.2.2.alloc bN _⟩ ⟨W.heap.size,zj,heap_alloc_new W _,rfl⟩;exact (uT _ _ _ zj).trans H1.o.1
 case body=>
  rintro l pre x a' W hl _ ⟨⟨jy,hst,hr1,hr2,hsz⟩,hBW⟩ ⟨Bx,hBx,hE,rfl⟩ hlt;have k0:=hst.c0;have k1:=hst.c1;have f0:=hE.cell 0 (u:=.int .i64 (nv L x).1.1.1) rfl;have f1:=hE.cell 1 (u:=.int .i64 (nv L x).1.1.2) rfl;have g1:=hr1.cell;have g2:=hr1.frozen;have g3:=hr2.cell;have g4:=hr2.frozen;have hq:=zeH (nv L x).1.1.1 (nv L x).1.1.2 s.1 s.2;by_cases he:(nv L x).1.1=s
  ·have hd:decide (((nv L x).1.1.1,(nv L x).1.1.2)=(s.1,s.2))=true:=decide_eq_true he;rw [hd] at hq;gi_wp2;obtain ⟨q1,q2⟩:=JZ (.int .i64 ((L.length - 1 - x:Nat):Int)) (.bool true) hr1 hr2 zj;refine ⟨((KeepsOthers.setCell _ _ _).trans (KeepsOthers.setCell _ _ _)).from _,⟨rfl,fun hp=> ?_⟩,(hBW.setCell (p:=⟨B+1,0,none⟩) zN _).setCell (p:=⟨B+1+1,0,none⟩) zN _⟩;obtain ⟨bR,gm⟩:=sG hp;have cE:=Fw (L:=L) (r:=x) zj;exact ⟨L.length - 1 - x,true,La (m:=(nv L x).1) zN he,q1,q2⟩
  have hd:decide (((nv L x).1.1.1,(nv L x).1.1.2)=(s.1,s.2))=false:=decide_eq_false he;rw [hd] at hq;by_cases hls:SLt (nv L x).1.1 s
  ·have hlb:=(GT (nv L x).1.1 s).2 hls;have eJ:=Ec (nv L x).1.1.1 (nv L x).1.1.2 s.1 s.2 W;rw [hlb] at eJ;have hw1:IntKind.i64.wrap (((L.length - 1 - x:Nat):Int)+1)=((L.length - 1 - x:Nat):Int)+1:=zw
   have G:Aside (Boxed W (B+1) 3 (.int .i64 0)/\Boxed W (B+1+1) 4 (.bool false)):=⟨hr1,hr2⟩
   gi_wp2_with (refine ⟨trivial,?_⟩;gi_at_call 218;refine (CallsIn.inRound l (callsIn_wide.2 eJ)).mono ?_;rintro e w' ⟨rfl,hb'⟩;have G1:Aside (Boxed w' (B+1) 3 (.int .i64 0)/\Boxed w' (B+1+1) 4 (.bool false)):=⟨(hb'.block _ zj).trans G.o.1,(hb'.block _ zj).trans G.o.2⟩;have m1:=G1.o.1.cell;have m2:=G1.o.1.frozen;have m3:=G1.o.2.cell;have m4:=G1.o.2.frozen);obtain ⟨q1,q2⟩:=JZ (.int .i64 (((L.length - 1 - x:Nat):Int)+1)) (.bool false) G1.o.1 G1.o.2 zj;refine ⟨(rg hb').trans (((KeepsOthers.setCell _ _ _).trans (KeepsOthers.setCell _ _ _)).from _),⟨rfl,fun hp=> ?_⟩,((hBW.trans (hb'.mono zj)).setCell (p:=⟨B+1,0,none⟩) zN _).setCell (p:=⟨B+1+1,0,none⟩) zN _⟩;obtain ⟨bR,gm⟩:=sG hp;have cE:=Fw (L:=L) (r:=x) zj;exact ⟨L.length - 1 - x+1,false,Ll (m:=(nv L x).1) bK zN zN hls,q1,q2⟩
  have hlb:pY (nv L x).1.1.1 (nv L x).1.1.2 s.1 s.2=false:=by
   cases hh:pY (nv L x).1.1.1 (nv L x).1.1.2 s.1 s.2 with
   | false=>rfl
   | true=>grind [GT,nv]
  have eJ:=Ec (nv L x).1.1.1 (nv L x).1.1.2 s.1 s.2 W;rw [hlb] at eJ;gi_wp2_with (refine ⟨trivial,?_⟩;gi_at_call 218;refine (CallsIn.inRound l (callsIn_wide.2 eJ)).mono ?_;rintro e w' ⟨rfl,hb'⟩);refine ⟨rg hb',FZ hb' zj zj,⟨⟨fun hp=> ?_,(hb'.block _ zj).trans hst,(hb'.block _ zj).trans hr1,(hb'.block _ zj).trans hr2,by have:=hb'.size;omega⟩,hBW.trans (hb'.mono zj)⟩⟩;obtain ⟨bR,gm⟩:=sG hp;have cE:=Fw (L:=L) (r:=x) zj;have h1:=jy bR;rw [show L.length - pre.length=L.length - 1 - x+1 by omega] at h1;rw [uS,ZO,show L.length - (pre.length+1)=L.length - 1 - x by omega];exact ML (m:=(nv L x).1) h1 zN he hls
 case done=>
  rintro D ys W hD rfl ⟨⟨jy,hst,hr1,hr2,hsz⟩,hBW⟩ hK;have g1:=hr1.cell;have g2:=hr1.frozen;have g3:=hr2.cell;have g4:=hr2.frozen;gi_wp2;have df:=((KeepsOthers.setCell W ⟨B+1,0,none⟩ (.int .i64 0)).trans (KeepsOthers.setCell _ ⟨B+1+1,0,none⟩ (.bool false))).same D _ hK rfl;refine ⟨zq,.inl ⟨_,_,rfl,run_takeDeferred df,?_⟩⟩;obtain ⟨q1,q2⟩:=JZ (.int .i64 0) (.bool false) hr1 hr2 zj;have q3:Boxed _ (B+1) 3 (.int .i64 0):=nW q1 (grownBy_putObj' _ D (.deferred none)) (fun r e=>by cases e;exact ⟨_,df,rfl⟩);have q4:Boxed _ (B+1+1) 4 (.bool false):=nW q2 (grownBy_putObj' _ D (.deferred none)) (fun r e=>by cases e;exact ⟨_,df,rfl⟩);have q5:=q3.cell;have q6:=q4.cell;refine ⟨.tuple #[.int .i64 0,.bool false],?_,⟨0,false,rfl,IA zM⟩,?_⟩
  ·simp [results,f274,go_sem,q5,q6]
  rw [<-HB.o];exact ((hBW.setCell (p:=⟨B+1,0,none⟩) zM _).setCell (p:=⟨B+1+1,0,none⟩) zN _).trans (belowK_b (w:=w) zj _ D _ _ yK df rfl rfl)
 case stop=>
  rintro D c pre W hD ⟨k,hk,rfl⟩ ⟨⟨rfl,hf⟩,hBW⟩ hK;obtain ⟨i,b,hF,hr1,hr2⟩:=hf zq;gi_wp2;refine ⟨zq,.inl ⟨_,_,rfl,run_takeDeferred hK,?_⟩⟩;have q3:Boxed _ (B+1) 3 (.int .i64 (i:Int)):=nW hr1 (grownBy_putObj' _ D (.deferred none)) (fun r e=>by cases e;exact ⟨_,hK,rfl⟩);have q4:Boxed _ (B+1+1) 4 (.bool b):=nW hr2 (grownBy_putObj' _ D (.deferred none)) (fun r e=>by cases e;exact ⟨_,hK,rfl⟩);have q5:=q3.cell;have q6:=q4.cell;refine ⟨.tuple #[.int .i64 (i:Int),.bool b],?_,⟨i,b,rfl,hF⟩,?_⟩
  ·simp [results,f274,go_sem,q5,q6]
  exact ke6
end
section
open RowKit
def Ng(pb:Nat)(T t:Int)(w w':qW):Prop:=(T<t/\∃W,qL w W/\w'.heap=(W.setCell (qB pb) (qI t)).heap/\m7 (fun k=>k=pb) W w')\/(¬T<t/\qL w w')
theorem zbF(pb)(T c t b)(w)(hC:Clk pb T c w)(h1:1<=t)(h2:t<=1073741824)(h3:0<=b)(h4:b<4):
  qC 273 #[qP pb,.agg #[qI t,qI b]] w fun e w'=>e= .returned .nilIface/\Ng pb T t w w':=by
 have C0:=hC.later ((uO _ _).alloc zg (.cells #[qI t,qI b] 86));by_cases hgt:T<t
 ·have HT:Aside (T<t):=hgt;go_enter func273,ntmps273;go_wp2_with fail;refine (BC t b _ h1 h2 h3 h4).mono ?_;rintro e w1 ⟨rfl,hb⟩;have s0:w1.cell? (qB w.heap.size)=some (qI t):=cell_later hb zY;have B1:=(zh _ _).trans (hb.mono zq);have C1:=C0.later hb;obtain ⟨k0,k1,kf⟩:=C1;go_wp2;go_quiet (fail);go_wp2;go_ret;exact ⟨rfl,.inl ⟨HT.o,_,Go.below_drewN B1 _,rfl,lZ pb [_] 0 _⟩⟩
 have HT:Aside (¬T<t):=hgt;go_enter func273,ntmps273;go_wp2_with fail;refine (BC t b _ h1 h2 h3 h4).mono ?_;rintro e w1 ⟨rfl,hb⟩;have s0:w1.cell? (qB w.heap.size)=some (qI t):=cell_later hb zY;have B1:=(zh _ _).trans (hb.mono zq);have C1:=C0.later hb;obtain ⟨k0,k1,kf⟩:=C1;go_wp2;go_quiet (fail);go_wp2;go_ret;exact ⟨rfl,.inr ⟨by have:=HT.o;omega,Go.below_drewN B1 _⟩⟩
theorem Qh(pb)(T c t b)(w)(hC:Clk pb T c w)(h1:1<=t)(h2:t<=1073741824)(h3:0<=b)(h4:b<4):
  qC 224 #[qP pb,.agg #[qI t,qI b]] w fun e w'=>(∃u,e= .returned u)/\∃W,qL w W/\Ng pb T t W w':=by
 obtain ⟨S,hS⟩:=za w.heap.size;obtain ⟨U,hU⟩:=za (w.alloc (.cells #[qI t,qI b] 86));have hb:qL w U:=zX
 have hs:U.heap[S]? =some (.cells #[qI t,qI b] 86 (0,0)):=by rw [hU,hS];exact heap_alloc_new w _
 have s0:U.cell? (qB S)=some (qI t):=by simp [World.cell?,hs]
 have s1:U.cell? (qA S 1)=some (qI b):=by simp [World.cell?,hs]
 have ac:∀W,qL U W->qC 273 #[qP pb,.agg #[qI t,qI b]] W fun e w'=>e= .returned .nilIface/\Ng pb T t W w':=fun W hW=>zbF pb T c t b W ((hC.later hb).later hW) h1 h2 h3 h4
 have HB:Aside (qL w U):=hb;clear hb hs hC;go_enter func224,ntmps224;go_wp2_with fail;rw [<-hU,<-hS];clear hU hS;refine nT (S:=(fun w'=>qL U w')) (z:=4) zk (uO _ U).drew (fun aa=> ?_);refine lX (i:=0) (v:= ?va0) zo rfl zk zk zk (fun _ _ _ h=>h) (Or.inl ⟨zt,?hy0⟩) aa ?rest0
 case hy0=>(intro w' _;go_simp;try with_reducible rfl)
 refine qn ?_;refine lX (i:=1) (v:= ?va1) zo rfl zk zk zk (fun _ _ _ h=>h) (Or.inl ⟨zt,?hy1⟩) aa ?rest1
 case hy1=>(intro w' _;go_simp;try with_reducible rfl)
 refine qn ?_;refine lX (i:=2) (v:= ?va2) zo rfl zk zk zk (fun _ _ _ h=>h) (Or.inl ⟨zt,?hy2⟩) aa ?rest2
 case hy2=>(intro w' _;go_simp;try with_reducible rfl)
 refine qn ?_;refine mS (i:=3) (v:= ?va3) zo zk rfl zk zk zk zk (fun _ _ _ h=>h) (Or.inl ⟨zt,?hy3⟩) aa ?rest3
 case hy3=>(intro w' ab;have j0:=cell_later ab s0;have j1:=cell_later ab s1;go_simp;try with_reducible rfl)
 refine qn ?_;refine mY (i:=4) zk rfl (fun K hK=> ?_);go_simp;refine (ac U.drew (uO _ U).drew).mono ?_;clear ac;rintro e w' ⟨rfl,hh⟩;have HH:Aside (Ng pb T t U.drew w'):=hh;clear hh;refine hK _ _ (.inr ⟨rfl,zo⟩) ?_;clear hK K;refine ma zk ?_ _;go_wp2;go_end0;exact ⟨⟨_,rfl⟩,U.drew,HB.o.drew,HH.o⟩

end