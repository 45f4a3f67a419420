import Derived.Test.YtebpcnkdhgnghaaGreatDoorPM05
import Derived.Test.YtebpcnkdhgnghaaGreatDoorPM06
import Derived.Deep.DeepCutAuto
set_option linter.unusedSimpArgs false
set_option linter.unusedVariables false
set_option maxRecDepth 100000
set_option maxHeartbeats 64000000
namespace Go.Proofs.YtebpcnkdhgnghaaGreatDoor
open Go.Proofs.Tryz
variable {fn:Func} {id:Int} {b i:Nat} {ad:Nat→Addr} {cap:Nat→Nat} {ao:Nat→Option Addr} {x:OpX} {R:Rws} {p:Tmp} {ty:TypeId} {W w w':World}
section
open Go.RowKit Go.Lib Go.Sort
def kV (ao:Nat->Option Addr) (cap:Nat->Nat) (R:Rws):Value:=.agg #[.slice (ao 0) (R 0).length (cap 0),.slice (ao 1) (R 1).length (cap 1),.slice (ao 2) (R 2).length (cap 2),.slice (ao 3) (R 3).length (cap 3)]
def KnownAt (w:World) (ao:Nat->Option Addr) (R:Rws):Prop:=∀i,i<4->OpsIn w (ao i) (R i)
theorem KnownAt.later {w w':World} {ao:Nat->Option Addr} {R:Rws} (h:KnownAt w ao R) (hb:Below w.heap.size w w'):KnownAt w' ao R:=fun i hi=>(h i hi).later hb
def KBox (w:World) (b:Nat) (ao:Nat->Option Addr) (cap:Nat->Nat) (R:Rws):Prop:=w.heap[b]? =some (.cells #[.slice (ao 0) (R 0).length (cap 0),.slice (ao 1) (R 1).length (cap 1),.slice (ao 2) (R 2).length (cap 2),.slice (ao 3) (R 3).length (cap 3)] 112 (0,0))
theorem KBox.at (h:KBox w b ao cap R) (hi:i<4):w.cell? ⟨b,i,none⟩=some (.slice (ao i) (R i).length (cap i)):=by
 unfold KBox at h
 match i,hi with
 | 0,_=>simp [World.cell?,h]
 | 1,_=>simp [World.cell?,h]
 | 2,_=>simp [World.cell?,h]
 | 3,_=>simp [World.cell?,h]
theorem KBox.fz (h:KBox w b ao cap R) (o:Nat):w.frozen? ⟨b,o,none⟩=false:=by
 unfold KBox at h;simp [World.frozen?,h]
theorem KBox.lt (h:KBox w b ao cap R):b<w.heap.size:=(vD.1 h).1
theorem KBox.new (w:World) (ao:Nat->Option Addr) (cap:Nat->Nat) (R:Rws):KBox (w.alloc (.cells #[.slice (ao 0) (R 0).length (cap 0),.slice (ao 1) (R 1).length (cap 1),.slice (ao 2) (R 2).length (cap 2),.slice (ao 3) (R 3).length (cap 3)] 112)) w.heap.size ao cap R:=heap_alloc_new w _
theorem KBox.later (h:KBox w b ao cap R) (hb:Below w.heap.size w w'):KBox w' b ao cap R:=(hb.block b h.lt).trans h
theorem OpsIn.get {ao:Option Addr} {xs:List OpX} (h:OpsIn w ao xs) (hi:xs[i]? =some x):∃blk off,ao=some ⟨blk,off,none⟩/\∀c u,(bq x)[c]? =some u->w.cell? ⟨blk,off+i*8+c,none⟩=some u:=by
 rcases h with h | ⟨b,o,h1,h2⟩
 ·subst h;simp at hi
 refine ⟨b,o,h1,fun c u hc=> ?_⟩
 have hl:=(vA.1 hi)
 have h8:c<8:=(vA.1 hc).1;have e:=bd xs i c hl.1 h8;rw [uT];refine h2 _ _ (e.trans ?_);rw [getElem!_pos xs i hl.1,hl.2,getElem!_pos _ c jh,<-(vA.1 hc).2]
theorem dX {u:Tmp} (h:fn.results= #[.cell p ty,.tmp u]) (tmps:Array Value) (P:Program) (w:World):
  (results fn tmps).run P w=
   ((asAddr (tmps.getD p undef)).run P w).andThen fun a w1=>((loadVar ty a).run P w1).andThen fun v w2=>.ok (.tuple #[v,tmps.getD u undef]) w2:=by
 exact km0
theorem tE (w:World) (ao:Nat->Option Addr) (cap:Nat->Nat) (R:Rws) (i n:Nat) (hi:i<4) (hx:(R i).length<=n):
  Calls prog 124 #[kV ao cap R,.int .i64 (i:Int),.int .i64 ((n:Int)+1)] w fun e w'=>e= .returned (.tuple #[bT aR,.bool false])/\Below w.heap.size w w':=by
 unfold kV;have dn:decide (((R i).length:Int)<(n:Int)+1)=true:=zq;have h4:i=0\/i=1\/i=2\/i=3:=zj
 rcases h4 with rfl | rfl | rfl | rfl
 all_goals
  go_enter func124,ntmps124;go_wp2;(try simp only [Exit.inBlock,Exit.then]);refine bodyPost_ret (v:=.tuple #[bT aR,.bool false]) ?_ rfl ⟨rfl,?_⟩
  ·exact kf6
  exact (zh w _).alloc zt _
theorem wC (w:World) (ao:Nat->Option Addr) (cap:Nat->Nat) (R:Rws) (i n:Nat) (x:OpX) (hK:KnownAt w ao R) (hi:i<4) (hn:n<1000) (hx:(R i)[n]? =some x):
  Calls prog 124 #[kV ao cap R,.int .i64 (i:Int),.int .i64 ((n:Int)+1)] w fun e w'=>e= .returned (.tuple #[bT x,.bool true])/\Below w.heap.size w w':=by
 obtain ⟨blk,off,ha,hc⟩:=(hK i hi).get hx;have hln:=(vA.1 hx).1;obtain ⟨t,b,m,k,nd,o,s,v⟩:=x;have hbl:blk<w.heap.size:=vK w ⟨blk,off+n*8+0,none⟩ (hc 0 _ rfl)
 have hcell:∀o1 o2 c u,(bq (t,b,m,k,nd,o,s,v))[c]? =some u->((w.alloc o1).alloc o2).cell? ⟨blk,off+n*8+c,none⟩=some u:=fun o1 o2 c u hu=>by
  rw [(((vG w.heap.size w).alloc zg o1).alloc zt o2).cell (p:=⟨blk,off+n*8+c,none⟩) hbl];exact hc c u hu
 have r0:=fun o1 o2=>hcell o1 o2 0 _ rfl
 have r1:=fun o1 o2=>hcell o1 o2 1 _ rfl
 have r2:=fun o1 o2=>hcell o1 o2 2 _ rfl
 have r3:=fun o1 o2=>hcell o1 o2 3 _ rfl
 have r4:=fun o1 o2=>hcell o1 o2 4 _ rfl
 have r5:=fun o1 o2=>hcell o1 o2 5 _ rfl
 have r6:=fun o1 o2=>hcell o1 o2 6 _ rfl
 have r7:=fun o1 o2=>hcell o1 o2 7 _ rfl
 simp only [uZ] at r0;clear hcell hc;have dn:decide (((R i).length:Int)<(n:Int)+1)=false:=zq;have en:((n:Int)+1 - 1)=(n:Int):=zj;have wn:((n:Int)).toNat=n:=zj;have pn:(0:Int)<=(n:Int):=zj;have bn:(n:Int)<((R i).length:Int):=zj;have h4:i=0\/i=1\/i=2\/i=3:=zj;unfold kV bT
 rcases h4 with rfl | rfl | rfl | rfl
 all_goals
  rw [ha];clear ha;go_enter func124,ntmps124;go_wp2;(try simp only [Exit.inBlock,Exit.then]);refine bodyPost_ret (v:=.tuple #[.agg #[.int .i64 t,.int .i64 b,.int .i64 m,.int .u8 (k:Int),.int .i64 nd,.int .i64 o,.string s,.string v],.bool true]) ?_ rfl ⟨rfl,?_⟩
  ·exact kf7
  exact (zh w _).alloc zt _
end
section
open Go.RowKit Go.Lib Go.Sort
theorem AV (x:OpX) (tm:Int) (w:World):Calls prog 306 #[bT x,.int .i64 tm] w fun e w'=>e= .returned (.int .i64 (nw x.1 tm))/\Below w.heap.size w w':=by
 obtain ⟨t,b,n,k,nd,o,s,v⟩:=x;unfold bT;dsimp only;go_enter func306,ntmps306;go_wp2_with (go_at_call 99;refine (oL _ _ _).mono ?_;rintro e w' ⟨rfl,rfl⟩);go_ret;exact ⟨rfl,zh w _⟩
def Oz (xs:List OpX) (tm:Int) (i:Nat) (b:Bool):Prop:=i<=xs.length/\(∀j x,j<i->xs[j]? =some x->x.1<tm)/\(∀j x,i<=j->xs[j]? =some x->tm<=x.1)/\(b=true↔∃x,xs[i]? =some x/\x.1=tm)
def FY (xs:List OpX):Prop:=∀(i j:Nat) (x y:OpX),i<=j->xs[i]? =some x->xs[j]? =some y->x.1<=y.1
theorem tg (ao:Option Addr) (cap:Nat) (xs:List OpX) (tm:Int) (w:World) (hin:OpsIn w ao xs) (hr:FY xs) (hn:xs.length<=1000):
  Calls prog 305 #[.slice ao xs.length cap,.int .i64 tm,.func (.func 306) #[] #[]] w fun e w'=>∃(i:Nat) (b:Bool),e= .returned (.tuple #[.int .i64 (i:Int),.bool b])/\Oz xs tm i b/\Below w.heap.size w w':=by
 have HI:Aside (OpsIn w ao xs/\FY xs):=⟨hin,hr⟩
 clear hin hr;go_enter func305,ntmps305;go_wp2;go_loopg [9,10,11] (xs.length+1) (fun kx s9 s10 s11 wr=>∃(i j:Nat),s9= .int .i64 (i:Int)/\s10= .int .i64 (j:Int)/\i<=j/\j<=xs.length/\j - i<kx/\Aside (Below w.heap.size w wr/\(∀k x,k<i->xs[k]? =some x->x.1<tm)/\(∀k x,j<=k->xs[k]? =some x->tm<=x.1)))
 case atStart=>exact ⟨0,xs.length,rfl,rfl,vM _,vB _,zj,vG _ w,fun k x hk=>zj,fun k x hk h=>by have:=(vA.1 h).1;omega⟩
 case round=>
  obtain ⟨i,j,rfl,rfl,hij,hj,hkx,A⟩:=hrel;by_cases hlt:i<j
  ·have d1:decide ((i:Int)<(j:Int))=true:=by simp;omega
   obtain ⟨h,hh⟩:∃h:Nat,h=(i+j) / 2:=⟨_,rfl⟩
   have eh:((i:Int)+(j:Int)) / 2=(h:Int):=zj;have hl:h<xs.length:=zj;have wh:((h:Int)).toNat=h:=zj;have ph:(0:Int)<=(h:Int):=zj;have bh:(h:Int)<(xs.length:Int):=zj;have hih:i<=h/\h<j:=zj;clear hh
   obtain ⟨⟨t,b,n,k,nd,o,s,v⟩,hx⟩:∃x,Aside (xs[h]? =some x):=⟨xs[h],vF hl⟩
   obtain ⟨blk,off,hao,hc⟩:=(HI.o.1.later A.o.1).get hx.o;subst hao;have r0:=hc 0 _ rfl;have r1:=hc 1 _ rfl;have r2:=hc 2 _ rfl;have r3:=hc 3 _ rfl;have r4:=hc 4 _ rfl;have r5:=hc 5 _ rfl;have r6:=hc 6 _ rfl;have r7:=hc 7 _ rfl;simp only [uZ] at r0;clear hc;have hcall:=AV (t,b,n,k,nd,o,s,v) tm wr;unfold bT at hcall;dsimp only at hcall;by_cases hc:t<tm
   ·have ec:nw t tm= -1:=by unfold nw;rw [if_pos hc]
    rw [ec] at hcall;have HC:Aside (t<tm):=hc;clear hc ec;go_wp2_with (go_at_call 306;refine hcall.mono ?_;clear hcall;rintro e w' ⟨rfl,hb'⟩;have A':Aside (Below w.heap.size w w'):=(zi A.o.1 hb');clear hb' r0 r1 r2 r3 r4 r5 r6 r7);go_roundg (j - h)
    case measure=>omega
    case rel=>
     refine ⟨h+1,j,zw,rfl,zj,hj,zj,A'.o,fun k' x hk hx'=> ?_,A.o.2.2⟩;have:=HI.o.2 k' h x _ zj hx' hx.o;have:=HC.o;dsimp only at*;omega
   have hz:0<=nw t tm:=by unfold nw;rw [if_neg hc];split<;>omega
   obtain ⟨z,ez⟩:∃z,nw t tm=z:=⟨_,rfl⟩
   rw [ez] at hcall hz;have dz:decide (z<0)=false:=zq;have HC:Aside (¬t<tm):=hc;clear hc ez;go_wp2_with (go_at_call 306;refine hcall.mono ?_;clear hcall;rintro e w' ⟨rfl,hb'⟩;have A':Aside (Below w.heap.size w w'):=(zi A.o.1 hb');clear hb' r0 r1 r2 r3 r4 r5 r6 r7);go_roundg (h - i+1)
   case measure=>omega
   case rel=>
    refine ⟨i,h,rfl,rfl,zj,zj,zj,A'.o,A.o.2.1,fun k' x hk hx'=> ?_⟩;have:=HI.o.2 h k' _ x zj hx.o hx';have:=HC.o;dsimp only at*;omega
  have d1:decide ((i:Int)<(j:Int))=false:=zq;obtain rfl:i=j:=zj;by_cases hil:i<xs.length
  ·have d2:decide ((i:Int)<(xs.length:Int))=true:=by simp;omega
   have wh:((i:Int)).toNat=i:=zj;have ph:(0:Int)<=(i:Int):=zj;have bh:(i:Int)<(xs.length:Int):=zj
   obtain ⟨⟨t,b,n,k,nd,o,s,v⟩,hx⟩:∃x,Aside (xs[i]? =some x):=⟨xs[i],vF hil⟩
   obtain ⟨blk,off,hao,hc⟩:=(HI.o.1.later A.o.1).get hx.o;subst hao;have r0:=hc 0 _ rfl;have r1:=hc 1 _ rfl;have r2:=hc 2 _ rfl;have r3:=hc 3 _ rfl;have r4:=hc 4 _ rfl;have r5:=hc 5 _ rfl;have r6:=hc 6 _ rfl;have r7:=hc 7 _ rfl;simp only [uZ] at r0;clear hc;have hcall:=AV (t,b,n,k,nd,o,s,v) tm wr;unfold bT at hcall;dsimp only at hcall
   have hz:Aside ((nw t tm==0)=decide (t=tm)):=by
    show (nw t tm==0)=decide (t=tm)
    unfold nw;by_cases h1:t<tm
    ·rw [if_pos h1];have:t≠tm:=by omega
     simp [this]
    rw [if_neg h1];by_cases h2:tm<t
    ·rw [if_pos h2];have:t≠tm:=by omega
     simp [this]
    rw [if_neg h2];have:t=tm:=zj;simp [this]
   obtain ⟨z,ez⟩:=zc (nw t tm);rw [<-ez] at hcall hz;clear ez;go_wp2_with (go_at_call 306;refine hcall.mono ?_;clear hcall;rintro e w' ⟨rfl,hb'⟩;have A':Aside (Below w.heap.size w w'):=(zi A.o.1 hb');clear hb' r0 r1 r2 r3 r4 r5 r6 r7);go_ret2;refine ⟨i,_,rfl,⟨hj,A.o.2.1,A.o.2.2,?_⟩,A'.o⟩;rw [hz.o,decide_eq_true_iff];constructor
   ·intro e;exact ⟨_,hx.o,e⟩
   rintro ⟨x,hx',e⟩;rw [hx.o] at hx'
   cases hx'
   exact e
  have d2:decide ((i:Int)<(xs.length:Int))=false:=zq;go_wp2;go_ret2;refine ⟨i,false,rfl,⟨hj,A.o.2.1,A.o.2.2,?_⟩,A.o.1⟩;constructor
  ·intro e;cases e
  rintro ⟨x,hx',e⟩;have:=(vA.1 hx').1;omega
end
section
open Go.RowKit Go.Lib Go.Sort
def fQ (R:Rws) (id:Int):Option OpX:=(aQ R).find? (fun x=>decide (idO x=id))
theorem nX (h:fQ R id=some x):x∈aQ R/\idO x=id:=by
 unfold fQ at h;exact kq5
theorem findK_none :fQ R id=none↔∀x∈aQ R,idO x≠id:=by
 unfold fQ;rw [List.find?_eq_none];simp
theorem As (h:RowsN R) (hx:x∈aQ R):fQ R (idO x)=some x:=by
 cases hf:fQ R (idO x) with
 | none=>exact absurd rfl (findK_none.1 hf x hx)
 | some y=>
  obtain ⟨a,b⟩:=nX hf;rw [h.stamp a hx (Dm (h.num.ok y a) (h.num.ok x hx) b)]
theorem lZ (h:ai x=0):4<=idO x/\idO x<4294967300:=by
 have h1:=iv h;unfold idO;have e1:x.2.1=byO x:=rfl;rw [e1];omega
theorem Ej (h:RowsN R) (ho:id<4\/4294967300<=id):fQ R id=none:=
 findK_none.2 (fun x hx e=>by have:=lZ (h.num.ok x hx);omega)
theorem RowsN.risesT (h:RowsN R) (hi:i<4):∀(a b:Nat) (x y:OpX),a<b->(R i)[a]? =some x->(R i)[b]? =some y->x.1<y.1:=by
 intro a b x y hab hx hy;obtain ⟨a1,a2,_⟩:=h.num i hi a x hx;obtain ⟨b1,b2,_⟩:=h.num i hi b y hy;have hp:=ub.1 (h.rise hi) a b (vA.1 hx).1 (vA.1 hy).1 hab;rw [(vA.1 hx).2,(vA.1 hy).2] at hp;unfold CLt stO at hp;dsimp only at hp;have e1:x.2.1=byO x:=rfl;have e2:y.2.1=byO y:=rfl;omega
theorem RowsN.risesLe (h:RowsN R) (hi:i<4):FY (R i):=fun a b x y hab hx hy=>by
 rcases uB a b with q | q
 ·have:=h.risesT hi a b x y q hx hy;omega
 obtain rfl:a=b:=zj;rw [hx] at hy;cases hy;exact Int.le_refl _
theorem IX {R:Rws} (h:RowsN R) {id:Int} {i k:Nat} {b:Bool} (hi:i<4) (e:id % 4=(i:Int)) (hb:Oz (R i) (id / 4) k b):(b=false->fQ R id=none)/\(b=true->∃x,(R i)[k]? =some x/\fQ R id=some x):=by
 obtain ⟨h1,h2,h3,h4⟩:=hb;refine ⟨fun hf=>findK_none.2 (fun x hx ex=> ?_),fun ht=> ?_⟩
 ·obtain ⟨m,hm,hxm⟩:=mem_allR.1 hx;obtain ⟨j,a1,a2,a3,_⟩:=h.num.get hm hxm;have e1:x.2.1=byO x:=rfl;unfold idO at ex;obtain rfl:m=i:=zj;have ht:x.1=id / 4:=zj
  have hkj:j=k:=by
   rcases Zw j k with q | q | q
   ·have:=h2 j x q a1;omega
   ·exact q
   have hk:k<(R m).length:=by have:=(vA.1 a1).1;omega
   have ek:=vF hk;have:=h3 k _ zg ek;have:=h.risesT hm k j _ x q ek a1;omega
  subst hkj;rw [hf] at h4;exact absurd (h4.2 ⟨x,a1,ht⟩) zr
 obtain ⟨x,hx,et⟩:=h4.1 ht;refine ⟨x,hx,?_⟩;obtain ⟨b1,b2,_⟩:=h.num i hi k x hx;have e1:x.2.1=byO x:=rfl
 have:idO x=id:=by unfold idO;omega
 rw [<-this];exact As h (mem_allR.2 ⟨i,hi,vH hx⟩)
def OpBlk (W:World) (b:Nat) (x:OpX):Prop:=W.heap[b]? =some (.cells #[.int .i64 x.1,.int .i64 x.2.1,.int .i64 x.2.2.1,.int .u8 (x.2.2.2.1:Int),.int .i64 x.2.2.2.2.1,.int .i64 x.2.2.2.2.2.1,.string x.2.2.2.2.2.2.1,.string x.2.2.2.2.2.2.2] 61 (0,0))
theorem OpBlk.lt (h:OpBlk W b x):b<W.heap.size:=(vD.1 h).1
theorem OpBlk.later {W':World} (h:OpBlk W b x) (hb:Below W.heap.size W W'):OpBlk W' b x:=(hb.block b h.lt).trans h
theorem OpBlk.new (W:World) (x:OpX):OpBlk (W.alloc (.cells #[.int .i64 x.1,.int .i64 x.2.1,.int .i64 x.2.2.1,.int .u8 (x.2.2.2.1:Int),.int .i64 x.2.2.2.2.1,.int .i64 x.2.2.2.2.2.1,.string x.2.2.2.2.2.2.1,.string x.2.2.2.2.2.2.2] 61)) W.heap.size x:=heap_alloc_new W _
theorem OpBlk.cells (h:OpBlk W b x):W.cell? ⟨b,0,none⟩=some (.int .i64 x.1)/\W.cell? ⟨b,1,none⟩=some (.int .i64 x.2.1)/\W.cell? ⟨b,2,none⟩=some (.int .i64 x.2.2.1)/\W.cell? ⟨b,3,none⟩=some (.int .u8 (x.2.2.2.1:Int))/\W.cell? ⟨b,4,none⟩=some (.int .i64 x.2.2.2.2.1)/\W.cell? ⟨b,5,none⟩=some (.int .i64 x.2.2.2.2.2.1)/\W.cell? ⟨b,6,none⟩=some (.string x.2.2.2.2.2.2.1)/\W.cell? ⟨b,7,none⟩=some (.string x.2.2.2.2.2.2.2)/\∀c,W.frozen? ⟨b,c,none⟩=false:=by
 unfold OpBlk at h;refine ⟨?_,?_,?_,?_,?_,?_,?_,?_,fun c=> ?_⟩<;>simp [World.cell?,World.frozen?,h]
theorem aH (h:Below w.heap.size w W) (hb:w.heap.size<=b) (o:Nat) (vs:List Value):Below w.heap.size w (W.setCells b o vs):=h.trans ((aZ b vs o W).below h.size (fun k e=>zj))
theorem FN (w:World) (ao:Nat->Option Addr) (cap:Nat->Nat) (R:Rws) (id:Int) (hE:Op4 ad w) (ho:id<4\/4294967300<=id) (h2: -9223372036854775808<=id) (h3:id<=9223372036854775807):
  Calls prog 255 #[kV ao cap R,.int .i64 id] w fun e w'=>e= .returned (.tuple #[bT aR,.bool false])/\Below w.heap.size w w':=by
 unfold kV;obtain ⟨U,hU⟩:=zc ((w.alloc (.cells #[.slice (ao 0) (R 0).length (cap 0),.slice (ao 1) (R 1).length (cap 1),.slice (ao 2) (R 2).length (cap 2),.slice (ao 3) (R 3).length (cap 3)] 112)).alloc (.cells #[.int .i64 0,.int .i64 0,.int .i64 0,.int .u8 0,.int .i64 0,.int .i64 0,.string ⟨#[]⟩,.string ⟨#[]⟩] 61));have hb:Below w.heap.size w U:=zI
 have hz:U.heap[w.heap.size+1]? =some (.cells #[.int .i64 0,.int .i64 0,.int .i64 0,.int .u8 0,.int .i64 0,.int .i64 0,.string ⟨#[]⟩,.string ⟨#[]⟩] 61 (0,0)):=by
  rw [hU];have:=heap_alloc_new (w.alloc (.cells #[.slice (ao 0) (R 0).length (cap 0),.slice (ao 1) (R 1).length (cap 1),.slice (ao 2) (R 2).length (cap 2),.slice (ao 3) (R 3).length (cap 3)] 112)) (.cells #[.int .i64 0,.int .i64 0,.int .i64 0,.int .u8 0,.int .i64 0,.int .i64 0,.string ⟨#[]⟩,.string ⟨#[]⟩] 61);exact kd4
 have hE1:=(hE.later hb).c1;have hcall:=NN id U _ _ hE1 (vK U ⟨0,0,none⟩ hE1) ho h2 h3;have HB:Aside (Below w.heap.size w U):=hb;clear hb hE hE1;go_enter func255,ntmps255;go_wp2_with fail;rw [<-hU];clear hU;refine hcall.mono ?_;clear hcall;rintro e w1 ⟨rfl,hb1⟩;obtain ⟨S,hS⟩:=zc w.heap.size
 have hz1:w1.heap[S+1]? =some (.cells #[.int .i64 0,.int .i64 0,.int .i64 0,.int .u8 0,.int .i64 0,.int .i64 0,.string ⟨#[]⟩,.string ⟨#[]⟩] 61 (0,0)):=by
  rw [hS,hb1.block _ (vD.1 hz).1];exact hz
 have hl1:S+1<w1.heap.size:=(vD.1 hz1).1;have B1:Aside (Below w.heap.size w w1):=zi HB.o hb1;rw [<-hS];clear hb1 hz HB;obtain ⟨y0,y1,y2,y3,y4,y5,y6,y7,f8⟩:=OpBlk.cells (x:=aR) hz1;unfold aR at y0 y1 y2 y3 y4 y5 y6 y7;dsimp only at y0 y1 y2 y3 y4 y5 y6 y7;have HS:Aside (S=w.heap.size):=hS;clear hS hz1;go_wp2;(try simp only [Exit.inBlock,Exit.then]);refine bodyPost_ret (v:=.tuple #[bT aR,.bool false]) ?_ rfl ⟨rfl,?_⟩
 ·exact kf6
 exact (aH (b:=S+1) B1.o xx 0 [.int .i64 0,.int .i64 0,.int .i64 0,.int .u8 0,.int .i64 0,.int .i64 0,.string ⟨#[]⟩,.string ⟨#[]⟩]).alloc (aH (b:=S+1) B1.o xx 0 _).size _
theorem IB (w:World) (ao:Nat->Option Addr) (cap:Nat->Nat) (R:Rws) (id:Int) (hK:KnownAt w ao R) (hR:RowsN R) (hl:∀i,i<4->(R i).length<=1000) (h1:4<=id) (h2:id<4294967300):
  Calls prog 255 #[kV ao cap R,.int .i64 id] w fun e w'=>e= .returned (.tuple #[bT ((fQ R id).getD aR),.bool (fQ R id).isSome])/\Below w.heap.size w w':=by
 obtain ⟨i,hi,ei⟩:∃i:Nat,i<4/\id % 4=(i:Int):=⟨(id % 4).toNat,zj,zj⟩
 have wi:((i:Int)).toNat=i:=zj;have pi:(0:Int)<=(i:Int):=zj;have bi:(i:Int)<4:=zj;unfold kV;obtain ⟨S,hS⟩:=zc w.heap.size;obtain ⟨U,hU⟩:=zc ((w.alloc (.cells #[.slice (ao 0) (R 0).length (cap 0),.slice (ao 1) (R 1).length (cap 1),.slice (ao 2) (R 2).length (cap 2),.slice (ao 3) (R 3).length (cap 3)] 112)).alloc (.cells #[.int .i64 0,.int .i64 0,.int .i64 0,.int .u8 0,.int .i64 0,.int .i64 0,.string ⟨#[]⟩,.string ⟨#[]⟩] 61));have hb:Below w.heap.size w U:=zI
 have hz:OpBlk U (S+1) aR:=by
  rw [hU,hS];have:=heap_alloc_new (w.alloc (.cells #[.slice (ao 0) (R 0).length (cap 0),.slice (ao 1) (R 1).length (cap 1),.slice (ao 2) (R 2).length (cap 2),.slice (ao 3) (R 3).length (cap 3)] 112)) (.cells #[.int .i64 0,.int .i64 0,.int .i64 0,.int .u8 0,.int .i64 0,.int .i64 0,.string ⟨#[]⟩,.string ⟨#[]⟩] 61);exact kd4
 have hk:KBox U S ao cap R:=zT;have hcall:=Es id U h1 h2;rw [ei] at hcall;obtain ⟨tm,etm⟩:=zc (id / 4);rw [<-etm] at hcall
 have HB:Aside (Below w.heap.size w U/\KBox U S ao cap R/\OpBlk U (S+1) aR):=⟨hb,hk,hz⟩
 have HS:Aside (S=w.heap.size/\tm=id / 4/\id % 4=(i:Int)):=⟨hS,etm,ei⟩
 clear hb hz hk etm ei;go_enter func255,ntmps255;go_wp2_with fail;rw [<-hU,<-hS];clear hU hS;refine hcall.mono ?_;clear hcall;rintro e w1 ⟨rfl,hb1⟩;obtain ⟨V,hV⟩:=zc (w1.alloc (.cells #[.int .i64 tm,.int .i64 (i:Int)] 59));have bV:Below w1.heap.size w1 V:=jK
 have HV:Aside (Below w.heap.size w V/\KBox V S ao cap R/\OpBlk V (S+1) aR):=⟨HB.o.1.trans ((hb1.mono HB.o.1.size).trans (bV.mono (vI HB.o.1.size hb1.size))),(HB.o.2.1.later hb1).later bV,(HB.o.2.2.later hb1).later bV⟩
 have hs1:V.heap[w1.heap.size]? =some (.cells #[.int .i64 tm,.int .i64 (i:Int)] 59 (0,0)):=by rw [hV];exact heap_alloc_new w1 _
 have s0:V.cell? ⟨w1.heap.size,0,none⟩=some (.int .i64 tm):=by simp [World.cell?,hs1]
 have s1:V.cell? ⟨w1.heap.size,1,none⟩=some (.int .i64 (i:Int)):=by simp [World.cell?,hs1]
 have k1:=HV.o.2.1.at hi;have hbs:=tg (ao i) (cap i) (R i) tm V ((hK.later HV.o.1) i hi) (hR.risesLe hi) (hl i hi);clear hb1 HB bV hs1;go_upto_region 4 with fail;rw [<-hV];clear hV;go_wp2_with fail;refine hbs.mono ?_;clear hbs;rintro e w2 ⟨k,b,rfl,hbk,hb2⟩;have hfk:=IX hR hi HS.o.2.2 (by rw [<-HS.o.2.1];exact hbk)
 have H2:Aside (Below w.heap.size w w2/\OpBlk w2 (S+1) aR):=⟨zi HV.o.1 hb2,HV.o.2.2.later hb2⟩
 have hl2:=H2.o.2.lt;have KN:Aside (KnownAt w2 ao R):=hK.later H2.o.1;obtain ⟨y0,y1,y2,y3,y4,y5,y6,y7,f8⟩:=H2.o.2.cells;unfold aR at y0 y1 y2 y3 y4 y5 y6 y7;dsimp only at y0 y1 y2 y3 y4 y5 y6 y7;clear hb2 HV s0 s1 k1
 cases b with
 | false=>
  have HF:Aside (fQ R id=none):=hfk.1 rfl;clear hfk hbk;go_wp2;(try simp only [Exit.inBlock,Exit.then]);refine bodyPost_ret (v:=.tuple #[bT aR,.bool false]) ?_ rfl ⟨by rw [HF.o];rfl,?_⟩
  ·exact kf6
  exact aH (b:=S+1) H2.o.1 xx 0 [.int .i64 0,.int .i64 0,.int .i64 0,.int .u8 0,.int .i64 0,.int .i64 0,.string ⟨#[]⟩,.string ⟨#[]⟩]
 | true=>
  obtain ⟨⟨t,b,n,kd,nd,o,s,v⟩,hx,hf⟩:=hfk.2 rfl;have HF:Aside (fQ R id=some (t,b,n,kd,nd,o,s,v)):=hf;obtain ⟨blk,off,hao,hc⟩:=(KN.o i hi).get hx;have hkl:=(vA.1 hx).1;have hll:=hl i hi;have r0:=hc 0 _ rfl;have r1:=hc 1 _ rfl;have r2:=hc 2 _ rfl;have r3:=hc 3 _ rfl;have r4:=hc 4 _ rfl;have r5:=hc 5 _ rfl;have r6:=hc 6 _ rfl;have r7:=hc 7 _ rfl;simp only [uZ] at r0;have wk:((k:Int)).toNat=k:=zj;have pk:(0:Int)<=(k:Int):=zj;have bk:(k:Int)<((R i).length:Int):=zj;rw [hao];clear hfk hbk hf hx hc hao;go_wp2;(try simp only [Exit.inBlock,Exit.then]);refine bodyPost_ret (v:=.tuple #[.agg #[.int .i64 t,.int .i64 b,.int .i64 n,.int .u8 (kd:Int),.int .i64 nd,.int .i64 o,.string s,.string v],.bool true]) ?_ rfl ⟨by rw [HF.o];rfl,?_⟩
  ·exact kf7
  exact aH (b:=S+1) H2.o.1 xx 0 [.int .i64 t,.int .i64 b,.int .i64 n,.int .u8 (kd:Int),.int .i64 nd,.int .i64 o,.string s,.string v]
theorem sQ (w:World) (ao:Nat->Option Addr) (cap:Nat->Nat) (R:Rws) (id:Int) (hE:Op4 ad w) (hK:KnownAt w ao R) (hR:RowsN R) (hl:∀i,i<4->(R i).length<=1000) (h2: -9223372036854775808<=id) (h3:id<=9223372036854775807):
  Calls prog 255 #[kV ao cap R,.int .i64 id] w fun e w'=>e= .returned (.tuple #[bT ((fQ R id).getD aR),.bool (fQ R id).isSome])/\Below w.heap.size w w':=by
 by_cases h:id<4\/4294967300<=id
 ·rw [Ej hR h];exact FN w ao cap R id hE h h2 h3
 exact IB w ao cap R id hK hR hl zj zj
end
section
open Go.RowKit Go.Lib Go.Sort
theorem BI (h:RowsN R) :KnownN (aQ R) id↔∃x,fQ R id=some x/\kdO x=109/\aM x=id:=by
 constructor
 ·exact ko7
 exact kp0
theorem wP (h:RowsN R) {nd:Int} :LetterN (aQ R) nd id↔∃x,fQ R id=some x/\kdO x=105/\aM x=nd:=by
 constructor
 ·exact ko7
 exact kp0
theorem ny (w:World) (ao:Nat->Option Addr) (cap:Nat->Nat) (R:Rws) (id:Int) (z:Bool) (hz:z=true↔KnownN (aQ R) id) (hE:Op4 ad w) (hK:KnownAt w ao R) (hR:RowsN R) (hl:∀i,i<4->(R i).length<=1000) (h2: -9223372036854775808<=id) (h3:id<=9223372036854775807):
  Calls prog 194 #[kV ao cap R,.int .i64 id] w fun e w'=>e= .returned (.bool z)/\Below w.heap.size w w':=by
 obtain ⟨U,hU⟩:=zc (w.alloc (.cells #[.slice (ao 0) (R 0).length (cap 0),.slice (ao 1) (R 1).length (cap 1),.slice (ao 2) (R 2).length (cap 2),.slice (ao 3) (R 3).length (cap 3)] 112));have hb:Below w.heap.size w U:=yA;have hcall:=sQ U ao cap R id (hE.later hb) (hK.later hb) hR hl h2 h3;rw [BI hR] at hz
 unfold kV at hcall |-
 have HB:Aside (Below w.heap.size w U):=hb;clear hb
 cases hf:fQ R id with
 | none=>
  have hzf:z=false:=by
   cases z with
   | false=>rfl
   | true=>obtain ⟨x,e,_⟩:=hz.1 rfl;rw [hf] at e;cases e
  subst hzf;rw [hf] at hcall;unfold bT aR at hcall;clear hf hz;go_enter func194,ntmps194;exact kf5
 | some x=>
  obtain ⟨t,b,n,k,nd,o,s,v⟩:=x
  have HZ:Aside (z=(decide (k=109) &&decide (nd=id))):=by
   show z=(decide (k=109) &&decide (nd=id))
   rw [Bool.eq_iff_iff,hz,uL,decide_eq_true_iff,decide_eq_true_iff];constructor
   ·exact ko8
   rintro ⟨k1,k2⟩;exact ⟨_,hf,k1,k2⟩
  rw [hf] at hcall;unfold bT at hcall;dsimp only [Option.getD_some] at hcall;clear hf hz;by_cases hk:k=109
  ·subst hk;go_enter func194,ntmps194;exact ke3
  have dk:((k:Int)==109)=false:=zq;go_enter func194,ntmps194;exact ke9
theorem kK (w:World) (ao:Nat->Option Addr) (cap:Nat->Nat) (R:Rws) (node id:Int) (z:Bool) (hz:z=true↔LetterN (aQ R) node id) (hE:Op4 ad w) (hK:KnownAt w ao R) (hR:RowsN R) (hl:∀i,i<4->(R i).length<=1000) (h2: -9223372036854775808<=id) (h3:id<=9223372036854775807):
  Calls prog 196 #[kV ao cap R,.int .i64 node,.int .i64 id] w fun e w'=>e= .returned (.bool z)/\Below w.heap.size w w':=by
 obtain ⟨U,hU⟩:=zc (w.alloc (.cells #[.slice (ao 0) (R 0).length (cap 0),.slice (ao 1) (R 1).length (cap 1),.slice (ao 2) (R 2).length (cap 2),.slice (ao 3) (R 3).length (cap 3)] 112));have hb:Below w.heap.size w U:=yA;have hcall:=sQ U ao cap R id (hE.later hb) (hK.later hb) hR hl h2 h3;rw [wP hR] at hz
 unfold kV at hcall |-
 have HB:Aside (Below w.heap.size w U):=hb;clear hb
 cases hf:fQ R id with
 | none=>
  have hzf:z=false:=by
   cases z with
   | false=>rfl
   | true=>obtain ⟨x,e,_⟩:=hz.1 rfl;rw [hf] at e;cases e
  subst hzf;rw [hf] at hcall;unfold bT aR at hcall;clear hf hz;go_enter func196,ntmps196;exact kf5
 | some x=>
  obtain ⟨t,b,n,k,nd,o,s,v⟩:=x
  have HZ:Aside (z=(decide (k=105) &&decide (nd=node))):=by
   show z=(decide (k=105) &&decide (nd=node))
   rw [Bool.eq_iff_iff,hz,uL,decide_eq_true_iff,decide_eq_true_iff];constructor
   ·exact ko8
   rintro ⟨k1,k2⟩;exact ⟨_,hf,k1,k2⟩
  rw [hf] at hcall;unfold bT at hcall;dsimp only [Option.getD_some] at hcall;clear hf hz;by_cases hk:k=105
  ·subst hk;go_enter func196,ntmps196;exact ke3
  have dk:((k:Int)==105)=false:=zq;go_enter func196,ntmps196;exact ke9
theorem lA (w:World) (ao:Nat->Option Addr) (cap:Nat->Nat) (R:Rws) (id:Int) (z:Bool) (hz:z=true↔id=0\/id=1\/KnownN (aQ R) id) (hE:Op4 ad w) (hK:KnownAt w ao R) (hR:RowsN R) (hl:∀i,i<4->(R i).length<=1000) (h2: -9223372036854775808<=id) (h3:id<=9223372036854775807):
  Calls prog 195 #[kV ao cap R,.int .i64 id] w fun e w'=>e= .returned (.bool z)/\Below w.heap.size w w':=by
 obtain ⟨U,hU⟩:=zc (w.alloc (.cells #[.slice (ao 0) (R 0).length (cap 0),.slice (ao 1) (R 1).length (cap 1),.slice (ao 2) (R 2).length (cap 2),.slice (ao 3) (R 3).length (cap 3)] 112));have hb:Below w.heap.size w U:=yA;have HB:Aside (Below w.heap.size w U):=hb;by_cases h0:id=0
 ·obtain rfl:z=true:=hz.2 (.inl h0);subst h0;exact kj4
 by_cases h1:id=1
 ·obtain rfl:z=true:=hz.2 (.inr (.inl h1));subst h1;exact kj4
 have hz':z=true↔KnownN (aQ R) id:=hz.trans ⟨fun q=>(q.resolve_left h0).resolve_left h1,fun q=>.inr (.inr q)⟩;have hcall:=ny U ao cap R id z hz' (hE.later hb) (hK.later hb) hR hl h2 h3;have d0:(id==0)=false:=xG
 have d1:(id==1)=false:=by simp [h1]
 unfold kV at hcall |-
 clear hb hz hz';go_enter func195,ntmps195;go_wp2_with fail;rw [<-hU];clear hU;refine hcall.mono ?_;clear hcall;rintro e w1 ⟨rfl,hb1⟩;have B1:Aside (Below w.heap.size w w1):=zi HB.o hb1;clear hb1 HB;go_wp2;go_ret;exact ⟨rfl,B1.o⟩
theorem Ek {S:List OpX} (hx:x∈S) (ho:0<=aN x):RefOk S x↔KnownN S (aM x)/\(kdO x=109->aN x=0\/aN x=1\/KnownN S (aN x))/\(kdO x=105->aN x=0\/LetterN S (aM x) (aN x))/\(kdO x=100->LetterN S (aM x) (aN x)):=by
 constructor
 ·rintro ⟨h1,h2,h3⟩;refine ⟨?_,h2,fun k=> ?_,fun k=>h3 (.inr k)⟩
  ·rcases h1 with ⟨k,e⟩ | k
   ·exact ⟨x,hx,k,rfl,e⟩
   exact k
  by_cases e:aN x=0
  ·exact .inl e
  exact .inr (h3 (.inl ⟨k,zj⟩))
 rintro ⟨h1,h2,h3,h4⟩;exact ⟨.inr h1,h2,fun k=>k.elim (fun k=>(h3 k.1).resolve_left zj) h4⟩
theorem Ee (w:World) (ao:Nat->Option Addr) (cap:Nat->Nat) (R:Rws) (x:OpX) (hx:x∈aQ R) (z:Bool) (hz:z=true↔RefOk (aQ R) x) (hE:Op4 ad w) (hK:KnownAt w ao R) (hR:RowsN R) (hl:∀i,i<4->(R i).length<=1000):
  Calls prog 131 #[kV ao cap R,bT x] w fun e w'=>e= .returned (.bool z)/\Below w.heap.size w w':=by
 have hid:=lZ (hR.num.ok x hx);have hrf:=dK (hR.num.ok x hx);rw [Ek hx zj] at hz;obtain ⟨t,b,n,k,nd,o,s,v⟩:=x;have q1:nd<=idO (t,b,n,k,nd,o,s,v):=hrf.1.elim (fun q=>q.2) (fun q=>Int.le_of_lt q);have q2:o<idO (t,b,n,k,nd,o,s,v):=hrf.2.1;have q3:0<=nd:=hrf.2.2.1;have q4:0<=o:=hrf.2.2.2.1
 have hn0:0<=nd/\nd<=4294967300:=⟨q3,zj⟩
 have ho0:0<=o/\o<=4294967300:=⟨q4,zj⟩
 clear q1 q2 q3 q4;change z=true↔KnownN (aQ R) nd/\(k=109->o=0\/o=1\/KnownN (aQ R) o)/\(k=105->o=0\/LetterN (aQ R) nd o)/\(k=100->LetterN (aQ R) nd o) at hz;clear hid hrf;obtain ⟨U,hU⟩:=zc ((w.alloc (.cells #[.slice (ao 0) (R 0).length (cap 0),.slice (ao 1) (R 1).length (cap 1),.slice (ao 2) (R 2).length (cap 2),.slice (ao 3) (R 3).length (cap 3)] 112)).alloc (.cells #[.int .i64 t,.int .i64 b,.int .i64 n,.int .u8 (k:Int),.int .i64 nd,.int .i64 o,.string s,.string v] 61));obtain ⟨S,hS⟩:=zc w.heap.size;have hb:Below w.heap.size w U:=zI
 have hz1:OpBlk U (S+1) (t,b,n,k,nd,o,s,v):=by
  rw [hU,hS];have:=heap_alloc_new (w.alloc (.cells #[.slice (ao 0) (R 0).length (cap 0),.slice (ao 1) (R 1).length (cap 1),.slice (ao 2) (R 2).length (cap 2),.slice (ao 3) (R 3).length (cap 3)] 112)) (.cells #[.int .i64 t,.int .i64 b,.int .i64 n,.int .u8 (k:Int),.int .i64 nd,.int .i64 o,.string s,.string v] 61);exact kd4
 have hk:KBox U S ao cap R:=zT
 obtain ⟨zn,hzn⟩:∃zn:Bool,zn=true↔KnownN (aQ R) nd:=by
  by_cases q:KnownN (aQ R) nd
  ·exact ⟨true,jm⟩
  exact ⟨false,jm⟩
 have hcall:=ny U ao cap R nd zn hzn (hE.later hb) (hK.later hb) hR hl zj zj
 have HB:Aside (Below w.heap.size w U/\KBox U S ao cap R/\OpBlk U (S+1) (t,b,n,k,nd,o,s,v)):=⟨hb,hk,hz1⟩
 unfold kV at hcall |-
 unfold bT;clear hb hk hz1;go_enter func131,ntmps131;go_wp2_with fail;rw [<-hU,<-hS];clear hU hS;refine hcall.mono ?_;clear hcall;rintro e w1 ⟨rfl,hb1⟩
 have H1:Aside (Below w.heap.size w w1/\KBox w1 S ao cap R/\OpBlk w1 (S+1) (t,b,n,k,nd,o,s,v)):=⟨zi HB.o.1 hb1,HB.o.2.1.later hb1,HB.o.2.2.later hb1⟩
 obtain ⟨y0,y1,y2,y3,y4,y5,y6,y7,f8⟩:=H1.o.2.2.cells;dsimp only at y0 y1 y2 y3 y4 y5 y6 y7;have k0:=H1.o.2.1.at (i:=0) zj;have k1:=H1.o.2.1.at (i:=1) zj;have k2:=H1.o.2.1.at (i:=2) zj;have k3:=H1.o.2.1.at (i:=3) zj;have hE1:=hE.later H1.o.1;have hK1:=hK.later H1.o.1;clear hb1 HB
 cases zn with
 | false=>
  have hzf:z=false:=by
   cases z with
   | false=>rfl
   | true=>exact absurd (hzn.2 (hz.1 rfl).1) zr
  subst hzf;clear hz hzn;exact ko9
 | true=>
  have hkn:=hzn.1 rfl;clear hzn;by_cases hm:k=109
  ·subst hm;have hz':z=true↔o=0\/o=1\/KnownN (aQ R) o:=hz.trans ⟨fun q=>q.2.1 rfl,fun q=>⟨hkn,fun _=>q,fun k=>absurd k zr,fun k=>absurd k zr⟩⟩;have hcall:=lA w1 ao cap R o z hz' hE1 hK1 hR hl zj zj;exact kc5
  have dm:((k:Int)==109)=false:=zq;by_cases hi:k=105
  ·subst hi;by_cases h0:o=0
   ·subst h0;obtain rfl:z=true:=hz.2 ⟨hkn,fun k=>absurd k zr,fun _=>.inl rfl,fun k=>absurd k zr⟩;clear hz;exact ko9
   have d0:(o==0)=false:=xG;have hz':z=true↔LetterN (aQ R) nd o:=hz.trans ⟨fun q=>(q.2.2.1 rfl).resolve_left h0,fun q=>⟨hkn,fun k=>absurd k zr,fun _=>.inr q,fun k=>absurd k zr⟩⟩;have hcall:=kK w1 ao cap R nd o z hz' hE1 hK1 hR hl zj zj;exact kc5
  have di:((k:Int)==105)=false:=zq;by_cases hd:k=100
  ·subst hd;have hz':z=true↔LetterN (aQ R) nd o:=hz.trans ⟨fun q=>q.2.2.2 rfl,fun q=>⟨hkn,fun k=>absurd k zr,fun k=>absurd k zr,fun _=>q⟩⟩;have hcall:=kK w1 ao cap R nd o z hz' hE1 hK1 hR hl zj zj;exact kc5
  have dd:((k:Int)==100)=false:=zq;obtain rfl:z=true:=hz.2 ⟨hkn,fun k=>absurd k hm,fun k=>absurd k hi,fun k=>absurd k hd⟩;clear hz;exact ko9
end
section
open Go.RowKit Go.Lib Go.Sort
def GF (g:Nat) (lb:Array Value) (xs:List OpX) (p:OpX->Bool) (w:World):Prop:=
 ∀(W:World) (x:OpX),x∈xs->Below w.heap.size w W->Calls prog g (#[bT x]++lb) W fun e w'=>e= .returned (.bool (p x))/\Below w.heap.size w w'
def Oj (p:OpX->Bool) (zs:List OpX) (r:Int):Prop:=
 (r= -1/\∀x∈zs,p x=false)\/∃k x,r=((k:Nat):Int)/\zs[k]? =some x/\p x=true/\∀j y,j<k->zs[j]? =some y->p y=false
theorem BA (p:OpX->Bool) (g:Nat) (lb:Array Value) (eg:∀args w,(callFunc g args).run prog w= .ok (.enter g args) w) (ao:Option Addr) (cap:Nat) (zs:List OpX) (w:World) (hp:GF g lb zs p w) (hbig:zs.length<=1000000) (hin:OpsIn w ao zs):
  Calls prog 193 #[.slice ao zs.length cap,.func (.func g) #[] lb] w fun e w'=>∃r:Int,e= .returned (.int .i64 r)/\Aside (Oj p zs r/\Below w.heap.size w w'):=by
 have HP:Aside (GF g lb zs p w):=hp;have HI:Aside (OpsIn w ao zs):=hin;clear hp hin;go_enter func193,ntmps193;go_wp2;go_loopg [5,8] zs.length (fun kx _ s8 wr=>∃(k:Nat),s8= .int .i64 (k:Int)/\k<=zs.length/\zs.length - k<=kx/\Aside (Below w.heap.size w wr/\∀j l,j<k->zs[j]? =some l->p l=false))
 case atStart=>exact ⟨0,rfl,vM _,vB _,⟨vG _ w,fun j l hj=>zj⟩⟩
 case round=>
  obtain ⟨k,rfl,hk,hkx,A⟩:=hrel;by_cases hlt:k<zs.length
  ·have hltz:decide ((k:Int)<(zs.length:Int))=true:=by simp;omega
   have ek:((k:Int)).toNat=k:=zj;have pk:(0:Int)<=(k:Int):=zj;have bk:(k:Int)<(zs.length:Int):=zj
   obtain ⟨⟨t,b,n,kd,nd,o,s,v⟩,hl⟩:∃l,Aside (zs[k]? =some l):=⟨zs[k],vF hlt⟩
   obtain ⟨blk,off,hao,hc⟩:=(HI.o.later A.o.1).get hl.o;subst hao;have r0:=hc 0 _ rfl;have r1:=hc 1 _ rfl;have r2:=hc 2 _ rfl;have r3:=hc 3 _ rfl;have r4:=hc 4 _ rfl;have r5:=hc 5 _ rfl;have r6:=hc 6 _ rfl;have r7:=hc 7 _ rfl;simp only [uZ] at r0;clear hc;have hcall:=HP.o wr (t,b,n,kd,nd,o,s,v) (vH hl.o) A.o.1;unfold bT at hcall;dsimp only at hcall
   cases hq:p (t,b,n,kd,nd,o,s,v) with
   | true=>
    exact kg5
   | false=>
    rw [hq] at hcall;have HQ:=Lib.hid hq;clear hq;go_wp2_with (go_at_fn g;refine hcall.mono ?_;rintro e w' ⟨rfl,hb'⟩);go_roundg (zs.length - (k+1))
    case measure=>omega
    case rel=>
     refine ⟨k+1,zw,zj,vB _,⟨hb',fun j l hj e=> ?_⟩⟩
     rcases uB j k with h | h
     ·exact A.o.2 j l h e
     exact kn7
  exact kg0
theorem Cy (p:OpX->Bool) (g:Nat) (lb:Array Value) (eg:∀args w,(callFunc g args).run prog w= .ok (.enter g args) w) (ao:Option Addr) (cap:Nat) (zs:List OpX) (w:World) (hp:GF g lb zs p w) (hbig:zs.length<=1000000) (hin:OpsIn w ao zs):
  Calls prog 129 #[.slice ao zs.length cap,.func (.func g) #[] lb] w fun e w'=>e= .returned (.bool (zs.any p))/\Below w.heap.size w w':=by
 have hcall:=BA p g lb eg ao cap zs w hp hbig hin;clear hp hin eg;go_enter func129,ntmps129;go_wp2_with fail;refine hcall.mono ?_;clear hcall;rintro e w' ⟨r,rfl,H⟩
 rcases H.o.1 with ⟨hr,ha⟩ | ⟨k,x,hr,hx,hpx,_⟩
 ·have HA:Aside (zs.any p=false):=by
   show zs.any p=false
   rw [List.any_eq_false];intro x hx;rw [ha x hx];decide
  clear ha;subst hr;go_wp2;go_ret;exact ⟨by rw [HA.o];rfl,H.o.2⟩
 have HA:Aside (zs.any p=true):=ZD.2 ⟨x,vH hx,hpx⟩;have dr:decide (0<=r)=true:=zq;clear hx hpx hr;go_wp2;go_ret;exact ⟨by rw [HA.o];rfl,H.o.2⟩
theorem sR (w:World) (ao:Nat->Option Addr) (cap:Nat->Nat) (R:Rws) (fa:Option Addr) (fc:Nat) (fresh:List OpX) (hin:OpsIn w fa fresh) (hx:∀x∈fresh,x∈aQ R) (z:Bool) (hz:z=true↔∀x∈fresh,RefOk (aQ R) x) (hE:Op4 ad w) (hK:KnownAt w ao R) (hR:RowsN R) (hl:∀i,i<4->(R i).length<=1000) (hn:fresh.length<=1000):
  Calls prog 70 #[kV ao cap R,.slice fa fresh.length fc] w fun e w'=>e= .returned (.bool z)/\Below w.heap.size w w':=by
 obtain ⟨U,hU⟩:=zc (w.alloc (.cells #[.slice (ao 0) (R 0).length (cap 0),.slice (ao 1) (R 1).length (cap 1),.slice (ao 2) (R 2).length (cap 2),.slice (ao 3) (R 3).length (cap 3)] 112));have hb:Below w.heap.size w U:=yA
 have hk:KBox U w.heap.size ao cap R:=by rw [hU];exact KBox.new w ao cap R
 obtain ⟨p,hp⟩:∃p:OpX->Bool,∀x,p x=true↔¬RefOk (aQ R) x:=by
  refine ⟨fun x=> @decide (¬RefOk (aQ R) x) (Classical.propDecidable _),fun x=> ?_⟩;exact @decide_eq_true_iff _ (Classical.propDecidable _)
 have hpred:GF 130 #[.pointer (some ⟨w.heap.size,0,none⟩)] fresh p U:=by
  intro W x hxf hbW;have hkW:=hk.later hbW
  have hc:=Ee (W.alloc (.cells #[.int .i64 x.1,.int .i64 x.2.1,.int .i64 x.2.2.1,.int .u8 (x.2.2.2.1:Int),.int .i64 x.2.2.2.2.1,.int .i64 x.2.2.2.2.2.1,.string x.2.2.2.2.2.2.1,.string x.2.2.2.2.2.2.2] 61)) ao cap R x (hx x hxf) (!(p x)) (by
   rw [Bool.not_eq_true']
   constructor
   ·intro q
    refine Classical.byContradiction (fun k=> ?_)
    rw [(hp x).2 k] at q
    cases q
   ·intro q
    cases hq:p x with
    | false=>rfl
    | true=>exact absurd q ((hp x).1 hq)) ((hE.later hb).later (hbW.alloc hbW.size _)) ((hK.later hb).later (hbW.alloc hbW.size _)) hR hl
  have k0:=hkW.at (i:=0) zj;have k1:=hkW.at (i:=1) zj;have k2:=hkW.at (i:=2) zj;have k3:=hkW.at (i:=3) zj;have hlt:=hkW.lt;have hsz:=hbW.size;have HB:Aside (Below U.heap.size U W):=hbW;clear hkW hbW hp;obtain ⟨t,b,n,kd,nd,o,s,v⟩:=x;unfold kV bT at hc;dsimp only at hc
  show Calls prog 130 #[bT (t,b,n,kd,nd,o,s,v),.pointer (some ⟨w.heap.size,0,none⟩)] W _
  unfold bT;dsimp only;go_enter func130,ntmps130;go_wp2_with fail;refine hc.mono ?_;clear hc;rintro e w1 ⟨rfl,hb1⟩;have B1:Aside (Below U.heap.size U w1):=(HB.o.alloc HB.o.size _).trans (hb1.mono (by simp;have:=HB.o.size;omega));clear hb1;go_wp2;go_ret;exact ⟨zt,B1.o⟩
 have hcall:=Cy p 130 #[.pointer (some ⟨w.heap.size,0,none⟩)] (enters_of func130 zo rfl) fa fc fresh U hpred zj (hin.later hb);have HB:Aside (Below w.heap.size w U):=hb
 have HZ:Aside (z= !(fresh.any p)):=by
  show z= !(fresh.any p)
  rw [Bool.eq_iff_iff,hz,Bool.not_eq_true',List.any_eq_false];exact ⟨fun q x hxf hpx=>(hp x).1 hpx (q x hxf),fun q x hxf=>Classical.byContradiction (fun k=>q x hxf ((hp x).2 k))⟩
 clear hz hp hpred hb hk;unfold kV;go_enter func70,ntmps70;go_wp2_with fail;rw [<-hU];clear hU;refine hcall.mono ?_;clear hcall;rintro e w1 ⟨rfl,hb1⟩;have B1:Aside (Below w.heap.size w w1):=zi HB.o hb1;clear hb1;go_wp2;go_ret;exact ⟨by rw [HZ.o];rfl,B1.o⟩
theorem Oo (a0 a1 a2 a3:Value):(∀w,(Instr.index 112 (.agg #[a0,a1,a2,a3]) (.int .i64 0)).run prog w= .ok a0 w)/\(∀w,(Instr.index 112 (.agg #[a0,a1,a2,a3]) (.int .i64 1)).run prog w= .ok a1 w)/\(∀w,(Instr.index 112 (.agg #[a0,a1,a2,a3]) (.int .i64 2)).run prog w= .ok a2 w)/\∀w,(Instr.index 112 (.agg #[a0,a1,a2,a3]) (.int .i64 3)).run prog w= .ok a3 w:=
 ⟨fun _=>zo,fun _=>zo,fun _=>zo,fun _=>zo⟩
theorem lr (w:World) (ao:Nat->Option Addr) (cap:Nat->Nat) (R:Rws) (hl:∀i,i<4->(R i).length<=1000):
  Calls prog 71 #[kV ao cap R] w fun e w'=>e= .returned (.int .i64 ((aQ R).length:Int))/\Below w.heap.size w w':=by
 have h0:=hl 0 zj;have h1:=hl 1 zj;have h2:=hl 2 zj;have h3:=hl 3 zj
 have HL:Aside (((aQ R).length:Int)=(R 0).length+(R 1).length+(R 2).length+(R 3).length):=by
  show ((aQ R).length:Int)=_
  unfold aQ;simp;omega
 obtain ⟨x0,x1,x2,x3⟩:=Oo (.slice (ao 0) (R 0).length (cap 0)) (.slice (ao 1) (R 1).length (cap 1)) (.slice (ao 2) (R 2).length (cap 2)) (.slice (ao 3) (R 3).length (cap 3));unfold kV;go_enter func71,ntmps71;go_wp2;refine wp_loop_rounds 5 ?_
 iterate 5
  rw [rounds_succ];go_wp2
 go_ret;refine ⟨?_,zh w _⟩;rw [HL.o]
 first | rfl | (refine congrArg _ (congrArg _ ?_);omega)
theorem Dn (h:fn.results= #[.cell p ty]) (tmps:Array Value) (P:Program) (w:World):
  (results fn tmps).run P w=((asAddr (tmps.getD p undef)).run P w).andThen fun a w1=>((loadVar ty a).run P w1):=by
 exact km0
end
section
open Go.RowKit Go.Lib Go.Sort
section
variable {P:Program} {ops:Array Oper} {Q:Exit→Act→World→Prop} {md:Region.Mode} {S:World→Prop}
theorem eB {j:Nat} {oi oj:Oper} {fuel:Nat} {listed:Array Bool} {a:Act} (hr:Region.ready md ops listed= [i,j]) (hoi:ops[i]? =some oi) (hoj:ops[j]? =some oj)
  (h1:∀K:Act->World->Prop,(∀a' w',S w'->wpAnyH P md ops Q S fuel (listed.setIfInBounds i true) a' w'->K a' w')->if Region.wanted oi (yielded ops a.tmps)=true then Oper.wp P oi a w K Q else K (a.put oi.dst undef) w)
  (h2:∀K:Act->World->Prop,(∀a' w',S w'->wpAnyH P md ops Q S fuel (listed.setIfInBounds j true) a' w'->K a' w')->if Region.wanted oj (yielded ops a.tmps)=true then Oper.wp P oj a w K Q else K (a.put oj.dst undef) w):wpAnyH P md ops Q S (fuel+1) listed a w:=by
 refine ⟨fun h0=>qg,fun k hk=> ?_⟩;rw [hr] at hk;simp only [vJ,Zr,or_false] at hk
 rcases hk with rfl | rfl
 ·have:=h1 (fun a' w'=>S w'/\wpAnyH P md ops Q S fuel (listed.setIfInBounds k true) a' w') (fun a' w' h1 h2=>⟨h1,h2⟩);unfold wpOp;simp only [hoi];split
  ·rename_i hw;exact kh0
  rename_i hw;exact ki7
 have:=h2 (fun a' w'=>S w'/\wpAnyH P md ops Q S fuel (listed.setIfInBounds k true) a' w') (fun a' w' h1 h2=>⟨h1,h2⟩);unfold wpOp;simp only [hoj];split
 ·rename_i hw;exact kh0
 rename_i hw;exact ki7
end
theorem FR {Z:Nat} (h:OpBlk w Z x) (y:OpX):OpBlk (w.setCells Z 0 (bq y)) Z y:=by
 have h1:=heap_setCell_same w Z 0 _ _ (.int .i64 y.1) h;have h2:=heap_setCell_same _ Z 1 _ _ (.int .i64 y.2.1) h1;have h3:=heap_setCell_same _ Z 2 _ _ (.int .i64 y.2.2.1) h2;have h4:=heap_setCell_same _ Z 3 _ _ (.int .u8 (y.2.2.2.1:Int)) h3;have h5:=heap_setCell_same _ Z 4 _ _ (.int .i64 y.2.2.2.2.1) h4;have h6:=heap_setCell_same _ Z 5 _ _ (.int .i64 y.2.2.2.2.2.1) h5;have h7:=heap_setCell_same _ Z 6 _ _ (.string y.2.2.2.2.2.2.1) h6;have h8:=heap_setCell_same _ Z 7 _ _ (.string y.2.2.2.2.2.2.2) h7;exact h8
