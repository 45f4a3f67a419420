import Derived.Test.YtehighgebbdenaaGreatDoorRa03
import Derived.Deep.DeepCutAuto
set_option linter.unusedSimpArgs false
set_option maxRecDepth 100000
set_option maxHeartbeats 64000000
namespace Go.Proofs.YtehighgebbdenaaGreatDoor
open Go.Proofs.Tryz
variable {vs xs:List Value} {B b g i k n:Nat} {cap:Nat→Nat} {ao:Nat→Option Addr} {R:Rws} {E:TypeId} {a w w':World}
section
open Go.RowKit Go.Lib Go.Sort
def kV (ao:Nat->Option Addr) (cap:Nat->Nat) (R:Rws):Value:=.agg #[.slice (ao 0) (R 0).length (cap 0),.slice (ao 1) (R 1).length (cap 1),.slice (ao 2) (R 2).length (cap 2),.slice (ao 3) (R 3).length (cap 3)]
def KnownAt (w:World) (ao:Nat->Option Addr) (R:Rws):Prop:=∀i,i<4->OpsIn w (ao i) (R i)
theorem KnownAt.later {w w':World} {ao:Nat->Option Addr} {R:Rws} (h:KnownAt w ao R) (hb:Below w.heap.size w w'):KnownAt w' ao R:=fun i hi=>(h i hi).later hb
def KBox (w:World) (b:Nat) (ao:Nat->Option Addr) (cap:Nat->Nat) (R:Rws):Prop:=w.heap[b]? =some (.cells #[.slice (ao 0) (R 0).length (cap 0),.slice (ao 1) (R 1).length (cap 1),.slice (ao 2) (R 2).length (cap 2),.slice (ao 3) (R 3).length (cap 3)] 65 (0,0))
theorem KBox.at (h:KBox w b ao cap R) (hi:i<4):w.cell? ⟨b,i,none⟩=some (.slice (ao i) (R i).length (cap i)):=by
 unfold KBox at h
 match i,hi with
 | 0,_=>simp [World.cell?,h]
 | 1,_=>simp [World.cell?,h]
 | 2,_=>simp [World.cell?,h]
 | 3,_=>simp [World.cell?,h]
theorem KBox.fz (h:KBox w b ao cap R) (o:Nat):w.frozen? ⟨b,o,none⟩=false:=by
 unfold KBox at h;simp [World.frozen?,h]
theorem KBox.lt (h:KBox w b ao cap R):b<w.heap.size:=(vO.1 h).1
theorem KBox.new (w:World) (ao:Nat->Option Addr) (cap:Nat->Nat) (R:Rws):KBox (w.alloc (.cells #[.slice (ao 0) (R 0).length (cap 0),.slice (ao 1) (R 1).length (cap 1),.slice (ao 2) (R 2).length (cap 2),.slice (ao 3) (R 3).length (cap 3)] 65)) w.heap.size ao cap R:=heap_alloc_new w _
theorem KBox.later (h:KBox w b ao cap R) (hb:Below w.heap.size w w'):KBox w' b ao cap R:=(hb.block b h.lt).trans h
theorem OpsIn.get {ao:Option Addr} {xs:List OpX} (h:OpsIn w ao xs) {x:OpX} (hi:xs[i]? =some x):∃blk off,ao=some ⟨blk,off,none⟩/\∀c u,(au x)[c]? =some u->w.cell? ⟨blk,off+i*8+c,none⟩=some u:=by
 rcases h with h | ⟨b,o,h1,h2⟩
 ·subst h;simp at hi
 refine ⟨b,o,h1,fun c u hc=> ?_⟩
 have hl:=(vL.1 hi)
 have h8:c<8:=(vL.1 hc).1;have e:=bO xs i c hl.1 h8;rw [Zc];refine h2 _ _ (e.trans ?_);rw [getElem!_pos xs i hl.1,hl.2,getElem!_pos _ c yT,<-(vL.1 hc).2]
theorem dS {fn:Func} {p u:Tmp} {ty:TypeId} (h:fn.results= #[.cell p ty,.tmp u]) (tmps:Array Value) (P:Program) (w:World):
  (results fn tmps).run P w=
   ((asAddr (tmps.getD p undef)).run P w).andThen fun a w1=>((loadVar ty a).run P w1).andThen fun v w2=>.ok (.tuple #[v,tmps.getD u undef]) w2:=by
 exact ko3
theorem tl (w:World) (ao:Nat->Option Addr) (cap:Nat->Nat) (R:Rws) (i n:Nat) (hi:i<4) (hx:(R i).length<=n):
  Calls prog 111 #[kV ao cap R,.int .i64 (i:Int),.int .i64 ((n:Int)+1)] w fun e w'=>e= .returned (.tuple #[aD aV,.bool false])/\Below w.heap.size w w':=by
 unfold kV;have dn:decide (((R i).length:Int)<(n:Int)+1)=true:=zr;have h4:i=0\/i=1\/i=2\/i=3:=zo
 rcases h4 with rfl | rfl | rfl | rfl
 all_goals
  go_enter func111,ntmps111;go_wp2;(try simp only [Exit.inBlock,Exit.then]);refine bodyPost_ret (v:=.tuple #[aD aV,.bool false]) ?_ rfl ⟨rfl,?_⟩
  ·exact kc3
  exact km3
theorem sq (w:World) (ao:Nat->Option Addr) (cap:Nat->Nat) (R:Rws) (i n:Nat) (x:OpX) (hK:KnownAt w ao R) (hi:i<4) (hn:n<1000) (hx:(R i)[n]? =some x):
  Calls prog 111 #[kV ao cap R,.int .i64 (i:Int),.int .i64 ((n:Int)+1)] w fun e w'=>e= .returned (.tuple #[aD x,.bool true])/\Below w.heap.size w w':=by
 obtain ⟨blk,off,ha,hc⟩:=(hK i hi).get hx;have hln:=(vL.1 hx).1;obtain ⟨t,b,m,k,nd,o,s,v⟩:=x;have hbl:blk<w.heap.size:=vR w ⟨blk,off+n*8+0,none⟩ (hc 0 _ rfl)
 have hcell:∀o1 o2 c u,(au (t,b,m,k,nd,o,s,v))[c]? =some u->((w.alloc o1).alloc o2).cell? ⟨blk,off+n*8+c,none⟩=some u:=fun o1 o2 c u hu=>by
  rw [(((vP w.heap.size w).alloc zg o1).alloc zv o2).cell (p:=⟨blk,off+n*8+c,none⟩) hbl];exact hc c u hu
 have r0:=fun o1 o2=>hcell o1 o2 0 _ rfl
 have r1:=fun o1 o2=>hcell o1 o2 1 _ rfl
 have r2:=fun o1 o2=>hcell o1 o2 2 _ rfl
 have r3:=fun o1 o2=>hcell o1 o2 3 _ rfl
 have r4:=fun o1 o2=>hcell o1 o2 4 _ rfl
 have r5:=fun o1 o2=>hcell o1 o2 5 _ rfl
 have r6:=fun o1 o2=>hcell o1 o2 6 _ rfl
 have r7:=fun o1 o2=>hcell o1 o2 7 _ rfl
 simp only [Zg] at r0;clear hcell hc;have dn:decide (((R i).length:Int)<(n:Int)+1)=false:=zr;have en:((n:Int)+1 - 1)=(n:Int):=zo;have wn:((n:Int)).toNat=n:=zo;have pn:(0:Int)<=(n:Int):=zo;have bn:(n:Int)<((R i).length:Int):=zo;have h4:i=0\/i=1\/i=2\/i=3:=zo;unfold kV aD
 rcases h4 with rfl | rfl | rfl | rfl
 all_goals
  rw [ha];clear ha;go_enter func111,ntmps111;go_wp2;(try simp only [Exit.inBlock,Exit.then]);refine bodyPost_ret (v:=.tuple #[.agg #[.int .i64 t,.int .i64 b,.int .i64 m,.int .u8 (k:Int),.int .i64 nd,.int .i64 o,.string s,.string v],.bool true]) ?_ rfl ⟨rfl,?_⟩
  ·exact ke7
  exact km3
end
section
open Go.RowKit
def nZ (a b:Int):Int:=if a<b then -1 else if b<a then 1 else 0
theorem MZ (a:Int) (w:World):Calls prog 168 #[.int .i64 a] w fun e w'=>e= .returned (.bool false)/\w'=w:=by
 have d0:(a !=a)=false:=zv;go_enter func168,ntmps168;exact kb4
theorem oY (a b:Int) (w:World):Calls prog 103 #[.int .i64 a,.int .i64 b] w fun e w'=>e= .returned (.int .i64 (nZ a b))/\w'=w:=by
 unfold nZ;by_cases h1:a<b
 ·have d1:decide (a<b)=true:=decide_eq_true h1;rw [if_pos h1];exact kg4
 have d1:decide (a<b)=false:=decide_eq_false h1;rw [if_neg h1];by_cases h2:b<a
 ·have d2:decide (b<a)=true:=decide_eq_true h2;rw [if_pos h2];exact kg4
 have d2:decide (b<a)=false:=decide_eq_false h2;rw [if_neg h2];exact kg4
end
section
open Go.RowKit
theorem DW (n:Int) (w:World) (h1:4<=n) (h2:n<4294967300):
  Calls prog 191 #[.int .i64 n] w fun e w'=>e= .returned (.tuple #[.agg #[.int .i64 (n / 4),.int .i64 (n % 4)],.nilIface])/\Below w.heap.size w w':=by
 go_enter func191,ntmps191;go_wp2_with (go_at_call 219;refine (kg _ _ _ zo zo zo zo).mono ?_;rintro e w1 ⟨rfl,hb⟩;obtain ⟨hc,hf⟩:=DB hb);have c0:w1.cell? ⟨w.heap.size,0,none⟩=some (.int .i64 0):=jQ;have c1:w1.cell? ⟨w.heap.size,1,none⟩=some (.int .i64 0):=jQ;refine bodyPost_ret (v:=.tuple #[.agg #[.int .i64 (n / 4),.int .i64 (n % 4)],.nilIface]) vJ rfl ⟨rfl,?_⟩;exact ((((zh _ _).alloc zv _).trans (hb.mono zr)).setCell zv _).setCell zv _
end
section
open Go.RowKit
theorem ss (n:Int) (h:n<0):n.tdiv 4<=0:=by
 have e:n.tdiv 4= -((-n).tdiv 4):=by rw [Int.neg_tdiv];omega
 have e2:(-n).tdiv 4=(-n) / 4:=Int.tdiv_eq_ediv_of_nonneg zo;omega
theorem Cd (n:Int) (w:World) (u:TypeId) (x:Value) (hg:w.cell? ⟨2,0,none⟩=some (.iface u x)) (hz:2<w.heap.size) (h:n<0) (h2: -9223372036854775808<=n):
  Calls prog 191 #[.int .i64 n] w fun e w'=>e= .returned (.tuple #[.agg #[.int .i64 0,.int .i64 0],.iface u x])/\Below w.heap.size w w':=by
 have hq:=ss n h;go_enter func191,ntmps191;go_wp2_with fail;refine (oT _ _ _ (.iface u x) (by rw [uD _ _ _ qh,uD _ _ _ hz];exact hg) qh zo).mono ?_;exact kc7
theorem Cz (n:Int) (w:World) (u:TypeId) (x:Value) (hg:w.cell? ⟨2,0,none⟩=some (.iface u x)) (hz:2<w.heap.size) (h:0<=n) (h2:n<4\/4294967300<=n) (h3:n<=9223372036854775807):
  Calls prog 191 #[.int .i64 n] w fun e w'=>e= .returned (.tuple #[.agg #[.int .i64 0,.int .i64 0],.iface u x])/\Below w.heap.size w w':=by
 have hq:¬(1<=n / 4/\n / 4<=1073741824/\0<=n % 4/\n % 4<4):=zo;have H:Hid (¬(1<=n / 4/\n / 4<=1073741824/\0<=n % 4/\n % 4<4)):=hq;clear hq h2;go_enter func191,ntmps191;go_wp2_with fail;refine (oT _ _ _ (.iface u x) (by rw [uD _ _ _ qh,uD _ _ _ hz];exact hg) qh H.o).mono ?_;exact kc7
theorem KM (n:Int) (w:World) (u:TypeId) (x:Value) (hg:w.cell? ⟨2,0,none⟩=some (.iface u x)) (hz:2<w.heap.size) (h:n<4\/4294967300<=n) (h2: -9223372036854775808<=n) (h3:n<=9223372036854775807):
  Calls prog 191 #[.int .i64 n] w fun e w'=>e= .returned (.tuple #[.agg #[.int .i64 0,.int .i64 0],.iface u x])/\Below w.heap.size w w':=by
 by_cases hn:n<0
 ·exact Cd n w u x hg hz hn h2
 exact Cz n w u x hg hz zo h h3
end
section
open Go.RowKit Go.Lib Go.Sort
theorem wq (x:OpX) (tm:Int) (w:World):Calls prog 236 #[aD x,.int .i64 tm] w fun e w'=>e= .returned (.int .i64 (nZ x.1 tm))/\Below w.heap.size w w':=by
 obtain ⟨t,b,n,k,nd,o,s,v⟩:=x;unfold aD;dsimp only;go_enter func236,ntmps236;go_wp2_with (go_at_call 103;refine (oY _ _ _).mono ?_;rintro e w' ⟨rfl,rfl⟩);go_ret;exact ⟨rfl,zh w _⟩
def Le (xs:List OpX) (tm:Int) (i:Nat) (b:Bool):Prop:=i<=xs.length/\(∀j x,j<i->xs[j]? =some x->x.1<tm)/\(∀j x,i<=j->xs[j]? =some x->tm<=x.1)/\(b=true↔∃x,xs[i]? =some x/\x.1=tm)
def DD (xs:List OpX):Prop:=∀(i j:Nat) (x y:OpX),i<=j->xs[i]? =some x->xs[j]? =some y->x.1<=y.1
theorem sD (ao:Option Addr) (cap:Nat) (xs:List OpX) (tm:Int) (w:World) (hin:OpsIn w ao xs) (hr:DD xs) (hn:xs.length<=1000):
  Calls prog 235 #[.slice ao xs.length cap,.int .i64 tm,.func (.func 236) #[] #[]] w fun e w'=>∃(i:Nat) (b:Bool),e= .returned (.tuple #[.int .i64 (i:Int),.bool b])/\Le xs tm i b/\Below w.heap.size w w':=by
 have HI:Aside (OpsIn w ao xs/\DD xs):=⟨hin,hr⟩
 clear hin hr;go_enter func235,ntmps235;go_wp2;go_loopg [9,10,11] (xs.length+1) (fun kx s9 s10 s11 wr=>∃(i j:Nat),s9= .int .i64 (i:Int)/\s10= .int .i64 (j:Int)/\i<=j/\j<=xs.length/\j - i<kx/\Aside (Below w.heap.size w wr/\(∀k x,k<i->xs[k]? =some x->x.1<tm)/\(∀k x,j<=k->xs[k]? =some x->tm<=x.1)))
 case atStart=>exact ⟨0,xs.length,rfl,rfl,vV _,vM _,zo,vP _ w,fun k x hk=>zo,fun k x hk h=>by have:=(vL.1 h).1;omega⟩
 case round=>
  obtain ⟨i,j,rfl,rfl,hij,hj,hkx,A⟩:=hrel;by_cases hlt:i<j
  ·have d1:decide ((i:Int)<(j:Int))=true:=by simp;omega
   obtain ⟨h,hh⟩:∃h:Nat,h=(i+j) / 2:=⟨_,rfl⟩
   have eh:((i:Int)+(j:Int)) / 2=(h:Int):=zo;have hl:h<xs.length:=zo;have wh:((h:Int)).toNat=h:=zo;have ph:(0:Int)<=(h:Int):=zo;have bh:(h:Int)<(xs.length:Int):=zo;have hih:i<=h/\h<j:=zo;clear hh
   obtain ⟨⟨t,b,n,k,nd,o,s,v⟩,hx⟩:∃x,Aside (xs[h]? =some x):=⟨xs[h],vN hl⟩
   obtain ⟨blk,off,hao,hc⟩:=(HI.o.1.later A.o.1).get hx.o;subst hao;have r0:=hc 0 _ rfl;have r1:=hc 1 _ rfl;have r2:=hc 2 _ rfl;have r3:=hc 3 _ rfl;have r4:=hc 4 _ rfl;have r5:=hc 5 _ rfl;have r6:=hc 6 _ rfl;have r7:=hc 7 _ rfl;simp only [Zg] at r0;clear hc;have hcall:=wq (t,b,n,k,nd,o,s,v) tm wr;unfold aD at hcall;dsimp only at hcall;by_cases hc:t<tm
   ·have ec:nZ t tm= -1:=by unfold nZ;rw [if_pos hc]
    rw [ec] at hcall;have HC:Aside (t<tm):=hc;clear hc ec;go_wp2_with (go_at_call 236;refine hcall.mono ?_;clear hcall;rintro e w' ⟨rfl,hb'⟩;have A':Aside (Below w.heap.size w w'):=(zj A.o.1 hb');clear hb' r0 r1 r2 r3 r4 r5 r6 r7);go_roundg (j - h)
    case measure=>omega
    case rel=>
     refine ⟨h+1,j,zD,rfl,zo,hj,zo,A'.o,fun k' x hk hx'=> ?_,A.o.2.2⟩;have:=HI.o.2 k' h x _ zo hx' hx.o;have:=HC.o;dsimp only at*;omega
   have hz:0<=nZ t tm:=by unfold nZ;rw [if_neg hc];split<;>omega
   obtain ⟨z,ez⟩:∃z,nZ t tm=z:=⟨_,rfl⟩
   rw [ez] at hcall hz;have dz:decide (z<0)=false:=zr;have HC:Aside (¬t<tm):=hc;clear hc ez;go_wp2_with (go_at_call 236;refine hcall.mono ?_;clear hcall;rintro e w' ⟨rfl,hb'⟩;have A':Aside (Below w.heap.size w w'):=(zj A.o.1 hb');clear hb' r0 r1 r2 r3 r4 r5 r6 r7);go_roundg (h - i+1)
   case measure=>omega
   case rel=>
    refine ⟨i,h,rfl,rfl,zo,zo,zo,A'.o,A.o.2.1,fun k' x hk hx'=> ?_⟩;have:=HI.o.2 h k' _ x zo hx.o hx';have:=HC.o;dsimp only at*;omega
  have d1:decide ((i:Int)<(j:Int))=false:=zr;obtain rfl:i=j:=zo;by_cases hil:i<xs.length
  ·have d2:decide ((i:Int)<(xs.length:Int))=true:=by simp;omega
   have wh:((i:Int)).toNat=i:=zo;have ph:(0:Int)<=(i:Int):=zo;have bh:(i:Int)<(xs.length:Int):=zo
   obtain ⟨⟨t,b,n,k,nd,o,s,v⟩,hx⟩:∃x,Aside (xs[i]? =some x):=⟨xs[i],vN hil⟩
   obtain ⟨blk,off,hao,hc⟩:=(HI.o.1.later A.o.1).get hx.o;subst hao;have r0:=hc 0 _ rfl;have r1:=hc 1 _ rfl;have r2:=hc 2 _ rfl;have r3:=hc 3 _ rfl;have r4:=hc 4 _ rfl;have r5:=hc 5 _ rfl;have r6:=hc 6 _ rfl;have r7:=hc 7 _ rfl;simp only [Zg] at r0;clear hc;have hcall:=wq (t,b,n,k,nd,o,s,v) tm wr;unfold aD at hcall;dsimp only at hcall
   have hz:Aside ((nZ t tm==0)=decide (t=tm)):=by
    show (nZ t tm==0)=decide (t=tm)
    unfold nZ;by_cases h1:t<tm
    ·rw [if_pos h1];have:t≠tm:=by omega
     simp [this]
    rw [if_neg h1];by_cases h2:tm<t
    ·rw [if_pos h2];have:t≠tm:=by omega
     simp [this]
    rw [if_neg h2];have:t=tm:=zo;simp [this]
   obtain ⟨z,ez⟩:=zc (nZ t tm);rw [<-ez] at hcall hz;clear ez;go_wp2_with (go_at_call 236;refine hcall.mono ?_;clear hcall;rintro e w' ⟨rfl,hb'⟩;have A':Aside (Below w.heap.size w w'):=(zj A.o.1 hb');clear hb' r0 r1 r2 r3 r4 r5 r6 r7);go_ret2;refine ⟨i,_,rfl,⟨hj,A.o.2.1,A.o.2.2,?_⟩,A'.o⟩;rw [hz.o,decide_eq_true_iff];constructor
   ·intro e;exact ⟨_,hx.o,e⟩
   rintro ⟨x,hx',e⟩;rw [hx.o] at hx'
   cases hx'
   exact e
  have d2:decide ((i:Int)<(xs.length:Int))=false:=zr;go_wp2;go_ret2;refine ⟨i,false,rfl,⟨hj,A.o.2.1,A.o.2.2,?_⟩,A.o.1⟩;constructor
  ·intro e;cases e
  rintro ⟨x,hx',e⟩;have:=(vL.1 hx').1;omega
end
section
open Go Go.RowKit
structure Keeps (S:Nat->Prop) (w w':World):Prop where
 os:w'.os=w.os
 tape:w'.tape=w.tape
 output:w'.output=w.output
 size:w.heap.size<=w'.heap.size
 block:∀k,k<w.heap.size->¬S k->w'.heap[k]? =w.heap[k]?
theorem Keeps.refl (S:Nat->Prop) (w:World):Keeps S w w:=⟨rfl,rfl,rfl,vM _,fun _ _ _=>rfl⟩
theorem Keeps.trans {S:Nat->Prop} {a b c:World} (h:Keeps S a b) (k:Keeps S b c):Keeps S a c:=
 ⟨k.os.trans h.os,k.tape.trans h.tape,k.output.trans h.output,uf h.size k.size,fun i hi hs=>(k.block i (um hi h.size) hs).trans (h.block i hi hs)⟩
theorem Keeps.then {S T:Nat->Prop} {b c:World} (h:Keeps S a b) (k:Keeps T b c) (hT:∀i,i<a.heap.size->T i->S i):Keeps S a c:=
 ⟨k.os.trans h.os,k.tape.trans h.tape,k.output.trans h.output,uf h.size k.size,fun i hi hs=>(k.block i (um hi h.size) (fun ht=>hs (hT i hi ht))).trans (h.block i hi hs)⟩
theorem Keeps.mono {S T:Nat->Prop} (h:Keeps S w w') (hs:∀k,k<w.heap.size->S k->T k):Keeps T w w':=
 ⟨h.os,h.tape,h.output,h.size,fun k hk ht=>h.block k hk (fun e=>ht (hs k hk e))⟩
theorem aP {row:Option Nat} (h:w.grownBy w' row):Keeps (fun k=>some k=row) w w':=
 ⟨h.os,h.tape,h.output,h.size,fun k hk hs=>h.block k hk hs⟩
theorem aW (h:Below B w w'):Keeps (fun k=>B<=k) w w':=
 ⟨h.os,h.tape,h.output,h.size,fun k _ hs=>h.block k zo⟩
theorem Keeps.below {S:Nat->Prop} (h:Keeps S w w') (hB:B<=w.heap.size) (hs:∀k,S k->B<=k):Below B w w':=
 ⟨h.os,h.tape,h.output,h.size,fun k hk=>h.block k zo (fun e=>by have:=hs k e;omega)⟩
theorem Keeps.drew {S:Nat->Prop} {w w':World} (h:Keeps S w w'):Keeps S w w'.drew:=⟨h.os,h.tape,h.output,h.size,h.block⟩
theorem Keeps.alloc {S:Nat->Prop} {w w':World} (h:Keeps S w w') (o:Obj):Keeps S w (w'.alloc o):=
 h.then (aP (World.grownBy_alloc w' o none)) (fun _ _ e=>yL)
theorem Keeps.cell {S:Nat->Prop} {w w':World} (h:Keeps S w w') {a:Addr} (ha:a.block<w.heap.size) (hs:¬S a.block):w'.cell? a=w.cell? a:=uk (h.block _ ha hs)
theorem Keeps.frozen {S:Nat->Prop} {w w':World} (h:Keeps S w w') {a:Addr} (ha:a.block<w.heap.size) (hs:¬S a.block):w'.frozen? a=w.frozen? a:=Ye (h.block _ ha hs)
def EZ (c:Array Value):Nat->List Value->Array Value
 | _,[]=>c
 | o,v::r=>EZ (c.setIfInBounds o v) (o+1) r
theorem eo:∀(vs:List Value) (o:Nat) (c:Array Value),(EZ c o vs).size=c.size
 | [],_,_=>rfl
 | v::r,o,c=>by rw [EZ,eo r];simp
theorem ed:∀(vs A B C:List Value) (c:Array Value),c.toList=A++B++C->B.length=vs.length->(EZ c A.length vs).toList=A++vs++C
 | [],A,B,C,c,h,hl=>by
  have:B= []:=uh.1 hl;subst this;simpa [EZ] using h
 | v::r,A,[],C,c,h,hl=>jL
 | v::r,A,b::B,C,c,h,hl=>by
  have ih:=ed r (A++ [v]) B C (c.setIfInBounds A.length v) xQ (by simpa using hl);rw [EZ];simpa using ih
theorem af (b:Nat):∀(vs:List Value) (o:Nat) (w:World) (c:Array Value) (t:TypeId),w.heap[b]? =some (.cells c t (0,0))->(w.setCells b o vs).heap[b]? =some (.cells (EZ c o vs) t (0,0))
 | [],_,_,_,_,h=>h
 | v::r,o,w,c,t,h=>af b r (o+1) _ _ t (heap_setCell_same w b o c t v h)
theorem aZ (b:Nat):∀(vs:List Value) (o:Nat) (w:World),Keeps (fun k=>k=b) w (w.setCells b o vs)
 | [],_,w=>Keeps.refl _ w
 | v::r,o,w=>by
  refine Keeps.trans (b:=w.setCell ⟨b,o,none⟩ v) ⟨rfl,rfl,rfl,?_,fun k _ hk=>heap_setCell_other w ⟨b,o,none⟩ k v hk⟩ (aZ b r (o+1) _);simp [World.setCell]
theorem cC {P:Program} (w:World) (dT sT ty elem:TypeId) (k b o dLen dCap:Nat) (a:Addr) (sLen sCap:Nat) (cs:List Value)
  (hu:P.underlying dT=some (.slice elem)) (hs:(P.info? elem).map (·.size)=some k) (hn:cs.length=Nat.min sLen dLen*k)
  (hsrc:∀j v,cs[j]? =some v->w.cell? (a.add j)=some v) (hc:∀j,j<cs.length->(w.cell? ⟨b,o+j,none⟩).isSome=true) (hf:∀j,j<cs.length->w.frozen? ⟨b,o+j,none⟩=false) (h1:∀v∈cs,v.oneCell'=true):
  (Builtin.copy_ #[dT,sT] ty #[.slice (some ⟨b,o,none⟩) dLen dCap,.slice (some a) sLen sCap]).run P w= .ok (goInt (Nat.min sLen dLen)) (w.setCells b o cs):=by
 have hl:=run_loadCells_list (P:=P) w a cs hsrc;have hst:=run_storeCells_cells (P:=P) b o cs 0 w (by simpa using hc) (by simpa using hf) h1
 cases hq:P.info? elem with
 | none=>simp [hq] at hs
 | some i=>
  have hi:i.size=k:=by simpa [hq] using hs
  simp only [Zg] at hst;simp [Builtin.copy_,run_underlying hu,Builtin.lenOf,Builtin.firstCells,sizeOf,typeInfo,hq,hi,<-hn,hl,hst]
theorem tY {base cap:Nat} (h:w.ownsRow base E k (.slice (some ⟨g,0,none⟩) n cap) n xs) (hroom:n+1<=cap) (hi:i<=n) (hv:vs.length=k):
  ((w.setCells g ((i+1)*k) (xs.drop (i*k))).setCells g (i*k) vs).ownsRow base E k (.slice (some ⟨g,0,none⟩) (n+1) cap) (n+1) (xs.take (i*k)++vs++xs.drop (i*k)):=by
 obtain ⟨hl,h2⟩:=h
 rcases h2 with ⟨hc,_⟩ | ⟨g',cap',cur,hc,hb,hg,hn,hm,hs,ht⟩
 ·cases hc
 cases hc
 have hik:i*k<=n*k:=uO k hi;have hnk:(n+1)*k=n*k+k:=jc;have hi1:(i+1)*k=i*k+k:=jc;have hck:(n+1)*k<=cap*k:=uO k hroom
 have hcl:cur.toList.length=cap*k:=by simpa using hs
 have hcur:cur.toList=xs++cur.toList.drop (n*k):=by
  conv=>lhs;rw [<-ur (n*k) cur.toList]
  rw [ht]
 obtain ⟨C,hC⟩:=zc (cur.toList.drop (n*k));rw [<-hC] at hcur
 have hCl:C.length=cap*k - n*k:=by rw [hC,uy,hcl]
 have hdl:(xs.drop (i*k)).length=n*k - i*k:=by rw [uy,hl]
 have htl:(xs.take (i*k)).length=i*k:=by rw [ug,hl];omega
 have hg1:=af g (xs.drop (i*k)) ((i+1)*k) w cur E hg
 have e1:(cur.toList.take ((i+1)*k)).length=(i+1)*k:=by rw [ug,hcl];omega
 have o1:=ed (xs.drop (i*k)) (cur.toList.take ((i+1)*k)) ((cur.toList.drop ((i+1)*k)).take (n*k - i*k)) ((cur.toList.drop ((i+1)*k)).drop (n*k - i*k)) cur
  (by rw [ux,ur,ur]) (by rw [ug,uy,hdl,hcl];omega)
 rw [e1] at o1;obtain ⟨c1,hc1⟩:=zc (EZ cur ((i+1)*k) (xs.drop (i*k)));rw [<-hc1] at o1 hg1
 have hs1:c1.size=cap*k:=by rw [hc1,eo,hs]
 have hg2:=af g vs (i*k) _ c1 E hg1
 have hA:cur.toList.take ((i+1)*k)=xs.take (i*k)++(cur.toList.drop (i*k)).take k:=by
  rw [hi1,List.take_add];congr 1;rw [hcur,uZ zo]
 have o2:=ed vs (xs.take (i*k)) ((cur.toList.drop (i*k)).take k) (xs.drop (i*k)++(cur.toList.drop ((i+1)*k)).drop (n*k - i*k)) c1
  (by rw [o1,hA];simp [ux]) (by rw [ug,uy,hcl,hv];omega)
 rw [htl] at o2;refine ⟨?_,.inr ⟨g,cap,_,rfl,hb,hg2,hroom,hm,by rw [eo,hs1],?_⟩⟩
 ·rw [ub,ub,htl,hv,hdl];omega
 rw [o2,<-ux,uZ xE,uc xE]
theorem Bw {base G:Nat} {Z:List Value} {row:Array Value} (hg:w.heap[g]? =some (.cells row E (0,0))) (hrow:row.toList=xs.take (i*k)++Z) (hs:row.size=G*k)
  (hb:base<=g) (hroom:n+1<=G) (hm:G<=maxLen) (hi:i<=n) (hl:xs.length=n*k) (hv:vs.length=k):
  ((w.setCells g (i*k) vs).setCells g ((i+1)*k) (xs.drop (i*k))).ownsRow base E k (.slice (some ⟨g,0,none⟩) (n+1) G) (n+1) (xs.take (i*k)++vs++xs.drop (i*k)):=by
 have hik:i*k<=n*k:=uO k hi;have hnk:(n+1)*k=n*k+k:=jc;have hi1:(i+1)*k=i*k+k:=jc;have hck:(n+1)*k<=G*k:=uO k hroom
 have hdl:(xs.drop (i*k)).length=n*k - i*k:=by rw [uy,hl]
 have htl:(xs.take (i*k)).length=i*k:=by rw [ug,hl];omega
 have hZl:Z.length=G*k - i*k:=by
  have:row.toList.length=G*k:=by simpa using hs
  rw [hrow,ub,htl] at this;omega
 have hg1:=af g vs (i*k) w row E hg;have o1:=ed vs (xs.take (i*k)) (Z.take k) (Z.drop k) row (by rw [hrow,ux,ur]) (by rw [ug,hZl,hv];omega);rw [htl] at o1;obtain ⟨c1,hc1⟩:=zc (EZ row (i*k) vs);rw [<-hc1] at o1 hg1
 have hs1:c1.size=G*k:=by rw [hc1,eo,hs]
 have hg2:=af g (xs.drop (i*k)) ((i+1)*k) _ c1 E hg1
 have hal:(xs.take (i*k)++vs).length=(i+1)*k:=by rw [ub,htl,hv,hi1]
 have o2:=ed (xs.drop (i*k)) (xs.take (i*k)++vs) ((Z.drop k).take (n*k - i*k)) ((Z.drop k).drop (n*k - i*k)) c1
  (by rw [o1];simp only [ux,ur]) (by rw [ug,uy,hZl,hdl];omega)
 rw [hal] at o2;refine ⟨?_,.inr ⟨g,G,_,rfl,hb,hg2,hroom,hm,by rw [eo,hs1],?_⟩⟩
 ·rw [ub,hal,hdl];omega
 rw [o2,uZ jU,uc jU]
end
section
open Go.RowKit
theorem Ka (s:ByteArray) (k:Nat) (h:k<s.size):s.data.toList.drop k=s[k]::s.data.toList.drop (k+1):=by
 have hl:k<s.data.toList.length:=qz;rw [uQ hl];simp;rfl
theorem Jr (s:ByteArray):s.data.toList.drop s.size= []:=by
 rw [List.drop_eq_nil_iff];simp
end
section
open Go.RowKit
theorem oQ (n id:Int) (w:World) (h0:0<=n) (h1:n<id):
  Calls prog 220 #[.int .i64 n,.int .i64 id] w fun e w'=>e= .returned (.bool true)/\w'=w:=by
 go_enter func220,ntmps220;exact kb4
theorem sO (n id:Int) (w:World) (h:n<0\/id<=n):
  Calls prog 220 #[.int .i64 n,.int .i64 id] w fun e w'=>e= .returned (.bool false)/\w'=w:=by
 by_cases h0:n<0
 ·clear h;go_enter func220,ntmps220;exact kb4
 have h1:id<=n:=zo;have h2:0<=n:=zo;have d:decide (n<id)=false:=zr;clear h h0;go_enter func220,ntmps220;exact kb4
theorem Kg (c:UInt8) (w:World):
  Calls prog 273 #[.int .u8 (c.toNat:Int)] w fun e w'=>e= .returned (.bool (cP c))/\w'=w:=by
 have hb:cP c=decide (97<=(c.toNat:Int)/\(c.toNat:Int)<=122\/48<=(c.toNat:Int)/\(c.toNat:Int)<=57\/(c.toNat:Int)=45\/(c.toNat:Int)=46):=by
  unfold cP;rw [decide_eq_decide];omega
 rw [hb];clear hb;generalize (c.toNat:Int)=x
 rcases (by omega:122<x\/(97<=x/\x<=122)\/(57<x/\x<97)\/(48<=x/\x<=57)\/x=46\/x=45\/(x<48/\x≠46/\x≠45)) with h | ⟨h,h'⟩ | ⟨h,h'⟩ | ⟨h,h'⟩ | h | h | ⟨h,h',h''⟩
 ·rw [decide_eq_false zo];have d1:decide (x<=122)=false:=zr;have d2:decide (x<=57)=false:=zr;have e1:(x==45)=false:=zr;have e2:(x==46)=false:=zr;go_enter func273,ntmps273;exact kb4
 ·rw [decide_eq_true zo];go_enter func273,ntmps273;exact kb4
 ·rw [decide_eq_false zo];have d1:decide (97<=x)=false:=zr;have d2:decide (x<=57)=false:=zr;have e1:(x==45)=false:=zr;have e2:(x==46)=false:=zr;go_enter func273,ntmps273;exact kb4
 ·rw [decide_eq_true zo];have d1:decide (97<=x)=false:=zr;go_enter func273,ntmps273;exact kb4
 ·subst h;go_enter func273,ntmps273;exact kb4
 ·subst h;go_enter func273,ntmps273;exact kb4
 rw [decide_eq_false zo];have d1:decide (97<=x)=false:=zr;have d2:decide (48<=x)=false:=zr;have e1:(x==45)=false:=zr;have e2:(x==46)=false:=zr;go_enter func273,ntmps273;exact kb4
theorem wg (s:ByteArray) (f:UInt8->Bool) (k:Nat) (h:k<s.size):(s.data.toList.drop k).all f=(f s[k] &&(s.data.toList.drop (k+1)).all f):=by
 rw [Ka s k h,List.all_cons]
theorem GD (s:ByteArray) (w:World) (hs:s.size<=1000000):
  Calls prog 221 #[.string s] w fun e w'=>e= .returned (.bool (cQ s.data.toList))/\w'=w:=by
 have hl:s.data.toList.length=s.size:=zv;by_cases h1:s.size<1
 ·have d1:decide ((s.size:Int)<1)=true:=by simp;omega
  have hr:cQ s.data.toList=false:=by unfold cQ;rw [hl,decide_eq_false zo];rfl
  rw [hr];go_enter func221,ntmps221;exact kb4
 by_cases h2:12<s.size
 ·have d1:decide ((s.size:Int)<1)=false:=by simp;omega
  have d2:decide (12<(s.size:Int))=true:=zr
  have hr:cQ s.data.toList=false:=by unfold cQ;rw [hl,decide_eq_false (show ¬s.size<=12 by omega)];simp
  rw [hr];go_enter func221,ntmps221;exact kb4
 have d1:decide ((s.size:Int)<1)=false:=zr;have d2:decide (12<(s.size:Int))=false:=zr
 have hr:cQ s.data.toList=s.data.toList.all cP:=by unfold cQ;rw [hl,decide_eq_true (show s.size<=12 by omega),decide_eq_true (show 1<=s.size by omega)];rfl
 rw [hr];generalize hR:s.data.toList.all cP=R;have HR:=Lib.hid hR;clear hR hr hl;go_enter func221,ntmps221;go_wp2;go_loop [14] (fun i=>∃k:Nat,k<=s.size/\i= .int .i64 k/\Hid ((s.data.toList.drop k).all cP=R)) (fun i=>s.size - (intOf i).toNat)
 case atStart=>exact ⟨0,vV _,rfl,Lib.hid xz⟩
 case round=>
  obtain ⟨k,hk,rfl,HD⟩:=hrel;by_cases hlt:k<s.size
  ·have hd:decide ((k:Int)<(s.size:Int))=true:=by simp;omega
   have HA:=Lib.hid ((wg s cP k hlt).symm.trans HD.o);clear HD;go_wp2_with fail;refine (Kg _ _).mono ?_;rintro e w' ⟨rfl,rfl⟩
   cases hb:cP s[k] with
   | true=>
    have HE:Hid ((s.data.toList.drop (k+1)).all cP=R):=Lib.hid ye;go_wp2;go_round
    case rel=>exact ⟨k+1,zo,zD,HE⟩
    case measure=>simp [intOf];omega
   | false=>
    have HE:Hid (R=false):=Lib.hid vF;exact ko0
  exact kd8
theorem Fz (s:ByteArray) (w:World) (hs:s.size<=1000000):
  Calls prog 222 #[.string s] w fun e w'=>e= .returned (.bool (dy s.data.toList))/\w'=w:=by
 unfold dy;generalize hR:s.data.toList.all gl=R;have HR:=Lib.hid hR;clear hR;go_enter func222,ntmps222;go_wp2;go_loop [6] (fun i=>∃k:Nat,k<=s.size/\i= .int .i64 k/\Hid ((s.data.toList.drop k).all gl=R)) (fun i=>s.size - (intOf i).toNat)
 case atStart=>exact ⟨0,vV _,rfl,Lib.hid xz⟩
 case round=>
  obtain ⟨k,hk,rfl,HD⟩:=hrel;by_cases hlt:k<s.size
  ·have hd:decide ((k:Int)<(s.size:Int))=true:=by simp;omega
   have HA:=Lib.hid ((wg s gl k hlt).symm.trans HD.o);clear HD;by_cases g1:s[k].toNat<32
   ·have l1:decide ((s[k].toNat:Int)<32)=true:=by simp;omega
    exact kb6
   have l1:decide ((s[k].toNat:Int)<32)=false:=zr;by_cases g2:126<s[k].toNat
   ·have l2:decide (126<(s[k].toNat:Int))=true:=by simp;omega
    exact kb6
   have l2:decide (126<(s[k].toNat:Int))=false:=zr
   have HE:Hid ((s.data.toList.drop (k+1)).all gl=R):=Lib.hid (by
    have:=HA.o
    rw [show gl s[k]=true by unfold gl;rw [decide_eq_true zo],Bool.true_and] at this
    exact this)
   go_wp2;go_round
   case rel=>exact ⟨k+1,zo,zD,HE⟩
   case measure=>simp [intOf];omega
  exact kd8
