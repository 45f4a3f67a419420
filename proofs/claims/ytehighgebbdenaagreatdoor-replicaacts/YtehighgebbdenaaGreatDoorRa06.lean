import Derived.Test.YtehighgebbdenaaGreatDoorRa05
import Derived.Deep.RegionHeld3
set_option maxRecDepth 100000
set_option maxHeartbeats 64000000
namespace Go.Proofs.YtehighgebbdenaaGreatDoor
open Go.Proofs.Tryz
variable {a:Act} {id:Int} {xs:List OpX} {b i:Nat} {ad:Nat→Addr} {x:OpX} {R:Rws} {W w:World}
section
open Go.RowKit Go.Lib Go.Sort
def fL (R:Rws) (id:Int):Option OpX:=(aR R).find? (fun x=>decide (idO x=id))
theorem me (h:fL R id=some x):x∈aR R/\idO x=id:=by
 unfold fL at h;exact ks9
theorem findK_none :fL R id=none↔∀x∈aR R,idO x≠id:=by
 unfold fL;rw [List.find?_eq_none];simp
theorem we (h:RowsN R) (hx:x∈aR R):fL R (idO x)=some x:=by
 cases hf:fL R (idO x) with
 | none=>exact absurd rfl (findK_none.1 hf x hx)
 | some y=>
  obtain ⟨a,b⟩:=me hf;rw [h.stamp a hx (ES (h.num.ok y a) (h.num.ok x hx) b)]
theorem ku (h:an x=0):4<=idO x/\idO x<4294967300:=by
 have h1:=ir h;unfold idO;have e1:x.2.1=byO x:=rfl;rw [e1];omega
theorem Df (h:RowsN R) (ho:id<4\/4294967300<=id):fL R id=none:=
 findK_none.2 (fun x hx e=>by have:=ku (h.num.ok x hx);omega)
theorem RowsN.risesT (h:RowsN R) (hi:i<4):∀(a b:Nat) (x y:OpX),a<b->(R i)[a]? =some x->(R i)[b]? =some y->x.1<y.1:=by
 intro a b x y hab hx hy;obtain ⟨a1,a2,_⟩:=h.num i hi a x hx;obtain ⟨b1,b2,_⟩:=h.num i hi b y hy;have hp:=ud.1 (h.rise hi) a b (vL.1 hx).1 (vL.1 hy).1 hab;rw [(vL.1 hx).2,(vL.1 hy).2] at hp;unfold CLt stO at hp;dsimp only at hp;have e1:x.2.1=byO x:=rfl;have e2:y.2.1=byO y:=rfl;omega
theorem RowsN.risesLe (h:RowsN R) (hi:i<4):DD (R i):=fun a b x y hab hx hy=>by
 rcases uJ a b with q | q
 ·have:=h.risesT hi a b x y q hx hy;omega
 obtain rfl:a=b:=zo;rw [hx] at hy;cases hy;exact Int.le_refl _
theorem Gu {R:Rws} (h:RowsN R) {id:Int} {i k:Nat} {b:Bool} (hi:i<4) (e:id % 4=(i:Int)) (hb:Le (R i) (id / 4) k b):(b=false->fL R id=none)/\(b=true->∃x,(R i)[k]? =some x/\fL R id=some x):=by
 obtain ⟨h1,h2,h3,h4⟩:=hb;refine ⟨fun hf=>findK_none.2 (fun x hx ex=> ?_),fun ht=> ?_⟩
 ·obtain ⟨m,hm,hxm⟩:=mem_allR.1 hx;obtain ⟨j,a1,a2,a3,_⟩:=h.num.get hm hxm;have e1:x.2.1=byO x:=rfl;unfold idO at ex;obtain rfl:m=i:=zo;have ht:x.1=id / 4:=zo
  have hkj:j=k:=by
   rcases ZM j k with q | q | q
   ·have:=h2 j x q a1;omega
   ·exact q
   have hk:k<(R m).length:=by have:=(vL.1 a1).1;omega
   have ek:=vN hk;have:=h3 k _ zg ek;have:=h.risesT hm k j _ x q ek a1;omega
  subst hkj;rw [hf] at h4;exact absurd (h4.2 ⟨x,a1,ht⟩) zu
 obtain ⟨x,hx,et⟩:=h4.1 ht;refine ⟨x,hx,?_⟩;obtain ⟨b1,b2,_⟩:=h.num i hi k x hx;have e1:x.2.1=byO x:=rfl
 have:idO x=id:=by unfold idO;omega
 rw [<-this];exact we h (mem_allR.2 ⟨i,hi,vQ hx⟩)
def OpBlk (W:World) (b:Nat) (x:OpX):Prop:=W.heap[b]? =some (.cells #[.int .i64 x.1,.int .i64 x.2.1,.int .i64 x.2.2.1,.int .u8 (x.2.2.2.1:Int),.int .i64 x.2.2.2.2.1,.int .i64 x.2.2.2.2.2.1,.string x.2.2.2.2.2.2.1,.string x.2.2.2.2.2.2.2] 38 (0,0))
theorem OpBlk.lt (h:OpBlk W b x):b<W.heap.size:=(vO.1 h).1
theorem OpBlk.later {W':World} (h:OpBlk W b x) (hb:Below W.heap.size W W'):OpBlk W' b x:=(hb.block b h.lt).trans h
theorem OpBlk.new (W:World) (x:OpX):OpBlk (W.alloc (.cells #[.int .i64 x.1,.int .i64 x.2.1,.int .i64 x.2.2.1,.int .u8 (x.2.2.2.1:Int),.int .i64 x.2.2.2.2.1,.int .i64 x.2.2.2.2.2.1,.string x.2.2.2.2.2.2.1,.string x.2.2.2.2.2.2.2] 38)) W.heap.size x:=heap_alloc_new W _
theorem OpBlk.cells (h:OpBlk W b x):W.cell? ⟨b,0,none⟩=some (.int .i64 x.1)/\W.cell? ⟨b,1,none⟩=some (.int .i64 x.2.1)/\W.cell? ⟨b,2,none⟩=some (.int .i64 x.2.2.1)/\W.cell? ⟨b,3,none⟩=some (.int .u8 (x.2.2.2.1:Int))/\W.cell? ⟨b,4,none⟩=some (.int .i64 x.2.2.2.2.1)/\W.cell? ⟨b,5,none⟩=some (.int .i64 x.2.2.2.2.2.1)/\W.cell? ⟨b,6,none⟩=some (.string x.2.2.2.2.2.2.1)/\W.cell? ⟨b,7,none⟩=some (.string x.2.2.2.2.2.2.2)/\∀c,W.frozen? ⟨b,c,none⟩=false:=by
 unfold OpBlk at h;refine ⟨?_,?_,?_,?_,?_,?_,?_,?_,fun c=> ?_⟩<;>simp [World.cell?,World.frozen?,h]
theorem aQ (h:Below w.heap.size w W) (hb:w.heap.size<=b) (o:Nat) (vs:List Value):Below w.heap.size w (W.setCells b o vs):=h.trans ((aZ b vs o W).below h.size (fun k e=>zo))
theorem ET (w:World) (ao:Nat->Option Addr) (cap:Nat->Nat) (R:Rws) (id:Int) (hE:Op4 ad w) (ho:id<4\/4294967300<=id) (h2: -9223372036854775808<=id) (h3:id<=9223372036854775807):
  Calls prog 196 #[kV ao cap R,.int .i64 id] w fun e w'=>e= .returned (.tuple #[aD aV,.bool false])/\Below w.heap.size w w':=by
 unfold kV;obtain ⟨U,hU⟩:=zc ((w.alloc (.cells #[.slice (ao 0) (R 0).length (cap 0),.slice (ao 1) (R 1).length (cap 1),.slice (ao 2) (R 2).length (cap 2),.slice (ao 3) (R 3).length (cap 3)] 65)).alloc (.cells #[.int .i64 0,.int .i64 0,.int .i64 0,.int .u8 0,.int .i64 0,.int .i64 0,.string ⟨#[]⟩,.string ⟨#[]⟩] 38));have hb:Below w.heap.size w U:=zP
 have hz:U.heap[w.heap.size+1]? =some (.cells #[.int .i64 0,.int .i64 0,.int .i64 0,.int .u8 0,.int .i64 0,.int .i64 0,.string ⟨#[]⟩,.string ⟨#[]⟩] 38 (0,0)):=by
  rw [hU];exact kf0
 have hE1:=(hE.later hb).c1;have hcall:=KM id U _ _ hE1 (vR U ⟨2,0,none⟩ hE1) ho h2 h3;have HB:Aside (Below w.heap.size w U):=hb;clear hb hE hE1;go_enter func196,ntmps196;go_wp2_with fail;rw [<-hU];clear hU;refine hcall.mono ?_;clear hcall;rintro e w1 ⟨rfl,hb1⟩;obtain ⟨S,hS⟩:=zc w.heap.size
 have hz1:w1.heap[S+1]? =some (.cells #[.int .i64 0,.int .i64 0,.int .i64 0,.int .u8 0,.int .i64 0,.int .i64 0,.string ⟨#[]⟩,.string ⟨#[]⟩] 38 (0,0)):=by
  rw [hS,hb1.block _ (vO.1 hz).1];exact hz
 have hl1:S+1<w1.heap.size:=(vO.1 hz1).1;have B1:Aside (Below w.heap.size w w1):=zj HB.o hb1;rw [<-hS];clear hb1 hz HB;obtain ⟨y0,y1,y2,y3,y4,y5,y6,y7,f8⟩:=OpBlk.cells (x:=aV) hz1;unfold aV at y0 y1 y2 y3 y4 y5 y6 y7;dsimp only at y0 y1 y2 y3 y4 y5 y6 y7;have HS:Aside (S=w.heap.size):=hS;clear hS hz1;go_wp2;(try simp only [Exit.inBlock,Exit.then]);refine bodyPost_ret (v:=.tuple #[aD aV,.bool false]) ?_ rfl ⟨rfl,?_⟩
 ·exact kc3
 exact (aQ (b:=S+1) B1.o xB 0 [.int .i64 0,.int .i64 0,.int .i64 0,.int .u8 0,.int .i64 0,.int .i64 0,.string ⟨#[]⟩,.string ⟨#[]⟩]).alloc (aQ (b:=S+1) B1.o xB 0 _).size _
theorem Gc (w:World) (ao:Nat->Option Addr) (cap:Nat->Nat) (R:Rws) (id:Int) (hK:KnownAt w ao R) (hR:RowsN R) (hl:∀i,i<4->(R i).length<=1000) (h1:4<=id) (h2:id<4294967300):
  Calls prog 196 #[kV ao cap R,.int .i64 id] w fun e w'=>e= .returned (.tuple #[aD ((fL R id).getD aV),.bool (fL R id).isSome])/\Below w.heap.size w w':=by
 obtain ⟨i,hi,ei⟩:∃i:Nat,i<4/\id % 4=(i:Int):=⟨(id % 4).toNat,zo,zo⟩
 have wi:((i:Int)).toNat=i:=zo;have pi:(0:Int)<=(i:Int):=zo;have bi:(i:Int)<4:=zo;unfold kV;obtain ⟨S,hS⟩:=zc w.heap.size;obtain ⟨U,hU⟩:=zc ((w.alloc (.cells #[.slice (ao 0) (R 0).length (cap 0),.slice (ao 1) (R 1).length (cap 1),.slice (ao 2) (R 2).length (cap 2),.slice (ao 3) (R 3).length (cap 3)] 65)).alloc (.cells #[.int .i64 0,.int .i64 0,.int .i64 0,.int .u8 0,.int .i64 0,.int .i64 0,.string ⟨#[]⟩,.string ⟨#[]⟩] 38));have hb:Below w.heap.size w U:=zP
 have hz:OpBlk U (S+1) aV:=by
  rw [hU,hS];exact kf0
 have hk:KBox U S ao cap R:=zY;have hcall:=DW id U h1 h2;rw [ei] at hcall;obtain ⟨tm,etm⟩:=zc (id / 4);rw [<-etm] at hcall
 have HB:Aside (Below w.heap.size w U/\KBox U S ao cap R/\OpBlk U (S+1) aV):=⟨hb,hk,hz⟩
 have HS:Aside (S=w.heap.size/\tm=id / 4/\id % 4=(i:Int)):=⟨hS,etm,ei⟩
 clear hb hz hk etm ei;go_enter func196,ntmps196;go_wp2_with fail;rw [<-hU,<-hS];clear hU hS;refine hcall.mono ?_;clear hcall;rintro e w1 ⟨rfl,hb1⟩;obtain ⟨V,hV⟩:=zc (w1.alloc (.cells #[.int .i64 tm,.int .i64 (i:Int)] 36))
 have bV:Below w1.heap.size w1 V:=by rw [hV];exact zh w1 _
 have HV:Aside (Below w.heap.size w V/\KBox V S ao cap R/\OpBlk V (S+1) aV):=⟨HB.o.1.trans ((hb1.mono HB.o.1.size).trans (bV.mono (uf HB.o.1.size hb1.size))),(HB.o.2.1.later hb1).later bV,(HB.o.2.2.later hb1).later bV⟩
 have hs1:V.heap[w1.heap.size]? =some (.cells #[.int .i64 tm,.int .i64 (i:Int)] 36 (0,0)):=by rw [hV];exact heap_alloc_new w1 _
 have s0:V.cell? ⟨w1.heap.size,0,none⟩=some (.int .i64 tm):=by simp [World.cell?,hs1]
 have s1:V.cell? ⟨w1.heap.size,1,none⟩=some (.int .i64 (i:Int)):=by simp [World.cell?,hs1]
 have k1:=HV.o.2.1.at hi;have hbs:=sD (ao i) (cap i) (R i) tm V ((hK.later HV.o.1) i hi) (hR.risesLe hi) (hl i hi);clear hb1 HB bV hs1;go_upto_region 4 with fail;rw [<-hV];clear hV;go_wp2_with fail;refine hbs.mono ?_;clear hbs;rintro e w2 ⟨k,b,rfl,hbk,hb2⟩;have hfk:=Gu hR hi HS.o.2.2 (by rw [<-HS.o.2.1];exact hbk)
 have H2:Aside (Below w.heap.size w w2/\OpBlk w2 (S+1) aV):=⟨zj HV.o.1 hb2,HV.o.2.2.later hb2⟩
 have hl2:=H2.o.2.lt;have KN:Aside (KnownAt w2 ao R):=hK.later H2.o.1;obtain ⟨y0,y1,y2,y3,y4,y5,y6,y7,f8⟩:=H2.o.2.cells;unfold aV at y0 y1 y2 y3 y4 y5 y6 y7;dsimp only at y0 y1 y2 y3 y4 y5 y6 y7;clear hb2 HV s0 s1 k1
 cases b with
 | false=>
  have HF:Aside (fL R id=none):=hfk.1 rfl;clear hfk hbk;go_wp2;(try simp only [Exit.inBlock,Exit.then]);refine bodyPost_ret (v:=.tuple #[aD aV,.bool false]) ?_ rfl ⟨by rw [HF.o];rfl,?_⟩
  ·exact kc3
  exact aQ (b:=S+1) H2.o.1 xB 0 [.int .i64 0,.int .i64 0,.int .i64 0,.int .u8 0,.int .i64 0,.int .i64 0,.string ⟨#[]⟩,.string ⟨#[]⟩]
 | true=>
  obtain ⟨⟨t,b,n,kd,nd,o,s,v⟩,hx,hf⟩:=hfk.2 rfl;have HF:Aside (fL R id=some (t,b,n,kd,nd,o,s,v)):=hf;obtain ⟨blk,off,hao,hc⟩:=(KN.o i hi).get hx;have hkl:=(vL.1 hx).1;have hll:=hl i hi;have r0:=hc 0 _ rfl;have r1:=hc 1 _ rfl;have r2:=hc 2 _ rfl;have r3:=hc 3 _ rfl;have r4:=hc 4 _ rfl;have r5:=hc 5 _ rfl;have r6:=hc 6 _ rfl;have r7:=hc 7 _ rfl;simp only [Zg] at r0;have wk:((k:Int)).toNat=k:=zo;have pk:(0:Int)<=(k:Int):=zo;have bk:(k:Int)<((R i).length:Int):=zo;rw [hao];clear hfk hbk hf hx hc hao;go_wp2;(try simp only [Exit.inBlock,Exit.then]);refine bodyPost_ret (v:=.tuple #[.agg #[.int .i64 t,.int .i64 b,.int .i64 n,.int .u8 (kd:Int),.int .i64 nd,.int .i64 o,.string s,.string v],.bool true]) ?_ rfl ⟨by rw [HF.o];rfl,?_⟩
  ·exact ke7
  exact aQ (b:=S+1) H2.o.1 xB 0 [.int .i64 t,.int .i64 b,.int .i64 n,.int .u8 (kd:Int),.int .i64 nd,.int .i64 o,.string s,.string v]
theorem pY (w:World) (ao:Nat->Option Addr) (cap:Nat->Nat) (R:Rws) (id:Int) (hE:Op4 ad w) (hK:KnownAt w ao R) (hR:RowsN R) (hl:∀i,i<4->(R i).length<=1000) (h2: -9223372036854775808<=id) (h3:id<=9223372036854775807):
  Calls prog 196 #[kV ao cap R,.int .i64 id] w fun e w'=>e= .returned (.tuple #[aD ((fL R id).getD aV),.bool (fL R id).isSome])/\Below w.heap.size w w':=by
 by_cases h:id<4\/4294967300<=id
 ·rw [Df hR h];exact ET w ao cap R id hE h h2 h3
 exact Gc w ao cap R id hK hR hl zo zo
end
section
open Go.RowKit
def eqB (t b n:Int) (k:Nat) (node other:Int) (name value:ByteArray) (t' b' n':Int) (k':Nat) (node' other':Int) (name' value':ByteArray):Bool:=decide (t=t'/\b=b'/\n=n'/\k=k'/\node=node'/\other=other'/\name=name'/\value=value')
theorem LI (t b n:Int) (k:Nat) (node other:Int) (name value:ByteArray) (t' b' n':Int) (k':Nat) (node' other':Int) (name' value':ByteArray) (w:World):(Op.equalIn 10000 38 (.agg #[.int .i64 t,.int .i64 b,.int .i64 n,.int .u8 (k:Int),.int .i64 node,.int .i64 other,.string name,.string value]) (.agg #[.int .i64 t',.int .i64 b',.int .i64 n',.int .u8 (k':Int),.int .i64 node',.int .i64 other',.string name',.string value'])).run prog w= .ok (eqB t b n k node other name value t' b' n' k' node' other' name' value') w:=by
 have hs:∀x y:ByteArray,x.toList=y.toList↔x=y:=fun x y=>⟨fun h=>by rw [uH,uH] at h;exact WideShapes.bytes_inj h,fun h=>by rw [h]⟩
 unfold eqB;go_simp;simp only [Int.natCast_inj];by_cases h1:t=t'<;>by_cases h2:b=b'<;>by_cases h3:n=n'<;>by_cases h4:k=k'<;>by_cases h5:node=node'<;>by_cases h6:other=other'<;>by_cases h7:name=name'<;>by_cases h8:value=value'<;>simp [h1,h2,h3,h4,h5,h6,h7,h8]
theorem AO (t b n:Int) (k:Nat) (node other:Int) (name value:ByteArray):eqB t b n k node other name value t b n k node other name value=true:=by simp [eqB]
end
section
open Go
section
variable {P:Program} {ops:Array Oper} {Q:Exit→Act→World→Prop} {md:Region.Mode} {S:World→Prop}
theorem aY {o:Oper} {fuel:Nat} {listed:Array Bool} (hr:Region.ready md ops listed= [i]) (ho:ops[i]? =some o)
  (h:∀K:Act->World->Prop,(∀a' w',S w'->wpAnyH P md ops Q S fuel (listed.setIfInBounds i true) a' w'->K a' w')->if Region.wanted o (yielded ops a.tmps)=true then Oper.wp P o a w K Q else K (a.put o.dst undef) w):wpAnyH P md ops Q S (fuel+1) listed a w:=by
 refine ⟨fun h0=>qk,fun j hj=> ?_⟩;rw [hr] at hj;simp only [uq] at hj;subst hj;have:=h (fun a' w'=>S w'/\wpAnyH P md ops Q S fuel (listed.setIfInBounds j true) a' w') (fun a' w' h1 h2=>⟨h1,h2⟩);unfold wpOp;simp only [ho];split
 ·rename_i hw;exact ki4
 rename_i hw;exact kk6
end
theorem aO {P:Program} {ops:Array Oper} {Q:Exit->Act->World->Prop} {S:World->Prop} {id:Nat} (hm:P.follows .mixedOrders=true) (hS:S w.drew)
  (h:S w.drew->wpAnyH P .any ops Q S ops.size (Array.replicate ops.size false) a w.drew):(Code.region id ops true).wp P Q a w:=
 wp_region_any hm (wpAny_of_held _ _ _ _ (h hS))
end
section
open Go Go.RowKit Go.Lib Go.Sort
theorem kn {v:Value} (h:OpsAt w v xs):∃ao cap,v= .slice ao xs.length cap/\OpsIn w ao xs:=by
 rcases h with ⟨rfl,rfl⟩ | ⟨b,o,cp,rfl,hc⟩
 ·exact kp2
 exact ⟨some ⟨b,o,none⟩,cp,rfl,.inr ⟨b,o,rfl,hc⟩⟩
def oJ (w:World) (ao:Option Addr) (i:Nat) (x:OpX):Prop:=∃blk off,ao=some ⟨blk,off,none⟩/\Eight w blk (off+i*8) x.1 x.2.1 x.2.2.1 x.2.2.2.1 x.2.2.2.2.1 x.2.2.2.2.2.1 x.2.2.2.2.2.2.1 x.2.2.2.2.2.2.2
theorem OpsIn.one {ao:Option Addr} (h:OpsIn w ao xs) (hx:xs[i]? =some x):oJ w ao i x:=by
 have hi:=(vL.1 hx).1
 rcases h with rfl | ⟨blk,off,rfl,hc⟩
 ·simp at hi
 obtain ⟨t,b,n,kd,nd,o,s,v⟩:=x;refine ⟨blk,off,rfl,iZ hc i hi ?_⟩;rw [getElem!_pos xs i hi];exact (vL.1 hx).2
