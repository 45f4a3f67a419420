import Derived.Test.YtehighgebbdenaaGreatDoorRa32
set_option maxRecDepth 100000
set_option maxHeartbeats 64000000
namespace Go.Proofs.YtehighgebbdenaaGreatDoor
open Go.Proofs.Tryz
variable {T by_:Int} {F l xs:List OpX} {B B' a br i n:Nat} {ad:Nat→Addr} {c':Nat→Nat} {x:OpX} {R R':Rws} {w w':World}
section
open Go.RowKit Go.Lib Go.Sort Go.Maps
theorem SortOut.base {w1:World} {e:Ending} (h:SortOut w1 xs e w') (hb:Below w.heap.size w w1):SortOut w xs e w':=by
 obtain ⟨v,ys,h1,h2,h3,h4⟩:=h;refine ⟨v,ys,h1,h2.imp id ?_,h3,zj hb h4⟩;rintro ⟨g,cap,k1,k2,k3⟩;exact ⟨g,cap,k1,uf hb.size k2,k3⟩
theorem GG (w:World) (ao:Nat->Option Addr) (cap:Nat->Nat) (R:Rws) (hK:KnownAt w ao R) (hnil:∀i,i<4->ao i=none->cap i=0) (hn:(aR R).length<=1000):
  Calls prog 82 #[kV ao cap R] w (SortOut w (aR R)):=by
 obtain ⟨W,hW⟩:=zc (w.alloc (.cells #[.slice (ao 0) (R 0).length (cap 0),.slice (ao 1) (R 1).length (cap 1),.slice (ao 2) (R 2).length (cap 2),.slice (ao 3) (R 3).length (cap 3)] 65 (0,0)))
 have hb:Below w.heap.size w W:=by rw [hW];exact zh w _
 have hbox:KBox W w.heap.size ao cap R:=by rw [hW];exact heap_alloc_new w _
 have hcat:=nM W w.heap.size ao cap R hbox (hK.later hb) hnil hn
 have H:Aside (W=w.alloc (.cells #[.slice (ao 0) (R 0).length (cap 0),.slice (ao 1) (R 1).length (cap 1),.slice (ao 2) (R 2).length (cap 2),.slice (ao 3) (R 3).length (cap 3)] 65 (0,0))/\Below w.heap.size w W/\(aR R).length<=1000):=⟨hW,hb,hn⟩
 clear hW hb hbox hK hnil hn;unfold kV;go_enter func82,ntmps82;go_wp2_with fail;rw [<-H.o.1];refine hcat.mono ?_;clear hcat;rintro e w1 ⟨v1,rfl,ho1,hb1⟩;have hs:=BJ w1 v1 (aR R) (dI ho1) H.o.2.2;have H1:Aside (Below w.heap.size w w1):=zj H.o.2.1 hb1;clear ho1 hb1 H;go_wp2_with fail;refine hs.mono ?_;clear hs;intro e w2 hs2;have hs3:=hs2.base H1.o;obtain ⟨v2,ys,rfl,h⟩:=hs2;have H2:Aside (SortOut w (aR R) (.returned v2) w2):=hs3;clear h hs3 H1;go_wp2;go_ret;exact H2.o
theorem FT (w:World) (c:Nat->Nat) (br:Nat) (by_:Int) (R:Rws) (h:RepAt w c br by_ R) (hn:(aR R).length<=1000):
  Calls prog 23 #[.pointer (some ⟨br,0,none⟩)] w (SortOut w (aR R)):=by
 obtain ⟨T,kv,bt,bx,bc,A,hm,hp,hK,hb⟩:=h;obtain ⟨ao,cap,hM⟩:=hm.norm;have hall:=GG w ao cap R (KnownAt.of_rows hM.rows) (wR hM.rows) hn;unfold kV at hall;have k2:w.cell? ⟨br,2,none⟩=some (.slice (ao 0) (R 0).length (cap 0)):=hM.cell.c2;have k3:w.cell? ⟨br,3,none⟩=some (.slice (ao 1) (R 1).length (cap 1)):=hM.cell.c3;have k4:w.cell? ⟨br,4,none⟩=some (.slice (ao 2) (R 2).length (cap 2)):=hM.cell.c4;have k5:w.cell? ⟨br,5,none⟩=some (.slice (ao 3) (R 3).length (cap 3)):=hM.cell.c5;clear hm hM hp hK hb hn;go_enter func23,ntmps23;go_wp2_with fail;refine hall.mono ?_;clear hall;intro e w2 hs2;have hs3:=hs2;obtain ⟨v2,ys,rfl,h⟩:=hs2;have H2:Aside (SortOut w (aR R) (.returned v2) w2):=hs3;clear h hs3;go_wp2;go_ret;exact H2.o
end
section
open Go.RowKit Go.Lib Go.Sort Go.Maps
def JP (w:World) (R:Rws) (v:Nat->Int) (e:Ending) (w':World):Prop:=∃val ys,e= .returned val/\bW (aR R) ys/\((val= .slice none 0 0/\ys= [])\/∃g cap,val= .slice (some ⟨g,0,none⟩) (ys.filter (fun x=> !ij v x)).length cap/\w.heap.size<=g/\OwnAt w' g (ys.filter (fun x=> !ij v x)))/\Below w.heap.size w w'
theorem VecBlk.same' {b:Nat} {v:Nat->Int} (h:VecBlk w b v) (hb:Below B w w') (hB:b<B):VecBlk w' b v:=(hb.block b hB).trans h
theorem Ky (p:OpX->Bool) (gf:Nat) (lb:Array Value) (eg:∀args w,(callFunc gf args).run prog w= .ok (.enter gf args) w) (w:World):
  Calls prog 83 #[.slice none 0 0,.func (.func gf) #[] lb] w fun e w'=>e= .returned (.slice none 0 0)/\Below w.heap.size w w':=by
 have hidx:=ia p gf lb eg none 0 [] w (fun W x hx=>by cases hx) zv (.inl rfl);go_enter func83,ntmps83;go_wp2_with fail;refine hidx.mono ?_;clear hidx;rintro e w1 ⟨r,rfl,HR⟩
 rcases HR.o.1 with ⟨hr,ha⟩ | ⟨k,x,hr,hx,_⟩
 ·subst hr;clear ha;go_wp2;go_ret;exact ⟨rfl,HR.o.2⟩
 simp at hx
theorem DU (w:World) (c:Nat->Nat) (br:Nat) (by_:Int) (R:Rws) (v:Nat->Int) (h:RepAt w c br by_ R) (hn:(aR R).length<=1000):
  Calls prog 24 #[.pointer (some ⟨br,0,none⟩),.agg #[.int .i64 (v 0),.int .i64 (v 1),.int .i64 (v 2),.int .i64 (v 3)]] w (JP w R v):=by
 have eg:∀args w,(callFunc 84 args).run prog w= .ok (.enter 84 args) w:=enters_of func84 zq rfl;obtain ⟨U,hU⟩:=zc (w.alloc (.cells #[.int .i64 (v 0),.int .i64 (v 1),.int .i64 (v 2),.int .i64 (v 3)] 55 (0,0)));have hbU:Below w.heap.size w U:=zW;have hv:VecBlk U w.heap.size v:=xr;have hops:=FT U c br by_ R (h.later hbU) hn;have hK:RowsK R:=jO
 have H:Aside (U=w.alloc (.cells #[.int .i64 (v 0),.int .i64 (v 1),.int .i64 (v 2),.int .i64 (v 3)] 55 (0,0))/\Below w.heap.size w U/\VecBlk U w.heap.size v/\RowsK R):=⟨hU,hbU,hv,hK⟩
 clear hU hbU hv hK h;go_enter func24,ntmps24;go_upto_region 1 with fail;rw [<-H.o.1];go_wp2_with fail;refine hops.mono ?_;clear hops;rintro e w1 ⟨val,ys,rfl,hval,hst,hb1⟩
 rcases hval with ⟨rfl,rfl⟩ | ⟨g,cap,rfl,hg1,hg2,hc1,hc2,hO⟩
 ·have hd:=Ky (ij v) 84 #[.pointer (some ⟨w.heap.size,0,none⟩)] eg w1
  have H1:Aside (bW (aR R) []/\Below w.heap.size w w1):=⟨hst,zj H.o.2.1 hb1⟩
  clear hst hb1 eg;go_wp2_with fail;refine hd.mono ?_;clear hd;rintro e w2 ⟨rfl,hb2⟩;have H2:Aside (Below w.heap.size w w2):=zj H1.o.2 hb2;clear hb2;go_wp2;go_ret;exact ⟨_,[],rfl,H1.o.1,.inl ⟨rfl,rfl⟩,H2.o⟩
 have hlen:ys.length=(aR R).length:=(cr hst).1.length_eq
 have hpred:PredB 84 #[.pointer (some ⟨w.heap.size,0,none⟩)] ys (ij v) U.heap.size w1:=fun W x hx hW=>by
  obtain ⟨i,hi,hb,_⟩:=rp (H.o.2.2.2.well.ok x ((cr hst).1.mem_iff.1 hx));exact BZ W w.heap.size v x ((H.o.2.2.1.later hb1).same' hW H.o.2.2.1.lt) i hi hb
 have hd:=Af (ij v) 84 #[.pointer (some ⟨w.heap.size,0,none⟩)] eg g cap U.heap.size ys w1 hg1 hb1.size hg2 hpred zo hc1 hc2 hO
 have H1:Aside (bW (aR R) ys/\Below w.heap.size w w1/\w.heap.size<=g):=⟨hst,zj H.o.2.1 hb1,uf H.o.2.1.size hg1⟩
 clear hst hb1 eg hpred hO hlen hg1 hg2 hc1 hc2;go_wp2_with fail;refine hd.mono ?_;clear hd;rintro e w2 ⟨rfl,hO2,hb2⟩
 have H2:Aside (Below w.heap.size w w2/\OwnAt w2 g (ys.filter (fun x=> !ij v x))):=⟨H1.o.2.1.trans (hb2.mono H.o.2.1.size),hO2⟩
 clear hb2 hO2;go_wp2;go_ret;exact ⟨_,ys,rfl,H1.o.1,.inr ⟨g,cap,rfl,H1.o.2.2,H2.o.2⟩,H2.o.1⟩
end
section
theorem pO (h:RowsK R) {T:List OpX} (hT:WellK T) (hc:Compat (aR R) T) (hl:∀x,x∈l->x∈T) (hl2:∀x,x∈T->x∈aR R\/x∈l) (hlen:(aR R).length+l.length<=400):∃fresh,(∀a,aB (aR R) l a->a= .inr fresh)/\FreshK (aR R) fresh/\(∀x,x∈aR R++fresh↔x∈aR R\/x∈T)/\WellK (aR R++fresh):=by
 obtain ⟨out,h1,h2⟩:=mZ h.num.one hT.one hc hT.ok (l:=l) 0 (fresh:=[]) (fun x hx=>hl x hx) (fun x hx=>qP);obtain ⟨k1,k2,k3,k4,k5⟩:=dE (dV _) h1
 have hmem:∀x,x∈aR R++out↔x∈aR R\/x∈T:=fun x=>by
  rw [vW];constructor
  ·rintro (q | q)
   ·exact .inl q
   exact .inr (h2 x q)
  rintro (q | q)
  ·exact .inl q
  rcases hl2 x q with q | q
  ·exact .inl q
  exact k4 x q
 have hw:WellK (aR R++out):=(h.well.union hT hc).congr (fun x=>by rw [vW];exact (hmem x).symm);refine ⟨out,fun a ha=> ?_,k1,hmem,hw⟩;unfold aB at ha;rw [h1] at ha;dsimp only at ha
 rcases ha with ⟨⟨x,hx,q1,q2⟩,_⟩ | ⟨_,⟨x,hx,y,hy,q1,q2,q3⟩,_⟩ | ⟨_,_,⟨x,hx,q⟩,_⟩ | ⟨_,q,_⟩ | ⟨_,_,q⟩
 ·exact ((hw.gap x hx).elim q1 q2).elim
 ·exact (q3 (hw.rise x hx y hy q1 q2)).elim
 ·exact (q (hw.refs x hx)).elim
 ·simp at k5;omega
 exact q
structure NextOp (R:Rws) (i:Nat) (T:Int) (x:OpX):Prop where
 ok:an x=0
 by_:byO x=(i:Int)
 num:ar x=((R i).length:Int)+1
 time:x.1=T+1
 refs:RefOk (x::aR R) x
theorem Kb {R:Rws} (h:NumK R) {i:Nat} (hi:i<4) {y:OpX} (hy:y∈aR R) (e:byO y=(i:Int)):ar y<=((R i).length:Int):=by
 obtain ⟨k,hk,hyk⟩:=mem_allR.1 hy;obtain ⟨j,hj,q1,q2,_⟩:=h.get hk hyk;have:k=i:=zo;subst this;have:=(vL.1 hj).1;omega
theorem NextOp.well {R:Rws} {i:Nat} {T:Int} {x:OpX} (hx:NextOp R i T x) (hR:RowsK R) (hi:i<4) (hT:∀y∈aR R,y.1<=T):WellK (x::aR R)/\∀y∈aR R,byO y=byO x->ar y<ar x:=by
 have hnew:∀y∈aR R,byO y=byO x->ar y<ar x:=fun y hy e=>by
  have:=Kb hR.num hi hy (e.trans hx.by_);have:=hx.num;omega
 refine ⟨hR.well.add hx.ok ?_ hnew (fun y hy=> ?_) hx.refs,hnew⟩
 ·by_cases h0:(R i).length=0
  ·left;have:=hx.num;omega
  right;have hl:(R i).length - 1<(R i).length:=zo;have hm:(R i)[(R i).length - 1]∈R i:=uR hl;obtain ⟨j,hj,q1,q2,_⟩:=hR.num.get hi hm;have hlast:=hR.num i hi ((R i).length - 1) _ (vN hl);refine ⟨(R i)[(R i).length - 1],mem_allR.2 ⟨i,hi,hm⟩,by rw [q1,hx.by_],?_⟩;have h3:=hlast.2.1;have:=hx.num;omega
 have h1:=hT y hy;have h2:=hx.time;unfold CLt stO;dsimp only;omega
theorem mh (hx:NextOp R i T x) (hR:RowsK R) (hi:i<4) (hT:∀y∈aR R,y.1<=T):Compat (aR R) (x::aR R):=fun a ha b hb e1 e2=>by
 rcases vT.1 hb with rfl | hb
 ·have:=(hx.well hR hi hT).2 a ha e1;omega
 exact hR.well.one a ha b hb e1 e2
theorem NumK.nodup (h:NumK R):(aR R).Nodup:=by
 have row:∀i,i<4->(R i).Nodup:=fun i hi=>by
  unfold List.Nodup;rw [ud];intro a b ha hb hab e;have h1:=h i hi a _ (vN ha);have h2:=h i hi b _ (vN hb);rw [e] at h1;have:=h1.2.1;have:=h2.2.1;omega
 have off:∀i j,i<4->j<4->i≠j->∀a∈R i,∀b∈R j,a≠b:=fun i j hi hj hij a ha b hb e=>by
  obtain ⟨_,_,q1,_⟩:=h.get hi ha;obtain ⟨_,_,q2,_⟩:=h.get hj hb;rw [e] at q1;omega
 unfold aR;simp only [Ze,vW];refine ⟨row 0 zo,⟨row 1 zo,⟨row 2 zo,row 3 zo,off 2 3 zo zo zo⟩,fun a ha b hb=> ?_⟩,fun a ha b hb=> ?_⟩
 ·rcases hb with hb | hb
  ·exact off 1 2 zo zo zo a ha b hb
  exact off 1 3 zo zo zo a ha b hb
 rcases hb with hb | hb | hb
 ·exact off 0 1 zo zo zo a ha b hb
 ·exact off 0 2 zo zo zo a ha b hb
 exact off 0 3 zo zo zo a ha b hb
theorem ie {α:Type} [DecidableEq α]:∀ {l H:List α},l.Nodup->(∀x,x∈l->x∈H)->l.length<=H.length
 | [],_,_,_=>vV _
 | x::t,H,hn,hs=>by
  obtain ⟨h1,h2⟩:=List.nodup_cons.1 hn;have hx:x∈H:=hs x zv;have:=ie (l:=t) (H:=H.erase x) h2 (fun y hy=>(List.mem_erase_of_ne (fun e=>h1 (by rw [<-e];exact hy))).2 (hs y jo));rw [List.length_erase_of_mem hx] at this;have hp:0<H.length:=List.length_pos_of_mem hx;rw [uu];omega
end
section
open Go.RowKit Go.Lib Go.Sort Go.Maps
structure EnvT (B:Nat) (ad:Nat->Addr) (w:World):Prop where
 env:EnvE B ad w
 tab:Lib.TabBelow prog B w "internal/strconv.uint64pow10" .u64 Lib.pow10Tab
theorem EnvT.mono {B:Nat} {ad:Nat->Addr} {w w':World} (h:EnvT B ad w) (hb:Below B w w'):EnvT B ad w':=⟨h.env.mono hb,fun w'' h'=>h.tab w'' (hb.trans h')⟩
theorem EnvT.later (h:EnvT B ad w) (hb:Below w.heap.size w w'):EnvT B ad w':=h.mono (hb.mono h.env.size)
theorem EnvT.up (h:EnvT B ad w) (hB:B<=B') (hs:B'<=w.heap.size):EnvT B' ad w:=
 ⟨⟨h.env.op4,h.env.c5,h.env.c6,h.env.c7,h.env.c8,h.env.c9,uf h.env.low hB,hs⟩,fun w' h'=>h.tab w' (h'.mono hB)⟩
theorem EnvT.is (h:EnvT B ad w):Lib.TabIs prog w "internal/strconv.uint64pow10" .u64 Lib.pow10Tab:=h.tab w (vP _ w)
theorem RepOwn.below {B:Nat} {w w':World} {c c':Nat->Nat} {br:Nat} {by_:Int} {R:Rws} (h:RepOwn B w c br by_ R) (ha:Acts w c w' c') (hB:B<=w.heap.size):Below B w w':=ha.keeps.below hB (fun k hk=>h.low k hk)
theorem RepOwn.down {c:Nat->Nat} (h:RepOwn B w c br by_ R) (hB:B'<=B):RepOwn B' w c br by_ R:=⟨h.rep,fun k hk=>uf hB (h.low k hk),h.high⟩
theorem RepAt.rows {c:Nat->Nat} (h:RepAt w c br by_ R):RowsK R:=jO
theorem RepOwn.other {c c1 c1':Nat->Nat} (h:RepOwn B w c br by_ R) (ha:Acts w c1 w' c1') (hd:∀k,c1 k=0\/c k=0):RepOwn B w' c br by_ R/\∀k,c1' k=0\/c k=0:=by
 refine ⟨⟨h.rep.kept (fun i hi=>⟨fun k hk e=>ha.keeps.block k hk (fun q=> ?_),fun _ _=>rfl⟩),h.low,fun k hk=>h.high k (uf ha.keeps.size hk)⟩,fun k=> ?_⟩
 ·rcases hd k with e1 | e1
  ·exact q e1
  rw [e1] at e;exact hi e.symm
 by_cases hk:k<w.heap.size
 ·rw [ha.hue k hk];exact hd k
 exact .inr (h.high k zo)
structure Folk (B:Nat) (w:World) (n:Nat) (c:Nat->Nat->Nat) (br:Nat->Nat) (by_:Nat->Int) (R:Nat->Rws):Prop where
 rep:∀r,r<n->RepOwn B w (c r) (br r) (by_ r) (R r)
 apart:∀r,r<n->∀s,s<n->r≠s->∀k,c r k=0\/c s k=0
theorem Folk.none (B:Nat) (w:World) (c:Nat->Nat->Nat) (br:Nat->Nat) (by_:Nat->Int) (R:Nat->Rws):Folk B w 0 c br by_ R:=⟨fun r hr=>absurd hr zo,fun r hr=>absurd hr zo⟩
theorem Folk.later {B:Nat} {w w':World} {n:Nat} {c:Nat->Nat->Nat} {br:Nat->Nat} {by_:Nat->Int} {R:Nat->Rws} (h:Folk B w n c br by_ R) (hb:Below w.heap.size w w'):Folk B w' n c br by_ R:=⟨fun r hr=>(h.rep r hr).later hb,h.apart⟩
def fx {α:Type} (f:Nat->α) (a:Nat) (x:α):Nat->α:=fun r=>if r=a then x else f r
theorem cx {α:Type} (f:Nat->α) (a:Nat) (x:α):fx f a x a=x:=if_pos rfl
theorem bD {α:Type} (f:Nat->α) {r:Nat} (x:α) (h:r≠a):fx f a x r=f r:=if_neg h
theorem Folk.act {c:Nat->Nat->Nat} {br:Nat->Nat} {by_:Nat->Int} {R:Nat->Rws} (h:Folk B w n c br by_ R) (ha:a<n) (hA:Acts w (c a) w' c') (hR:RepOwn B w' c' (br a) (by_ a) R'):Folk B w' n (fx c a c') br by_ (fx R a R'):=by
 refine ⟨fun r hr=> ?_,fun r hr s hs hrs=> ?_⟩
 ·by_cases e:r=a
  ·subst e;rw [cx,cx];exact hR
  rw [bD _ _ e,bD _ _ e];exact ((h.rep r hr).other hA (h.apart a ha r hr (fun q=>e q.symm))).1
 by_cases e:r=a
 ·subst e
  have e':s≠r:=fun q=>hrs q.symm
  rw [cx,bD _ _ e'];exact ((h.rep s hs).other hA (h.apart r ha s hs hrs)).2
 rw [bD _ _ e];by_cases e':s=a
 ·subst e';rw [cx]
  exact fun k=>(((h.rep r hr).other hA (h.apart s hs r hr (fun q=>e q.symm))).2 k).symm
 rw [bD _ _ e'];exact h.apart r hr s hs hrs
theorem Folk.add {c:Nat->Nat->Nat} {br:Nat->Nat} {by_:Nat->Int} {R:Nat->Rws} (h:Folk B w n c br by_ R) (hB:B<=w.heap.size) {c0:Nat->Nat} {br0:Nat} {b:Int} {R0:Rws} (h0:RepOwn w.heap.size w' c0 br0 b R0) (hb:Below w.heap.size w w'):Folk B w' (n+1) (fx c n c0) (fx br n br0) (fx by_ n b) (fx R n R0):=by
 have off:∀r,r<n->∀k,c r k=0\/c0 k=0:=fun r hr k=>by
  by_cases hk:k<w.heap.size
  ·right;by_cases e:c0 k=0
   ·exact e
   have:=h0.low k e;omega
  exact .inl ((h.rep r hr).high k zo)
 refine ⟨fun r hr=> ?_,fun r hr s hs hrs=> ?_⟩
 ·by_cases e:r=n
  ·subst e;simp only [cx];exact h0.down hB
  rw [bD _ _ e,bD _ _ e,bD _ _ e,bD _ _ e];exact (h.later hb).rep r zo
 by_cases e:r=n
 ·subst e;rw [cx,bD _ _ (fun q=>hrs q.symm)]
  exact fun k=>(off s zo k).symm
 rw [bD _ _ e];by_cases e':s=n
 ·subst e';rw [cx];exact off r zo
 rw [bD _ _ e'];exact h.apart r zo s zo hrs
theorem RepOwn.wellK {c:Nat->Nat} (h:RepOwn B w c br by_ R):RowsK R:=h.rep.rows
theorem RepAt.time {w:World} {c:Nat->Nat} {br:Nat} {by_:Int} {R:Rws} (h:RepAt w c br by_ R):∃T kv bt bx bc A,RepMid w c br T by_ kv bt bx bc R A/\A.Perm (aR R)/\du (aR R) T:=by
 obtain ⟨T,kv,bt,bx,bc,A,h1,h2,_⟩:=h;exact ⟨T,kv,bt,bx,bc,A,h1,h2,⟨fun x hx=>h1.time.1 x (h2.mem_iff.2 hx),h1.time.2.1.imp id (fun ⟨x,hx,e⟩=>⟨x,h2.mem_iff.1 hx,e⟩),h1.time.2.2⟩⟩
theorem Kt {v:Value} (h:OpsAt w v xs):∃ao cap,v= .slice ao xs.length cap/\OpsIn w ao xs:=by
 rcases h with ⟨rfl,rfl⟩ | ⟨b,o,cp,rfl,hc⟩
 ·exact kp2
 exact ⟨some ⟨b,o,none⟩,cp,rfl,.inr ⟨b,o,rfl,hc⟩⟩
end
section
open Go.RowKit Go.Lib Go.Sort Go.Maps
open scoped Classical
theorem wV (h:∀x∈l,an x=0):oL l:=fun x hx=>by
 have q:=aq (h x hx);have l1:x.2.2.2.2.2.2.1.data.toList.length=x.2.2.2.2.2.2.1.size:=zv;have l2:x.2.2.2.2.2.2.2.data.toList.length=x.2.2.2.2.2.2.2.size:=zv;omega
theorem Ct {S:List OpX} (hF:FreshK S F) (hm:∀y,y∈S++F↔y∈S\/y∈x::S) (hx:x∉S):F= [x]:=by
 have hin:∀y∈F,y=x:=fun y hy=>by
  rcases (hm y).1 (uL _ hy) with q | q
  ·exact absurd ⟨rfl,rfl⟩ (hF.off y hy y q)
  rcases vT.1 q with q | q
  ·exact q
  exact absurd ⟨rfl,rfl⟩ (hF.off y hy y q)
 have hxF:x∈F:=by
  rcases vW.1 ((hm x).2 (.inr uv)) with q | q
  ·exact absurd q hx
  exact q
 match F,hF,hin,hxF with
 | [],_,_,h=>simp at h
 | [a],_,hin,_=>rw [hin a zv]
 | a::b::t,hF,hin,_=>
  have:=(uC.1 hF.one).1 b zv;rw [hin a zv,hin b zv] at this;exact absurd ⟨rfl,rfl⟩ this
def Cj (B:Nat) (w:World) (c:Nat->Nat) (br:Nat) (by_:Int) (R:Rws) (l:List OpX) (e:Ending) (w':World):Prop:=∃(n:Nat) (c':Nat->Nat) (R':Rws),e= .returned (.tuple #[.int .i64 (n:Int),.nilIface])/\Acts w c w' c'/\RepOwn B w' c' br by_ R'/\(∀x,x∈aR R'↔x∈aR R\/x∈l)/\(aR R').length=(aR R).length+n
theorem GJ (hR:RowsK R) (hR':RowsK R') (hF:FreshK (aR R) F) (hm:∀x,x∈aR R'↔x∈aR R++F):(aR R').length=(aR R).length+F.length:=by
 have n1:=hR'.num.nodup
 have n2:(aR R++F).Nodup:=by
  rw [Ze];refine ⟨hR.num.nodup,hF.one.imp (fun {a b} h e=>h (by rw [e];exact ⟨rfl,rfl⟩)),fun a ha b hb e=> ?_⟩;subst e;exact hF.off a hb a ha ⟨rfl,rfl⟩
 have a1:=ie n1 (fun x hx=>(hm x).1 hx);have a2:=ie n2 (fun x hx=>(hm x).2 hx);rw [ub] at a1 a2;omega
theorem Kq (w:World) (c:Nat->Nat) (br:Nat) (by_:Int) (R:Rws) (la:Option Addr) (lc:Nat) (T l:List OpX) (h:RepOwn B w c br by_ R) (hE:EnvT B ad w) (hin:OpsIn w la l) (hT:WellK T) (hc:Compat (aR R) T) (hl:∀x,x∈l->x∈T) (hl2:∀x,x∈T->x∈aR R\/x∈l) (hn:(aR R).length+l.length<=140):
  Calls prog 10 #[.pointer (some ⟨br,0,none⟩),.slice la l.length lc] w (Cj B w c br by_ R l):=by
 obtain ⟨fresh,h1,h2,h3,h4⟩:=pO h.wellK hT hc hl hl2 zo;refine (wT w c br by_ R la lc l h hE.env hin (wV (fun x hx=>hT.ok x (hl x hx))) hn).mono ?_;rintro e w' ⟨a,c',hj,hA,hm⟩;rw [h1 a hj] at hm;obtain ⟨he,R',hR',hmem⟩:=hm;refine ⟨fresh.length,c',R',he,hA,hR',fun x=> ?_,GJ h.wellK hR'.wellK h2 hmem⟩;rw [hmem x,h3 x];constructor
 ·rintro (q | q)
  ·exact .inl q
  exact hl2 x q
 rintro (q | q)
 ·exact .inl q
 exact .inr (hl x q)
theorem BE {B:Nat} {ad:Nat->Addr} (w:World) (c:Nat->Nat) (br:Nat) (i:Nat) (R:Rws) (la:Option Addr) (lc:Nat) (T:Int) (x:OpX) (h:RepOwn B w c br (i:Int) R) (hE:EnvT B ad w) (hi:i<4) (hin:OpsIn w la [x]) (hx:NextOp R i T x) (hT:∀y∈aR R,y.1<=T) (hn:(aR R).length<=130):
  Calls prog 10 #[.pointer (some ⟨br,0,none⟩),.slice la 1 lc] w fun e w'=>∃(c':Nat->Nat) (R':Rws),e= .returned (.tuple #[.int .i64 1,.nilIface])/\Acts w c w' c'/\RepOwn B w' c' br (i:Int) R'/\(∀y,y∈aR R'↔y=x\/y∈aR R)/\(aR R').length=(aR R).length+1:=by
 have hw:=hx.well h.wellK hi hT
 have hxn:x∉aR R:=fun q=>by have:=hw.2 x q rfl;omega
 refine (Kq w c br (i:Int) R la lc (x::aR R) [x] h hE hin hw.1 (mh hx h.wellK hi hT) (fun y hy=>by simp at hy;rw [hy];exact uv) (fun y hy=>by rcases vT.1 hy with q | q;exact .inr (by simp [q]);exact .inl q) zr).mono ?_;rintro e w' ⟨n,c',R',he,hA,hR',hm,hlen⟩
 have hm':∀y,y∈aR R'↔y=x\/y∈aR R:=fun y=>by rw [hm y];simp only [uq];exact Or.comm
 have n1:n=1:=by
  have a1:=ie hR'.wellK.num.nodup (H:=x::aR R) (fun y hy=>by rcases (hm' y).1 hy with q | q;exact vT.2 (.inl q);exact ul _ q);have a2:=ie (l:=x::aR R) (H:=aR R') (List.nodup_cons.2 ⟨hxn,h.wellK.num.nodup⟩) (fun y hy=>(hm' y).2 (vT.1 hy));rw [uu] at a1 a2;omega
 subst n1;exact ⟨c',R',he,hA,hR',hm',hlen⟩
end
section
open Go.RowKit Go.Lib Go.Sort Go.Maps
open scoped Classical
def x0:OpX:=(1,2,1,109,6,0,⟨#[97]⟩,⟨#[]⟩)
theorem Li:an x0=0:=zu
theorem next0:NextOp (fun _=>[]) 2 0 x0:=⟨Li,rfl,rfl,rfl,.inl ⟨rfl,rfl⟩,fun _=>.inl rfl,fun h=>by rcases h with ⟨h,_⟩ | h<;>exact absurd h zu⟩
theorem KO (nd:Int):KnownN [x0] nd↔nd=6:=by
 constructor
 ·rintro ⟨x,hx,_,e,_⟩;simp only [uq] at hx;subst hx;exact e.symm
 intro e;exact ⟨x0,zv,rfl,e.symm,e.symm⟩
theorem Lp:LineIs [x0] 6 []:=⟨[],List.Perm.refl _,⟨List.nodup_nil,fun m hm=>by simp at hm,fun u m v e=>qt⟩,rfl⟩
theorem tE (m:Mov) (hne:m.2.1≠m.2.2.1):aN [m]=upd mq m.2.1 (some m.2):=by
 show step mq m=_
 exact fu (fun hi=>hi.elim hne (fun h=>wJ rfl h))
theorem text0:Lib.join (pe [(6,0,⟨#[97]⟩)] [(6,[])] []) [10]= [54,32,105,110,32,48,32,97]:=by
 have h6:Lib.itoa 6= [54]:=by unfold Lib.itoa;simp [Lib.decDigits]
 have h0:Lib.itoa 0= [48]:=by unfold Lib.itoa;simp [Lib.decDigits]
 unfold pe bZ gg;simp [h6,h0,cL,Lib.join_cons,Lib.joinTail]
theorem state0:StateIs [x0] [54,32,105,110,32,48,32,97]:=by
 refine ⟨[((1,2),(6,0,⟨#[97]⟩))],[(6,0,⟨#[97]⟩)],[(6,[])],[x0],[],List.Perm.refl _,Yb _ _,?_,⟨Yb _ _,fun nd=> ?_,fun t ht=> ?_⟩,List.Perm.refl _,⟨List.Pairwise.nil,fun p=> ?_⟩,text0.symm⟩
 ·rw [tE _ zu];refine ⟨Yb _ _,fun p=> ?_⟩;obtain ⟨a,b,s⟩:=p;simp only [uq,upd];constructor
  ·intro e
   cases e
   simp
  intro e;split at e
  ·cases e;rfl
  cases e
 ·rw [KO];simp
 ·simp only [uq] at ht;subst ht;exact ⟨[],Lp,rfl⟩
 constructor
 ·intro h;simp at h
 rintro ⟨_,s,hs⟩;have:dh [x0]=noC:=rfl;rw [this] at hs
 cases hs
theorem LE:WellK [x0]:=(next0.well rB zo (fun y hy=>by simp [aR] at hy)).1
theorem EY (w:World) (hE:EnvT B ad w):
  Calls prog 6 #[] w fun e w'=>e= .returned (.bool true)/\Below w.heap.size w w':=by
 have hnew:=DG w 2 zo zo;have HE:Aside (EnvT w.heap.size ad w):=hE.up hE.env.size zg;clear hE;go_enter func6,ntmps6;go_wp2_with fail;refine hnew.mono ?_;clear hnew;rintro e w1 ⟨c,br,rfl,hR1,hb1⟩;obtain ⟨T,kv,bt,bx,bc,A,hm,hp,ht⟩:=hR1.rep.time;obtain ⟨ao,cap,hM⟩:=hm.norm;obtain rfl:T=0:=bJ ht (by unfold aR;exact lN);have hmk0:=wB (i:=2) w1 c br 0 ao cap bt bx bc (fun _=>[]) 0 ⟨#[97]⟩ hM.cell hM.rows hR1.wellK (HE.o.later hb1).env zo zo zo (by simp [aR]) zu zo zo
 have hmk:Calls prog 43 #[.pointer (some ⟨br,0,none⟩),.int .i64 0,.string ⟨#[97]⟩] w1 fun e w'=>e= .returned (.tuple #[.agg #[.int .i64 1,.int .i64 2,.int .i64 1,.int .u8 109,.int .i64 6,.int .i64 0,.string ⟨#[97]⟩,.string ⟨#[]⟩],.nilIface])/\Aside (Below w1.heap.size w1 w'):=hmk0.mono (fun e w' q=>by
  rcases q with ⟨_,q1,q2⟩ | ⟨q,_⟩
  ·have ex:bN 0 2 ((fun _=>[]:Rws) 2).length 109 0 0 ⟨#[97]⟩ ⟨#[]⟩=x0:=rfl
   rw [ex,Dn (x:=x0) zu,Li,if_pos rfl] at q1
   exact ⟨q1,q2⟩
  ·exact absurd (.inl rfl) q)
 have H1:Aside (RepOwn w.heap.size w1 c br 2 (fun _=>[])/\Below w.heap.size w w1):=⟨hR1,hb1⟩
 clear hR1 hb1 hm hp ht hM hmk0;go_wp2_with fail;refine hmk.mono ?_;clear hmk;rintro e w2 ⟨rfl,HB2⟩;obtain ⟨U,hU⟩:=zc (w2.alloc (.cells #[.int .i64 1,.int .i64 2,.int .i64 1,.int .u8 109,.int .i64 6,.int .i64 0,.string ⟨#[97]⟩,.string ⟨#[]⟩] 38))
 have hbU:Below w1.heap.size w1 U:=by rw [hU];exact HB2.o.alloc HB2.o.size _
 have O0:OpBlk U w2.heap.size x0:=by rw [hU];exact OpBlk.new w2 x0
 have hops:Calls prog 23 #[.pointer (some ⟨br,0,none⟩)] U fun e w'=>∃ao cap,e= .returned (.slice ao 0 cap)/\Aside (Below U.heap.size U w'):=(AL U c br 2 (fun _=>[]) (H1.o.1.later hbU).rep (by simp [aR])).mono (fun e w' q=>by
  obtain ⟨v,ys,he,h1,h2,h3,_⟩:=q
  have hl:=(cr h2).1.length_eq
  have:ys= []:=uh.1 (by rw [hl];simp [aR])
  subst this
  obtain ⟨ao,cap,rfl,_⟩:=Kt h1
  exact ⟨ao,cap,he,h3⟩)
 have H2:Aside (U=w2.alloc (.cells #[.int .i64 1,.int .i64 2,.int .i64 1,.int .u8 109,.int .i64 6,.int .i64 0,.string ⟨#[97]⟩,.string ⟨#[]⟩] 38)/\Below w1.heap.size w1 U/\OpBlk U w2.heap.size x0):=⟨hU,hbU,O0⟩
 obtain ⟨P,hP⟩:=ze w2.heap.size;clear hbU O0 HB2 hU;go_upto_region 5 with fail;rw [<-H2.o.1,<-hP.o];go_wp2_with fail;refine hops.mono ?_;clear hops;rintro e w3 ⟨ao3,cap3,rfl,HB3⟩
 have O3:OpBlk w3 P x0:=by rw [hP.o];exact H2.o.2.2.later HB3.o
 have hb3:Below w1.heap.size w1 w3:=zj H2.o.2.1 HB3.o;obtain ⟨j0,j1,j2,j3,j4,j5,j6,j7,-⟩:=O3.cells;dsimp only [x0] at j0 j1 j2 j3 j4 j5 j6 j7;obtain ⟨V,hV⟩:=zc (w3.alloc (.cells #[.int .i64 1,.int .i64 2,.int .i64 1,.int .u8 109,.int .i64 6,.int .i64 0,.string ⟨#[97]⟩,.string ⟨#[]⟩] 38))
 have hbV:Below w1.heap.size w1 V:=by rw [hV];exact hb3.alloc hb3.size _
 have hinV:OpsIn V (some ⟨w3.heap.size,0,none⟩) [x0]:=by
  refine .inr ⟨w3.heap.size,0,rfl,fun j u hj=> ?_⟩;rw [hV];have:=dC w3 x0 38 j u (by simpa [cellsOf,aA] using hj);rw [Addr.add_lit] at this;exact this
 have hjn:=BE (B:=w.heap.size) V c br 2 (fun _=>[]) (some ⟨w3.heap.size,0,none⟩) 1 0 x0 (H1.o.1.later hbV) (HE.o.later (zj H1.o.2 hbV)) zo hinV next0 (fun y hy=>by simp [aR] at hy) (by simp [aR])
 have hjn2:=hjn.mono (R':=fun e w'=>∃(c':Nat->Nat) (R':Rws),e= .returned (.tuple #[.int .i64 1,.nilIface])/\Aside (RepOwn w.heap.size w' c' br 2 R'/\Below w.heap.size w w'/\(∀y,y∈aR R'↔y=x0)/\(aR R').length=1)) (fun e w' q=>by
  obtain ⟨c',R',he,hA,hR',hm,hl⟩:=q
  have hbw:Below w.heap.size w V:=zj H1.o.2 hbV
  exact ⟨c',R',he,hR',hbw.trans ((H1.o.1.later hbV).below hA hbw.size),fun y=>by rw [hm y];simp [aR],by rw [hl];simp [aR]⟩)
 have H3:Aside (V=w3.alloc (.cells #[.int .i64 1,.int .i64 2,.int .i64 1,.int .u8 109,.int .i64 6,.int .i64 0,.string ⟨#[97]⟩,.string ⟨#[]⟩] 38)):=hV;clear hjn hinV hbV hV hb3 O3 HB3;go_wp2_with fail;rw [<-H3.o];refine hjn2.mono ?_;clear hjn2 j0 j1 j2 j3 j4 j5 j6 j7;rintro e w4 ⟨c',R',rfl,H4⟩
 have hperm:(aR R').Perm [x0]:=by
  match hq:aR R',H4.o.2.2.2 with
  | [a],_=>
   have:=(H4.o.2.2.1 a).1 (by rw [hq];simp);rw [this]
 have hst:Calls prog 16 #[.pointer (some ⟨br,0,none⟩)] w4 fun e w'=>e= .returned (.string ⟨#[54,32,105,110,32,48,32,97]⟩)/\Aside (Below w4.heap.size w4 w'):=(pF w4 c' br 2 R' H4.o.1.rep ((HE.o.mono H4.o.2.1).is) (by rw [H4.o.2.2.2];omega)).mono (fun e w' q=>by
  obtain ⟨s,he,hs,hb⟩:=q
  have:=state0.same LE hperm.symm hs
  rw [<-this] at he
  exact ⟨he,hb⟩)
 have HP:Aside ((aR R').Perm [x0]):=hperm;clear hperm;go_wp2_with fail;refine hst.mono ?_;clear hst;rintro e w5 ⟨rfl,HB5⟩;obtain ⟨T5,kv5,bt5,bx5,bc5,A5,hm5,hp5,ht5⟩:=(H4.o.1.later HB5.o).rep.time;have hT5:T5=1:=bJ ht5 ⟨fun x hx=>by rw [(H4.o.2.2.1 x).1 hx];decide,.inr ⟨x0,(H4.o.2.2.1 x0).2 rfl,rfl⟩,zu⟩;subst hT5;have hby:=Jl w5 br 1 2 kv5 bt5 bx5 bc5 hm5.cell;have htm:=rU w5 br 1 2 kv5 bt5 bx5 bc5 hm5.cell;have H5:Aside (Below w.heap.size w w5):=zj H4.o.2.1 HB5.o;clear hm5 hp5 ht5;go_wp2_with fail;refine hby.mono ?_;rintro e w6 ⟨rfl,rfl⟩;clear hby;go_wp2_with fail;refine htm.mono ?_;rintro e w7 ⟨rfl,rfl⟩;clear htm;go_wp2;go_ret;exact ⟨rfl,H5.o⟩
end
section
open Go.RowKit Go.Lib Go.Sort Go.Maps
open scoped Classical
def JE (ad:Nat->Addr) (w:World) (ok:Prop) (x:OpX) (cyc:Prop) (e:Ending) (w':World):Prop:=Below w.heap.size w w'/\
 ((¬ok/\e= .returned (.tuple #[aD aV,eV ad 6]))\/(ok/\dJ x≠0/\e= .returned (.tuple #[aD aV,eV ad (dJ x)]))\/(ok/\dJ x=0/\cyc/\e= .returned (.tuple #[aD aV,eV ad 10]))\/(ok/\dJ x=0/\¬cyc/\e= .returned (.tuple #[aD x,.nilIface])))
theorem Ch {B:Nat} {ad:Nat->Addr} (w:World) (c:Nat->Nat) (br:Nat) (T:Int) (i:Nat) (ao:Nat->Option Addr) (cap:Nat->Nat) (bt bx bc bm n:Nat) (f:Sta) (R:Rws) (nd into:Int) (name:ByteArray) (hc:RepCell w br T (i:Int) (kvs ao cap R) bt bx bc) (hrows:RowsAt w c (kvs ao cap R) R) (ht:w.cell? ⟨bt,0,none⟩=some (.map (some bm))) (hmap:MapAt prog 3 w bm n f) (hG:gr f) (hR:RowsK R) (hE:EnvE B ad w) (hcy:Aside (Cyc ad)) (hi:i<4) (hT:0<=T) (hm:T<=1073741824) (hn:(aR R).length<=140) (hs1:name.size<=1000000) (h2: -9223372036854775808<=nd) (h3:nd<=9223372036854775807) (h4: -9223372036854775808<=into) (h5:into<=9223372036854775807):
  Calls prog 65 #[.pointer (some ⟨br,0,none⟩),.int .i64 nd,.int .i64 into,.string name] w (JE ad w (KnownN (aR R) nd/\(into=0\/into=1\/KnownN (aR R) into)) (bN T i (R i).length 109 nd into name ⟨#[]⟩) (into=nd\/Ins f into nd)):=by
 have hrl:∀i,i<4->(R i).length<=1000:=fun i hi=>yJ
 obtain ⟨S,hS⟩:=zc w.heap.size;obtain ⟨U,hU⟩:=zc (w.alloc (.cells #[.int .i64 0,.int .i64 0,.int .i64 0,.int .u8 0,.int .i64 0,.int .i64 0,.string ⟨#[]⟩,.string ⟨#[]⟩] 38));have hbU:Below w.heap.size w U:=zW;have Z0:OpBlk U S aV:=yM;have hcU:RepCell U br T (i:Int) (kvs ao cap R) bt bx bc:=hc.same (hbU.block _ hc.lt)
 obtain ⟨zb,hzb⟩:∃zb:Bool,zb=true↔KnownN (aR R) nd:=⟨@decide _ (Classical.propDecidable _),@decide_eq_true_iff _ (Classical.propDecidable _)⟩
 obtain ⟨zp,hzp⟩:∃zp:Bool,zp=true↔(into=0\/into=1\/KnownN (aR R) into):=⟨@decide _ (Classical.propDecidable _),@decide_eq_true_iff _ (Classical.propDecidable _)⟩
 have hnode:=eB U ao cap R nd zb hzb ((hE.later hbU).op4) ((KnownAt.of_rows hrows).later hbU) hR.toN hrl h2 h3;unfold kV at hnode;have k2:U.cell? ⟨br,2,none⟩=some (.slice (ao 0) (R 0).length (cap 0)):=hcU.c2;have k3:U.cell? ⟨br,3,none⟩=some (.slice (ao 1) (R 1).length (cap 1)):=hcU.c3;have k4:U.cell? ⟨br,4,none⟩=some (.slice (ao 2) (R 2).length (cap 2)):=hcU.c4;have k5:U.cell? ⟨br,5,none⟩=some (.slice (ao 3) (R 3).length (cap 3)):=hcU.c5
 have HT:Aside (KnownAt U ao R/\RowsN R/\(∀i,i<4->(R i).length<=1000)/\w.cell? ⟨bt,0,none⟩=some (.map (some bm))/\MapAt prog 3 w bm n f/\gr f):=⟨(KnownAt.of_rows hrows).later hbU,hR.toN,hrl,ht,hmap,hG⟩
 have H0:Aside (RepCell U br T (i:Int) (kvs ao cap R) bt bx bc/\OpBlk U S aV/\Below w.heap.size w U/\S=w.heap.size/\EnvE B ad U/\B<=w.heap.size/\(zb=true↔KnownN (aR R) nd)/\(zp=true↔(into=0\/into=1\/KnownN (aR R) into))):=⟨hcU,Z0,hbU,hS,hE.later hbU,hE.size,hzb,hzp⟩
 have HU:Aside (U=w.alloc (.cells #[.int .i64 0,.int .i64 0,.int .i64 0,.int .u8 0,.int .i64 0,.int .i64 0,.string ⟨#[]⟩,.string ⟨#[]⟩] 38)):=hU;clear hU hcU Z0 hbU hE hc hS hzb hzp hrows hR ht hmap hG hrl;go_enter func65,ntmps65;go_upto_region 1 with fail;rw [<-HU.o,<-H0.o.2.2.2.1];go_wp2_with fail;refine hnode.mono ?_;clear hnode k2 k3 k4 k5;rintro e w1 ⟨rfl,hb1⟩;have Z1:=H0.o.2.1.later hb1
 have H1:Aside (OpBlk w1 S aV/\Below w.heap.size w w1/\EnvE B ad w1/\RepCell w1 br T (i:Int) (kvs ao cap R) bt bx bc/\KnownAt w1 ao R):=⟨Z1,zj H0.o.2.2.1 hb1,H0.o.2.2.2.2.1.later hb1,H0.o.1.same (hb1.block _ H0.o.1.lt),HT.o.1.later hb1⟩
 clear hb1 Z1
 cases zb with
 | false=>
  have HNO:=Lib.hid (show ¬(KnownN (aR R) nd/\(into=0\/into=1\/KnownN (aR R) into)) from fun q=>by have:=H0.o.2.2.2.2.2.2.1.2 q.1;cases this);obtain ⟨z0,z1,z2,z3,z4,z5,z6,z7,zf⟩:=H1.o.1.cells;unfold aV at z0 z1 z2 z3 z4 z5 z6 z7;dsimp only at z0 z1 z2 z3 z4 z5 z6 z7;have eg:=H1.o.2.2.1.c5;have hlo:=H1.o.2.2.1.low;have hSw:=H0.o.2.2.2.1;have hBw:=H0.o.2.2.2.2.2.1;have n1:0≠S:=zo;have n2:S≠0:=zo;clear hlo hSw hBw;go_wp2_with fail;go_region
  all_goals
   go_wp2;(try simp only [Exit.inBlock,Exit.then]);refine bodyPost_ret (v:=.tuple #[aD aV,eV ad 6]) ?_ rfl ⟨?_,.inl ⟨HNO.o,rfl⟩⟩
   ·exact ke1
   exact kd0
 | true=>
  have HK1:Aside (KnownN (aR R) nd):=H0.o.2.2.2.2.2.2.1.1 rfl;have hplace:=gw w1 ao cap R into zp H0.o.2.2.2.2.2.2.2 H1.o.2.2.1.op4 H1.o.2.2.2.2 HT.o.2.1 HT.o.2.2.1 h4 h5;unfold kV at hplace;have k2:w1.cell? ⟨br,2,none⟩=some (.slice (ao 0) (R 0).length (cap 0)):=H1.o.2.2.2.1.c2;have k3:w1.cell? ⟨br,3,none⟩=some (.slice (ao 1) (R 1).length (cap 1)):=H1.o.2.2.2.1.c3;have k4:w1.cell? ⟨br,4,none⟩=some (.slice (ao 2) (R 2).length (cap 2)):=H1.o.2.2.2.1.c4;have k5:w1.cell? ⟨br,5,none⟩=some (.slice (ao 3) (R 3).length (cap 3)):=H1.o.2.2.2.1.c5;go_wp2_with fail;refine hplace.mono ?_;clear hplace k2 k3 k4 k5;rintro e w2 ⟨rfl,hb2⟩
  have H2:Aside (OpBlk w2 S aV/\Below w.heap.size w w2/\EnvE B ad w2/\RepCell w2 br T (i:Int) (kvs ao cap R) bt bx bc):=⟨H1.o.1.later hb2,zj H1.o.2.1 hb2,H1.o.2.2.1.later hb2,H1.o.2.2.2.1.same (hb2.block _ H1.o.2.2.2.1.lt)⟩
  clear hb2
  cases zp with
  | false=>
   have HNO:=Lib.hid (show ¬(KnownN (aR R) nd/\(into=0\/into=1\/KnownN (aR R) into)) from fun q=>by have:=H0.o.2.2.2.2.2.2.2.2 q.2;cases this);obtain ⟨z0,z1,z2,z3,z4,z5,z6,z7,zf⟩:=H2.o.1.cells;unfold aV at z0 z1 z2 z3 z4 z5 z6 z7;dsimp only at z0 z1 z2 z3 z4 z5 z6 z7;have eg:=H2.o.2.2.1.c5;have hlo:=H2.o.2.2.1.low;have hSw:=H0.o.2.2.2.1;have hBw:=H0.o.2.2.2.2.2.1;have n1:0≠S:=zo;have n2:S≠0:=zo;clear hlo hSw hBw;go_wp2_with fail;go_region
   all_goals
    go_wp2;(try simp only [Exit.inBlock,Exit.then]);refine bodyPost_ret (v:=.tuple #[aD aV,eV ad 6]) ?_ rfl ⟨?_,.inl ⟨HNO.o,rfl⟩⟩
    ·exact ke1
    exact (aQ (b:=S) H2.o.2.1 yB 0 [.int .i64 0,.int .i64 0,.int .i64 0,.int .u8 0,.int .i64 0,.int .i64 0,.string ⟨#[]⟩,.string ⟨#[]⟩]).drew
  | true=>
   have HOK:Aside (KnownN (aR R) nd/\(into=0\/into=1\/KnownN (aR R) into)):=⟨HK1.o,H0.o.2.2.2.2.2.2.2.1 rfl⟩
   have hown:=ig w2 br T i ao cap bt bx bc R 109 nd into name ⟨#[]⟩ H2.o.2.2.2 H2.o.2.2.1 hi hT hm hn hs1 zu;unfold aD at hown;dsimp only at hown;go_wp2_with fail;refine hown.mono ?_;clear hown;rintro e w3 ⟨he,hb3⟩;obtain ⟨x,hx⟩:=zc ((bN T i (R i).length 109 nd into name ⟨#[]⟩));rw [<-hx] at he
   have H3:Aside (OpBlk w3 S aV/\Below w.heap.size w w3/\EnvE B ad w3/\RepCell w3 br T (i:Int) (kvs ao cap R) bt bx bc):=⟨H2.o.1.later hb3,zj H2.o.2.1 hb3,H2.o.2.2.1.later hb3,H2.o.2.2.2.same (hb3.block _ H2.o.2.2.2.lt)⟩
   have HXE:Aside (x=(bN T i (R i).length 109 nd into name ⟨#[]⟩)):=hx;clear hb3 hx;by_cases he0:dJ x=0
   ·rw [if_pos he0,he0] at he;subst he;obtain ⟨t,b,m,kd,nd',o,s,v⟩:=x;have HX:=Lib.hid he0;clear he0;unfold aD eV;dsimp only;go_upto_region 4 with fail;obtain ⟨W,hW⟩:=zc (w3.alloc (.cells #[.int .i64 t,.int .i64 b,.int .i64 m,.int .u8 (kd:Int),.int .i64 nd',.int .i64 o,.string s,.string v] 38));obtain ⟨V,hV⟩:=zc w3.heap.size;rw [<-hW,<-hV]
    have hbW:Below w3.heap.size w3 W:=by rw [hW];exact zh w3 _
    have hN:OpBlk W V (t,b,m,kd,nd',o,s,v):=by rw [hW,hV];exact OpBlk.new w3 (t,b,m,kd,nd',o,s,v)
    have hBw':=zj H3.o.2.1 hbW
    have H4:Aside (OpBlk W S aV/\Below w.heap.size w W/\EnvE B ad W/\RepCell W br T (i:Int) (kvs ao cap R) bt bx bc/\OpBlk W V (t,b,m,kd,nd',o,s,v)/\V=w3.heap.size/\S<V):=⟨H3.o.1.later hbW,hBw',H3.o.2.2.1.later hbW,H3.o.2.2.2.same (hbW.block _ H3.o.2.2.2.lt),hN,hV,by rw [hV];exact H3.o.1.lt⟩
    obtain ⟨z,hz⟩:∃z:Bool,z=true↔Ins f into nd:=⟨@decide _ (Classical.propDecidable _),@decide_eq_true_iff _ (Classical.propDecidable _)⟩
    have hins:=lv W bt bm n f into nd z hz (cell_later hBw' HT.o.2.2.2.1) (HT.o.2.2.2.2.1.same (hBw'.block _ HT.o.2.2.2.2.1.lt)) HT.o.2.2.2.2.2 (og zo zo);have HZ:Aside (z=true↔Ins f into nd):=hz;have k6:W.cell? ⟨br,6,none⟩=some (.pointer (some ⟨bt,0,none⟩)):=H4.o.2.2.2.1.c6
    have HX0:Aside (dJ (bN T i (R i).length 109 nd into name ⟨#[]⟩)=0):=by have:=HX.o;rw [HXE.o] at this;exact this
    clear hbW hN hBw' hz hW hV;by_cases hq:into=nd
    ·have HCY:Aside (into=nd\/Ins f into nd):=.inl hq;subst hq;clear hins;obtain ⟨z0,z1,z2,z3,z4,z5,z6,z7,zf⟩:=H4.o.1.cells;unfold aV at z0 z1 z2 z3 z4 z5 z6 z7;dsimp only at z0 z1 z2 z3 z4 z5 z6 z7;have eg:=H4.o.2.2.1.c9 hcy.o;have hlo:=H4.o.2.2.1.low;have hSw:=H0.o.2.2.2.1;have hBw:=H0.o.2.2.2.2.2.1;have n1:9≠S:=zo;have n2:S≠9:=zo;clear hlo hSw hBw;go_wp2_with fail;go_region
     all_goals
      go_wp2;(try simp only [Exit.inBlock,Exit.then]);refine bodyPost_ret (v:=.tuple #[aD aV,eV ad 10]) ?_ rfl ⟨?_,.inr (.inr (.inl ⟨HOK.o,HX0.o,HCY.o,rfl⟩))⟩
      ·exact ke1
      exact (aQ (b:=S) H4.o.2.1 yB 0 [.int .i64 0,.int .i64 0,.int .i64 0,.int .u8 0,.int .i64 0,.int .i64 0,.string ⟨#[]⟩,.string ⟨#[]⟩]).drew
    have HNQ:=Lib.hid hq
    have dq:decide (into=nd)=false:=by simp [hq]
    clear hq;go_wp2_with fail;refine hins.mono ?_;clear hins k6;rintro e w5 ⟨rfl,hb5⟩
    have H5:Aside (OpBlk w5 S aV/\Below w.heap.size w w5/\EnvE B ad w5/\OpBlk w5 V (t,b,m,kd,nd',o,s,v)):=⟨H4.o.1.later hb5,zj H4.o.2.1 hb5,H4.o.2.2.1.later hb5,H4.o.2.2.2.2.1.later hb5⟩
    clear hb5
    cases z with
    | true=>
     have HCY:Aside (into=nd\/Ins f into nd):=.inr (HZ.o.1 rfl);obtain ⟨z0,z1,z2,z3,z4,z5,z6,z7,zf⟩:=H5.o.1.cells;unfold aV at z0 z1 z2 z3 z4 z5 z6 z7;dsimp only at z0 z1 z2 z3 z4 z5 z6 z7;have eg:=H5.o.2.2.1.c9 hcy.o;have hlo:=H5.o.2.2.1.low;have hSw:=H0.o.2.2.2.1;have hBw:=H0.o.2.2.2.2.2.1;have n1:9≠S:=zo;have n2:S≠9:=zo;clear hlo hSw hBw;go_wp2_with fail;go_region
     all_goals
      go_wp2;(try simp only [Exit.inBlock,Exit.then]);refine bodyPost_ret (v:=.tuple #[aD aV,eV ad 10]) ?_ rfl ⟨?_,.inr (.inr (.inl ⟨HOK.o,HX0.o,HCY.o,rfl⟩))⟩
      ·exact ke1
      exact (aQ (b:=S) H5.o.2.1 yB 0 [.int .i64 0,.int .i64 0,.int .i64 0,.int .u8 0,.int .i64 0,.int .i64 0,.string ⟨#[]⟩,.string ⟨#[]⟩]).drew
    | false=>
     have HNC:=Lib.hid (show ¬(into=nd\/Ins f into nd) from fun q=>q.elim HNQ.o (fun q=>by have:=HZ.o.2 q;cases this));obtain ⟨z0,z1,z2,z3,z4,z5,z6,z7,zf⟩:=H5.o.1.cells;unfold aV at z0 z1 z2 z3 z4 z5 z6 z7;dsimp only at z0 z1 z2 z3 z4 z5 z6 z7;obtain ⟨y0,y1,y2,y3,y4,y5,y6,y7,yf⟩:=H5.o.2.2.2.cells;dsimp only at y0 y1 y2 y3 y4 y5 y6 y7;go_wp2;(try simp only [Exit.inBlock,Exit.then]);refine bodyPost_ret (v:=.tuple #[.agg #[.int .i64 t,.int .i64 b,.int .i64 m,.int .u8 (kd:Int),.int .i64 nd',.int .i64 o,.string s,.string v],.nilIface]) ?_ rfl ⟨?_,.inr (.inr (.inr ⟨HOK.o,HX0.o,HNC.o,by rw [<-HXE.o];rfl⟩))⟩
     ·exact ke7
     exact aQ (b:=S) H5.o.2.1 yB 0 [.int .i64 t,.int .i64 b,.int .i64 m,.int .u8 (kd:Int),.int .i64 nd',.int .i64 o,.string s,.string v]
   rw [if_neg he0] at he;subst he;have HX0:=Lib.hid (show dJ (bN T i (R i).length 109 nd into name ⟨#[]⟩)≠0 by rw [<-HXE.o];exact he0);obtain ⟨er,her⟩:=zc (dJ x - 1)
   have hev:eV ad (dJ x)= .iface 399 (.pointer (some (ad er))):=by rw [her];unfold eV;rw [if_neg he0]
   have HEV:Aside (eV ad (dJ x)= .iface 399 (.pointer (some (ad er)))):=hev;rw [hev];clear her hev he0;obtain ⟨z0,z1,z2,z3,z4,z5,z6,z7,zf⟩:=H3.o.1.cells;unfold aV at z0 z1 z2 z3 z4 z5 z6 z7;dsimp only at z0 z1 z2 z3 z4 z5 z6 z7;have hlt:=H3.o.1.lt;have nS:S≠w3.heap.size:=zo;have nS':w3.heap.size≠S:=zo;unfold aD aV;dsimp only;go_wp2;(try simp only [Exit.inBlock,Exit.then]);refine bodyPost_ret (v:=.tuple #[aD aV,.iface 399 (.pointer (some (ad er)))]) ?_ rfl ⟨?_,.inr (.inl ⟨HOK.o,HX0.o,by rw [<-HXE.o,HEV.o]⟩)⟩
   ·exact kc3
   have hbl:=aQ (b:=S) H3.o.2.1 yB 0 [.int .i64 0,.int .i64 0,.int .i64 0,.int .u8 0,.int .i64 0,.int .i64 0,.string ⟨#[]⟩,.string ⟨#[]⟩];exact hbl.alloc hbl.size _
