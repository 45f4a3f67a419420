import Derived.Test.YtehighgebbdenaaGreatDoorRa31
set_option maxRecDepth 100000
set_option maxHeartbeats 64000000
namespace Go.Proofs.YtehighgebbdenaaGreatDoor
open Go.Proofs.Tryz
variable {cs xs ys:List OpX} {b g i j:Nat} {v:Nat→Int} {x:OpX} {p:OpX→Bool} {W w w':World}
section
open Go.RowKit Go.Lib Go.Sort Go.Maps
theorem tQ (n:Nat) (w:World) (hn:n<=1000):Calls prog 207 #[.slice none 0 0,.int .i64 (n:Int)] w fun e w'=>∃v,e= .returned v/\w'.ownsRow w.heap.size 38 8 v 0 []/\Below w.heap.size w w':=by
 by_cases h0:n=0
 ·subst h0;go_enter func207,ntmps207;go_wp2;go_ret;exact ⟨_,rfl,un _ _ _ _,vP _ w⟩
 have d0:decide ((n:Int)<0)=false:=zv;have d1:decide ((0:Int)<(n:Int))=true:=zr;have d1':decide (0<n)=true:=zr;have e1:((n:Int) - 0)=(n:Int):=zo;obtain ⟨i0,hi,hz0,hz1,hz2⟩:=info_parts dX
 have hrun:=fun ty=>Lib.run_append_nil_zeros (P:=prog) w 32 3 ty 38 i0 _ .i64 .i64 underlying32 underlying3 hi hz0 n zo zo zo (by rw [hz2];omega)
 obtain ⟨cp,hcp⟩:=zc (grownCap w n 0 38);rw [<-hcp] at hrun
 have hge:n<=cp:=by rw [hcp];exact grownCap_ge w n 0 _
 have hle:cp<=maxLen:=by rw [hcp];exact grownCap_le_maxLen w n 0 _ zH
 have HC:Aside (cp=grownCap w n 0 38/\n<=cp/\cp<=maxLen):=⟨hcp,hge,hle⟩
 have hc63:(cp:Int)<=9223372036854775807:=by simp only [maxLen] at hle;omega
 clear hcp hge hle;go_enter func207,ntmps207;go_wp2_with (at_builtin;refine Lib.wpList_append_run _ rfl _ _ _ _ rfl _ _ rfl rfl _ _ (hrun _) ?_);go_ret;refine ⟨_,rfl,⟨rfl,.inr ⟨w.heap.size,cp,_,rfl,vM _,heap_alloc_new w _,vV _,HC.o.2.2,?_,?_⟩⟩,(zh w _).drew⟩
 ·have:=HC.o.2.1;simp [size_zeroCells];omega
 simp
theorem wL {ao:Option Addr} (h:OpsIn w ao xs):InRow au w ao xs:=h
theorem nM (w:World) (Bk:Nat) (ao:Nat->Option Addr) (cap:Nat->Nat) (R:Rws) (hk:KBox w Bk ao cap R) (hK:KnownAt w ao R) (hnil:∀i,i<4->ao i=none->cap i=0) (hn:(aR R).length<=1000):
  Calls prog 151 #[.slice (some ⟨Bk,0,none⟩) 4 4] w fun e w'=>∃v,e= .returned v/\w'.ownsRow w.heap.size 38 8 v (aR R).length (cellsOf (aR R))/\Below w.heap.size w w':=by
 have hl0:=lR R (i:=0) zo;have hl1:=lR R (i:=1) zo;have hl2:=lR R (i:=2) zo;have hl3:=lR R (i:=3) zo;have c0:=hk.at (i:=0) zo;have c1:=hk.at (i:=1) zo;have c2:=hk.at (i:=2) zo;have c3:=hk.at (i:=3) zo
 have hsum:(aR R).length=(R 0).length+(R 1).length+(R 2).length+(R 3).length:=by unfold aR;simp;omega
 have hgr:=tQ ((R 0).length+(R 1).length+(R 2).length+(R 3).length) w zo
 have HK:Aside (KnownAt w ao R/\∀i,i<4->ao i=none->cap i=0):=⟨hK,hnil⟩
 have HS:Aside ((aR R).length=(R 0).length+(R 1).length+(R 2).length+(R 3).length):=hsum;have g0:(((R 0).length+(R 1).length+(R 2).length+(R 3).length:Nat):Int)=(R 0).length+(R 1).length+(R 2).length+(R 3).length:=zo;rw [g0] at hgr;have hT:(R 0).length+(R 1).length+(R 2).length+(R 3).length<=1000:=zo;have n1:decide (((R 0).length:Int)<0)=false:=zv;have n2:decide (((R 0).length:Int)+(R 1).length<0)=false:=zr;have n3:decide (((R 0).length:Int)+(R 1).length+(R 2).length<0)=false:=zr;have n4:decide (((R 0).length:Int)+(R 1).length+(R 2).length+(R 3).length<0)=false:=zr;clear hk hK hnil hsum g0;go_enter func151,ntmps151;go_wp2;refine wp_loop_rounds 5 ?_
 iterate 4
  rw [rounds_succ];go_wp2
 rw [rounds_succ];go_wp2_with fail;refine hgr.mono ?_;clear hgr;rintro e w0 ⟨v0,rfl,hown0,hb0⟩;have HB0:Aside (Below w.heap.size w w0):=hb0;have hown0:w0.ownsRow w.heap.size 38 8 v0 0 []:=hown0;obtain ⟨x0,y0,rfl⟩:=fD hown0;clear hb0;go_wp2;refine wp_loop_rounds 5 ?_;rw [rounds_succ];obtain ⟨v1,w1,hrun,hown1,hgrow⟩:=fZ (enc:=au) (k:=8) (S:=32) (T:=38) underlying32 dX zo zo rfl bE cv hown0 zo HB0.o.size (ao 0) (cap 0) (R 0) zo (wL (HK.o.1.later HB0.o 0 zo)) (HK.o.2 0 zo) 32;have HB1:Aside (Below w.heap.size w w1):=HB0.o.grown hgrow HB0.o.size (fun g hg=>(hown0.lt g hg).1);have f0:=cell_later HB0.o c0;have f1:=cell_later HB0.o c1;have f2:=cell_later HB0.o c2;have f3:=cell_later HB0.o c3;rw [vY] at hown1;obtain ⟨x1,y1,rfl⟩:=fD hown1;go_wp2_with (at_builtin;refine Lib.wpList_append_run _ rfl _ _ _ _ rfl _ _ rfl rfl _ _ hrun ?_);clear hrun hgrow f0 f1 f2 f3;rw [rounds_succ];obtain ⟨v2,w2,hrun,hown2,hgrow⟩:=fZ (enc:=au) (k:=8) (S:=32) (T:=38) underlying32 dX zo zo rfl bE cv hown1 zo HB1.o.size (ao 1) (cap 1) (R 1) zo (wL (HK.o.1.later HB1.o 1 zo)) (HK.o.2 1 zo) 32;have HB2:Aside (Below w.heap.size w w2):=HB1.o.grown hgrow HB1.o.size (fun g hg=>(hown1.lt g hg).1);have f0:=cell_later HB1.o c0;have f1:=cell_later HB1.o c1;have f2:=cell_later HB1.o c2;have f3:=cell_later HB1.o c3;obtain ⟨x2,y2,rfl⟩:=fD hown2;go_wp2_with (at_builtin;refine Lib.wpList_append_run _ rfl _ _ _ _ rfl _ _ rfl rfl _ _ hrun ?_);clear hrun hgrow f0 f1 f2 f3;rw [rounds_succ];obtain ⟨v3,w3,hrun,hown3,hgrow⟩:=fZ (enc:=au) (k:=8) (S:=32) (T:=38) underlying32 dX zo zo rfl bE cv hown2 zo HB2.o.size (ao 2) (cap 2) (R 2) zo (wL (HK.o.1.later HB2.o 2 zo)) (HK.o.2 2 zo) 32;have HB3:Aside (Below w.heap.size w w3):=HB2.o.grown hgrow HB2.o.size (fun g hg=>(hown2.lt g hg).1);have f0:=cell_later HB2.o c0;have f1:=cell_later HB2.o c1;have f2:=cell_later HB2.o c2;have f3:=cell_later HB2.o c3;obtain ⟨x3,y3,rfl⟩:=fD hown3
 go_wp2_with (at_builtin;refine Lib.wpList_append_run _ rfl _ _ _ _ rfl _ _ rfl rfl _ _ hrun ?_);clear hrun hgrow f0 f1 f2 f3;rw [rounds_succ];obtain ⟨v4,w4,hrun,hown4,hgrow⟩:=fZ (enc:=au) (k:=8) (S:=32) (T:=38) underlying32 dX zo zo rfl bE cv hown3 zo HB3.o.size (ao 3) (cap 3) (R 3) zo (wL (HK.o.1.later HB3.o 3 zo)) (HK.o.2 3 zo) 32;have HB4:Aside (Below w.heap.size w w4):=HB3.o.grown hgrow HB3.o.size (fun g hg=>(hown3.lt g hg).1);have f0:=cell_later HB3.o c0;have f1:=cell_later HB3.o c1;have f2:=cell_later HB3.o c2;have f3:=cell_later HB3.o c3;obtain ⟨x4,y4,rfl⟩:=fD hown4;go_wp2_with (at_builtin;refine Lib.wpList_append_run _ rfl _ _ _ _ rfl _ _ rfl rfl _ _ hrun ?_);clear hrun hgrow f0 f1 f2 f3;rw [rounds_succ];go_wp2;go_ret;refine ⟨_,rfl,?_,HB4.o⟩;rw [HS.o];rw [show cellsOf (aR R)= []++cellsOf (R 0)++cellsOf (R 1)++cellsOf (R 2)++cellsOf (R 3) by unfold aR;simp [cM]];exact hown4
end
section
open Go.RowKit Go.Lib Go.Sort Go.Maps
def Hh (w:World) (R:Rws) (e:Ending) (w':World):Prop:=∃v ys,e= .returned v/\OpsAt w' v ys/\bW (aR R) ys/\Below w.heap.size w w'/\∀g,v.ownBlock=some g->w.heap.size<=g
theorem Gv (w:World) (ao:Nat->Option Addr) (cap:Nat->Nat) (R:Rws) (hK:KnownAt w ao R) (hnil:∀i,i<4->ao i=none->cap i=0) (hn:(aR R).length<=1000):
  Calls prog 82 #[kV ao cap R] w (Hh w R):=by
 obtain ⟨W,hW⟩:=zc (w.alloc (.cells #[.slice (ao 0) (R 0).length (cap 0),.slice (ao 1) (R 1).length (cap 1),.slice (ao 2) (R 2).length (cap 2),.slice (ao 3) (R 3).length (cap 3)] 65 (0,0)))
 have hb:Below w.heap.size w W:=by rw [hW];exact zh w _
 have hbox:KBox W w.heap.size ao cap R:=by rw [hW];exact heap_alloc_new w _
 have hcat:=nM W w.heap.size ao cap R hbox (hK.later hb) hnil hn
 have H:Aside (W=w.alloc (.cells #[.slice (ao 0) (R 0).length (cap 0),.slice (ao 1) (R 1).length (cap 1),.slice (ao 2) (R 2).length (cap 2),.slice (ao 3) (R 3).length (cap 3)] 65 (0,0))/\Below w.heap.size w W/\(aR R).length<=1000):=⟨hW,hb,hn⟩
 clear hW hb hbox hK hnil hn;unfold kV;go_enter func82,ntmps82;go_wp2_with fail;rw [<-H.o.1];refine hcat.mono ?_;clear hcat;rintro e w1 ⟨v1,rfl,ho1,hb1⟩;have hs:=nP w1 v1 (aR R) (dI ho1) H.o.2.2;have H1:Aside (Below w.heap.size w w1):=zj H.o.2.1 hb1;clear ho1 hb1 H;go_wp2_with fail;refine hs.mono ?_;clear hs;rintro e w2 ⟨v2,ys,rfl,h1,h2,h3,h4⟩
 have H2:Aside (OpsAt w2 v2 ys/\bW (aR R) ys/\Below w.heap.size w w2/\∀g,v2.ownBlock=some g->w.heap.size<=g):=⟨h1,h2,zj H1.o h3,fun g hg=>uf H1.o.size (h4 g hg)⟩
 clear h1 h2 h3 h4 H1;go_wp2;go_ret;exact ⟨_,_,rfl,H2.o⟩
theorem wR {c:Nat->Nat} {ao:Nat->Option Addr} {cap:Nat->Nat} {R:Rws} (h:RowsAt w c (kvs ao cap R) R):∀i,i<4->ao i=none->cap i=0:=fun i hi e=>by
 obtain ⟨-,h2⟩:=(h i hi).1;unfold kvs at h2
 rcases h2 with q | ⟨b,cp,_,q,_⟩
 ·have:=q.1;simp only [Value.slice.injEq] at this;exact this.2.2
 simp only [Value.slice.injEq] at q;rw [q.1] at e
 cases e
theorem AL (w:World) (c:Nat->Nat) (br:Nat) (by_:Int) (R:Rws) (h:RepAt w c br by_ R) (hn:(aR R).length<=1000):
  Calls prog 23 #[.pointer (some ⟨br,0,none⟩)] w (Hh w R):=by
 obtain ⟨T,kv,bt,bx,bc,A,hm,hp,hK,hb⟩:=h;obtain ⟨ao,cap,hM⟩:=hm.norm;have hall:=Gv w ao cap R (KnownAt.of_rows hM.rows) (wR hM.rows) hn;unfold kV at hall;have k2:w.cell? ⟨br,2,none⟩=some (.slice (ao 0) (R 0).length (cap 0)):=hM.cell.c2;have k3:w.cell? ⟨br,3,none⟩=some (.slice (ao 1) (R 1).length (cap 1)):=hM.cell.c3;have k4:w.cell? ⟨br,4,none⟩=some (.slice (ao 2) (R 2).length (cap 2)):=hM.cell.c4;have k5:w.cell? ⟨br,5,none⟩=some (.slice (ao 3) (R 3).length (cap 3)):=hM.cell.c5;clear hm hM hp hK hb hn;go_enter func23,ntmps23;go_wp2_with fail;refine hall.mono ?_;clear hall;rintro e w2 ⟨v2,ys,rfl,h2⟩;have H2:Aside (OpsAt w2 v2 ys/\bW (aR R) ys/\Below w.heap.size w w2/\∀g,v2.ownBlock=some g->w.heap.size<=g):=h2;clear h2;go_wp2;go_ret;exact ⟨_,_,rfl,H2.o⟩
theorem tV (w:World) (c:Nat->Nat) (br:Nat) (by_:Int) (R:Rws) (h:RepAt w c br by_ R) (hn:(aR R).length<=1000):
  Calls prog 18 #[.pointer (some ⟨br,0,none⟩)] w fun e w'=>e= .returned (.agg #[.int .i64 ((R 0).length:Int),.int .i64 ((R 1).length:Int),.int .i64 ((R 2).length:Int),.int .i64 ((R 3).length:Int)])/\Below w.heap.size w w':=by
 obtain ⟨T,kv,bt,bx,bc,A,hm,hp,hK,hb⟩:=h;obtain ⟨ao,cap,hM⟩:=hm.norm;obtain ⟨U,hU⟩:=zc (w.alloc (.cells #[.int .i64 0,.int .i64 0,.int .i64 0,.int .i64 0] 55 (0,0)));have hbU:Below w.heap.size w U:=zW;have hc:RepCell U br T by_ (kvs ao cap R) bt bx bc:=hM.cell.same (hbU.block _ hM.cell.lt);have hv:U.heap[w.heap.size]? =some (.cells #[.int .i64 0,.int .i64 0,.int .i64 0,.int .i64 0] 55 (0,0)):=xr;have hall:=sy U ao cap R (fun i hi=>uf (lR R hi) hn);unfold kV at hall;have k2:U.cell? ⟨br,2,none⟩=some (.slice (ao 0) (R 0).length (cap 0)):=hc.c2;have k3:U.cell? ⟨br,3,none⟩=some (.slice (ao 1) (R 1).length (cap 1)):=hc.c3;have k4:U.cell? ⟨br,4,none⟩=some (.slice (ao 2) (R 2).length (cap 2)):=hc.c4;have k5:U.cell? ⟨br,5,none⟩=some (.slice (ao 3) (R 3).length (cap 3)):=hc.c5
 have HU:Aside (U=w.alloc (.cells #[.int .i64 0,.int .i64 0,.int .i64 0,.int .i64 0] 55 (0,0))/\Below w.heap.size w U/\U.heap[w.heap.size]? =some (.cells #[.int .i64 0,.int .i64 0,.int .i64 0,.int .i64 0] 55 (0,0))):=⟨hU,hbU,hv⟩
 clear hm hM hp hK hb hn hc hU hbU hv;go_enter func18,ntmps18;go_upto_region 1 with fail;rw [<-HU.o.1];go_wp2_with fail;refine hall.mono ?_;clear hall;rintro e w2 ⟨rfl,h2⟩;have hv2:=(h2.block w.heap.size (vO.1 HU.o.2.2).1).trans HU.o.2.2;have s0:w2.cell? ⟨w.heap.size,0,none⟩=some (.int .i64 0):=yW;have s1:w2.cell? ⟨w.heap.size,1,none⟩=some (.int .i64 0):=yW;have s2:w2.cell? ⟨w.heap.size,2,none⟩=some (.int .i64 0):=yW;have s3:w2.cell? ⟨w.heap.size,3,none⟩=some (.int .i64 0):=yW
 have z:∀o,w2.frozen? ⟨w.heap.size,o,none⟩=false:=fun o=>by simp [World.frozen?,hv2]
 have H2:Aside (Below w.heap.size w w2):=zj HU.o.2.1 h2;clear h2 hv2 HU k2 k3 k4 k5;go_wp2;(try simp only [Exit.inBlock,Exit.then]);refine bodyPost_ret (v:=.agg #[.int .i64 ((R 0).length:Int),.int .i64 ((R 1).length:Int),.int .i64 ((R 2).length:Int),.int .i64 ((R 3).length:Int)]) ?_ rfl ⟨rfl,?_⟩
 ·rw [rn rfl];go_simp
 exact (((H2.o.setCell zg _).setCell zg _).setCell zg _).setCell zg _
end
section
open Go.RowKit
theorem nv (W:World) (hb:b<=W.heap.size):∃w0:World,w0.heap.size=b:=⟨{W with heap:=W.heap.extract 0 b},zr⟩
theorem Gq (h:W.heap[b]? =some (.map #[] 0)):TMapAt W b 0 noT:=by
 obtain ⟨w0,rfl⟩:=nv W (ZS (vO.1 h).1);exact (tc w0).same (h.trans (heap_alloc_new w0 _).symm)
theorem GR (h:W.heap[b]? =some (.map #[] 0)):CMapAt W b 0 noC:=by
 obtain ⟨w0,rfl⟩:=nv W (ZS (vO.1 h).1);exact (sG w0).same (h.trans (heap_alloc_new w0 _).symm)
theorem Jg (h:W.heap[b]? =some (.map #[] 0)):MapAt prog 3 W b 0 mq:=by
 obtain ⟨w0,rfl⟩:=nv W (ZS (vO.1 h).1);exact (AG w0).same (h.trans (heap_alloc_new w0 _).symm)
def dj (bt bm bx bc cm br:Nat):Nat->Nat:=fun k=>if k=br then 1 else if k=bt\/k=bm then 2 else if k=bx then 3 else if k=bc\/k=cm then 4 else 0
def IZ (w:World) (by_:Int) (e:Ending) (w':World):Prop:=∃c br,e= .returned (.tuple #[.pointer (some ⟨br,0,none⟩),.nilIface])/\RepOwn w.heap.size w' c br by_ (fun _=>[])/\Below w.heap.size w w'
theorem mP {b:Int} (h0:0<=b) (h4:b<4) (bt bm bx bc cm br:Nat) (hb:Below w.heap.size w W)
  (l1:w.heap.size<=bt) (l2:w.heap.size<=bm) (l3:w.heap.size<=bx) (l4:w.heap.size<=bc) (l5:w.heap.size<=cm) (l6:w.heap.size<=br)
  (d1:bt≠br) (d2:bm≠br) (d3:bx≠br/\bx≠bt/\bx≠bm) (d4:bc≠br/\bc≠bt/\bc≠bm/\bc≠bx) (d5:cm≠br/\cm≠bt/\cm≠bm/\cm≠bx)
  (e1:W.heap[bt]? =some (.cells #[.map (some bm),.slice none 0 0] 187 (0,0))) (e2:W.heap[bm]? =some (.map #[] 0)) (e3:W.heap[bx]? =some (.map #[] 0))
  (e4:W.heap[bc]? =some (.cells #[.map (some cm)] 193 (0,0))) (e5:W.heap[cm]? =some (.map #[] 0))
  (e6:W.heap[br]? =some (.cells #[.int .i64 0,.int .i64 b,.slice none 0 0,.slice none 0 0,.slice none 0 0,.slice none 0 0,.pointer (some ⟨bt,0,none⟩),.map (some bx),.pointer (some ⟨bc,0,none⟩)] 70 (0,0))):
  IZ w b (.returned (.tuple #[.pointer (some ⟨br,0,none⟩),.nilIface])) W:=by
 have hlt:∀ {k:Nat} {o:Obj},W.heap[k]? =some o->k<W.heap.size:=fun h=>(vO.1 h).1
 have u1:dj bt bm bx bc cm br br=1:=by unfold dj;simp
 have u2:dj bt bm bx bc cm br bt=2:=by unfold dj;simp [d1]
 have u3:dj bt bm bx bc cm br bm=2:=by unfold dj;simp [d2]
 have u4:dj bt bm bx bc cm br bx=3:=by unfold dj;simp [d3.1,d3.2.1,d3.2.2]
 have u5:dj bt bm bx bc cm br bc=4:=by unfold dj;simp [d4.1,d4.2.1,d4.2.2.1,d4.2.2.2]
 have u6:dj bt bm bx bc cm br cm=4:=by unfold dj;simp [d5.1,d5.2.1,d5.2.2.1,d5.2.2.2]
 refine ⟨dj bt bm bx bc cm br,br,rfl,⟨⟨0,fun _=>.slice none 0 0,bt,bx,bc,[],⟨e6,u1,?_,?_,?_,?_,lN⟩,by unfold aR;exact List.Perm.refl _,rB,h0,h4⟩,fun k hk=> ?_,fun k hk=> ?_⟩,hb⟩
 ·exact fun i hi=>⟨un _ _ _ _,fun g hg=>by cases hg⟩
 ·refine ⟨bm,.slice none 0 0,[],⟨e1,⟨[],Do,un _ _ _ _⟩,⟨0,zv,Jg e2⟩,List.Pairwise.nil,fun m hm=>by simp at hm⟩,List.Perm.refl _,u2,u3,fun g hg=>by cases hg⟩
 ·refine ⟨0,noT,vM _,Gq e3,u4,fun nd=>⟨fun h=>qF,fun ⟨x,hx,_⟩=>(by cases hx)⟩,fun nd p hp=>by cases hp⟩
 ·exact ⟨cm,[],⟨e4,GR e5⟩,List.Perm.refl _,u5,u6⟩
 ·by_cases q:k=br\/k=bt\/k=bm\/k=bx\/k=bc\/k=cm
  ·rcases q with rfl | rfl | rfl | rfl | rfl | rfl<;>assumption
  exact absurd (by unfold dj;simp only [not_or] at q;simp [q.1,q.2.1,q.2.2.1,q.2.2.2.1,q.2.2.2.2.1,q.2.2.2.2.2]) hk
 have:=hlt e1;have:=hlt e2;have:=hlt e3;have:=hlt e4;have:=hlt e5;have:=hlt e6;unfold dj;rw [if_neg zo,if_neg zo,if_neg zo,if_neg zo]
end
section
open Go.RowKit Go.Lib Go.Sort Go.Maps
theorem sM (w:World) (o:Obj):(w.alloc o).heap=w.heap.push o:=rfl
theorem tg (w:World):w.drew.heap=w.heap:=rfl
theorem DG (w:World) (b:Int) (h0:0<=b) (h4:b<4):
  Calls prog 7 #[.int .i64 b] w (IZ w b):=by
 have hmm:= @run_makeMap prog;have hc:=KI b w h0 h4;go_enter func7,ntmps7;go_wp2_with fail;refine hc.mono ?_;clear hc;rintro e w1 ⟨rfl,rfl⟩;go_upto_region 4 with fail;go_region_with (first | (go_at_call 46;refine (Jj _).mono ?_;rintro e w' ⟨rfl,rfl⟩) | (go_at_call 47;refine (Hn _).mono ?_;rintro e w' ⟨rfl,rfl⟩))
 all_goals (go_wp2;go_ret2)
 all_goals (first
  | (refine mP h0 h4 (w.heap.size+1+1) (w.heap.size+1) (w.heap.size+1+1+1+1+1) (w.heap.size+1+1+1+1) (w.heap.size+1+1+1) (w.heap.size+1+1+1+1+1+1) ?_ zo zo zo zo zo zo zo zo zo zo zo ?_ ?_ ?_ ?_ ?_ ?_;all_goals (first | (simp only [sM,tg,Array.getElem?_push,Array.size_push];(try (repeat first | rw [if_pos trivial] | rw [if_neg zo] | rfl));done) | ((repeat first | exact vP _ _ | refine Below.drew ?_ | refine Below.alloc ?_ qh _);done)))
  | (refine mP h0 h4 (w.heap.size+1+1) (w.heap.size+1) (w.heap.size+1+1+1) (w.heap.size+1+1+1+1+1) (w.heap.size+1+1+1+1) (w.heap.size+1+1+1+1+1+1) ?_ zo zo zo zo zo zo zo zo zo zo zo ?_ ?_ ?_ ?_ ?_ ?_;all_goals (first | (simp only [sM,tg,Array.getElem?_push,Array.size_push];(try (repeat first | rw [if_pos trivial] | rw [if_neg zo] | rfl));done) | ((repeat first | exact vP _ _ | refine Below.drew ?_ | refine Below.alloc ?_ qh _);done)))
  | (refine mP h0 h4 (w.heap.size+1+1+1) (w.heap.size+1+1) (w.heap.size+1) (w.heap.size+1+1+1+1+1) (w.heap.size+1+1+1+1) (w.heap.size+1+1+1+1+1+1) ?_ zo zo zo zo zo zo zo zo zo zo zo ?_ ?_ ?_ ?_ ?_ ?_;all_goals (first | (simp only [sM,tg,Array.getElem?_push,Array.size_push];(try (repeat first | rw [if_pos trivial] | rw [if_neg zo] | rfl));done) | ((repeat first | exact vP _ _ | refine Below.drew ?_ | refine Below.alloc ?_ qh _);done))))
end
section
open Go.RowKit Go.Lib Go.Sort Go.Maps
theorem rU (w:World) (br:Nat) (T by_:Int) (kv:Nat->Value) (bt bx bc:Nat) (hc:RepCell w br T by_ kv bt bx bc):
  Calls prog 20 #[.pointer (some ⟨br,0,none⟩)] w fun e w'=>e= .returned (.int .i64 T)/\w'=w:=by
 have h:=FL br T w hc.c0;clear hc;go_enter func20,ntmps20;go_wp2_with fail;refine h.mono ?_;rintro e w' ⟨rfl,rfl⟩;exact kb4
theorem Kj (pb:Nat) (b:Int) (w:World) (hb:w.cell? ⟨pb,1,none⟩=some (.int .i64 b)):
  Calls prog 106 #[.pointer (some ⟨pb,0,none⟩)] w fun e w'=>e= .returned (.int .i64 b)/\w'=w:=by
 go_enter func106,ntmps106;exact kb4
theorem Jl (w:World) (br:Nat) (T by_:Int) (kv:Nat->Value) (bt bx bc:Nat) (hc:RepCell w br T by_ kv bt bx bc):
  Calls prog 44 #[.pointer (some ⟨br,0,none⟩)] w fun e w'=>e= .returned (.int .i64 by_)/\w'=w:=by
 have h:=Kj br by_ w hc.c1;clear hc;go_enter func44,ntmps44;go_wp2_with fail;refine h.mono ?_;rintro e w' ⟨rfl,rfl⟩;exact kb4
theorem JJ (b:Int) (w:World) (tb:TypeId) (ab:Value) (hg:w.cell? ⟨2,0,none⟩=some (.iface tb ab)) (h:b<0\/4<=b):
  Calls prog 7 #[.int .i64 b] w fun e w'=>e= .returned (.tuple #[.pointer none,.iface tb ab])/\Below w.heap.size w w':=by
 have hc:=Ku b w _ hg h;clear hg h;go_enter func7,ntmps7;go_wp2_with fail;refine hc.mono ?_;rintro e w' ⟨rfl,hb⟩;have HB:Aside (Below w.heap.size w w'):=hb;clear hb;go_wp2;go_ret2;exact ⟨rfl,HB.o⟩
end
section
open Go.RowKit Go.Lib Go.Sort Go.Maps
def VecBlk (w:World) (b:Nat) (v:Nat->Int):Prop:=w.heap[b]? =some (.cells #[.int .i64 (v 0),.int .i64 (v 1),.int .i64 (v 2),.int .i64 (v 3)] 55 (0,0))
theorem VecBlk.lt (h:VecBlk w b v):b<w.heap.size:=(vO.1 h).1
theorem VecBlk.later (h:VecBlk w b v) (hb:Below w.heap.size w w'):VecBlk w' b v:=(hb.block b h.lt).trans h
theorem VecBlk.at (h:VecBlk w b v) (hi:i<4):w.cell? ⟨b,i,none⟩=some (.int .i64 (v i)):=by
 unfold VecBlk at h
 match i,hi with
 | 0,_=>simp [World.cell?,h]
 | 1,_=>simp [World.cell?,h]
 | 2,_=>simp [World.cell?,h]
 | 3,_=>simp [World.cell?,h]
def ij (v:Nat->Int) (x:OpX):Bool:=decide (x.2.2.1<=v x.2.1.toNat)
theorem BZ (w:World) (b:Nat) (v:Nat->Int) (x:OpX) (hv:VecBlk w b v) (i:Nat) (hi:i<4) (hx:x.2.1=(i:Int)):
  Calls prog 84 #[aD x,.pointer (some ⟨b,0,none⟩)] w fun e w'=>e= .returned (.bool (ij v x))/\Below w.heap.size w w':=by
 obtain ⟨t,by_,m,kd,nd,o,s,u⟩:=x;simp only at hx;subst hx;have hvl:=hv.lt;have hb:Below w.heap.size w (w.alloc (.cells #[.int .i64 t,.int .i64 (i:Int),.int .i64 m,.int .u8 (kd:Int),.int .i64 nd,.int .i64 o,.string s,.string u] 38)):=zh w _;have q:=(hv.later hb).at hi;have ei:((i:Int)).toNat=i:=zo;have i4:((i:Int)<4):=zo;have i0:(0:Int)<=(i:Int):=zo;have HB:Aside (Below w.heap.size w (w.alloc (.cells #[.int .i64 t,.int .i64 (i:Int),.int .i64 m,.int .u8 (kd:Int),.int .i64 nd,.int .i64 o,.string s,.string u] 38))):=hb
 have HH:Aside (ij v (t,(i:Int),m,kd,nd,o,s,u)=decide (m<=v i)):=by show decide (m<=v ((i:Int)).toNat)=_;rw [ei]
 clear hb hv;unfold aD;dsimp only;rw [HH.o];go_enter func84,ntmps84;go_wp2_with fail;go_quiet (fail);go_wp2;go_ret;exact ⟨rfl,below_drewN HB.o _⟩
end
section
open Go.RowKit Go.Lib Go.Sort Go.Maps
structure OwnAt (w:World) (g:Nat) (ys:List OpX):Prop where
 cell:∀j u,(cellsOf ys)[j]? =some u->w.cell? ⟨g,j,none⟩=some u
 free:∀j,j<ys.length*8->w.frozen? ⟨g,j,none⟩=false
theorem OwnAt.has (h:OwnAt w g ys) (hj:j<ys.length*8):(w.cell? ⟨g,j,none⟩).isSome=true:=by
 have hl:j<(cellsOf ys).length:=jr;rw [h.cell j _ (vN hl)];rfl
theorem OwnAt.at (h:OwnAt w g ys) (hi:ys[i]? =some x) {c:Nat} {u:Value} (hc:(au x)[c]? =some u):w.cell? ⟨g,i*8+c,none⟩=some u:=by
 have hl:i<ys.length:=(vL.1 hi).1
 have h8:c<8:=by have:=(vL.1 hc).1;rw [bE] at this;exact this
 refine h.cell _ _ ?_;have h8':c<(au x).length:=yT;rw [bO ys i c hl h8,getElem!_pos ys i hl,(vL.1 hi).2,getElem!_pos (au x) c h8'];rw [vN h8'] at hc;exact hc
theorem OwnAt.same (h:OwnAt w g ys) (e:w'.heap[g]? =w.heap[g]?):OwnAt w' g ys:=
 ⟨fun j u hj=>by have:=h.cell j u hj;simp only [World.cell?] at this |-;rw [e];exact this,fun j hj=>by have:=h.free j hj;simp only [World.frozen?] at this |-;rw [e];exact this⟩
theorem OwnAt.set {w:World} {g:Nat} {cs:List OpX} (h:OwnAt w g cs) {i:Nat} (hi:i<cs.length) (x:OpX):OwnAt (w.setCells g (i*8) (au x)) g (cs.set i x):=by
 constructor
 ·intro j u hj;have hl:j<(cellsOf (cs.set i x)).length:=(vL.1 hj).1;rw [aH,Zt] at hl;have h2:j / 8*8+j % 8=j:=zo;have c:=bO (cs.set i x) (j / 8) (j % 8) (by rw [Zt];omega) zo;rw [h2,hj] at c
  have hq:j / 8<(cs.set i x).length:=by rw [Zt];omega
  rw [getElem!_pos (cs.set i x) (j / 8) hq,List.getElem_set] at c;by_cases e:i=j / 8
  ·rw [if_pos e] at c
   have hr:j % 8<(au x).length:=by rw [bE];omega
   have k:=World.cell?_setCells_in g (au x) (i*8) w (fun q hq'=>h.has (by rw [bE] at hq';omega)) (j % 8) hr;rw [show i*8+j % 8=j by omega] at k;rw [k];rw [getElem!_pos (au x) (j % 8) hr] at c;exact c.symm
  rw [if_neg e] at c;rw [ZD g (au x) (i*8) w ⟨g,j,none⟩ (fun _ _=>by rw [bE];show j<i*8\/i*8+8<=j;omega)];refine h.cell j u ?_;rw [<-h2,bO cs (j / 8) (j % 8) zo zo,getElem!_pos cs (j / 8) zo];exact c.symm
 intro j hj;rw [ZF];exact h.free j (by rw [Zt] at hj;exact hj)
theorem lV {P:Program} (w:World) (t e ty:TypeId) (z:Value) (ht:P.underlying t=some (.slice e)) (hv:∀w,(zeroValue e).run P w= .ok z w) (b o n c:Nat) (hn:0<n)
  (h1:∀v∈(Builtin.zeroCells z.cells n).toList,v.oneCell'=true) (hc:∀j,j<n*z.cells.size->(w.cell? ⟨b,o+j,none⟩).isSome=true) (hf:∀j,j<n*z.cells.size->w.frozen? ⟨b,o+j,none⟩=false):
  (Builtin.clear_ #[t] ty #[.slice (some ⟨b,o,none⟩) n c]).run P w= .ok (.tuple #[]) (w.setCells b o (Builtin.zeroCells z.cells n).toList):=by
 have hsz:(Builtin.zeroCells z.cells n).toList.length=n*z.cells.size:=by rw [uw,size_zeroCells]
 have hst:=run_storeCells_cells (P:=P) b o (Builtin.zeroCells z.cells n).toList 0 w (by rw [hsz];simpa using hc) (by rw [hsz];simpa using hf) h1;simp only [Zg] at hst
 obtain ⟨m,rfl⟩:∃m,n=m+1:=⟨n - 1,zo⟩
 simp [Builtin.clear_,run_underlying ht,hv,hst]
end
section
open Go.RowKit Go.Lib Go.Sort Go.Maps
def PredB (g:Nat) (lb:Array Value) (xs:List OpX) (p:OpX->Bool) (base:Nat) (w:World):Prop:=
 ∀(W:World) (x:OpX),x∈xs->Below base w W->Calls prog g (#[aD x]++lb) W fun e w'=>e= .returned (.bool (p x))/\Below W.heap.size W w'
theorem PredB.toO {lb:Array Value} {base:Nat} (h:PredB g lb xs p base w) (hb:base<=w.heap.size):EG g lb xs p w:=fun W x hx hW=>(h W x hx (hW.mono hb)).mono (by rintro e w' ⟨rfl,q⟩;exact ⟨rfl,zj hW q⟩)
theorem OwnAt.ops (h:OwnAt w g ys):OpsIn w (some ⟨g,0,none⟩) ys:=.inr ⟨g,0,rfl,fun j u hj=>by rw [vY];exact h.cell j u hj⟩
theorem OwnAt.take {w:World} {g:Nat} {cs:List OpX} (h:OwnAt w g cs) {i:Nat} (hi:i<=cs.length) (vs:List Value):OwnAt (w.setCells g (i*8) vs) g (cs.take i):=by
 have hlen:(cs.take i).length=i:=zr;constructor
 ·intro j u hj;have hl:j<(cellsOf (cs.take i)).length:=(vL.1 hj).1;rw [aH,hlen] at hl;rw [ZD g vs (i*8) w ⟨g,j,none⟩ (fun _ _=>.inl (by show j<i*8;omega))];refine h.cell j u ?_;have e:cellsOf cs=cellsOf (cs.take i)++cellsOf (cs.drop i):=qD;rw [e,ZJ (by rw [aH,hlen];omega)];exact hj
 intro j hj;rw [hlen] at hj;rw [ZF];exact h.free j zo
structure DelSt (p:OpX->Bool) (ys:List OpX) (i j:Nat) (cs:List OpX):Prop where
 lt:i<j
 le:j<=ys.length
 len:cs.length=ys.length
 stay:cs.take i=(ys.take j).filter (fun x=> !p x)
 rest:cs.drop j=ys.drop j
theorem DelSt.start {k:Nat} (hx:ys[k]? =some x) (hp:p x=true) (hk:∀j y,j<k->ys[j]? =some y->p y=false):DelSt p ys k (k+1) ys:=by
 have hl:k<ys.length:=(vL.1 hx).1;refine ⟨zo,zo,rfl,?_,rfl⟩;rw [uS,hx,Za]
 have e1:(ys.take k).filter (fun x=> !p x)=ys.take k:=List.filter_eq_self.2 (fun a ha=>by
  obtain ⟨q,hq,e⟩:=uN ha
  rw [ug] at hq
  rw [ZG] at e
  rw [hk q a zo (by rw [<-e];exact vN zo)]
  rfl)
 rw [e1];simp [hp]
theorem DelSt.get (h:DelSt p ys i j cs) (hx:ys[j]? =some x):cs[j]? =some x:=by
 have:=congrArg (fun l=>l[0]?) h.rest;simp only [uV,Zg] at this;rw [this,hx]
theorem DelSt.skip (h:DelSt p ys i j cs) (hx:ys[j]? =some x) (hp:p x=true):DelSt p ys i (j+1) cs:=by
 have hl:j<ys.length:=(vL.1 hx).1;refine ⟨by have:=h.lt;omega,zo,h.len,?_,?_⟩
 ·rw [uS,hx,Za,h.stay];simp [hp]
 exact kq9
theorem DelSt.keep (h:DelSt p ys i j cs) (hx:ys[j]? =some x) (hp:p x=false):DelSt p ys (i+1) (j+1) (cs.set i x):=by
 have hl:j<ys.length:=(vL.1 hx).1;have hlt:=h.lt;have hlen:=h.len;refine ⟨zo,zo,by rw [Zt];exact h.len,?_,?_⟩
 ·rw [uS (l:=ys),hx,Za,<-h.stay,uS,Zm zo,List.take_set_of_le zg];simp [hp]
 rw [List.drop_set_of_lt zo];exact kq9
end
section
open Go.RowKit Go.Lib Go.Sort Go.Maps
abbrev zeroOpV:Value:=.agg #[.int .i64 0,.int .i64 0,.int .i64 0,.int .u8 0,.int .i64 0,.int .i64 0,.string ⟨#[]⟩,.string ⟨#[]⟩]
theorem mL:zeroOpV.cells.size=8:=rfl
def Cm (n:Nat):List Value:=(Builtin.zeroCells zeroOpV.cells n).toList
theorem FK (n:Nat):∀v∈(Builtin.zeroCells zeroOpV.cells n).toList,v.oneCell'=true:=by
 intro v hv;unfold Builtin.zeroCells at hv;rw [Array.toList_map,ut] at hv;obtain ⟨a,_,rfl⟩:=hv;rw [mL];have h8:a % 8<8:=Nat.mod_lt _ zo
 have key:∀q,q<8->(zeroOpV.cells[q]!).oneCell'=true:=fun q hq=>by
  match q,hq with
  | 0,_=>rfl
  | 1,_=>rfl
  | 2,_=>rfl
  | 3,_=>rfl
  | 4,_=>rfl
  | 5,_=>rfl
  | 6,_=>rfl
  | 7,_=>rfl
 exact key _ h8
structure Kr (w:World) (g a:Nat) (x:OpX):Prop where
 c0:w.cell? ⟨g,a,none⟩=some (.int .i64 x.1)
 c1:w.cell? ⟨g,a+1,none⟩=some (.int .i64 x.2.1)
 c2:w.cell? ⟨g,a+2,none⟩=some (.int .i64 x.2.2.1)
 c3:w.cell? ⟨g,a+3,none⟩=some (.int .u8 (x.2.2.2.1:Int))
 c4:w.cell? ⟨g,a+4,none⟩=some (.int .i64 x.2.2.2.2.1)
 c5:w.cell? ⟨g,a+5,none⟩=some (.int .i64 x.2.2.2.2.2.1)
 c6:w.cell? ⟨g,a+6,none⟩=some (.string x.2.2.2.2.2.2.1)
 c7:w.cell? ⟨g,a+7,none⟩=some (.string x.2.2.2.2.2.2.2)
 f0:w.frozen? ⟨g,a,none⟩=false
 f1:w.frozen? ⟨g,a+1,none⟩=false
 f2:w.frozen? ⟨g,a+2,none⟩=false
 f3:w.frozen? ⟨g,a+3,none⟩=false
 f4:w.frozen? ⟨g,a+4,none⟩=false
 f5:w.frozen? ⟨g,a+5,none⟩=false
 f6:w.frozen? ⟨g,a+6,none⟩=false
 f7:w.frozen? ⟨g,a+7,none⟩=false
theorem OwnAt.eight (h:OwnAt w g cs) (hi:cs[i]? =some x):Kr w g (i*8) x:=by
 have hl:i<cs.length:=(vL.1 hi).1;have e0:=h.at hi (c:=0) rfl;rw [Zg] at e0;exact ⟨e0,h.at hi (c:=1) rfl,h.at hi (c:=2) rfl,h.at hi (c:=3) rfl,h.at hi (c:=4) rfl,h.at hi (c:=5) rfl,h.at hi (c:=6) rfl,h.at hi (c:=7) rfl,h.free _ zo,h.free _ zo,h.free _ zo,h.free _ zo,h.free _ zo,h.free _ zo,h.free _ zo,h.free _ zo⟩
theorem Lb (w:World) (g a:Nat) (t b m:Int) (kd:Nat) (nd o:Int) (s u:ByteArray):((((((((w.setCell ⟨g,a,none⟩ (.int .i64 t)).setCell ⟨g,a+1,none⟩ (.int .i64 b)).setCell ⟨g,a+2,none⟩ (.int .i64 m)).setCell ⟨g,a+3,none⟩ (.int .u8 (kd:Int))).setCell ⟨g,a+4,none⟩ (.int .i64 nd)).setCell ⟨g,a+5,none⟩ (.int .i64 o)).setCell ⟨g,a+6,none⟩ (.string s)).setCell ⟨g,a+7,none⟩ (.string u))=w.setCells g a (au (t,b,m,kd,nd,o,s,u)):=rfl
def Eg (w:World) (g cap base:Nat) (zs:List OpX) (e:Ending) (w':World):Prop:=e= .returned (.slice (some ⟨g,0,none⟩) zs.length cap)/\OwnAt w' g zs/\Below base w w'
theorem Af (p:OpX->Bool) (gf:Nat) (lb:Array Value) (eg:∀args w,(callFunc gf args).run prog w= .ok (.enter gf args) w) (g cap base:Nat) (ys:List OpX) (w:World) (hbg:base<=g) (hbw:base<=w.heap.size) (hgw:g<w.heap.size) (hp:PredB gf lb ys p base w) (hn:ys.length<=1000) (hc1:ys.length<=cap) (hc2:cap<=maxLen) (hO:OwnAt w g ys):
  Calls prog 83 #[.slice (some ⟨g,0,none⟩) ys.length cap,.func (.func gf) #[] lb] w (Eg w g cap base (ys.filter (fun x=> !p x))):=by
 have hidx:=ia p gf lb eg (some ⟨g,0,none⟩) cap ys w (hp.toO hbw) zo hO.ops
 have H:Aside (PredB gf lb ys p base w/\OwnAt w g ys/\base<=g/\base<=w.heap.size/\g<w.heap.size):=⟨hp,hO,hbg,hbw,hgw⟩
 clear hp hO hbg hbw hgw
 have hc63:(cap:Int)<=9223372036854775807:=by simp only [maxLen] at hc2;omega
 clear hc2;go_enter func83,ntmps83;go_wp2_with fail;refine hidx.mono ?_;clear hidx;rintro e w1 ⟨r,rfl,HR⟩
 rcases HR.o.1 with ⟨hr,ha⟩ | ⟨k,x,hr,hx,hpx,hfst⟩
 ·subst hr;have HF:Aside (ys.filter (fun x=> !p x)=ys):=List.filter_eq_self.2 (fun a h=>by rw [ha a h];rfl);clear ha;go_wp2;go_ret;unfold Eg;rw [HF.o];exact ⟨rfl,H.o.2.1.same (HR.o.2.block g H.o.2.2.2.2),HR.o.2.mono H.o.2.2.2.1⟩
 have hkl:k<ys.length:=(vL.1 hx).1;have d0:decide (((k:Nat):Int)= -1)=false:=zv
 have H1:Aside (DelSt p ys k (k+1) ys/\OwnAt w1 g ys/\Below base w w1):=⟨DelSt.start hx hpx hfst,H.o.2.1.same (HR.o.2.block g H.o.2.2.2.2),HR.o.2.mono H.o.2.2.2.1⟩
 subst hr;clear hx hpx hfst HR;go_wp2;go_loopg [5,6] ys.length (fun kx s5 s6 wr=>∃(i j:Nat) (cs:List OpX),s5= .int .i64 (i:Int)/\s6= .int .i64 (j:Int)/\ys.length - j<=kx/\Aside (DelSt p ys i j cs/\OwnAt wr g cs/\Below base w wr))
 case atStart=>exact ⟨k,k+1,ys,rfl,zv,zo,H1.o⟩
 case round=>
  obtain ⟨i,j,cs,rfl,rfl,hkx,A⟩:=hrel;have hij:=A.o.1.lt;have hjl:=A.o.1.le;have hcl:=A.o.1.len;by_cases hlt:j<ys.length
  ·have hltz:decide ((j:Int)<(ys.length:Int))=true:=by simp;omega
   have hgw:g<wr.heap.size:=um H.o.2.2.2.2 A.o.2.2.size;have hbr:=A.o.2.2.size;have hbw:=H.o.2.2.2.1;have ej:((j:Int)).toNat=j:=zo;have pj:(0:Int)<=(j:Int):=zo;have bj:(j:Int)<(ys.length:Int):=zo
   obtain ⟨⟨t,b,m,kd,nd,o,s,u⟩,hl⟩:∃l,Aside (ys[j]? =some l):=⟨ys[j],vN hlt⟩
   obtain ⟨r0,r1,r2,r3,r4,r5,r6,r7,-,-,-,-,-,-,-,-⟩:=A.o.2.1.eight (A.o.1.get hl.o);dsimp only at r0 r1 r2 r3 r4 r5 r6 r7;have hbW:Below wr.heap.size wr (wr.alloc (.cells #[.int .i64 t,.int .i64 b,.int .i64 m,.int .u8 (kd:Int),.int .i64 nd,.int .i64 o,.string s,.string u] 38)):=zh wr _;have hBW:Below base w (wr.alloc (.cells #[.int .i64 t,.int .i64 b,.int .i64 m,.int .u8 (kd:Int),.int .i64 nd,.int .i64 o,.string s,.string u] 38)):=A.o.2.2.trans (hbW.mono zo);have hcall:=H.o.1 _ (t,b,m,kd,nd,o,s,u) (vQ hl.o) hBW
   have HW:Aside (OpBlk (wr.alloc (.cells #[.int .i64 t,.int .i64 b,.int .i64 m,.int .u8 (kd:Int),.int .i64 nd,.int .i64 o,.string s,.string u] 38)) wr.heap.size (t,b,m,kd,nd,o,s,u)/\OwnAt (wr.alloc (.cells #[.int .i64 t,.int .i64 b,.int .i64 m,.int .u8 (kd:Int),.int .i64 nd,.int .i64 o,.string s,.string u] 38)) g cs/\Below base w (wr.alloc (.cells #[.int .i64 t,.int .i64 b,.int .i64 m,.int .u8 (kd:Int),.int .i64 nd,.int .i64 o,.string s,.string u] 38))/\g<wr.heap.size):=⟨OpBlk.new wr (t,b,m,kd,nd,o,s,u),A.o.2.1.same (hbW.block g hgw),hBW,hgw⟩
   clear hbW hBW;unfold aD at hcall;dsimp only at hcall
   cases hq:p (t,b,m,kd,nd,o,s,u) with
   | true=>
    rw [hq] at hcall;have HQ:=Lib.hid hq;clear hq;go_wp2_with (go_at_fn gf;refine hcall.mono ?_;rintro e w' ⟨rfl,hb'⟩);go_roundg (ys.length - (j+1))
    case measure=>omega
    case rel=>
     have hsz:(wr.alloc (.cells #[.int .i64 t,.int .i64 b,.int .i64 m,.int .u8 (kd:Int),.int .i64 nd,.int .i64 o,.string s,.string u] 38)).heap.size=wr.heap.size+1:=zv;exact ⟨i,j+1,cs,rfl,zD,vM _,⟨A.o.1.skip hl.o HQ.o,HW.o.2.1.same (hb'.block g zo),HW.o.2.2.1.trans (hb'.mono zo)⟩⟩
   | false=>
    rw [hq] at hcall;have HQ:=Lib.hid hq;clear hq;have ei:((i:Int)).toNat=i:=zo;have pi:(0:Int)<=(i:Int):=zo;have bi:(i:Int)<(ys.length:Int):=zo
    obtain ⟨z,hz⟩:∃z,Aside (cs[i]? =some z):=⟨cs[i],vN zo⟩
    go_wp2_with (go_at_fn gf;refine hcall.mono ?_;rintro e w' ⟨rfl,hb'⟩;obtain ⟨q0,q1,q2,q3,q4,q5,q6,q7,-⟩:=(HW.o.1.later hb').cells;dsimp only at q0 q1 q2 q3 q4 q5 q6 q7;obtain ⟨y0,y1,y2,y3,y4,y5,y6,y7,f0,f1,f2,f3,f4,f5,f6,f7⟩:=(HW.o.2.1.same (hb'.block g (by rw [uP];omega))).eight hz.o);have hsz:(wr.alloc (.cells #[.int .i64 t,.int .i64 b,.int .i64 m,.int .u8 (kd:Int),.int .i64 nd,.int .i64 o,.string s,.string u] 38)).heap.size=wr.heap.size+1:=zv
    have HE:Aside (OwnAt w' g cs/\Below base w w'):=⟨HW.o.2.1.same (hb'.block g zo),HW.o.2.2.1.trans (hb'.mono zo)⟩
    clear hsz hb' q0 q1 q2 q3 q4 q5 q6 q7 y0 y1 y2 y3 y4 y5 y6 y7 f0 f1 f2 f3 f4 f5 f6 f7 r0 r1 r2 r3 r4 r5 r6 r7 hcall;go_roundg (ys.length - (j+1))
    case measure=>omega
    case rel=>
     rw [Lb w' g (i*8) t b m kd nd o s u];refine ⟨i+1,j+1,cs.set i (t,b,m,kd,nd,o,s,u),?_,?_,vM _,?_⟩
     ·go_num
     ·go_num
     exact ⟨A.o.1.keep hl.o HQ.o,HE.o.1.set zo (t,b,m,kd,nd,o,s,u),HE.o.2.trans ((aZ g (au (t,b,m,kd,nd,o,s,u)) (i*8) w').below (uf H.o.2.2.2.1 HE.o.2.size) (fun k e=>by have:=H.o.2.2.1;omega))⟩
  have hltz:decide ((j:Int)<(ys.length:Int))=false:=zr;have hltn:decide (j<ys.length)=false:=zr;have hgw:g<wr.heap.size:=um H.o.2.2.2.2 A.o.2.2.size;have ei:((i:Int)).toNat=i:=zo;have pi:(0:Int)<=(i:Int):=zo;have bi:(i:Int)<=(ys.length:Int):=zo;have bi2:(i:Int)<=(cap:Int):=zo;have bl:(ys.length:Int)<=(cap:Int):=zo
  have hclear:∀ty,(Builtin.clear_ #[32] ty #[.slice (some ⟨g,i*8,none⟩) (ys.length - i) (cap - i)]).run prog wr= .ok (.tuple #[]) (wr.setCells g (i*8) (Cm (ys.length - i))):=fun ty=>lV (P:=prog) wr 32 38 ty _ underlying32 zeroValue38 g (i*8) (ys.length - i) (cap - i) zo (FK _) (fun q hq=>A.o.2.1.has (by rw [mL] at hq;omega)) (fun q hq=>A.o.2.1.free _ (by rw [mL] at hq;omega))
  go_wp2;go_ret;have st:=A.o.1.stay;have ejl:j=ys.length:=zo;rw [ejl,Zu] at st;have hil:(cs.take i).length=i:=ym;unfold Eg;rw [<-st,hil];exact ⟨rfl,A.o.2.1.take zo _,A.o.2.2.trans ((aZ g (Cm (ys.length - i)) (i*8) wr).below (uf H.o.2.2.2.1 A.o.2.2.size) (fun k e=>by have:=H.o.2.2.1;omega))⟩
end
section
open Go.RowKit Go.Lib Go.Sort Go.Maps
def SortOut (w:World) (xs:List OpX) (e:Ending) (w':World):Prop:=∃v ys,e= .returned v/\((v= .slice none 0 0/\ys= [])\/∃g cap,v= .slice (some ⟨g,0,none⟩) ys.length cap/\w.heap.size<=g/\g<w'.heap.size/\ys.length<=cap/\cap<=maxLen/\OwnAt w' g ys)/\bW xs ys/\Below w.heap.size w w'
theorem BJ (w:World) (v:Value) (xs:List OpX) (h:OpsAt w v xs) (hn:xs.length<=1000):
  Calls prog 53 #[v] w (SortOut w xs):=by
 rcases h with ⟨rfl,rfl⟩ | ⟨blk,off,cap,rfl,hc⟩
 ·go_enter func53,ntmps53;go_wp2_with fail;refine (pu _).mono ?_;rintro e w' ⟨rfl,rfl⟩;go_wp2_with fail;refine (gC _ _).mono ?_;rintro e w1 ⟨rfl,rfl⟩;go_wp2;go_ret;exact ⟨_,[],rfl,.inl ⟨rfl,rfl⟩,⟨#[],⟨permIn_refl _ _ _,fun i j _ _ hj=>absurd hj zv⟩,rfl⟩,vP _ _⟩
 have HC:Aside (∀j u,(cellsOf xs)[j]? =some u->w.cell? ⟨blk,off+j,none⟩=some u):=hc;clear hc;go_enter func53,ntmps53;go_wp2_with fail;refine (mi w blk off cap xs hn HC.o).mono ?_;clear HC;rintro e w1 ⟨v1,rfl,hown,hnil,hb⟩
 obtain ⟨g,c1,rfl,hg,hc1,hc2⟩:∃g c1,v1= .slice (some ⟨g,0,none⟩) xs.length c1/\w.heap.size<=g/\xs.length<=c1/\c1<=maxLen:=by
  rcases hown.2 with ⟨h1,_⟩ | ⟨g,c1,cur,h1,h2,_,h3,h4,_⟩
  ·exact absurd h1 hnil
  exact ⟨g,c1,h1,h2,h3,h4⟩
 have R0:Aside (RowK lW 8 w1 g 0 (cj xs)):=Ha rfl hown;have HB:Aside (Below w.heap.size w w1):=hb;clear hown hnil hb;go_wp2_with fail;have C:=gE w1 g 0 c1 (cj xs) R0.o (fun p hp=>xP) js;rw [bQ] at C;refine C.mono ?_;clear C;rintro e w2 ⟨rfl,d',hd,S⟩
 have hl:d'.size=xs.length:=by rw [hd.1.1,bQ]
 have hl2:(d'.toList.map Prod.fst).length=xs.length:=jq;have hsz:w1.heap.size<=w2.heap.size:=(fh (vP 0 w1) (vV _) (vV _) S).size
 have F:Aside (SortOut w xs (.returned (.slice (some ⟨g,0,none⟩) xs.length c1)) w2):=
  ⟨_,d'.toList.map Prod.fst,rfl,.inr ⟨g,c1,by rw [hl2],hg,um R0.o.hblk hsz,by rw [hl2];exact hc1,hc2,⟨fun j u hj=>by have:=ru R0.o jD S j u hj;rw [vY] at this;exact this,fun j hj=>by
   have H:=((S.holds R0.o.hblk R0.o.hH jD) j (by rw [size_flatK];rw [hl2] at hj;omega)).2
   rw [vY] at H
   exact H⟩⟩,⟨d',hd,rfl⟩,fh HB.o hg HB.o.size S⟩
 clear hd S R0 HB hl hl2 hsz hc1 hc2;go_wp2;go_ret;exact F.o
