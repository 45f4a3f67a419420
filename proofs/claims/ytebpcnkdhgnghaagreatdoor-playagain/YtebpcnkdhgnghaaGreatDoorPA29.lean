import Derived.Test.YtebpcnkdhgnghaaGreatDoorPA28
set_option linter.unusedSimpArgs false
set_option linter.unusedVariables false
set_option maxRecDepth 100000
set_option maxHeartbeats 64000000
namespace Go.Proofs.YtebpcnkdhgnghaaGreatDoor
open Go.Proofs.Tryz
variable {cs xs ys:List OpX} {b g i j:Nat} {v:Nat→Int} {x:OpX} {p:OpX→Bool} {w w':World}
section
open Go.RowKit Go.Lib Go.Sort Go.Maps
theorem sO (n:Nat) (w:World) (hn:n<=1000):Calls prog 177 #[.slice none 0 0,.int .i64 (n:Int)] w fun e w'=>∃v,e= .returned v/\w'.ownsRow w.heap.size 61 8 v 0 []/\Below w.heap.size w w':=by
 by_cases h0:n=0
 ·subst h0
  go_enter func177,ntmps177
  go_wp2
  go_ret
  exact ⟨_,rfl,vD _ _ _ _,jN _ w⟩
 have d0:decide ((n:Int)<0)=false:=zq
 have d1:decide ((0:Int)<(n:Int))=true:=zl
 have d1':decide (0<n)=true:=zl
 have e1:((n:Int) - 0)=(n:Int):=zj
 obtain ⟨i0,hi,hz0,hz1,hz2⟩:=info_parts fV
 have hrun:=fun ty=>Lib.run_append_nil_zeros (P:=prog) w 25 3 ty 61 i0 _ .i64 .i64 underlying25 underlying3 hi hz0 n zj zj zj (by rw [hz2];omega)
 obtain ⟨cp,hcp⟩:=za (grownCap w n 0 61)
 rw [<-hcp] at hrun
 have hge:n<=cp:=by rw [hcp];exact grownCap_ge w n 0 _
 have hle:cp<=maxLen:=by rw [hcp];exact grownCap_le_maxLen w n 0 _ zu
 have HC:Aside (cp=grownCap w n 0 61/\n<=cp/\cp<=maxLen):=⟨hcp,hge,hle⟩
 have hc63:(cp:Int)<=9223372036854775807:=by simp only [maxLen] at hle;omega
 clear hcp hge hle
 go_enter func177,ntmps177
 go_wp2_with (at_builtin;refine Lib.wpList_append_run _ rfl _ _ _ _ rfl _ _ rfl rfl _ _ (hrun _) ?_)
 go_ret
 refine ⟨_,rfl,⟨rfl,.inr ⟨w.heap.size,cp,_,rfl,jL _,heap_alloc_new w _,jX _,HC.o.2.2,?_,?_⟩⟩,(zh w _).drew⟩
 ·have:=HC.o.2.1
  simp [size_zeroCells]
  omega
 simp
theorem AR {ao:Option Addr} (h:OpsIn w ao xs):InRow cN w ao xs:=h
theorem nk (w:World) (Bk:Nat) (ao:Nat->Option Addr) (cap:Nat->Nat) (R:Rws) (hk:KBox w Bk ao cap R) (hK:KnownAt w ao R) (hnil:∀i,i<4->ao i=none->cap i=0) (hn:(aX R).length<=1000):
  Calls prog 109 #[.slice (some ⟨Bk,0,none⟩) 4 4] w fun e w'=>∃v,e= .returned v/\w'.ownsRow w.heap.size 61 8 v (aX R).length (cellsOf (aX R))/\Below w.heap.size w w':=by
 have hl0:=li R (i:=0) zj
 have hl1:=li R (i:=1) zj
 have hl2:=li R (i:=2) zj
 have hl3:=li R (i:=3) zj
 have c0:=hk.at (i:=0) zj
 have c1:=hk.at (i:=1) zj
 have c2:=hk.at (i:=2) zj
 have c3:=hk.at (i:=3) zj
 have hsum:(aX R).length=(R 0).length+(R 1).length+(R 2).length+(R 3).length:=by unfold aX;simp;omega
 have hgr:=sO ((R 0).length+(R 1).length+(R 2).length+(R 3).length) w zj
 have HK:Aside (KnownAt w ao R/\∀i,i<4->ao i=none->cap i=0):=⟨hK,hnil⟩
 have HS:Aside ((aX R).length=(R 0).length+(R 1).length+(R 2).length+(R 3).length):=hsum
 have g0:(((R 0).length+(R 1).length+(R 2).length+(R 3).length:Nat):Int)=(R 0).length+(R 1).length+(R 2).length+(R 3).length:=zj
 rw [g0] at hgr
 have hT:(R 0).length+(R 1).length+(R 2).length+(R 3).length<=1000:=zj
 have n1:decide (((R 0).length:Int)<0)=false:=zq
 have n2:decide (((R 0).length:Int)+(R 1).length<0)=false:=zl
 have n3:decide (((R 0).length:Int)+(R 1).length+(R 2).length<0)=false:=zl
 have n4:decide (((R 0).length:Int)+(R 1).length+(R 2).length+(R 3).length<0)=false:=zl
 clear hk hK hnil hsum g0
 go_enter func109,ntmps109
 go_wp2
 refine wp_loop_rounds 5 ?_
 iterate 4
  rw [rounds_succ]
  go_wp2
 rw [rounds_succ]
 go_wp2_with fail
 refine hgr.mono ?_
 clear hgr
 rintro e w0 ⟨v0,rfl,hown0,hb0⟩
 have HB0:Aside (Below w.heap.size w w0):=hb0
 have hown0:w0.ownsRow w.heap.size 61 8 v0 0 []:=hown0
 obtain ⟨x0,y0,rfl⟩:=dV hown0
 clear hb0
 go_wp2
 refine wp_loop_rounds 5 ?_
 rw [rounds_succ]
 obtain ⟨v1,w1,hrun,hown1,hgrow⟩:=fj (enc:=cN) (k:=8) (S:=25) (T:=61) underlying25 fV zj zj rfl bO cB hown0 zj HB0.o.size (ao 0) (cap 0) (R 0) zj (AR (HK.o.1.later HB0.o 0 zj)) (HK.o.2 0 zj) 25
 have HB1:Aside (Below w.heap.size w w1):=HB0.o.grown hgrow HB0.o.size (fun g hg=>(hown0.lt g hg).1)
 have f0:=cell_later HB0.o c0
 have f1:=cell_later HB0.o c1
 have f2:=cell_later HB0.o c2
 have f3:=cell_later HB0.o c3
 rw [vh] at hown1
 obtain ⟨x1,y1,rfl⟩:=dV hown1
 go_wp2_with (at_builtin;refine Lib.wpList_append_run _ rfl _ _ _ _ rfl _ _ rfl rfl _ _ hrun ?_)
 clear hrun hgrow f0 f1 f2 f3
 rw [rounds_succ]
 obtain ⟨v2,w2,hrun,hown2,hgrow⟩:=fj (enc:=cN) (k:=8) (S:=25) (T:=61) underlying25 fV zj zj rfl bO cB hown1 zj HB1.o.size (ao 1) (cap 1) (R 1) zj (AR (HK.o.1.later HB1.o 1 zj)) (HK.o.2 1 zj) 25
 have HB2:Aside (Below w.heap.size w w2):=HB1.o.grown hgrow HB1.o.size (fun g hg=>(hown1.lt g hg).1)
 have f0:=cell_later HB1.o c0
 have f1:=cell_later HB1.o c1
 have f2:=cell_later HB1.o c2
 have f3:=cell_later HB1.o c3
 obtain ⟨x2,y2,rfl⟩:=dV hown2
 go_wp2_with (at_builtin;refine Lib.wpList_append_run _ rfl _ _ _ _ rfl _ _ rfl rfl _ _ hrun ?_)
 clear hrun hgrow f0 f1 f2 f3
 rw [rounds_succ]
 obtain ⟨v3,w3,hrun,hown3,hgrow⟩:=fj (enc:=cN) (k:=8) (S:=25) (T:=61) underlying25 fV zj zj rfl bO cB hown2 zj HB2.o.size (ao 2) (cap 2) (R 2) zj (AR (HK.o.1.later HB2.o 2 zj)) (HK.o.2 2 zj) 25
 have HB3:Aside (Below w.heap.size w w3):=HB2.o.grown hgrow HB2.o.size (fun g hg=>(hown2.lt g hg).1)
 have f0:=cell_later HB2.o c0
 have f1:=cell_later HB2.o c1
 have f2:=cell_later HB2.o c2
 have f3:=cell_later HB2.o c3
 obtain ⟨x3,y3,rfl⟩:=dV hown3
 go_wp2_with (at_builtin;refine Lib.wpList_append_run _ rfl _ _ _ _ rfl _ _ rfl rfl _ _ hrun ?_)
 clear hrun hgrow f0 f1 f2 f3
 rw [rounds_succ]
 obtain ⟨v4,w4,hrun,hown4,hgrow⟩:=fj (enc:=cN) (k:=8) (S:=25) (T:=61) underlying25 fV zj zj rfl bO cB hown3 zj HB3.o.size (ao 3) (cap 3) (R 3) zj (AR (HK.o.1.later HB3.o 3 zj)) (HK.o.2 3 zj) 25
 have HB4:Aside (Below w.heap.size w w4):=HB3.o.grown hgrow HB3.o.size (fun g hg=>(hown3.lt g hg).1)
 have f0:=cell_later HB3.o c0
 have f1:=cell_later HB3.o c1
 have f2:=cell_later HB3.o c2
 have f3:=cell_later HB3.o c3
 obtain ⟨x4,y4,rfl⟩:=dV hown4
 go_wp2_with (at_builtin;refine Lib.wpList_append_run _ rfl _ _ _ _ rfl _ _ rfl rfl _ _ hrun ?_)
 clear hrun hgrow f0 f1 f2 f3
 rw [rounds_succ]
 go_wp2
 go_ret
 refine ⟨_,rfl,?_,HB4.o⟩
 rw [HS.o]
 rw [show cellsOf (aX R)= []++cellsOf (R 0)++cellsOf (R 1)++cellsOf (R 2)++cellsOf (R 3) by unfold aX;simp [cl]]
 exact hown4
end
section
open Go.RowKit Go.Lib Go.Sort Go.Maps
def Jw (w:World) (R:Rws) (e:Ending) (w':World):Prop:=∃v ys,e= .returned v/\OpsAt w' v ys/\ae (aX R) ys/\Below w.heap.size w w'/\∀g,v.ownBlock=some g->w.heap.size<=g
theorem IG (w:World) (ao:Nat->Option Addr) (cap:Nat->Nat) (R:Rws) (hK:KnownAt w ao R) (hnil:∀i,i<4->ao i=none->cap i=0) (hn:(aX R).length<=1000):
  Calls prog 56 #[kV ao cap R] w (Jw w R):=by
 obtain ⟨W,hW⟩:=za (w.alloc (.cells #[.slice (ao 0) (R 0).length (cap 0),.slice (ao 1) (R 1).length (cap 1),.slice (ao 2) (R 2).length (cap 2),.slice (ao 3) (R 3).length (cap 3)] 112 (0,0)))
 have hb:Below w.heap.size w W:=by rw [hW];exact zh w _
 have hbox:KBox W w.heap.size ao cap R:=by rw [hW];exact heap_alloc_new w _
 have hcat:=nk W w.heap.size ao cap R hbox (hK.later hb) hnil hn
 have H:Aside (W=w.alloc (.cells #[.slice (ao 0) (R 0).length (cap 0),.slice (ao 1) (R 1).length (cap 1),.slice (ao 2) (R 2).length (cap 2),.slice (ao 3) (R 3).length (cap 3)] 112 (0,0))/\Below w.heap.size w W/\(aX R).length<=1000):=⟨hW,hb,hn⟩
 clear hW hb hbox hK hnil hn
 unfold kV
 go_enter func56,ntmps56
 go_wp2_with fail
 rw [<-H.o.1]
 refine hcat.mono ?_
 clear hcat
 rintro e w1 ⟨v1,rfl,ho1,hb1⟩
 have hs:=nG w1 v1 (aX R) (iw ho1) H.o.2.2
 have H1:Aside (Below w.heap.size w w1):=zi H.o.2.1 hb1
 clear ho1 hb1 H
 go_wp2_with fail
 refine hs.mono ?_
 clear hs
 rintro e w2 ⟨v2,ys,rfl,h1,h2,h3,h4⟩
 have H2:Aside (OpsAt w2 v2 ys/\ae (aX R) ys/\Below w.heap.size w w2/\∀g,v2.ownBlock=some g->w.heap.size<=g):=⟨h1,h2,zi H1.o h3,fun g hg=>jM H1.o.size (h4 g hg)⟩
 clear h1 h2 h3 h4 H1
 go_wp2
 go_ret
 exact ⟨_,_,rfl,H2.o⟩
theorem Au {c:Nat->Nat} {ao:Nat->Option Addr} {cap:Nat->Nat} {R:Rws} (h:RowsAt w c (kvs ao cap R) R):∀i,i<4->ao i=none->cap i=0:=fun i hi e=>by
 obtain ⟨-,h2⟩:=(h i hi).1
 unfold kvs at h2
 rcases h2 with q | ⟨b,cp,_,q,_⟩
 ·have:=q.1
  simp only [Value.slice.injEq] at this
  exact this.2.2
 simp only [Value.slice.injEq] at q
 rw [q.1] at e
 cases e
theorem AJ (w:World) (c:Nat->Nat) (br:Nat) (by_:Int) (R:Rws) (h:RepAt w c br by_ R) (hn:(aX R).length<=1000):
  Calls prog 21 #[.pointer (some ⟨br,0,none⟩)] w (Jw w R):=by
 obtain ⟨T,kv,bt,bx,bc,A,hm,hp,hK,hb⟩:=h
 obtain ⟨ao,cap,hM⟩:=hm.norm
 have hall:=IG w ao cap R (KnownAt.of_rows hM.rows) (Au hM.rows) hn
 unfold kV at hall
 have k2:w.cell? ⟨br,2,none⟩=some (.slice (ao 0) (R 0).length (cap 0)):=hM.cell.c2
 have k3:w.cell? ⟨br,3,none⟩=some (.slice (ao 1) (R 1).length (cap 1)):=hM.cell.c3
 have k4:w.cell? ⟨br,4,none⟩=some (.slice (ao 2) (R 2).length (cap 2)):=hM.cell.c4
 have k5:w.cell? ⟨br,5,none⟩=some (.slice (ao 3) (R 3).length (cap 3)):=hM.cell.c5
 clear hm hM hp hK hb hn
 go_enter func21,ntmps21
 go_wp2_with fail
 refine hall.mono ?_
 clear hall
 rintro e w2 ⟨v2,ys,rfl,h2⟩
 have H2:Aside (OpsAt w2 v2 ys/\ae (aX R) ys/\Below w.heap.size w w2/\∀g,v2.ownBlock=some g->w.heap.size<=g):=h2
 clear h2
 go_wp2
 go_ret
 exact ⟨_,_,rfl,H2.o⟩
theorem lF (w:World) (c:Nat->Nat) (br:Nat) (by_:Int) (R:Rws) (h:RepAt w c br by_ R) (hn:(aX R).length<=1000):
  Calls prog 60 #[.pointer (some ⟨br,0,none⟩)] w fun e w'=>e= .returned (.agg #[.int .i64 ((R 0).length:Int),.int .i64 ((R 1).length:Int),.int .i64 ((R 2).length:Int),.int .i64 ((R 3).length:Int)])/\Below w.heap.size w w':=by
 obtain ⟨T,kv,bt,bx,bc,A,hm,hp,hK,hb⟩:=h
 obtain ⟨ao,cap,hM⟩:=hm.norm
 obtain ⟨U,hU⟩:=za (w.alloc (.cells #[.int .i64 0,.int .i64 0,.int .i64 0,.int .i64 0] 141 (0,0)))
 have hbU:Below w.heap.size w U:=zN
 have hc:RepCell U br T by_ (kvs ao cap R) bt bx bc:=hM.cell.same (hbU.block _ hM.cell.lt)
 have hv:U.heap[w.heap.size]? =some (.cells #[.int .i64 0,.int .i64 0,.int .i64 0,.int .i64 0] 141 (0,0)):=by rw [hU];exact heap_alloc_new w _
 have hall:=sd U ao cap R (fun i hi=>jM (li R hi) hn)
 unfold kV at hall
 have k2:U.cell? ⟨br,2,none⟩=some (.slice (ao 0) (R 0).length (cap 0)):=hc.c2
 have k3:U.cell? ⟨br,3,none⟩=some (.slice (ao 1) (R 1).length (cap 1)):=hc.c3
 have k4:U.cell? ⟨br,4,none⟩=some (.slice (ao 2) (R 2).length (cap 2)):=hc.c4
 have k5:U.cell? ⟨br,5,none⟩=some (.slice (ao 3) (R 3).length (cap 3)):=hc.c5
 have HU:Aside (U=w.alloc (.cells #[.int .i64 0,.int .i64 0,.int .i64 0,.int .i64 0] 141 (0,0))/\Below w.heap.size w U/\U.heap[w.heap.size]? =some (.cells #[.int .i64 0,.int .i64 0,.int .i64 0,.int .i64 0] 141 (0,0))):=⟨hU,hbU,hv⟩
 clear hm hM hp hK hb hn hc hU hbU hv
 go_enter func60,ntmps60
 go_upto_region 1 with fail
 rw [<-HU.o.1]
 go_wp2_with fail
 refine hall.mono ?_
 clear hall
 rintro e w2 ⟨rfl,h2⟩
 have hv2:=(h2.block w.heap.size (jJ.1 HU.o.2.2).1).trans HU.o.2.2
 have s0:w2.cell? ⟨w.heap.size,0,none⟩=some (.int .i64 0):=yv
 have s1:w2.cell? ⟨w.heap.size,1,none⟩=some (.int .i64 0):=yv
 have s2:w2.cell? ⟨w.heap.size,2,none⟩=some (.int .i64 0):=yv
 have s3:w2.cell? ⟨w.heap.size,3,none⟩=some (.int .i64 0):=yv
 have z:∀o,w2.frozen? ⟨w.heap.size,o,none⟩=false:=fun o=>by simp [World.frozen?,hv2]
 have H2:Aside (Below w.heap.size w w2):=zi HU.o.2.1 h2
 clear h2 hv2 HU k2 k3 k4 k5
 go_wp2
 (try simp only [Exit.inBlock,Exit.then])
 refine bodyPost_ret (v:=.agg #[.int .i64 ((R 0).length:Int),.int .i64 ((R 1).length:Int),.int .i64 ((R 2).length:Int),.int .i64 ((R 3).length:Int)]) ?_ rfl ⟨rfl,?_⟩
 ·rw [lG rfl]
  go_simp
 exact (((H2.o.setCell zg _).setCell zg _).setCell zg _).setCell zg _
end
section
open Go.RowKit Go.Lib Go.Sort Go.Maps
def VecBlk (w:World) (b:Nat) (v:Nat->Int):Prop:=w.heap[b]? =some (.cells #[.int .i64 (v 0),.int .i64 (v 1),.int .i64 (v 2),.int .i64 (v 3)] 141 (0,0))
theorem VecBlk.lt (h:VecBlk w b v):b<w.heap.size:=(jJ.1 h).1
theorem VecBlk.later (h:VecBlk w b v) (hb:Below w.heap.size w w'):VecBlk w' b v:=(hb.block b h.lt).trans h
theorem VecBlk.at (h:VecBlk w b v) (hi:i<4):w.cell? ⟨b,i,none⟩=some (.int .i64 (v i)):=by
 unfold VecBlk at h
 match i,hi with
 | 0,_=>simp [World.cell?,h]
 | 1,_=>simp [World.cell?,h]
 | 2,_=>simp [World.cell?,h]
 | 3,_=>simp [World.cell?,h]
def du (v:Nat->Int) (x:OpX):Bool:=decide (x.2.2.1<=v x.2.1.toNat)
theorem Cl (w:World) (b:Nat) (v:Nat->Int) (x:OpX) (hv:VecBlk w b v) (i:Nat) (hi:i<4) (hx:x.2.1=(i:Int)):
  Calls prog 163 #[ar x,.pointer (some ⟨b,0,none⟩)] w fun e w'=>e= .returned (.bool (du v x))/\Below w.heap.size w w':=by
 obtain ⟨t,by_,m,kd,nd,o,s,u⟩:=x
 simp only at hx
 subst hx
 have hvl:=hv.lt
 have hb:Below w.heap.size w (w.alloc (.cells #[.int .i64 t,.int .i64 (i:Int),.int .i64 m,.int .u8 (kd:Int),.int .i64 nd,.int .i64 o,.string s,.string u] 61)):=zh w _
 have q:=(hv.later hb).at hi
 have ei:((i:Int)).toNat=i:=zj
 have i4:((i:Int)<4):=zj
 have i0:(0:Int)<=(i:Int):=zj
 have HB:Aside (Below w.heap.size w (w.alloc (.cells #[.int .i64 t,.int .i64 (i:Int),.int .i64 m,.int .u8 (kd:Int),.int .i64 nd,.int .i64 o,.string s,.string u] 61))):=hb
 have HH:Aside (du v (t,(i:Int),m,kd,nd,o,s,u)=decide (m<=v i)):=by show decide (m<=v ((i:Int)).toNat)=_;rw [ei]
 clear hb hv
 unfold ar
 dsimp only
 rw [HH.o]
 go_enter func163,ntmps163
 go_wp2_with fail
 go_quiet (fail)
 go_wp2
 go_ret
 exact ⟨rfl,Go.below_drewN HB.o _⟩
end
section
open Go.RowKit Go.Lib Go.Sort Go.Maps
structure OwnAt (w:World) (g:Nat) (ys:List OpX):Prop where
 cell:∀j u,(cellsOf ys)[j]? =some u->w.cell? ⟨g,j,none⟩=some u
 free:∀j,j<ys.length*8->w.frozen? ⟨g,j,none⟩=false
theorem OwnAt.has (h:OwnAt w g ys) (hj:j<ys.length*8):(w.cell? ⟨g,j,none⟩).isSome=true:=by
 have hl:j<(cellsOf ys).length:=xD
 rw [h.cell j _ (jK hl)]
 rfl
theorem OwnAt.at (h:OwnAt w g ys) (hi:ys[i]? =some x) {c:Nat} {u:Value} (hc:(cN x)[c]? =some u):w.cell? ⟨g,i*8+c,none⟩=some u:=by
 have hl:i<ys.length:=(jI.1 hi).1
 have h8:c<8:=by have:=(jI.1 hc).1;rw [bO] at this;exact this
 refine h.cell _ _ ?_
 have h8':c<(cN x).length:=qi
 rw [bW ys i c hl h8,getElem!_pos ys i hl,(jI.1 hi).2,getElem!_pos (cN x) c h8']
 rw [jK h8'] at hc
 exact hc
theorem OwnAt.same (h:OwnAt w g ys) (e:w'.heap[g]? =w.heap[g]?):OwnAt w' g ys:=
 ⟨fun j u hj=>by have:=h.cell j u hj;simp only [World.cell?] at this |-;rw [e];exact this,fun j hj=>by have:=h.free j hj;simp only [World.frozen?] at this |-;rw [e];exact this⟩
theorem OwnAt.set {w:World} {g:Nat} {cs:List OpX} (h:OwnAt w g cs) {i:Nat} (hi:i<cs.length) (x:OpX):OwnAt (w.setCells g (i*8) (cN x)) g (cs.set i x):=by
 constructor
 ·intro j u hj
  have hl:j<(cellsOf (cs.set i x)).length:=(jI.1 hj).1
  rw [bR,uO] at hl
  have h2:j / 8*8+j % 8=j:=zj
  have c:=bW (cs.set i x) (j / 8) (j % 8) (by rw [uO];omega) zj
  rw [h2,hj] at c
  have hq:j / 8<(cs.set i x).length:=by rw [uO];omega
  rw [getElem!_pos (cs.set i x) (j / 8) hq,List.getElem_set] at c
  by_cases e:i=j / 8
  ·rw [if_pos e] at c
   have hr:j % 8<(cN x).length:=by rw [bO];omega
   have k:=World.cell?_setCells_in g (cN x) (i*8) w (fun q hq'=>h.has (by rw [bO] at hq';omega)) (j % 8) hr
   rw [show i*8+j % 8=j by omega] at k
   rw [k]
   rw [getElem!_pos (cN x) (j % 8) hr] at c
   exact c.symm
  rw [if_neg e] at c
  rw [ur g (cN x) (i*8) w ⟨g,j,none⟩ (fun _ _=>by rw [bO];show j<i*8\/i*8+8<=j;omega)]
  refine h.cell j u ?_
  rw [<-h2,bW cs (j / 8) (j % 8) zj zj,getElem!_pos cs (j / 8) zj]
  exact c.symm
 intro j hj
 rw [uw]
 exact h.free j (by rw [uO] at hj;exact hj)
theorem fO {P:Program} (w:World) (t e ty:TypeId) (z:Value) (ht:P.underlying t=some (.slice e)) (hv:∀w,(zeroValue e).run P w= .ok z w) (b o n c:Nat) (hn:0<n)
  (h1:∀v∈(Builtin.zeroCells z.cells n).toList,v.oneCell'=true) (hc:∀j,j<n*z.cells.size->(w.cell? ⟨b,o+j,none⟩).isSome=true) (hf:∀j,j<n*z.cells.size->w.frozen? ⟨b,o+j,none⟩=false):
  (Builtin.clear_ #[t] ty #[.slice (some ⟨b,o,none⟩) n c]).run P w= .ok (.tuple #[]) (w.setCells b o (Builtin.zeroCells z.cells n).toList):=by
 have hsz:(Builtin.zeroCells z.cells n).toList.length=n*z.cells.size:=by rw [vN,size_zeroCells]
 have hst:=run_storeCells_cells (P:=P) b o (Builtin.zeroCells z.cells n).toList 0 w (by rw [hsz];simpa using hc) (by rw [hsz];simpa using hf) h1
 simp only [vI] at hst
 obtain ⟨m,rfl⟩:∃m,n=m+1:=⟨n - 1,zj⟩
 simp [Builtin.clear_,run_underlying ht,hv,hst]
end
section
open Go.RowKit Go.Lib Go.Sort Go.Maps
def PredB (g:Nat) (lb:Array Value) (xs:List OpX) (p:OpX->Bool) (base:Nat) (w:World):Prop:=
 ∀(W:World) (x:OpX),x∈xs->Below base w W->Calls prog g (#[ar x]++lb) W fun e w'=>e= .returned (.bool (p x))/\Below W.heap.size W w'
theorem PredB.toO {lb:Array Value} {base:Nat} (h:PredB g lb xs p base w) (hb:base<=w.heap.size):DD g lb xs p w:=fun W x hx hW=>(h W x hx (hW.mono hb)).mono (by rintro e w' ⟨rfl,q⟩;exact ⟨rfl,zi hW q⟩)
theorem OwnAt.ops (h:OwnAt w g ys):OpsIn w (some ⟨g,0,none⟩) ys:=.inr ⟨g,0,rfl,fun j u hj=>by rw [vh];exact h.cell j u hj⟩
theorem OwnAt.take {w:World} {g:Nat} {cs:List OpX} (h:OwnAt w g cs) {i:Nat} (hi:i<=cs.length) (vs:List Value):OwnAt (w.setCells g (i*8) vs) g (cs.take i):=by
 have hlen:(cs.take i).length=i:=zl
 constructor
 ·intro j u hj
  have hl:j<(cellsOf (cs.take i)).length:=(jI.1 hj).1
  rw [bR,hlen] at hl
  rw [ur g vs (i*8) w ⟨g,j,none⟩ (fun _ _=>.inl (by show j<i*8;omega))]
  refine h.cell j u ?_
  have e:cellsOf cs=cellsOf (cs.take i)++cellsOf (cs.drop i):=by rw [<-cl,vA]
  rw [e,uC (by rw [bR,hlen];omega)]
  exact hj
 intro j hj
 rw [hlen] at hj
 rw [uw]
 exact h.free j zj
structure DelSt (p:OpX->Bool) (ys:List OpX) (i j:Nat) (cs:List OpX):Prop where
 lt:i<j
 le:j<=ys.length
 len:cs.length=ys.length
 stay:cs.take i=(ys.take j).filter (fun x=> !p x)
 rest:cs.drop j=ys.drop j
theorem DelSt.start {k:Nat} (hx:ys[k]? =some x) (hp:p x=true) (hk:∀j y,j<k->ys[j]? =some y->p y=false):DelSt p ys k (k+1) ys:=by
 have hl:k<ys.length:=(jI.1 hx).1
 refine ⟨zj,zj,rfl,?_,rfl⟩
 rw [vV,hx,ug]
 have e1:(ys.take k).filter (fun x=> !p x)=ys.take k:=List.filter_eq_self.2 (fun a ha=>by
  obtain ⟨q,hq,e⟩:=uD ha
  rw [vj] at hq
  rw [List.getElem_take] at e
  rw [hk q a zj (by rw [<-e];exact jK zj)]
  rfl)
 rw [e1]
 simp [hp]
theorem DelSt.get (h:DelSt p ys i j cs) (hx:ys[j]? =some x):cs[j]? =some x:=by
 have:=congrArg (fun l=>l[0]?) h.rest
 simp only [vW,vI] at this
 rw [this,hx]
theorem DelSt.skip (h:DelSt p ys i j cs) (hx:ys[j]? =some x) (hp:p x=true):DelSt p ys i (j+1) cs:=by
 have hl:j<ys.length:=(jI.1 hx).1
 refine ⟨by have:=h.lt;omega,zj,h.len,?_,?_⟩
 ·rw [vV,hx,ug,h.stay]
  simp [hp]
 exact km6
theorem DelSt.keep (h:DelSt p ys i j cs) (hx:ys[j]? =some x) (hp:p x=false):DelSt p ys (i+1) (j+1) (cs.set i x):=by
 have hl:j<ys.length:=(jI.1 hx).1
 have hlt:=h.lt
 have hlen:=h.len
 refine ⟨zj,zj,by rw [uO];exact h.len,?_,?_⟩
 ·rw [vV (l:=ys),hx,ug,<-h.stay,vV,uZ zj,List.take_set_of_le zg]
  simp [hp]
 rw [List.drop_set_of_lt zj]
 exact km6
end
section
open Go.RowKit Go.Lib Go.Sort Go.Maps
abbrev zeroOpV:Value:=.agg #[.int .i64 0,.int .i64 0,.int .i64 0,.int .u8 0,.int .i64 0,.int .i64 0,.string ⟨#[]⟩,.string ⟨#[]⟩]
theorem mr:zeroOpV.cells.size=8:=rfl
def FH (n:Nat):List Value:=(Builtin.zeroCells zeroOpV.cells n).toList
theorem IY (n:Nat):∀v∈(Builtin.zeroCells zeroOpV.cells n).toList,v.oneCell'=true:=by
 intro v hv
 unfold Builtin.zeroCells at hv
 rw [Array.toList_map,vp] at hv
 obtain ⟨a,_,rfl⟩:=hv
 rw [mr]
 have h8:a % 8<8:=uV _ zj
 have key:∀q,q<8->(zeroOpV.cells[q]!).oneCell'=true:=fun q hq=>by
  match q,hq with
  | 0,_=>rfl
  | 1,_=>rfl
  | 2,_=>rfl
  | 3,_=>rfl
  | 4,_=>rfl
  | 5,_=>rfl
  | 6,_=>rfl
  | 7,_=>rfl
 exact key _ h8
structure Nz (w:World) (g a:Nat) (x:OpX):Prop where
 c0:w.cell? ⟨g,a,none⟩=some (.int .i64 x.1)
 c1:w.cell? ⟨g,a+1,none⟩=some (.int .i64 x.2.1)
 c2:w.cell? ⟨g,a+2,none⟩=some (.int .i64 x.2.2.1)
 c3:w.cell? ⟨g,a+3,none⟩=some (.int .u8 (x.2.2.2.1:Int))
 c4:w.cell? ⟨g,a+4,none⟩=some (.int .i64 x.2.2.2.2.1)
 c5:w.cell? ⟨g,a+5,none⟩=some (.int .i64 x.2.2.2.2.2.1)
 c6:w.cell? ⟨g,a+6,none⟩=some (.string x.2.2.2.2.2.2.1)
 c7:w.cell? ⟨g,a+7,none⟩=some (.string x.2.2.2.2.2.2.2)
 f0:w.frozen? ⟨g,a,none⟩=false
 f1:w.frozen? ⟨g,a+1,none⟩=false
 f2:w.frozen? ⟨g,a+2,none⟩=false
 f3:w.frozen? ⟨g,a+3,none⟩=false
 f4:w.frozen? ⟨g,a+4,none⟩=false
 f5:w.frozen? ⟨g,a+5,none⟩=false
 f6:w.frozen? ⟨g,a+6,none⟩=false
 f7:w.frozen? ⟨g,a+7,none⟩=false
theorem OwnAt.eight (h:OwnAt w g cs) (hi:cs[i]? =some x):Nz w g (i*8) x:=by
 have hl:i<cs.length:=(jI.1 hi).1
 have e0:=h.at hi (c:=0) rfl
 rw [vI] at e0
 exact ⟨e0,h.at hi (c:=1) rfl,h.at hi (c:=2) rfl,h.at hi (c:=3) rfl,h.at hi (c:=4) rfl,h.at hi (c:=5) rfl,h.at hi (c:=6) rfl,h.at hi (c:=7) rfl,h.free _ zj,h.free _ zj,h.free _ zj,h.free _ zj,h.free _ zj,h.free _ zj,h.free _ zj,h.free _ zj⟩
theorem set8 (w:World) (g a:Nat) (t b m:Int) (kd:Nat) (nd o:Int) (s u:ByteArray):((((((((w.setCell ⟨g,a,none⟩ (.int .i64 t)).setCell ⟨g,a+1,none⟩ (.int .i64 b)).setCell ⟨g,a+2,none⟩ (.int .i64 m)).setCell ⟨g,a+3,none⟩ (.int .u8 (kd:Int))).setCell ⟨g,a+4,none⟩ (.int .i64 nd)).setCell ⟨g,a+5,none⟩ (.int .i64 o)).setCell ⟨g,a+6,none⟩ (.string s)).setCell ⟨g,a+7,none⟩ (.string u))=w.setCells g a (cN (t,b,m,kd,nd,o,s,u)):=rfl
def EQ (w:World) (g cap base:Nat) (zs:List OpX) (e:Ending) (w':World):Prop:=e= .returned (.slice (some ⟨g,0,none⟩) zs.length cap)/\OwnAt w' g zs/\Below base w w'
theorem BS (p:OpX->Bool) (gf:Nat) (lb:Array Value) (eg:∀args w,(callFunc gf args).run prog w= .ok (.enter gf args) w) (g cap base:Nat) (ys:List OpX) (w:World) (hbg:base<=g) (hbw:base<=w.heap.size) (hgw:g<w.heap.size) (hp:PredB gf lb ys p base w) (hn:ys.length<=1000) (hc1:ys.length<=cap) (hc2:cap<=maxLen) (hO:OwnAt w g ys):
  Calls prog 162 #[.slice (some ⟨g,0,none⟩) ys.length cap,.func (.func gf) #[] lb] w (EQ w g cap base (ys.filter (fun x=> !p x))):=by
 have hidx:=iu p gf lb eg (some ⟨g,0,none⟩) cap ys w (hp.toO hbw) zj hO.ops
 have H:Aside (PredB gf lb ys p base w/\OwnAt w g ys/\base<=g/\base<=w.heap.size/\g<w.heap.size):=⟨hp,hO,hbg,hbw,hgw⟩
 clear hp hO hbg hbw hgw
 have hc63:(cap:Int)<=9223372036854775807:=by simp only [maxLen] at hc2;omega
 clear hc2
 go_enter func162,ntmps162
 go_wp2_with fail
 refine hidx.mono ?_
 clear hidx
 rintro e w1 ⟨r,rfl,HR⟩
 rcases HR.o.1 with ⟨hr,ha⟩ | ⟨k,x,hr,hx,hpx,hfst⟩
 ·subst hr
  have HF:Aside (ys.filter (fun x=> !p x)=ys):=List.filter_eq_self.2 (fun a h=>by rw [ha a h];rfl)
  clear ha
  go_wp2
  go_ret
  unfold EQ
  rw [HF.o]
  exact ⟨rfl,H.o.2.1.same (HR.o.2.block g H.o.2.2.2.2),HR.o.2.mono H.o.2.2.2.1⟩
 have hkl:k<ys.length:=(jI.1 hx).1
 have d0:decide (((k:Nat):Int)= -1)=false:=zq
 have H1:Aside (DelSt p ys k (k+1) ys/\OwnAt w1 g ys/\Below base w w1):=⟨DelSt.start hx hpx hfst,H.o.2.1.same (HR.o.2.block g H.o.2.2.2.2),HR.o.2.mono H.o.2.2.2.1⟩
 subst hr
 clear hx hpx hfst HR
 go_wp2
 go_loopg [5,6] ys.length (fun kx s5 s6 wr=>∃(i j:Nat) (cs:List OpX),s5= .int .i64 (i:Int)/\s6= .int .i64 (j:Int)/\ys.length - j<=kx/\Aside (DelSt p ys i j cs/\OwnAt wr g cs/\Below base w wr))
 case atStart=>exact ⟨k,k+1,ys,rfl,zq,zj,H1.o⟩
 case round=>
  obtain ⟨i,j,cs,rfl,rfl,hkx,A⟩:=hrel
  have hij:=A.o.1.lt
  have hjl:=A.o.1.le
  have hcl:=A.o.1.len
  by_cases hlt:j<ys.length
  ·have hltz:decide ((j:Int)<(ys.length:Int))=true:=by simp;omega
   have hgw:g<wr.heap.size:=jW H.o.2.2.2.2 A.o.2.2.size
   have hbr:=A.o.2.2.size
   have hbw:=H.o.2.2.2.1
   have ej:((j:Int)).toNat=j:=zj
   have pj:(0:Int)<=(j:Int):=zj
   have bj:(j:Int)<(ys.length:Int):=zj
   obtain ⟨⟨t,b,m,kd,nd,o,s,u⟩,hl⟩:∃l,Aside (ys[j]? =some l):=⟨ys[j],jK hlt⟩
   obtain ⟨r0,r1,r2,r3,r4,r5,r6,r7,-,-,-,-,-,-,-,-⟩:=A.o.2.1.eight (A.o.1.get hl.o)
   dsimp only at r0 r1 r2 r3 r4 r5 r6 r7
   have hbW:Below wr.heap.size wr (wr.alloc (.cells #[.int .i64 t,.int .i64 b,.int .i64 m,.int .u8 (kd:Int),.int .i64 nd,.int .i64 o,.string s,.string u] 61)):=zh wr _
   have hBW:Below base w (wr.alloc (.cells #[.int .i64 t,.int .i64 b,.int .i64 m,.int .u8 (kd:Int),.int .i64 nd,.int .i64 o,.string s,.string u] 61)):=A.o.2.2.trans (hbW.mono zj)
   have hcall:=H.o.1 _ (t,b,m,kd,nd,o,s,u) (jT hl.o) hBW
   have HW:Aside (OpBlk (wr.alloc (.cells #[.int .i64 t,.int .i64 b,.int .i64 m,.int .u8 (kd:Int),.int .i64 nd,.int .i64 o,.string s,.string u] 61)) wr.heap.size (t,b,m,kd,nd,o,s,u)/\OwnAt (wr.alloc (.cells #[.int .i64 t,.int .i64 b,.int .i64 m,.int .u8 (kd:Int),.int .i64 nd,.int .i64 o,.string s,.string u] 61)) g cs/\Below base w (wr.alloc (.cells #[.int .i64 t,.int .i64 b,.int .i64 m,.int .u8 (kd:Int),.int .i64 nd,.int .i64 o,.string s,.string u] 61))/\g<wr.heap.size):=⟨OpBlk.new wr (t,b,m,kd,nd,o,s,u),A.o.2.1.same (hbW.block g hgw),hBW,hgw⟩
   clear hbW hBW
   unfold ar at hcall
   dsimp only at hcall
   cases hq:p (t,b,m,kd,nd,o,s,u) with
   | true=>
    rw [hq] at hcall
    have HQ:=Lib.hid hq
    clear hq
    go_wp2_with (go_at_fn gf;refine hcall.mono ?_;rintro e w' ⟨rfl,hb'⟩)
    go_roundg (ys.length - (j+1))
    case measure=>omega
    case rel=>
     have hsz:(wr.alloc (.cells #[.int .i64 t,.int .i64 b,.int .i64 m,.int .u8 (kd:Int),.int .i64 nd,.int .i64 o,.string s,.string u] 61)).heap.size=wr.heap.size+1:=zq
     exact ⟨i,j+1,cs,rfl,zI,jL _,⟨A.o.1.skip hl.o HQ.o,HW.o.2.1.same (hb'.block g zj),HW.o.2.2.1.trans (hb'.mono zj)⟩⟩
   | false=>
    rw [hq] at hcall
    have HQ:=Lib.hid hq
    clear hq
    have ei:((i:Int)).toNat=i:=zj
    have pi:(0:Int)<=(i:Int):=zj
    have bi:(i:Int)<(ys.length:Int):=zj
    obtain ⟨z,hz⟩:∃z,Aside (cs[i]? =some z):=⟨cs[i],jK zj⟩
    go_wp2_with (go_at_fn gf;refine hcall.mono ?_;rintro e w' ⟨rfl,hb'⟩;obtain ⟨q0,q1,q2,q3,q4,q5,q6,q7,-⟩:=(HW.o.1.later hb').cells;dsimp only at q0 q1 q2 q3 q4 q5 q6 q7;obtain ⟨y0,y1,y2,y3,y4,y5,y6,y7,f0,f1,f2,f3,f4,f5,f6,f7⟩:=(HW.o.2.1.same (hb'.block g qV)).eight hz.o)
    have hsz:(wr.alloc (.cells #[.int .i64 t,.int .i64 b,.int .i64 m,.int .u8 (kd:Int),.int .i64 nd,.int .i64 o,.string s,.string u] 61)).heap.size=wr.heap.size+1:=zq
    have HE:Aside (OwnAt w' g cs/\Below base w w'):=⟨HW.o.2.1.same (hb'.block g zj),HW.o.2.2.1.trans (hb'.mono zj)⟩
    clear hsz hb' q0 q1 q2 q3 q4 q5 q6 q7 y0 y1 y2 y3 y4 y5 y6 y7 f0 f1 f2 f3 f4 f5 f6 f7 r0 r1 r2 r3 r4 r5 r6 r7 hcall
    go_roundg (ys.length - (j+1))
    case measure=>omega
    case rel=>
     rw [set8 w' g (i*8) t b m kd nd o s u]
     refine ⟨i+1,j+1,cs.set i (t,b,m,kd,nd,o,s,u),?_,?_,jL _,?_⟩
     ·go_num
     ·go_num
     exact ⟨A.o.1.keep hl.o HQ.o,HE.o.1.set zj (t,b,m,kd,nd,o,s,u),HE.o.2.trans ((aY g (cN (t,b,m,kd,nd,o,s,u)) (i*8) w').below (jM H.o.2.2.2.1 HE.o.2.size) (fun k e=>by have:=H.o.2.2.1;omega))⟩
  have hltz:decide ((j:Int)<(ys.length:Int))=false:=zl
  have hltn:decide (j<ys.length)=false:=zl
  have hgw:g<wr.heap.size:=jW H.o.2.2.2.2 A.o.2.2.size
  have ei:((i:Int)).toNat=i:=zj
  have pi:(0:Int)<=(i:Int):=zj
  have bi:(i:Int)<=(ys.length:Int):=zj
  have bi2:(i:Int)<=(cap:Int):=zj
  have bl:(ys.length:Int)<=(cap:Int):=zj
  have hclear:∀ty,(Builtin.clear_ #[25] ty #[.slice (some ⟨g,i*8,none⟩) (ys.length - i) (cap - i)]).run prog wr= .ok (.tuple #[]) (wr.setCells g (i*8) (FH (ys.length - i))):=fun ty=>fO (P:=prog) wr 25 61 ty _ underlying25 zeroValue61 g (i*8) (ys.length - i) (cap - i) zj (IY _) (fun q hq=>A.o.2.1.has (by rw [mr] at hq;omega)) (fun q hq=>A.o.2.1.free _ (by rw [mr] at hq;omega))
  go_wp2
  go_ret
  have st:=A.o.1.stay
  have ejl:j=ys.length:=zj
  rw [ejl,ul] at st
  have hil:(cs.take i).length=i:=by rw [vj];omega
  unfold EQ
  rw [<-st,hil]
  exact ⟨rfl,A.o.2.1.take zj _,A.o.2.2.trans ((aY g (FH (ys.length - i)) (i*8) wr).below (jM H.o.2.2.2.1 A.o.2.2.size) (fun k e=>by have:=H.o.2.2.1;omega))⟩
end
section
open Go.RowKit Go.Lib Go.Sort Go.Maps
def SortOut (w:World) (xs:List OpX) (e:Ending) (w':World):Prop:=∃v ys,e= .returned v/\((v= .slice none 0 0/\ys= [])\/∃g cap,v= .slice (some ⟨g,0,none⟩) ys.length cap/\w.heap.size<=g/\g<w'.heap.size/\ys.length<=cap/\cap<=maxLen/\OwnAt w' g ys)/\ae xs ys/\Below w.heap.size w w'
theorem CU (w:World) (v:Value) (xs:List OpX) (h:OpsAt w v xs) (hn:xs.length<=1000):
  Calls prog 72 #[v] w (SortOut w xs):=by
 rcases h with ⟨rfl,rfl⟩ | ⟨blk,off,cap,rfl,hc⟩
 ·go_enter func72,ntmps72
  go_wp2_with fail
  refine (pt _).mono ?_
  rintro e w' ⟨rfl,rfl⟩
  go_wp2_with fail
  refine (gT _ _).mono ?_
  rintro e w1 ⟨rfl,rfl⟩
  go_wp2
  go_ret
  exact ⟨_,[],rfl,.inl ⟨rfl,rfl⟩,⟨#[],⟨permIn_refl _ _ _,fun i j _ _ hj=>absurd hj zq⟩,rfl⟩,jN _ _⟩
 have HC:Aside (∀j u,(cellsOf xs)[j]? =some u->w.cell? ⟨blk,off+j,none⟩=some u):=hc
 clear hc
 go_enter func72,ntmps72
 go_wp2_with fail
 refine (nT w blk off cap xs hn HC.o).mono ?_
 clear HC
 rintro e w1 ⟨v1,rfl,hown,hnil,hb⟩
 obtain ⟨g,c1,rfl,hg,hc1,hc2⟩:∃g c1,v1= .slice (some ⟨g,0,none⟩) xs.length c1/\w.heap.size<=g/\xs.length<=c1/\c1<=maxLen:=by
  rcases hown.2 with ⟨h1,_⟩ | ⟨g,c1,cur,h1,h2,_,h3,h4,_⟩
  ·exact absurd h1 hnil
  exact ⟨g,c1,h1,h2,h3,h4⟩
 have R0:Aside (RowK lR 8 w1 g 0 (dH xs)):=Jv rfl hown
 have HB:Aside (Below w.heap.size w w1):=hb
 clear hown hnil hb
 go_wp2_with fail
 have C:=gP w1 g 0 c1 (dH xs) R0.o (fun p hp=>xa) (by rw [ac];omega)
 rw [ac] at C
 refine C.mono ?_
 clear C
 rintro e w2 ⟨rfl,d',hd,S⟩
 have hl:d'.size=xs.length:=by rw [hd.1.1,ac]
 have hl2:(d'.toList.map Prod.fst).length=xs.length:=xB
 have hsz:w1.heap.size<=w2.heap.size:=(fE (jN 0 w1) (jX _) (jX _) S).size
 have F:Aside (SortOut w xs (.returned (.slice (some ⟨g,0,none⟩) xs.length c1)) w2):=
  ⟨_,d'.toList.map Prod.fst,rfl,.inr ⟨g,c1,by rw [hl2],hg,jW R0.o.hblk hsz,by rw [hl2];exact hc1,hc2,⟨fun j u hj=>by have:=rs R0.o xS S j u hj;rw [vh] at this;exact this,fun j hj=>by
   have H:=((S.holds R0.o.hblk R0.o.hH xS) j (by rw [size_flatK];rw [hl2] at hj;omega)).2
   rw [vh] at H
   exact H⟩⟩,⟨d',hd,rfl⟩,fE HB.o hg HB.o.size S⟩
 clear hd S R0 HB hl hl2 hsz hc1 hc2
 go_wp2
 go_ret
 exact F.o
end
section
open Go.RowKit Go.Lib Go.Sort Go.Maps
theorem SortOut.base {w1:World} {e:Ending} (h:SortOut w1 xs e w') (hb:Below w.heap.size w w1):SortOut w xs e w':=by
 obtain ⟨v,ys,h1,h2,h3,h4⟩:=h
 refine ⟨v,ys,h1,h2.imp id ?_,h3,zi hb h4⟩
 rintro ⟨g,cap,k1,k2,k3⟩
 exact ⟨g,cap,k1,jM hb.size k2,k3⟩
theorem Hc (w:World) (ao:Nat->Option Addr) (cap:Nat->Nat) (R:Rws) (hK:KnownAt w ao R) (hnil:∀i,i<4->ao i=none->cap i=0) (hn:(aX R).length<=1000):
  Calls prog 56 #[kV ao cap R] w (SortOut w (aX R)):=by
 obtain ⟨W,hW⟩:=za (w.alloc (.cells #[.slice (ao 0) (R 0).length (cap 0),.slice (ao 1) (R 1).length (cap 1),.slice (ao 2) (R 2).length (cap 2),.slice (ao 3) (R 3).length (cap 3)] 112 (0,0)))
 have hb:Below w.heap.size w W:=by rw [hW];exact zh w _
 have hbox:KBox W w.heap.size ao cap R:=by rw [hW];exact heap_alloc_new w _
 have hcat:=nk W w.heap.size ao cap R hbox (hK.later hb) hnil hn
 have H:Aside (W=w.alloc (.cells #[.slice (ao 0) (R 0).length (cap 0),.slice (ao 1) (R 1).length (cap 1),.slice (ao 2) (R 2).length (cap 2),.slice (ao 3) (R 3).length (cap 3)] 112 (0,0))/\Below w.heap.size w W/\(aX R).length<=1000):=⟨hW,hb,hn⟩
 clear hW hb hbox hK hnil hn
 unfold kV
 go_enter func56,ntmps56
 go_wp2_with fail
 rw [<-H.o.1]
 refine hcat.mono ?_
 clear hcat
 rintro e w1 ⟨v1,rfl,ho1,hb1⟩
 have hs:=CU w1 v1 (aX R) (iw ho1) H.o.2.2
 have H1:Aside (Below w.heap.size w w1):=zi H.o.2.1 hb1
 clear ho1 hb1 H
 go_wp2_with fail
 refine hs.mono ?_
 clear hs
 intro e w2 hs2
 have hs3:=hs2.base H1.o
 obtain ⟨v2,ys,rfl,h⟩:=hs2
 have H2:Aside (SortOut w (aX R) (.returned v2) w2):=hs3
 clear h hs3 H1
 go_wp2
 go_ret
 exact H2.o
theorem Gu (w:World) (c:Nat->Nat) (br:Nat) (by_:Int) (R:Rws) (h:RepAt w c br by_ R) (hn:(aX R).length<=1000):
  Calls prog 21 #[.pointer (some ⟨br,0,none⟩)] w (SortOut w (aX R)):=by
 obtain ⟨T,kv,bt,bx,bc,A,hm,hp,hK,hb⟩:=h
 obtain ⟨ao,cap,hM⟩:=hm.norm
 have hall:=Hc w ao cap R (KnownAt.of_rows hM.rows) (Au hM.rows) hn
 unfold kV at hall
 have k2:w.cell? ⟨br,2,none⟩=some (.slice (ao 0) (R 0).length (cap 0)):=hM.cell.c2
 have k3:w.cell? ⟨br,3,none⟩=some (.slice (ao 1) (R 1).length (cap 1)):=hM.cell.c3
 have k4:w.cell? ⟨br,4,none⟩=some (.slice (ao 2) (R 2).length (cap 2)):=hM.cell.c4
 have k5:w.cell? ⟨br,5,none⟩=some (.slice (ao 3) (R 3).length (cap 3)):=hM.cell.c5
 clear hm hM hp hK hb hn
 go_enter func21,ntmps21
 go_wp2_with fail
 refine hall.mono ?_
 clear hall
 intro e w2 hs2
 have hs3:=hs2
 obtain ⟨v2,ys,rfl,h⟩:=hs2
 have H2:Aside (SortOut w (aX R) (.returned v2) w2):=hs3
 clear h hs3
 go_wp2
 go_ret
 exact H2.o
end
section
open Go.RowKit Go.Lib Go.Sort Go.Maps
def LD (w:World) (R:Rws) (v:Nat->Int) (e:Ending) (w':World):Prop:=∃val ys,e= .returned val/\ae (aX R) ys/\((val= .slice none 0 0/\ys= [])\/∃g cap,val= .slice (some ⟨g,0,none⟩) (ys.filter (fun x=> !du v x)).length cap/\w.heap.size<=g/\OwnAt w' g (ys.filter (fun x=> !du v x)))/\Below w.heap.size w w'
theorem VecBlk.same' {B:Nat} (h:VecBlk w b v) (hb:Below B w w') (hB:b<B):VecBlk w' b v:=(hb.block b hB).trans h
theorem NU (p:OpX->Bool) (gf:Nat) (lb:Array Value) (eg:∀args w,(callFunc gf args).run prog w= .ok (.enter gf args) w) (w:World):
  Calls prog 162 #[.slice none 0 0,.func (.func gf) #[] lb] w fun e w'=>e= .returned (.slice none 0 0)/\Below w.heap.size w w':=by
 have hidx:=iu p gf lb eg none 0 [] w (fun W x hx=>by cases hx) zq (.inl rfl)
 go_enter func162,ntmps162
 go_wp2_with fail
 refine hidx.mono ?_
 clear hidx
 rintro e w1 ⟨r,rfl,HR⟩
 rcases HR.o.1 with ⟨hr,ha⟩ | ⟨k,x,hr,hx,_⟩
 ·subst hr
  clear ha
  go_wp2
  go_ret
  exact ⟨rfl,HR.o.2⟩
 simp at hx
theorem Eo (w:World) (c:Nat->Nat) (br:Nat) (by_:Int) (R:Rws) (v:Nat->Int) (h:RepAt w c br by_ R) (hn:(aX R).length<=1000):
  Calls prog 88 #[.pointer (some ⟨br,0,none⟩),.agg #[.int .i64 (v 0),.int .i64 (v 1),.int .i64 (v 2),.int .i64 (v 3)]] w (LD w R v):=by
 have eg:∀args w,(callFunc 163 args).run prog w= .ok (.enter 163 args) w:=enters_of func163 zk rfl
 obtain ⟨U,hU⟩:=za (w.alloc (.cells #[.int .i64 (v 0),.int .i64 (v 1),.int .i64 (v 2),.int .i64 (v 3)] 141 (0,0)))
 have hbU:Below w.heap.size w U:=zN
 have hv:VecBlk U w.heap.size v:=by rw [hU];exact heap_alloc_new w _
 have hops:=Gu U c br by_ R (h.later hbU) hn
 have hK:RowsK R:=jh
 have H:Aside (U=w.alloc (.cells #[.int .i64 (v 0),.int .i64 (v 1),.int .i64 (v 2),.int .i64 (v 3)] 141 (0,0))/\Below w.heap.size w U/\VecBlk U w.heap.size v/\RowsK R):=⟨hU,hbU,hv,hK⟩
 clear hU hbU hv hK h
 go_enter func88,ntmps88
 go_upto_region 1 with fail
 rw [<-H.o.1]
 go_wp2_with fail
 refine hops.mono ?_
 clear hops
 rintro e w1 ⟨val,ys,rfl,hval,hst,hb1⟩
 rcases hval with ⟨rfl,rfl⟩ | ⟨g,cap,rfl,hg1,hg2,hc1,hc2,hO⟩
 ·have hd:=NU (du v) 163 #[.pointer (some ⟨w.heap.size,0,none⟩)] eg w1
  have H1:Aside (ae (aX R) []/\Below w.heap.size w w1):=⟨hst,zi H.o.2.1 hb1⟩
  clear hst hb1 eg
  go_wp2_with fail
  refine hd.mono ?_
  clear hd
  rintro e w2 ⟨rfl,hb2⟩
  have H2:Aside (Below w.heap.size w w2):=zi H1.o.2 hb2
  clear hb2
  go_wp2
  go_ret
  exact ⟨_,[],rfl,H1.o.1,.inl ⟨rfl,rfl⟩,H2.o⟩
 have hlen:ys.length=(aX R).length:=(bG hst).1.length_eq
 have hpred:PredB 163 #[.pointer (some ⟨w.heap.size,0,none⟩)] ys (du v) U.heap.size w1:=fun W x hx hW=>by
  obtain ⟨i,hi,hb,_⟩:=kG (H.o.2.2.2.well.ok x ((bG hst).1.mem_iff.1 hx))
  exact Cl W w.heap.size v x ((H.o.2.2.1.later hb1).same' hW H.o.2.2.1.lt) i hi hb
 have hd:=BS (du v) 163 #[.pointer (some ⟨w.heap.size,0,none⟩)] eg g cap U.heap.size ys w1 hg1 hb1.size hg2 hpred zj hc1 hc2 hO
 have H1:Aside (ae (aX R) ys/\Below w.heap.size w w1/\w.heap.size<=g):=⟨hst,zi H.o.2.1 hb1,jM H.o.2.1.size hg1⟩
 clear hst hb1 eg hpred hO hlen hg1 hg2 hc1 hc2
 go_wp2_with fail
 refine hd.mono ?_
 clear hd
 rintro e w2 ⟨rfl,hO2,hb2⟩
 have H2:Aside (Below w.heap.size w w2/\OwnAt w2 g (ys.filter (fun x=> !du v x))):=⟨H1.o.2.1.trans (hb2.mono H.o.2.1.size),hO2⟩
 clear hb2 hO2
 go_wp2
 go_ret
 exact ⟨_,ys,rfl,H1.o.1,.inr ⟨g,cap,rfl,H1.o.2.2,H2.o.2⟩,H2.o.1⟩
end
section
open Go.RowKit Go.Lib Go.Sort Go.Maps
theorem sE (w:World) (o:Obj):(w.alloc o).heap=w.heap.push o:=rfl
theorem sM (w:World):w.drew.heap=w.heap:=rfl
theorem FO (w:World) (b:Int) (h0:0<=b) (h4:b<4):
  Calls prog 34 #[.int .i64 b] w (JC w b):=by
 have hmm:= @run_makeMap prog
 have hc:=Ms b w h0 h4
 go_enter func34,ntmps34
 go_wp2_with fail
 refine hc.mono ?_
 clear hc
 rintro e w1 ⟨rfl,rfl⟩
 go_upto_region 4 with fail
 go_region_with (first | (go_at_call 66;refine (KB _).mono ?_;rintro e w' ⟨rfl,rfl⟩) | (go_at_call 67;refine (It _).mono ?_;rintro e w' ⟨rfl,rfl⟩))
 all_goals (go_wp2;go_ret2)
 all_goals (first
  | (refine mM h0 h4 (w.heap.size+1+1) (w.heap.size+1) (w.heap.size+1+1+1+1+1) (w.heap.size+1+1+1+1) (w.heap.size+1+1+1) (w.heap.size+1+1+1+1+1+1) ?_ zj zj zj zj zj zj zj zj zj zj zj ?_ ?_ ?_ ?_ ?_ ?_;all_goals (first | (simp only [sE,sM,Array.getElem?_push,Array.size_push];(try (repeat first | rw [if_pos trivial] | rw [if_neg zj] | rfl));done) | ((repeat first | exact jN _ _ | refine Below.drew ?_ | refine Below.alloc ?_ yG _);done)))
  | (refine mM h0 h4 (w.heap.size+1+1) (w.heap.size+1) (w.heap.size+1+1+1) (w.heap.size+1+1+1+1+1) (w.heap.size+1+1+1+1) (w.heap.size+1+1+1+1+1+1) ?_ zj zj zj zj zj zj zj zj zj zj zj ?_ ?_ ?_ ?_ ?_ ?_;all_goals (first | (simp only [sE,sM,Array.getElem?_push,Array.size_push];(try (repeat first | rw [if_pos trivial] | rw [if_neg zj] | rfl));done) | ((repeat first | exact jN _ _ | refine Below.drew ?_ | refine Below.alloc ?_ yG _);done)))
  | (refine mM h0 h4 (w.heap.size+1+1+1) (w.heap.size+1+1) (w.heap.size+1) (w.heap.size+1+1+1+1+1) (w.heap.size+1+1+1+1) (w.heap.size+1+1+1+1+1+1) ?_ zj zj zj zj zj zj zj zj zj zj zj ?_ ?_ ?_ ?_ ?_ ?_;all_goals (first | (simp only [sE,sM,Array.getElem?_push,Array.size_push];(try (repeat first | rw [if_pos trivial] | rw [if_neg zj] | rfl));done) | ((repeat first | exact jN _ _ | refine Below.drew ?_ | refine Below.alloc ?_ yG _);done))))
