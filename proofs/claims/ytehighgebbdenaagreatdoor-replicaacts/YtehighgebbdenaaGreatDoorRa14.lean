import Derived.Test.YtehighgebbdenaaGreatDoorRa13
import Derived.Maps.OwnIn
set_option linter.unusedSimpArgs false
set_option maxRecDepth 100000
set_option maxHeartbeats 64000000
namespace Go.Proofs.YtehighgebbdenaaGreatDoor
open Go.Proofs.Tryz
section
open Go.RowKit Go.Maps
open scoped Classical
theorem Ih (w:World) (base bt bm n:Nat) (v:Value) (ms:List Mov) (L:List Ent) (s:Int×Int) (hT:TreeCell w bt bm v) (hL:LogTo ms ms.length L) (hR:w.ownsRow base 284 8 v ms.length (aA gG L)) (hby:ax ms) (hlen:ms.length<=1000) (_hM:MapAt prog 3 w bm n (aN ms)):
  Calls prog 187 #[.pointer (some ⟨bt,0,none⟩),.agg #[.int .i64 s.1,.int .i64 s.2]] w fun e w'=>(∃(i:Nat) (b:Bool),e= .returned (.tuple #[.int .i64 (i:Int),.bool b])/\sJ ms s i b)/\Below w.heap.size w w':=by
 have hll:=hL.len
 rcases hR.2 with ⟨hv,h0⟩ | ⟨g,cap,cur,hv,_,hg,hnc,_⟩
 ·have hL0:L= []:=uh.1 zo;subst hv;exact AS w bt bt 0 none L ms s hL.movs hby zo (by rw [hll,h0];exact hT.c1) (.inl hL0) hT.lt (fun j u hj=>by rw [hL0] at hj;simp [aA] at hj)
 subst hv;exact AS w bt g cap (some ⟨g,0,none⟩) L ms s hL.movs hby zo (by rw [hll];exact hT.c1) (.inr rfl) (vO.1 hg).1 (AQ hR)
theorem mn (hU:Hg) {ad:Nat->Addr} (w:World) (base bt bm:Nat) (v:Value) (ms:List Mov) (t b n node other:Int) (name value:ByteArray) (hE:Op4 ad w) (hT:TreeAt base w bt bm v ms) (hbase:base<=w.heap.size) (hlen:ms.length<=140)
  (hsn:name.size<=1000000) (hsv:value.size<=1000000) (hop:opE t b n 109 node other name.data.toList value.data.toList=0) (hnew:∀m∈ms,m.1≠(t,b)):
  Calls prog 125 #[.pointer (some ⟨bt,0,none⟩),.agg #[.int .i64 t,.int .i64 b,.int .i64 n,.int .u8 109,.int .i64 node,.int .i64 other,.string name,.string value]] w fun e w'=>e= .returned .nilIface/\∃v' ms',TreeAt base w' bt bm v' ms'/\ms'.Perm (((t,b),(node,other,name))::ms)/\Keeps (fun k=>k=bt\/k=bm\/some k=v.ownBlock) w w'/\(v'.ownBlock=v.ownBlock\/∀g,v'.ownBlock=some g->w.heap.size<=g):=by
 have hbx:∀o,Below w.heap.size w (w.alloc o):=fun o=>(vP _ w).alloc zg o
 obtain ⟨w1,hw1⟩:=zc (w.alloc (.cells #[.int .i64 t,.int .i64 b,.int .i64 n,.int .u8 109,.int .i64 node,.int .i64 other,.string name,.string value] 38))
 have O1:OpAt w1 w.heap.size t b n 109 node other name value:=by rw [hw1];exact OpAt.new w t b n 109 node other name value 38
 have B1:Below w.heap.size w w1:=by rw [hw1];exact hbx _
 have hck:=cN t b n 109 node other name value w1 (hE.later B1) hsn hsv;rw [hop] at hck;have e0:eV ad 0= .nilIface:=rfl;rw [e0] at hck;have s1:w1.heap.size=w.heap.size+1:=xS
 have H1:Aside (OpAt w1 w.heap.size t b n 109 node other name value/\TreeAt base w1 bt bm v ms/\Below w.heap.size w w1):=⟨O1,hT.later B1,B1⟩
 have HT:Aside (TreeAt base w bt bm v ms):=hT;clear hT B1 hE hbx e0;go_enter func125,ntmps125;go_wp2_with fail;rw [<-hw1];clear hw1 O1;refine hck.mono ?_;clear hck;rintro e w2 ⟨rfl,hb2⟩
 have H2:Aside (OpAt w2 w.heap.size t b n 109 node other name value/\TreeAt base w2 bt bm v ms/\Below w.heap.size w w2/\w.heap.size+1<=w2.heap.size):=⟨H1.o.1.later hb2,H1.o.2.1.later hb2,zj H1.o.2.2 hb2,by have:=hb2.size;omega⟩
 clear hb2 H1;obtain ⟨c0,c1,c2,c3,c4,c5,c6,c7⟩:=H2.o.1;have c3:w2.cell? ⟨w.heap.size,3,none⟩=some (.int .u8 109):=c3;go_wp2_with fail;obtain ⟨L,hL,hR⟩:=H2.o.2.1.row;obtain ⟨nn,hnn,hM⟩:=H2.o.2.1.map;refine (Ih w2 base bt bm nn v ms L (t,b) H2.o.2.1.cell hL hR H2.o.2.1.by_ zo hM).mono ?_;rintro e w3 ⟨⟨i,bo,rfl,hF⟩,hb3⟩;obtain ⟨rfl,hil,hF1,hF2⟩:=DH hF hnew
 have H3:Aside (OpAt w3 w.heap.size t b n 109 node other name value/\TreeAt base w3 bt bm v ms/\Below w.heap.size w w3/\w.heap.size+1<=w3.heap.size/\(∀x∈ms.take i,SLt x.1 (t,b))/\(∀x∈ms.drop i,SLt (t,b) x.1)):=⟨H2.o.1.later hb3,H2.o.2.1.later hb3,zj H2.o.2.2.1 hb3,by have:=H2.o.2.2.2;have:=hb3.size;omega,hF1,hF2⟩
 clear hb3 H2 hF hF1 hF2 c0 c1 c2 c3 c4 c5 c6 c7 hM hR hL hnn;clear L nn;go_wp2_with fail;obtain ⟨L,hL,hR⟩:=H3.o.2.1.row;obtain ⟨nn,hnn,hM⟩:=H3.o.2.1.map;refine (hU w3 base bt bm nn i v ms L H3.o.2.1.cell hL hR hM H3.o.2.1.fine hil zo zo).mono ?_;rintro e w4 ⟨⟨u,rfl⟩,hM4,hk4⟩;have hsz4:=hk4.size;have htl:=H3.o.2.1.lt;have htm:=H3.o.2.1.cell.ne_map hM
 have hbxm:w.heap.size≠bm:=by
  intro e;obtain ⟨es,ck,hb⟩:=hM.block;have:=H3.o.1.c0;rw [e] at this;simp [World.cell?,hb] at this
 have hT4:TreeCell w4 bt bm v:=(hk4.block bt htl.1 htm).trans H3.o.2.1.cell
 have hR4:w4.ownsRow base 284 8 v ms.length (aA gG L):=cY hR (fun g hg=>hk4.block g (htl.2.2 g hg) (by
  rcases hR.2 with ⟨hv,_⟩ | ⟨g',cap',cur,hv,_⟩
  ·rw [hv] at hg;cases hg
  ·subst hv;cases hg;exact eA hR hM))
 have hbB:w.heap.size<w3.heap.size:=by have:=H3.o.2.2.2.1;omega
 have hB4:w4.heap[w.heap.size]? =w3.heap[w.heap.size]? :=hk4.block _ hbB hbxm
 have O4:OpAt w4 w.heap.size t b n 109 node other name value:=by
  have h:=fun o=>uk (a:=⟨w.heap.size,o,none⟩) hB4
  exact ⟨(h 0).trans H3.o.1.c0,(h 1).trans H3.o.1.c1,(h 2).trans H3.o.1.c2,(h 3).trans H3.o.1.c3,(h 4).trans H3.o.1.c4,(h 5).trans H3.o.1.c5,(h 6).trans H3.o.1.c6,(h 7).trans H3.o.1.c7⟩
 have hK4:Keeps (fun k=>k=bt\/k=bm\/some k=v.ownBlock) w w4:=((aW H3.o.2.2.1).mono (fun k hk e=>zo)).then hk4 (fun k _ e=>.inr (.inl e))
 obtain ⟨c0,c1,c2,c3,c4,c5,c6,c7⟩:=O4;have c3:w4.cell? ⟨w.heap.size,3,none⟩=some (.int .u8 109):=c3;have t1:=hT4.c1;have z1:=hT4.fz 1;go_wp2_with fail;obtain ⟨B,hB⟩:=zc w.heap.size
 rw [<-hB] at c0 c1 c2 c3 c4 c5 c6 c7 hbB hbxm |-
 have HB:Aside (B=w.heap.size):=hB;clear hB
 have hbtg:∀g,v.ownBlock=some g->g≠bt/\g≠bm/\g<w4.heap.size:=fun g hg=>by
  rcases hR4.2 with ⟨hv,_⟩ | ⟨g',cap',cur,hv,_⟩
  ·rw [hv] at hg;cases hg
  subst hv;cases hg;exact ⟨gd hR4 hT4,eA hR4 hM4,(hR4.lt _ rfl).2⟩
 have hxw:∀X:World,X=(w4.alloc (.cells #[.int .i64 t,.int .i64 b,.int .i64 node,.int .i64 other,.string name,.int .i64 0,.int .i64 0,.string ⟨#[]⟩] 284)).drew->Calls prog 189 #[v,.int .i64 (i:Int),.slice (some ⟨w4.heap.size,0,none⟩) 1 1] X
   fun e w'=>∃g' cap',e= .returned (.slice (some ⟨g',0,none⟩) (ms.length+1) cap')/\Aside (w'.ownsRow base 284 8 (.slice (some ⟨g',0,none⟩) (ms.length+1) cap') (ms.length+1) (aA gG (Dz L i (((t,b),(node,other,name)),cV)))/\Keeps (fun k=>some k=v.ownBlock) w4 w'/\(some g'=v.ownBlock\/w4.heap.size<=g'))/\w'.cell? ⟨bt,1,none⟩=some v/\w'.frozen? ⟨bt,1,none⟩=false/\(w'.cell? ⟨B,0,none⟩=some (.int .i64 t)/\w'.cell? ⟨B,1,none⟩=some (.int .i64 b)/\w'.cell? ⟨B,4,none⟩=some (.int .i64 node)/\w'.cell? ⟨B,5,none⟩=some (.int .i64 other)/\w'.cell? ⟨B,6,none⟩=some (.string name)/\w'.cell? ⟨bt,1,none⟩=some v):=by
  rintro X rfl;obtain ⟨Y,hY⟩:=zc ((w4.alloc (.cells #[.int .i64 t,.int .i64 b,.int .i64 node,.int .i64 other,.string name,.int .i64 0,.int .i64 0,.string ⟨#[]⟩] 284)).drew)
  have hnb:Y.heap[w4.heap.size]? =some (.cells #[.int .i64 t,.int .i64 b,.int .i64 node,.int .i64 other,.string name,.int .i64 0,.int .i64 0,.string ⟨#[]⟩] 284 (0,0)):=by rw [hY];exact heap_alloc_new w4 _
  have hYk:Keeps (fun _=>False) w4 Y:=by rw [hY];exact ((Keeps.refl _ w4).alloc _).drew
  have hYs:Y.heap.size=w4.heap.size+1:=by rw [hY];simp
  have hRY:=cY (w':=Y) hR4 (fun g hg=>hYk.block g (hbtg g hg).2.2 (fun e=>e));rw [<-hY];refine (Aj Y base ms.length i v (aA gG L) (gG (((t,b),(node,other,name)),cV)) hRY zo w4.heap.size rfl (fun j u hj=> ?_) (wm _) (gO wm L) (fun e=>by have:=(hbtg _ e.symm).2.2;omega) ?_ (fun j=> ?_) (by have:=hK4.size;omega) hil).mono ?_
  ·simp only [World.cell?,hnb];rw [<-hj];simp [gG,cV]
  ·simp [World.shape?,hnb]
  ·simp [World.frozen?,hnb]
  rintro e w' ⟨v',rfl,ho,hk,hv'⟩;obtain ⟨g',cap',rfl⟩:=ownsRow_succ ho;have hkk:Keeps (fun k=>some k=v.ownBlock) w4 w':=(hYk.mono (fun _ _ e=>e.elim)).trans hk;have hTb:=hkk.block bt zo (fun e=>(hbtg bt e.symm).1 rfl);have hT5:TreeCell w' bt bm v:=hTb.trans hT4;rw [<-wM fO L i (by rw [hL.len];exact hil)] at ho;have hBb:=hkk.block B zo (fun e=>by have:=HT.o.lt.2.2 B e.symm;have:=HB.o;omega)
  have hBc:=fun o=>uk (a:=⟨B,o,none⟩) hBb
  refine ⟨g',cap',rfl,⟨ho,hkk,?_⟩,hT5.c1,hT5.fz 1,(hBc 0).trans c0,(hBc 1).trans c1,(hBc 4).trans c4,(hBc 5).trans c5,(hBc 6).trans c6,hT5.c1⟩
  rcases hv' with e | e
  ·exact .inl e
  right
  have:g'=Y.heap.size:=by simpa [Value.ownBlock] using e
  omega
 have t1a:∀o,(w4.alloc o).cell? ⟨bt,1,none⟩=some v:=fun o=>(uk (a:=⟨bt,1,none⟩) (vZ w4 o bt hT4.lt)).trans t1
 have hbtB:bt≠B:=by have:=HT.o.lt.1;have:=HB.o;omega
 have hBbt:B≠bt:=fun e=>hbtB e.symm
 have hBl:B<w4.heap.size:=zo;have hBn:B≠w4.heap.size:=zo;have hBm:w4.heap.size≠B:=zo
 have htn:bt≠w4.heap.size:=by have:=hT4.lt;omega
 have htn':w4.heap.size≠bt:=by have:=hT4.lt;omega
 refine bs (S:=(fun w'=>w'.cell? ⟨B,0,none⟩=some (.int .i64 t)/\w'.cell? ⟨B,1,none⟩=some (.int .i64 b)/\w'.cell? ⟨B,4,none⟩=some (.int .i64 node)/\w'.cell? ⟨B,5,none⟩=some (.int .i64 other)/\w'.cell? ⟨B,6,none⟩=some (.string name)/\w'.cell? ⟨bt,1,none⟩=some v)) (z:=20) zq ⟨c0,c1,c4,c5,c6,t1⟩ (fun hHeld=> ?_);refine aX (i:=0) (v:= ?v0) zu rfl zq zq zq (fun _ _ _ h=>h) (Or.inl ⟨zA,?hy0⟩) hHeld ?rest0
 case hy0=>(intro w' _;go_simp;try with_reducible rfl)
 simp only [Act.put,vX,ui,uj];refine aX (i:=1) (v:= ?v1) zu rfl zq zq zq (fun _ _ _ h=>h) (Or.inl ⟨zA,?hy1⟩) hHeld ?rest1
 case hy1=>(intro w' _;go_simp;try with_reducible rfl)
 simp only [Act.put,vX,ui,uj];refine aX (i:=2) (v:= ?v2) zu rfl zq zq zq (fun _ _ _ h=>h) (Or.inl ⟨zA,?hy2⟩) hHeld ?rest2
 case hy2=>(intro w' _;go_simp;try with_reducible rfl)
 simp only [Act.put,vX,ui,uj];refine aX (i:=3) (v:= ?v3) zu rfl zq zq zq (fun _ _ _ h=>h) (Or.inl ⟨zA,?hy3⟩) hHeld ?rest3
 case hy3=>(intro w' _;go_simp;try with_reducible rfl)
 simp only [Act.put,vX,ui,uj];refine aw (i:=4) (v:= ?v4) zu zq rfl zq zq zq zq (fun _ _ _ h=>h) (Or.inl ⟨zA,?hy4⟩) hHeld ?rest4
 case hy4=>(intro w' hSw;obtain ⟨k0,k1,k4,k5,k6,k7⟩:=hSw;go_simp;try with_reducible rfl)
 simp only [Act.put,vX,ui,uj];refine aX (i:=5) (v:= ?v5) zu rfl zq zq zq (fun _ _ _ h=>h) (Or.inl ⟨zA,?hy5⟩) hHeld ?rest5
 case hy5=>(intro w' _;go_simp;try with_reducible rfl)
 simp only [Act.put,vX,ui,uj];refine aX (i:=6) (v:= ?v6) zu rfl zq zq zq (fun _ _ _ h=>h) (Or.inl ⟨zA,?hy6⟩) hHeld ?rest6
 case hy6=>(intro w' _;go_simp;try with_reducible rfl)
 simp only [Act.put,vX,ui,uj];refine aw (i:=7) (v:= ?v7) zu zq rfl zq zq zq zq (fun _ _ _ h=>h) (Or.inl ⟨zA,?hy7⟩) hHeld ?rest7
 case hy7=>(intro w' hSw;obtain ⟨k0,k1,k4,k5,k6,k7⟩:=hSw;go_simp;try with_reducible rfl)
 simp only [Act.put,vX,ui,uj];refine aX (i:=8) (v:= ?v8) zu rfl zq zq zq (fun _ _ _ h=>h) (Or.inl ⟨zA,?hy8⟩) hHeld ?rest8
 case hy8=>(intro w' _;go_simp;try with_reducible rfl)
 simp only [Act.put,vX,ui,uj];refine aw (i:=9) (v:= ?v9) zu zq rfl zq zq zq zq (fun _ _ _ h=>h) (Or.inl ⟨zA,?hy9⟩) hHeld ?rest9
 case hy9=>(intro w' hSw;obtain ⟨k0,k1,k4,k5,k6,k7⟩:=hSw;go_simp;try with_reducible rfl)
 simp only [Act.put,vX,ui,uj];refine aX (i:=10) (v:= ?v10) zu rfl zq zq zq (fun _ _ _ h=>h) (Or.inl ⟨zA,?hy10⟩) hHeld ?rest10
 case hy10=>(intro w' _;go_simp;try with_reducible rfl)
 simp only [Act.put,vX,ui,uj];refine aw (i:=11) (v:= ?v11) zu zq rfl zq zq zq zq (fun _ _ _ h=>h) (Or.inl ⟨zA,?hy11⟩) hHeld ?rest11
 case hy11=>(intro w' hSw;obtain ⟨k0,k1,k4,k5,k6,k7⟩:=hSw;go_simp;try with_reducible rfl)
 simp only [Act.put,vX,ui,uj];refine aX (i:=12) (v:= ?v12) zu rfl zq zq zq (fun _ _ _ h=>h) (Or.inl ⟨zA,?hy12⟩) hHeld ?rest12
 case hy12=>(intro w' _;go_simp;try with_reducible rfl)
 simp only [Act.put,vX,ui,uj];refine aw (i:=13) (v:= ?v13) zu zq rfl zq zq zq zq (fun _ _ _ h=>h) (Or.inl ⟨zA,?hy13⟩) hHeld ?rest13
 case hy13=>(intro w' hSw;obtain ⟨k0,k1,k4,k5,k6,k7⟩:=hSw;go_simp;try with_reducible rfl)
 simp only [Act.put,vX,ui,uj];refine aX (i:=14) (v:= ?v14) zu rfl zq zq zq (fun _ _ _ h=>h) (Or.inl ⟨zA,?hy14⟩) hHeld ?rest14
 case hy14=>(intro w' _;go_simp;try with_reducible rfl)
 simp only [Act.put,vX,ui,uj];refine aX (i:=15) (v:= ?v15) zu rfl zq zq zq (fun _ _ _ h=>h) (Or.inl ⟨zA,?hy15⟩) hHeld ?rest15
 case hy15=>(intro w' _;go_simp;try with_reducible rfl)
 simp only [Act.put,vX,ui,uj];refine aF (i:=16) zq rfl (fun K hK=> ?_);go_simp;refine hK _ _ (.inl ?s16) ?n16
 case s16=>
  have hbl:=fun o=>uk (a:=⟨B,o,none⟩) (vZ w4 (.cells #[.int .i64 t,.int .i64 b,.int .i64 node,.int .i64 other,.string name,.int .i64 0,.int .i64 0,.string ⟨#[]⟩] 284) B hBl)
  exact ⟨(hbl 0).trans c0,(hbl 1).trans c1,(hbl 4).trans c4,(hbl 5).trans c5,(hbl 6).trans c6,t1a _⟩
 clear hK K hHeld;refine aF (i:=17) zq rfl (fun K hK=> ?_);go_simp;refine (hxw _ rfl).mono ?_;rintro e w5 ⟨g',cap',rfl,H5,u1,u2,u3⟩;refine hK _ _ (.inl u3) ?_;clear hK K;refine qn ?_;refine aX (i:=18) (v:= ?v18) zu rfl zq zq zq (fun _ _ _ h=>h) (Or.inl ⟨zA,?hy18⟩) u3 ?rest18
 case hy18=>(intro w' _;go_simp;try with_reducible rfl)
 refine qn ?_;refine aX (i:=19) (v:= ?v19) zu rfl zq zq zq (fun _ _ _ h=>h) (Or.inl ⟨zA,?hy19⟩) u3 ?rest19
 case hy19=>(intro w' _;go_simp;try with_reducible rfl)
 refine qn ?_;refine aF (i:=20) zq rfl (fun K hK=> ?_);go_simp;refine hK _ _ (.inr ⟨rfl,zu⟩) ?_;clear hK K;refine bu zq ?_ _;obtain ⟨w6,hw6⟩:=zc (w5.setCell ⟨bt,1,none⟩ (.slice (some ⟨g',0,none⟩) (ms.length+1) cap'));rw [<-hw6];have hk45:=H5.o.2.1;have hT5:TreeCell w5 bt bm v:=(hk45.block bt hT4.lt (fun e=>(hbtg bt e.symm).1 rfl)).trans hT4;have hM5:=hM4.same (hk45.block bm hM4.lt (fun e=>(hbtg bm e.symm).2.1 rfl));have hgbt:=gd H5.o.1 hT5;have hgbm:=eA H5.o.1 hM5
 have hk56:Keeps (fun k=>k=bt) w5 w6:=by rw [hw6];exact aZ bt [_] 1 w5
 have hT6:TreeCell w6 bt bm (.slice (some ⟨g',0,none⟩) (ms.length+1) cap'):=by rw [hw6];exact heap_setCell_same w5 bt 1 _ _ _ hT5
 have hM6:=hM5.same (hk56.block bm hM5.lt (fun e=>htm e.symm));have hgl5:=(H5.o.1.lt g' rfl).2;have hR6:=iw H5.o.1 (hk56.block g' hgl5 hgbt);have hlen':(gI ms i ((t,b),(node,other,name))).length=ms.length+1:=rW _ _ _;have hL6:=Hq (m:=((t,b),(node,other,name))) hL hil cV
 have hfine':∀m∈gI ms i ((t,b),(node,other,name)),FineP m.2:=fun m hm=>by
  rcases vT.1 ((kS ms i _).mem_iff.1 hm) with rfl | hm
  ·exact rr hop
  exact H3.o.2.1.fine m hm
 have hdo:=Kz w6 bt bm base g' cap' i (nn+(ms.length - i)) (Dz L i (((t,b),(node,other,name)),cV)) (gI ms i ((t,b),(node,other,name))) (by rw [hlen'];exact hT6) (by rw [hlen'];exact hR6) hL6 (by rw [BP hil];exact hM6) hfine' zo zo zo
 have hKF:Aside (Keeps (fun k=>k=bt\/k=bm\/some k=v.ownBlock) w w6/\TreeCell w6 bt bm (.slice (some ⟨g',0,none⟩) (ms.length+1) cap')/\(some g'=v.ownBlock\/w.heap.size<=g')/\g'≠bt/\bm≠bt/\bt<w6.heap.size):=
  ⟨(hK4.then hk45 (fun _ _ e=>.inr (.inr e))).then hk56 (fun _ _ e=>.inl e),hT6,H5.o.2.2.imp id (fun h=>by have:=hK4.size;omega),hgbt,fun e=>htm e.symm,hT6.lt⟩
 have hHi:Aside (ax (gI ms i ((t,b),(node,other,name)))/\(∀m∈gI ms i ((t,b),(node,other,name)),FineP m.2)):=⟨GM H3.o.2.1.by_ H3.o.2.2.2.2.1 H3.o.2.2.2.2.2,hfine'⟩
 clear hw6 hk45 hT5 hM5 hgbt hgbm hk56 hT6 hM6 hgl5 hR6 hL6 H5 u1 u2 u3 hxw c0 c1 c2 c3 c4 c5 c6 c7 t1 z1 t1a hfine' hK4 hR4 hT4 hM4 hk4 hB4;go_wp2_with fail;refine hdo.mono ?_;clear hdo;rintro e w7 ⟨⟨u',rfl⟩,L',n',hL',hown',hM',hn',hk'⟩
 have FIN:Aside (∃v' ms',TreeAt base w7 bt bm v' ms'/\ms'.Perm (((t,b),(node,other,name))::ms)/\Keeps (fun k=>k=bt\/k=bm\/some k=v.ownBlock) w w7/\(v'.ownBlock=v.ownBlock\/∀g,v'.ownBlock=some g->w.heap.size<=g)):=by
  have hgn:=hKF.o.2.2.2.1;refine ⟨.slice (some ⟨g',0,none⟩) (ms.length+1) cap',gI ms i ((t,b),(node,other,name)),⟨?_,⟨L',hL',by rw [hlen'] at hown' |-;exact hown'⟩,⟨n',zo,hM'⟩,hHi.o.1,hHi.o.2⟩,kS _ _ _,?_,?_⟩
  ·exact (hk'.block bt hKF.o.2.2.2.2.2 (fun e=>e.elim (fun e=>hKF.o.2.2.2.2.1 e.symm) (fun e=>hgn e.symm))).trans hKF.o.2.1
  ·refine hKF.o.1.then hk' (fun k hk e=> ?_)
   rcases e with e | e
   ·exact .inr (.inl e)
   rcases hKF.o.2.2.1 with h | h
   ·exact .inr (.inr (by rw [e];exact h))
   omega
  rcases hKF.o.2.2.1 with h | h
  ·exact .inl h
  exact .inr (fun g hg=>by cases hg;exact h)
 clear hL' hown' hM' hk' hKF hHi hn';go_wp2;go_ret;exact ⟨rfl,FIN.o⟩
end
section
open Go.RowKit Go.Shelf Go.Maps
attribute [local go_sem] Oper.semAt_some
theorem Ld (p q:Plc) (w:World):(Op.equalIn 10000 106 (.agg #[.int .i64 p.1,.int .i64 p.2.1,.string p.2.2]) (.agg #[.int .i64 q.1,.int .i64 q.2.1,.string q.2.2])).run prog w= .ok (decide (p=q)) w:=by
 obtain ⟨a,b,s⟩:=p;obtain ⟨a',b',s'⟩:=q
 have hs:∀x y:ByteArray,x.toList=y.toList↔x=y:=fun x y=>⟨fun h=>by rw [uH,uH] at h;exact WideShapes.bytes_inj h,fun h=>by rw [h]⟩
 go_simp;by_cases h1:a=a'<;>by_cases h2:b=b'<;>by_cases h3:s=s'<;>simp [h1,h2,h3]
theorem Keeps.grownFrom {S:Nat->Prop} {w X Y:World} {row:Option Nat} (h:Keeps S w X) (hg:X.grownBy Y row) (hr:∀r,row=some r->w.heap.size<=r):Keeps S w Y:=
 h.then (aP hg) (fun i hi e=>by have:=hr i e.symm;omega)
theorem EP (w:World) (bt bm g off cap at_ len n:Nat) (ao bo:Option Addr) (L:List Ent) (F:Nat->Sta) (hat:at_<=len) (hll:len - at_=L.length) (hlen:len<=1000) (hn:n<=1000000) (hm0:w.cell? ⟨bt,0,none⟩=some (.map (some bm))) (hsl:w.cell? ⟨bt,1,none⟩=some (.slice ao len cap))
  (hbo:(if cap=at_ then ao else Option.map (fun x=>x.add (at_*8)) ao)=bo) (hao:L= []\/bo=some ⟨g,off,none⟩) (hg:g<w.heap.size) (hgm:g≠bm) (hrow:RowAt w g off L) (hM:MapAt prog 3 w bm n (F 0))
  (hF:∀r,r<L.length->IP (F r) (cE L r).1.2.1 (cE L r).2=F (r+1)) (hwf:∀r,Wf (cE L r).1.2.1):
  Calls prog 188 #[.pointer (some ⟨bt,0,none⟩),.int .i64 (at_:Int)] w fun e w'=>(∃v,e= .returned v)/\MapAt prog 3 w' bm (n+L.length) (F L.length)/\Keeps (fun k=>k=bm) w w':=by
 have hbt:bt<w.heap.size:=block_lt_of_cell hsl;have hbm:bm<w.heap.size:=hM.lt
 have htm:bt≠bm:=by
  intro e;obtain ⟨es,ck,hb⟩:=hM.block;rw [<-e] at hb;simp [World.cell?,hb] at hm0
 have hsl3:∀o1,(w.alloc o1).cell? ⟨bt,1,none⟩=some (.slice ao len cap):=fun o1=>
  (((vP w.heap.size w).alloc zg o1).cell (p:=⟨bt,1,none⟩) hbt).trans hsl
 refine (callsIn_wide (n:=4)).1 ?_;refine callsIn_of_wp_marks func188 rfl trivial ?_ rfl;simp only [ntmps188,uA,uu,uM,Nat.reduceAdd,Nat.reduceSub,uT,uU,Zh,uX,Zb,Zl];gi_wp2_with (refine ⟨trivial,?_⟩;gi_at_call 227;refine (DV Fence.wide (4 - 1) trivial rfl _ _ _ _).mono ?_;rintro e w' ⟨rfl,rfl⟩);obtain ⟨w2,hw2⟩:=zc ((w.alloc (.cells #[.pointer (some ⟨bt,0,none⟩)] 66)).alloc (.cells #[.slice bo L.length (cap - at_)] 185));rw [<-hw2]
 have hB0:Below w.heap.size w w2:=by rw [hw2];exact ((vP w.heap.size w).alloc zg _).alloc zv _
 have hs2:w2.heap.size=w.heap.size+2:=by rw [hw2];simp
 obtain ⟨B,hB⟩:=zc w.heap.size
 have e1:Boxed w2 B 66 (.pointer (some ⟨bt,0,none⟩)):=by rw [hw2,hB];exact (LH w _ _).1
 have e2:Boxed w2 (B+1) 185 (.slice bo L.length (cap - at_)):=by rw [hw2,hB];exact (LH w _ _).2
 rw [<-hB] at hB0 hs2 hg hbt hbm |-
 have HB:Aside (B=w.heap.size):=hB;have hBw:B<=w.heap.size:=zo;clear hB;have hrow2:RowAt w2 g off L:=hrow.same (hB0.block g hg);have hM2:=hM.same (hB0.block bm hbm);have hk2:Keeps (fun k=>k=bm) w w2:=(aW hB0).mono (fun k hk e=>vK);clear hw2 hsl3 hrow hM hbo
 refine wpIn_rangeFunc_ownH rfl zo (gf:=282) (lb:= #[.pointer (some ⟨B+1,0,none⟩)]) rfl trivial (enters_of func282 zq rfl)
  (nI Fence.wide (4 - 1) trivial rfl zo (B+1) g off (cap - at_) bo L zo hao w2 zo zo e2.cell hrow2) KeepTwo.trans (fun W l o o' hl _ _ _=>KeepTwo.put (N:=w2.heap.size) zo zo W l o' hl) (vP _ _) (fun _=>rfl)
  (fun pre W=>((∃f,MapAt prog 3 W bm (n+pre.length) f/\(pre=List.range pre.length->f=F pre.length))/\Boxed W B 66 (.pointer (some ⟨bt,0,none⟩))/\w2.heap.size<=W.heap.size)/\Keeps (fun k=>k=bm) w W)
  (fun _ _ _=>False)
  (fun pre X Y row hs hg hr=>by
   obtain ⟨⟨⟨f,q1,q2⟩,q3,q4⟩,q5⟩:=hs
   have hne:some bm≠row:=fun e=>by have:=(hr bm e.symm).1;omega
   exact ⟨⟨⟨f,q1.same (hg.block bm q1.lt hne),q2⟩,bw q3 hg (fun r e=>(hr r e).2),uf q4 hg.size⟩,q5.grownFrom hg (fun r e=>by have:=(hr r e).1;have:=HB.o;omega)⟩)
  (fun _ _ _ _ _ hs _ _=>hs)
  ⟨⟨⟨F 0,hM2,fun _=>rfl⟩,e1,vM _⟩,hk2⟩
  (fun x a' W=>∃Bx,w2.heap.size<=Bx/\EntAt W Bx (cE L x)/\a'= {tmps:= #[.pointer (some ⟨bt,0,none⟩),.int .i64 (at_:Int),.pointer (some ⟨B,0,none⟩),undef,undef,.pointer (some ⟨Bx,0,none⟩),.pointer (some ⟨bt,0,none⟩),.pointer (some ⟨bt,0,none⟩),.pointer (some ⟨bt,1,none⟩),.slice ao len cap,.int .i64 (at_:Int),.slice bo L.length (cap - at_),.func (.func 282) #[] #[.pointer (some ⟨B+1,0,none⟩)],.int .i64 ((L.length - 1 - x:Nat):Int),.agg #[.int .i64 (cE L x).1.1.1,.int .i64 (cE L x).1.1.2,.int .i64 (cE L x).1.2.1,.int .i64 (cE L x).1.2.2.1,.string (cE L x).1.2.2.2,.int .i64 (cE L x).2.1,.int .i64 (cE L x).2.2.1,.string (cE L x).2.2.2],undef,undef,undef,undef,undef,undef,undef,undef,undef,undef,undef,undef,undef,undef,undef,undef,undef,undef,undef,undef],defers:=[]})
  (fun x a'=>Own.from (fun _ X Y row hs hg hr=>yi) _)
  ?assign ?body ?done ?stop
 case assign=>
  rintro l pre x W K ⟨⟨⟨f,hf,hfp⟩,hr1,hsz⟩,hkW⟩ hK;have hK':Aside _:=hK;have hBs:B<=W.heap.size:=zo;clear hK;unfold Ko;gi_wp2;refine hK'.o _ _ ((KeepsOthers.alloc _ _).from _) ⟨vZ _ _ _ zo,vZ _ _ _ zo⟩ ⟨⟨⟨f,hf.same (vZ _ _ _ hf.lt),hfp⟩,hr1.alloc _,zr⟩,hkW.alloc _⟩ ⟨W.heap.size,zo,heap_alloc_new W _,rfl⟩
 case body=>
  rintro l pre x a' W hl _ ⟨⟨⟨f,hf,hfp⟩,hr1,hsz⟩,hkW⟩ ⟨Bx,hBx,hE,rfl⟩ hlt;have hwx:=hwf x;obtain ⟨y,hy⟩:=zc (cE L x)
  rw [<-hy] at hE hwx |-
  have hFx:x=pre.length->IP (F pre.length) y.1.2.1 y.2=F (pre.length+1):=fun e=>by rw [hy,e];exact hF pre.length hlt
  clear hF hwf hy;obtain ⟨⟨⟨y1,y2⟩,y3,y4,y5⟩,y6,y7,y8⟩:=y
  dsimp only at hwx hFx |-
  have g1:=hr1.cell;have f2:=hE.cell 2 (u:=.int .i64 y3) rfl;have f5:=hE.cell 5 (u:=.int .i64 y6) rfl;have f6:=hE.cell 6 (u:=.int .i64 y7) rfl;have f7:=hE.cell 7 (u:=.string y8) rfl;have htc:W.cell? ⟨bt,0,none⟩=some (.map (some bm)):=(hkW.cell (a:=⟨bt,0,none⟩) (by show bt<_;omega) htm).trans hm0
  have fin:∀(w1:World) (f':Sta),W.drew.grownBy w1 (some bm)->MapAt prog 3 w1 bm (n+pre.length+1) f'->f'=IP f y3 (y6,y7,y8)->
    Aside (KeepsFrom w2.heap.size W w1/\KeepTwo g (B+1) W w1/\((∃f,MapAt prog 3 w1 bm (n+(pre++ [x]).length) f/\(pre++ [x]=List.range (pre++ [x]).length->f=F (pre++ [x]).length))/\Boxed w1 B 66 (.pointer (some ⟨bt,0,none⟩))/\w2.heap.size<=w1.heap.size)/\Keeps (fun k=>k=bm) w w1):=fun w1 f' hg1 hM1 hf1=>by
   have hg1':W.grownBy w1 (some bm):=⟨hg1.os,hg1.tape,hg1.output,hg1.size,hg1.block⟩
   have hsz1:=hg1'.size;refine ⟨KeepsFrom.of_grownBy hg1' (fun j e=>by cases e;omega),⟨hg1'.block g zo (by simpa using hgm),hg1'.block (B+1) zo zr⟩,⟨⟨f',by rw [ub,Zp,<-Zc];exact hM1,fun hp=> ?_⟩,hr1.kept hg1' zr,zo⟩,hkW.then (aP hg1') (fun i _ e=>yD)⟩;obtain ⟨hp1,hp2⟩:=gX hp;rw [hf1,hfp hp1,ub,Zp,hFx hp2]
  have hBxm:Bx≠bm:=zo;have hBxW:Bx<W.heap.size:=(vO.1 hE).1
  have cells1:∀w1:World,W.drew.grownBy w1 (some bm)->Aside (w1.cell? ⟨B,0,none⟩=some (.pointer (some ⟨bt,0,none⟩))/\w1.cell? ⟨bt,0,none⟩=some (.map (some bm))/\w1.cell? ⟨Bx,2,none⟩=some (.int .i64 y3)/\w1.cell? ⟨Bx,5,none⟩=some (.int .i64 y6)/\w1.cell? ⟨Bx,6,none⟩=some (.int .i64 y7)/\w1.cell? ⟨Bx,7,none⟩=some (.string y8)):=fun w1 hg1=>by
   have hb:∀k,k<W.heap.size->k≠bm->∀o,w1.cell? ⟨k,o,none⟩=W.cell? ⟨k,o,none⟩:=fun k hk hne o=>uk (a:=⟨k,o,none⟩) (hg1.block k hk (by simpa using hne))
   exact ⟨(hb B zo zo 0).trans g1,(hb bt zo htm 0).trans htc,(hb Bx hBxW hBxm 2).trans f2,(hb Bx hBxW hBxm 5).trans f5,(hb Bx hBxW hBxm 6).trans f6,(hb Bx hBxW hBxm 7).trans f7⟩
  by_cases he:((y6,y7,y8):Plc)=cV
  ·have hq:∀w',(Op.equalIn 10000 106 (.agg #[.int .i64 y6,.int .i64 y7,.string y8]) (.agg #[.int .i64 0,.int .i64 0,.string ⟨#[]⟩])).run prog w'= .ok true w':=fun w'=>by
    have:=Ld (y6,y7,y8) cV w';rw [decide_eq_true he] at this;exact this
   obtain ⟨w1,hrun,hM1,ht1⟩:=(show MapAt prog 3 W.drew bm (n+pre.length) f from hf).drop (T:=184) (E:=106) underlying3 underlying184 hwx 0;have X1:=cells1 w1 ht1.grown;have FIN:=fin w1 (upd f y3 none) ht1.grown (hM1.mono (Nat.le_succ _)) (by rw [he];unfold IP;rw [if_pos rfl]);clear he fin hM1 ht1 hf hfp hkW hM2 hk2 hrow2 e1 e2 hB0 hE hr1 hao hsl hm0 hll hat hlen hn hsz hBx hl hs2 hbm hbt hg htm hgm hBw HB hwx hlt hFx cells1 hBxm hBxW;gi_wp2;refine fl (S:=(fun w'=>w'.cell? ⟨B,0,none⟩=some (.pointer (some ⟨bt,0,none⟩))/\w'.cell? ⟨bt,0,none⟩=some (.map (some bm))/\w'.cell? ⟨Bx,2,none⟩=some (.int .i64 y3))) zq zq (by rintro ⟨_,_,h⟩;exact h) ⟨g1,htc,f2⟩ (fun hHeld=> ?_);refine tk 0 hHeld ?_ (hy:=Or.inl ⟨zA,zK⟩);refine tk 1 hHeld ?_ (hy:=Or.inl ⟨zA,zK⟩);refine tk 2 hHeld ?_ (hy:=Or.inl ⟨zA,zK⟩);refine tk 3 hHeld ?_ (hy:=Or.inl ⟨zA,zK⟩);refine tk 4 hHeld ?_ (hy:=Or.inl ⟨zA,zK⟩);refine tk 5 hHeld ?_ (hy:=Or.inl ⟨zA,zK⟩);refine tk 6 hHeld ?_ (hy:=Or.inl ⟨zA,zK⟩);refine aY (i:=7) zq rfl (fun K hK=> ?_);go_simp;refine hK _ _ ⟨X1.o.1,X1.o.2.1,X1.o.2.2.1⟩ ?_;exact ks8
  have hq:∀w',(Op.equalIn 10000 106 (.agg #[.int .i64 y6,.int .i64 y7,.string y8]) (.agg #[.int .i64 0,.int .i64 0,.string ⟨#[]⟩])).run prog w'= .ok false w':=fun w'=>by
   have:=Ld (y6,y7,y8) cV w';rw [decide_eq_false he] at this;exact this
  obtain ⟨w1,hrun,hM1,ht1⟩:=(show MapAt prog 3 W.drew bm (n+pre.length) f from hf).store (T:=184) (E:=106) underlying3 underlying184 zH hwx (y6,y7,y8);unfold kE at hrun;dsimp only at hrun;have X1:=cells1 w1 ht1.grown;have FIN:=fin w1 (upd f y3 (some (y6,y7,y8))) ht1.grown hM1 (by unfold IP;rw [if_neg he]);clear he fin hM1 ht1 hf hfp hkW hM2 hk2 hrow2 e1 e2 hB0 hE hr1 hao hsl hm0 hll hat hlen hn hsz hBx hl hs2 hbm hbt hg htm hgm hBw HB hwx hlt hFx cells1 hBxm hBxW;gi_wp2;refine fl (S:=(fun w'=>w'.cell? ⟨B,0,none⟩=some (.pointer (some ⟨bt,0,none⟩))/\w'.cell? ⟨bt,0,none⟩=some (.map (some bm))/\w'.cell? ⟨Bx,2,none⟩=some (.int .i64 y3)/\w'.cell? ⟨Bx,5,none⟩=some (.int .i64 y6)/\w'.cell? ⟨Bx,6,none⟩=some (.int .i64 y7)/\w'.cell? ⟨Bx,7,none⟩=some (.string y8))) zq zq (by rintro ⟨_,_,h⟩;exact h) ⟨g1,htc,f2,f5,f6,f7⟩ (fun hHeld=> ?_);refine tk 0 hHeld ?_ (hy:=Or.inl ⟨zA,zF⟩);refine tk 1 hHeld ?_ (hy:=Or.inl ⟨zA,zF⟩);refine tk 2 hHeld ?_ (hy:=Or.inl ⟨zA,zF⟩);refine tk 3 hHeld ?_ (hy:=Or.inl ⟨zA,zF⟩);refine tk 4 hHeld ?_ (hy:=Or.inl ⟨zA,zF⟩);refine tk 5 hHeld ?_ (hy:=Or.inl ⟨zA,zF⟩);refine tk 6 hHeld ?_ (hy:=Or.inl ⟨zA,zF⟩);refine tk 7 hHeld ?_ (hy:=Or.inl ⟨zA,zF⟩);refine tk 8 hHeld ?_ (hy:=Or.inl ⟨zA,zF⟩);refine aY (i:=9) zq rfl (fun K hK=> ?_);go_simp;refine hK _ _ ⟨X1.o.1,X1.o.2.1,X1.o.2.2.1,X1.o.2.2.2.1,X1.o.2.2.2.2.1,X1.o.2.2.2.2.2⟩ ?_;exact ks8
 case done=>
  rintro D ys W hD rfl ⟨⟨⟨f,hf,hfp⟩,hr1,hsz⟩,hkW⟩ hK;have hfF:=hfp zv;subst hfF;gi_wp2;refine ⟨zv,.inl ⟨_,_,rfl,run_takeDeferred hK,?_⟩⟩;have hgp:=grownBy_putObj' W D (.deferred none);refine ⟨.tuple #[],by simp [results,f188,go_sem],⟨_,rfl⟩,?_,hkW.grownFrom hgp (fun r e=>by cases e;have:=HB.o;omega)⟩;have:=hf.same (hgp.block bm hf.lt zr);simpa using this
 case stop=>
  exact kp0
end
section
open Go.RowKit Go.Maps
open scoped Classical
theorem Iz (w:World) (base bt bm n at_:Nat) (v:Value) (ms:List Mov) (L:List Ent) (hT:TreeCell w bt bm v) (hL:LogTo ms ms.length L) (hR:w.ownsRow base 284 8 v ms.length (aA gG L)) (hM:MapAt prog 3 w bm n (aN ms)) (hfine:∀m∈ms,FineP m.2) (hat:at_<=ms.length) (hlen:ms.length<=1000) (hn:n<=1000000):
  Calls prog 188 #[.pointer (some ⟨bt,0,none⟩),.int .i64 (at_:Int)] w fun e w'=>(∃u,e= .returned u)/\MapAt prog 3 w' bm (n+(ms.length - at_)) (aN (ms.take at_))/\Keeps (fun k=>k=bm) w w':=by
 have hll:(L.drop at_).length=ms.length - at_:=by rw [uy,hL.len]
 have hent:∀r,r<ms.length - at_->∃x,cE (L.drop at_) r=x/\L[ms.length - 1 - r]? =some x:=fun r hr=>by
  have:=oA (L:=L.drop at_) (r:=r) zo;rw [uV,hll] at this;exact ⟨_,rfl,by rw [<-this];congr 1;omega⟩
 have hF:∀r,r<(L.drop at_).length->IP (aN (ms.take (ms.length - r))) (cE (L.drop at_) r).1.2.1 (cE (L.drop at_) r).2=aN (ms.take (ms.length - (r+1))):=fun r hr=>by
  obtain ⟨x,h1,h2⟩:=hent r zo;rw [h1];have hmx:=hL.mov h2;have hfr:=hL.from_ _ x zo h2;rw [mY hmx] at hfr;have hmt:=rm hmx;have hg:gr (aN (ms.take (ms.length - 1 - r))):=fq (fun m hm=>hfine m (ZB hm));rw [show ms.length - 1 - r+1=ms.length - r by omega] at hmt;rw [hmt,hfr,show ms.length - (r+1)=ms.length - 1 - r by omega];exact DL hg
 have hwf:∀r,Wf (cE (L.drop at_) r).1.2.1:=fun r=>by
  by_cases hr:r<ms.length - at_
  ·obtain ⟨x,h1,h2⟩:=hent r hr;rw [h1];exact (kX (hfine _ (vQ (hL.mov h2)))).1
  by_cases h0:(L.drop at_).length=0
  ·have:L.drop at_= []:=uh.1 h0;rw [this];exact (show Wf 0 from og zu zu)
  have hz:(L.drop at_)[(L.drop at_).length - 1 - r]? =some (cE (L.drop at_) r):=by
   exact kj8
  rw [uV] at hz;exact (kX (hfine _ (vQ (hL.mov hz)))).1
 have h0:aN (ms.take (ms.length - 0))=aN ms:=by rw [Nat.sub_zero,Zu]
 have hM0:MapAt prog 3 w bm n ((fun r=>aN (ms.take (ms.length - r))) 0):=by show MapAt _ _ _ _ _ (aN (ms.take (ms.length - 0)));rw [h0];exact hM
 have fin:∀g off (ao bo:Option Addr) (cap:Nat),v= .slice ao ms.length cap->(if cap=at_ then ao else Option.map (fun x=>x.add (at_*8)) ao)=bo->(L.drop at_= []\/bo=some ⟨g,off,none⟩)->g<w.heap.size->g≠bm->RowAt w g off (L.drop at_)->
   Calls prog 188 #[.pointer (some ⟨bt,0,none⟩),.int .i64 (at_:Int)] w fun e w'=>(∃u,e= .returned u)/\MapAt prog 3 w' bm (n+(ms.length - at_)) (aN (ms.take at_))/\Keeps (fun k=>k=bm) w w':=fun g off ao bo cap hv hbo hao hg hgm hrow=>by
  refine (EP w bt bm g off cap at_ ms.length n ao bo (L.drop at_) (fun r=>aN (ms.take (ms.length - r))) hat hll.symm hlen hn hT.c0 (by rw [<-hv];exact hT.c1) hbo hao hg hgm hrow hM0 hF hwf).mono ?_;rintro e w' ⟨h1,h2,h3⟩;rw [hll] at h2;rw [show ms.length - (ms.length - at_)=at_ by omega] at h2;exact ⟨h1,h2,h3⟩
 have hempty:ms.length=at_->L.drop at_= []:=fun h=>uh.1 (by rw [hll];omega)
 have hRow0:L.drop at_= []->∀g off,RowAt w g off (L.drop at_):=fun h g off j u hj=>by rw [h] at hj;simp [aA] at hj
 rcases hR.2 with ⟨hv,h0⟩ | ⟨g,cap,cur,hv,_,hg,hnc,_⟩
 ·exact fin bt 0 none none 0 (by rw [hv,h0]) zv (.inl (hempty zo)) hT.lt (hT.ne_map hM) (hRow0 (hempty zo) _ _)
 subst hv;have hgl:g<w.heap.size:=(vO.1 hg).1;have hgm:=eA hR hM;by_cases hc:cap=at_
 ·exact fin g 0 (some ⟨g,0,none⟩) _ cap rfl rfl (.inl (hempty zo)) hgl hgm (hRow0 (hempty zo) _ _)
 refine fin g (at_*8) (some ⟨g,0,none⟩) (some ⟨g,at_*8,none⟩) cap rfl (by rw [if_neg hc,Zs,Addr.add_lit,vY]) (.inr rfl) hgl hgm (fun j u hj=> ?_);have:=AQ hR (at_*8+j) u (by rw [<-dx fO L at_ (by rw [hL.len];exact hat),uV] at hj;exact hj);rwa [vY] at this
theorem DX:Hg:=Iz
end
section
open Go.RowKit Go.Maps
open scoped Classical
theorem Cv (x:OpX) (w:World) (h:an x=0):Calls prog 123 #[aD x] w fun e w'=>e= .returned (.int .i64 (idO x))/\Below w.heap.size w w':=by
 have h0:=ir h;obtain ⟨t,b,n,k,nd,o,s,v⟩:=x;unfold aD idO;dsimp only;have h1:1<=t:=h0.1;have h2:t<=1073741824:=h0.2.1;have h3:0<=b:=h0.2.2.1;have h4:b<4:=h0.2.2.2;exact kg7
