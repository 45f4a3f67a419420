import Derived.Test.YtebpcnkdhgnghaaGreatDoorPA12
import Derived.Test.YtebpcnkdhgnghaaGreatDoorPA15
import Derived.Test.YtebpcnkdhgnghaaGreatDoorPA17
import Derived.Test.YtebpcnkdhgnghaaGreatDoorPA18
set_option linter.unusedSimpArgs false
set_option linter.unusedVariables false
set_option maxRecDepth 100000
set_option maxHeartbeats 64000000
namespace Go.Proofs.YtebpcnkdhgnghaaGreatDoor
open Go.Proofs.Tryz
variable {T T' by_:Int} {xs:List Int} {ms:List Mov} {A A':List OpX} {B bc br bt bx cm i k nx p:Nat} {c':Nat→Nat} {kv:Nat→Value} {o:OpX} {ao:Option Addr} {R:Rws} {tx:kw} {w w' w1:World}
section
open Go.RowKit Go.Maps
open scoped Classical
theorem LA (w:World) (base bt bm n:Nat) (v:Value) (ms:List Mov) (L:List Ent) (s:Int×Int) (hT:TreeCell w bt bm v) (hL:LogTo ms ms.length L) (hR:w.ownsRow base 300 8 v ms.length (aB gW L)) (hby:bL ms) (hlen:ms.length<=1000) (_hM:MapAt prog 3 w bm n (aH ms)):
  Calls prog 199 #[.pointer (some ⟨bt,0,none⟩),.agg #[.int .i64 s.1,.int .i64 s.2]] w fun e w'=>(∃(i:Nat) (b:Bool),e= .returned (.tuple #[.int .i64 (i:Int),.bool b])/\sI ms s i b)/\Below w.heap.size w w':=by
 have hll:=hL.len
 rcases hR.2 with ⟨hv,h0⟩ | ⟨g,cap,cur,hv,_,hg,hnc,_⟩
 ·have hL0:L= []:=ve.1 zj
  subst hv
  exact wd w bt bt 0 none L ms s hL.movs hby zj (by rw [hll,h0];exact hT.c1) (.inl hL0) hT.lt (fun j u hj=>by rw [hL0] at hj;simp [aB] at hj)
 subst hv
 exact wd w bt g cap (some ⟨g,0,none⟩) L ms s hL.movs hby zj (by rw [hll];exact hT.c1) (.inr rfl) (jJ.1 hg).1 (wl hR)
theorem nc (hU:Ju) {ad:Nat->Addr} (w:World) (base bt bm:Nat) (v:Value) (ms:List Mov) (t b n node other:Int) (name value:ByteArray) (hE:Op4 ad w) (hT:TreeAt base w bt bm v ms) (hbase:base<=w.heap.size) (hlen:ms.length<=250)
  (hsn:name.size<=1000000) (hsv:value.size<=1000000) (hop:opE t b n 109 node other name.data.toList value.data.toList=0) (hnew:∀m∈ms,m.1≠(t,b)):
  Calls prog 137 #[.pointer (some ⟨bt,0,none⟩),.agg #[.int .i64 t,.int .i64 b,.int .i64 n,.int .u8 109,.int .i64 node,.int .i64 other,.string name,.string value]] w fun e w'=>e= .returned .nilIface/\∃v' ms',TreeAt base w' bt bm v' ms'/\ms'.Perm (((t,b),(node,other,name))::ms)/\Keeps (fun k=>k=bt\/k=bm\/some k=v.ownBlock) w w'/\(v'.ownBlock=v.ownBlock\/∀g,v'.ownBlock=some g->w.heap.size<=g):=by
 have hbx:∀o,Below w.heap.size w (w.alloc o):=fun o=>(jN _ w).alloc zg o
 obtain ⟨w1,hw1⟩:=za (w.alloc (.cells #[.int .i64 t,.int .i64 b,.int .i64 n,.int .u8 109,.int .i64 node,.int .i64 other,.string name,.string value] 61))
 have O1:OpAt w1 w.heap.size t b n 109 node other name value:=by rw [hw1];exact OpAt.new w t b n 109 node other name value 61
 have B1:Below w.heap.size w w1:=by rw [hw1];exact hbx _
 have hck:=bX t b n 109 node other name value w1 (hE.later B1) hsn hsv
 rw [hop] at hck
 have e0:eV ad 0= .nilIface:=rfl
 rw [e0] at hck
 have s1:w1.heap.size=w.heap.size+1:=xf
 have H1:Aside (OpAt w1 w.heap.size t b n 109 node other name value/\TreeAt base w1 bt bm v ms/\Below w.heap.size w w1):=⟨O1,hT.later B1,B1⟩
 have HT:Aside (TreeAt base w bt bm v ms):=hT
 clear hT B1 hE hbx e0
 go_enter func137,ntmps137
 go_wp2_with fail
 rw [<-hw1]
 clear hw1 O1
 refine hck.mono ?_
 clear hck
 rintro e w2 ⟨rfl,hb2⟩
 have H2:Aside (OpAt w2 w.heap.size t b n 109 node other name value/\TreeAt base w2 bt bm v ms/\Below w.heap.size w w2/\w.heap.size+1<=w2.heap.size):=⟨H1.o.1.later hb2,H1.o.2.1.later hb2,zi H1.o.2.2 hb2,by have:=hb2.size;omega⟩
 clear hb2 H1
 obtain ⟨c0,c1,c2,c3,c4,c5,c6,c7⟩:=H2.o.1
 have c3:w2.cell? ⟨w.heap.size,3,none⟩=some (.int .u8 109):=c3
 go_wp2_with fail
 obtain ⟨L,hL,hR⟩:=H2.o.2.1.row
 obtain ⟨nn,hnn,hM⟩:=H2.o.2.1.map
 refine (LA w2 base bt bm nn v ms L (t,b) H2.o.2.1.cell hL hR H2.o.2.1.by_ zj hM).mono ?_
 rintro e w3 ⟨⟨i,bo,rfl,hF⟩,hb3⟩
 obtain ⟨rfl,hil,hF1,hF2⟩:=FW hF hnew
 have H3:Aside (OpAt w3 w.heap.size t b n 109 node other name value/\TreeAt base w3 bt bm v ms/\Below w.heap.size w w3/\w.heap.size+1<=w3.heap.size/\(∀x∈ms.take i,SLt x.1 (t,b))/\(∀x∈ms.drop i,SLt (t,b) x.1)):=⟨H2.o.1.later hb3,H2.o.2.1.later hb3,zi H2.o.2.2.1 hb3,by have:=H2.o.2.2.2;have:=hb3.size;omega,hF1,hF2⟩
 clear hb3 H2 hF hF1 hF2 c0 c1 c2 c3 c4 c5 c6 c7 hM hR hL hnn
 clear L nn
 go_wp2_with fail
 obtain ⟨L,hL,hR⟩:=H3.o.2.1.row
 obtain ⟨nn,hnn,hM⟩:=H3.o.2.1.map
 refine (hU w3 base bt bm nn i v ms L H3.o.2.1.cell hL hR hM H3.o.2.1.fine hil zj zj).mono ?_
 rintro e w4 ⟨⟨u,rfl⟩,hM4,hk4⟩
 have hsz4:=hk4.size
 have htl:=H3.o.2.1.lt
 have htm:=H3.o.2.1.cell.ne_map hM
 have hbxm:w.heap.size≠bm:=by
  intro e
  obtain ⟨es,ck,hb⟩:=hM.block
  have:=H3.o.1.c0
  rw [e] at this
  simp [World.cell?,hb] at this
 have hT4:TreeCell w4 bt bm v:=(hk4.block bt htl.1 htm).trans H3.o.2.1.cell
 have hR4:w4.ownsRow base 300 8 v ms.length (aB gW L):=cg hR (fun g hg=>hk4.block g (htl.2.2 g hg) (by
  rcases hR.2 with ⟨hv,_⟩ | ⟨g',cap',cur,hv,_⟩
  ·rw [hv] at hg;cases hg
  ·subst hv;cases hg;exact eF hR hM))
 have hbB:w.heap.size<w3.heap.size:=by have:=H3.o.2.2.2.1;omega
 have hB4:w4.heap[w.heap.size]? =w3.heap[w.heap.size]? :=hk4.block _ hbB hbxm
 have O4:OpAt w4 w.heap.size t b n 109 node other name value:=by
  have h:=fun o=>vi (a:=⟨w.heap.size,o,none⟩) hB4
  exact ⟨(h 0).trans H3.o.1.c0,(h 1).trans H3.o.1.c1,(h 2).trans H3.o.1.c2,(h 3).trans H3.o.1.c3,(h 4).trans H3.o.1.c4,(h 5).trans H3.o.1.c5,(h 6).trans H3.o.1.c6,(h 7).trans H3.o.1.c7⟩
 have hK4:Keeps (fun k=>k=bt\/k=bm\/some k=v.ownBlock) w w4:=((aV H3.o.2.2.1).mono (fun k hk e=>zj)).then hk4 (fun k _ e=>.inr (.inl e))
 obtain ⟨c0,c1,c2,c3,c4,c5,c6,c7⟩:=O4
 have c3:w4.cell? ⟨w.heap.size,3,none⟩=some (.int .u8 109):=c3
 have t1:=hT4.c1
 have z1:=hT4.fz 1
 go_wp2_with fail
 obtain ⟨B,hB⟩:=za w.heap.size
 rw [<-hB] at c0 c1 c2 c3 c4 c5 c6 c7 hbB hbxm |-
 have HB:Aside (B=w.heap.size):=hB
 clear hB
 have hbtg:∀g,v.ownBlock=some g->g≠bt/\g≠bm/\g<w4.heap.size:=fun g hg=>by
  rcases hR4.2 with ⟨hv,_⟩ | ⟨g',cap',cur,hv,_⟩
  ·rw [hv] at hg;cases hg
  subst hv;cases hg;exact ⟨gJ hR4 hT4,eF hR4 hM4,(hR4.lt _ rfl).2⟩
 have hxw:∀X:World,X=(w4.alloc (.cells #[.int .i64 t,.int .i64 b,.int .i64 node,.int .i64 other,.string name,.int .i64 0,.int .i64 0,.string ⟨#[]⟩] 300)).drew->Calls prog 201 #[v,.int .i64 (i:Int),.slice (some ⟨w4.heap.size,0,none⟩) 1 1] X
   fun e w'=>∃g' cap',e= .returned (.slice (some ⟨g',0,none⟩) (ms.length+1) cap')/\Aside (w'.ownsRow base 300 8 (.slice (some ⟨g',0,none⟩) (ms.length+1) cap') (ms.length+1) (aB gW (ES L i (((t,b),(node,other,name)),cZ)))/\Keeps (fun k=>some k=v.ownBlock) w4 w'/\(some g'=v.ownBlock\/w4.heap.size<=g'))/\w'.cell? ⟨bt,1,none⟩=some v/\w'.frozen? ⟨bt,1,none⟩=false/\(w'.cell? ⟨B,0,none⟩=some (.int .i64 t)/\w'.cell? ⟨B,1,none⟩=some (.int .i64 b)/\w'.cell? ⟨B,4,none⟩=some (.int .i64 node)/\w'.cell? ⟨B,5,none⟩=some (.int .i64 other)/\w'.cell? ⟨B,6,none⟩=some (.string name)/\w'.cell? ⟨bt,1,none⟩=some v):=by
  rintro X rfl
  obtain ⟨Y,hY⟩:=za ((w4.alloc (.cells #[.int .i64 t,.int .i64 b,.int .i64 node,.int .i64 other,.string name,.int .i64 0,.int .i64 0,.string ⟨#[]⟩] 300)).drew)
  have hnb:Y.heap[w4.heap.size]? =some (.cells #[.int .i64 t,.int .i64 b,.int .i64 node,.int .i64 other,.string name,.int .i64 0,.int .i64 0,.string ⟨#[]⟩] 300 (0,0)):=by rw [hY];exact heap_alloc_new w4 _
  have hYk:Keeps (fun _=>False) w4 Y:=by rw [hY];exact ((Keeps.refl _ w4).alloc _).drew
  have hYs:Y.heap.size=w4.heap.size+1:=by rw [hY];simp
  have hRY:=cg (w':=Y) hR4 (fun g hg=>hYk.block g (hbtg g hg).2.2 (fun e=>e))
  rw [<-hY]
  refine (Cs Y base ms.length i v (aB gW L) (gW (((t,b),(node,other,name)),cZ)) hRY zj w4.heap.size rfl (fun j u hj=> ?_) (AB _) (lS AB L) (fun e=>by have:=(hbtg _ e.symm).2.2;omega) ?_ (fun j=> ?_) (by have:=hK4.size;omega) hil).mono ?_
  ·simp only [World.cell?,hnb]
   rw [<-hj]
   simp [gW,cZ]
  ·simp [World.shape?,hnb]
  ·simp [World.frozen?,hnb]
  rintro e w' ⟨v',rfl,ho,hk,hv'⟩
  obtain ⟨g',cap',rfl⟩:=ownsRow_succ ho
  have hkk:Keeps (fun k=>some k=v.ownBlock) w4 w':=(hYk.mono (fun _ _ e=>e.elim)).trans hk
  have hTb:=hkk.block bt zj (fun e=>(hbtg bt e.symm).1 rfl)
  have hT5:TreeCell w' bt bm v:=hTb.trans hT4
  rw [<-AM eA L i (by rw [hL.len];exact hil)] at ho
  have hBb:=hkk.block B zj (fun e=>by have:=HT.o.lt.2.2 B e.symm;have:=HB.o;omega)
  have hBc:=fun o=>vi (a:=⟨B,o,none⟩) hBb
  refine ⟨g',cap',rfl,⟨ho,hkk,?_⟩,hT5.c1,hT5.fz 1,(hBc 0).trans c0,(hBc 1).trans c1,(hBc 4).trans c4,(hBc 5).trans c5,(hBc 6).trans c6,hT5.c1⟩
  rcases hv' with e | e
  ·exact .inl e
  right
  have:g'=Y.heap.size:=by simpa [Value.ownBlock] using e
  omega
 have t1a:∀o,(w4.alloc o).cell? ⟨bt,1,none⟩=some v:=fun o=>(vi (a:=⟨bt,1,none⟩) (jV w4 o bt hT4.lt)).trans t1
 have hbtB:bt≠B:=by have:=HT.o.lt.1;have:=HB.o;omega
 have hBbt:B≠bt:=fun e=>hbtB e.symm
 have hBl:B<w4.heap.size:=zj
 have hBn:B≠w4.heap.size:=zj
 have hBm:w4.heap.size≠B:=zj
 have htn:bt≠w4.heap.size:=by have:=hT4.lt;omega
 have htn':w4.heap.size≠bt:=by have:=hT4.lt;omega
 refine bJ (S:=(fun w'=>w'.cell? ⟨B,0,none⟩=some (.int .i64 t)/\w'.cell? ⟨B,1,none⟩=some (.int .i64 b)/\w'.cell? ⟨B,4,none⟩=some (.int .i64 node)/\w'.cell? ⟨B,5,none⟩=some (.int .i64 other)/\w'.cell? ⟨B,6,none⟩=some (.string name)/\w'.cell? ⟨bt,1,none⟩=some v)) (z:=20) zk ⟨c0,c1,c4,c5,c6,t1⟩ (fun hHeld=> ?_)
 refine aW (i:=0) (v:= ?v0) zo rfl zk zk zk (fun _ _ _ h=>h) (Or.inl ⟨zt,?hy0⟩) hHeld ?rest0
 case hy0=>(intro w' _;go_simp;try with_reducible rfl)
 simp only [Act.put,jU,jZ,vd]
 refine aW (i:=1) (v:= ?v1) zo rfl zk zk zk (fun _ _ _ h=>h) (Or.inl ⟨zt,?hy1⟩) hHeld ?rest1
 case hy1=>(intro w' _;go_simp;try with_reducible rfl)
 simp only [Act.put,jU,jZ,vd]
 refine aW (i:=2) (v:= ?v2) zo rfl zk zk zk (fun _ _ _ h=>h) (Or.inl ⟨zt,?hy2⟩) hHeld ?rest2
 case hy2=>(intro w' _;go_simp;try with_reducible rfl)
 simp only [Act.put,jU,jZ,vd]
 refine aW (i:=3) (v:= ?v3) zo rfl zk zk zk (fun _ _ _ h=>h) (Or.inl ⟨zt,?hy3⟩) hHeld ?rest3
 case hy3=>(intro w' _;go_simp;try with_reducible rfl)
 simp only [Act.put,jU,jZ,vd]
 refine ay (i:=4) (v:= ?v4) zo zk rfl zk zk zk zk (fun _ _ _ h=>h) (Or.inl ⟨zt,?hy4⟩) hHeld ?rest4
 case hy4=>(intro w' hSw;obtain ⟨k0,k1,k4,k5,k6,k7⟩:=hSw;go_simp;try with_reducible rfl)
 simp only [Act.put,jU,jZ,vd]
 refine aW (i:=5) (v:= ?v5) zo rfl zk zk zk (fun _ _ _ h=>h) (Or.inl ⟨zt,?hy5⟩) hHeld ?rest5
 case hy5=>(intro w' _;go_simp;try with_reducible rfl)
 simp only [Act.put,jU,jZ,vd]
 refine aW (i:=6) (v:= ?v6) zo rfl zk zk zk (fun _ _ _ h=>h) (Or.inl ⟨zt,?hy6⟩) hHeld ?rest6
 case hy6=>(intro w' _;go_simp;try with_reducible rfl)
 simp only [Act.put,jU,jZ,vd]
 refine ay (i:=7) (v:= ?v7) zo zk rfl zk zk zk zk (fun _ _ _ h=>h) (Or.inl ⟨zt,?hy7⟩) hHeld ?rest7
 case hy7=>(intro w' hSw;obtain ⟨k0,k1,k4,k5,k6,k7⟩:=hSw;go_simp;try with_reducible rfl)
 simp only [Act.put,jU,jZ,vd]
 refine aW (i:=8) (v:= ?v8) zo rfl zk zk zk (fun _ _ _ h=>h) (Or.inl ⟨zt,?hy8⟩) hHeld ?rest8
 case hy8=>(intro w' _;go_simp;try with_reducible rfl)
 simp only [Act.put,jU,jZ,vd]
 refine ay (i:=9) (v:= ?v9) zo zk rfl zk zk zk zk (fun _ _ _ h=>h) (Or.inl ⟨zt,?hy9⟩) hHeld ?rest9
 case hy9=>(intro w' hSw;obtain ⟨k0,k1,k4,k5,k6,k7⟩:=hSw;go_simp;try with_reducible rfl)
 simp only [Act.put,jU,jZ,vd]
 refine aW (i:=10) (v:= ?v10) zo rfl zk zk zk (fun _ _ _ h=>h) (Or.inl ⟨zt,?hy10⟩) hHeld ?rest10
 case hy10=>(intro w' _;go_simp;try with_reducible rfl)
 simp only [Act.put,jU,jZ,vd]
 refine ay (i:=11) (v:= ?v11) zo zk rfl zk zk zk zk (fun _ _ _ h=>h) (Or.inl ⟨zt,?hy11⟩) hHeld ?rest11
 case hy11=>(intro w' hSw;obtain ⟨k0,k1,k4,k5,k6,k7⟩:=hSw;go_simp;try with_reducible rfl)
 simp only [Act.put,jU,jZ,vd]
 refine aW (i:=12) (v:= ?v12) zo rfl zk zk zk (fun _ _ _ h=>h) (Or.inl ⟨zt,?hy12⟩) hHeld ?rest12
 case hy12=>(intro w' _;go_simp;try with_reducible rfl)
 simp only [Act.put,jU,jZ,vd]
 refine ay (i:=13) (v:= ?v13) zo zk rfl zk zk zk zk (fun _ _ _ h=>h) (Or.inl ⟨zt,?hy13⟩) hHeld ?rest13
 case hy13=>(intro w' hSw;obtain ⟨k0,k1,k4,k5,k6,k7⟩:=hSw;go_simp;try with_reducible rfl)
 simp only [Act.put,jU,jZ,vd]
 refine aW (i:=14) (v:= ?v14) zo rfl zk zk zk (fun _ _ _ h=>h) (Or.inl ⟨zt,?hy14⟩) hHeld ?rest14
 case hy14=>(intro w' _;go_simp;try with_reducible rfl)
 simp only [Act.put,jU,jZ,vd]
 refine aW (i:=15) (v:= ?v15) zo rfl zk zk zk (fun _ _ _ h=>h) (Or.inl ⟨zt,?hy15⟩) hHeld ?rest15
 case hy15=>(intro w' _;go_simp;try with_reducible rfl)
 simp only [Act.put,jU,jZ,vd]
 refine aI (i:=16) zk rfl (fun K hK=> ?_)
 go_simp
 refine hK _ _ (.inl ?s16) ?n16
 case s16=>
  have hbl:=fun o=>vi (a:=⟨B,o,none⟩) (jV w4 (.cells #[.int .i64 t,.int .i64 b,.int .i64 node,.int .i64 other,.string name,.int .i64 0,.int .i64 0,.string ⟨#[]⟩] 300) B hBl)
  exact ⟨(hbl 0).trans c0,(hbl 1).trans c1,(hbl 4).trans c4,(hbl 5).trans c5,(hbl 6).trans c6,t1a _⟩
 clear hK K hHeld
 refine aI (i:=17) zk rfl (fun K hK=> ?_)
 go_simp
 refine (hxw _ rfl).mono ?_
 rintro e w5 ⟨g',cap',rfl,H5,u1,u2,u3⟩
 refine hK _ _ (.inl u3) ?_
 clear hK K
 refine qn ?_
 refine aW (i:=18) (v:= ?v18) zo rfl zk zk zk (fun _ _ _ h=>h) (Or.inl ⟨zt,?hy18⟩) u3 ?rest18
 case hy18=>(intro w' _;go_simp;try with_reducible rfl)
 refine qn ?_
 refine aW (i:=19) (v:= ?v19) zo rfl zk zk zk (fun _ _ _ h=>h) (Or.inl ⟨zt,?hy19⟩) u3 ?rest19
 case hy19=>(intro w' _;go_simp;try with_reducible rfl)
 refine qn ?_
 refine aI (i:=20) zk rfl (fun K hK=> ?_)
 go_simp
 refine hK _ _ (.inr ⟨rfl,zo⟩) ?_
 clear hK K
 refine bI zk ?_ _
 obtain ⟨w6,hw6⟩:=za (w5.setCell ⟨bt,1,none⟩ (.slice (some ⟨g',0,none⟩) (ms.length+1) cap'))
 rw [<-hw6]
 have hk45:=H5.o.2.1
 have hT5:TreeCell w5 bt bm v:=(hk45.block bt hT4.lt (fun e=>(hbtg bt e.symm).1 rfl)).trans hT4
 have hM5:=hM4.same (hk45.block bm hM4.lt (fun e=>(hbtg bm e.symm).2.1 rfl))
 have hgbt:=gJ H5.o.1 hT5
 have hgbm:=eF H5.o.1 hM5
 have hk56:Keeps (fun k=>k=bt) w5 w6:=by rw [hw6];exact aY bt [_] 1 w5
 have hT6:TreeCell w6 bt bm (.slice (some ⟨g',0,none⟩) (ms.length+1) cap'):=by rw [hw6];exact heap_setCell_same w5 bt 1 _ _ _ hT5
 have hM6:=hM5.same (hk56.block bm hM5.lt (fun e=>htm e.symm))
 have hgl5:=(H5.o.1.lt g' rfl).2
 have hR6:=iE H5.o.1 (hk56.block g' hgl5 hgbt)
 have hlen':(gX ms i ((t,b),(node,other,name))).length=ms.length+1:=rK _ _ _
 have hL6:=Gb (m:=((t,b),(node,other,name))) hL hil cZ
 have hfine':∀m∈gX ms i ((t,b),(node,other,name)),FineP m.2:=fun m hm=>by
  rcases jQ.1 ((ib ms i _).mem_iff.1 hm) with rfl | hm
  ·exact GM hop
  exact H3.o.2.1.fine m hm
 have hdo:=Mc w6 bt bm base g' cap' i (nn+(ms.length - i)) (ES L i (((t,b),(node,other,name)),cZ)) (gX ms i ((t,b),(node,other,name))) (by rw [hlen'];exact hT6) (by rw [hlen'];exact hR6) hL6 (by rw [Cr hil];exact hM6) hfine' zj zj zj
 have hKF:Aside (Keeps (fun k=>k=bt\/k=bm\/some k=v.ownBlock) w w6/\TreeCell w6 bt bm (.slice (some ⟨g',0,none⟩) (ms.length+1) cap')/\(some g'=v.ownBlock\/w.heap.size<=g')/\g'≠bt/\bm≠bt/\bt<w6.heap.size):=
  ⟨(hK4.then hk45 (fun _ _ e=>.inr (.inr e))).then hk56 (fun _ _ e=>.inl e),hT6,H5.o.2.2.imp id (fun h=>by have:=hK4.size;omega),hgbt,fun e=>htm e.symm,hT6.lt⟩
 have hHi:Aside (bL (gX ms i ((t,b),(node,other,name)))/\(∀m∈gX ms i ((t,b),(node,other,name)),FineP m.2)):=⟨JL H3.o.2.1.by_ H3.o.2.2.2.2.1 H3.o.2.2.2.2.2,hfine'⟩
 clear hw6 hk45 hT5 hM5 hgbt hgbm hk56 hT6 hM6 hgl5 hR6 hL6 H5 u1 u2 u3 hxw c0 c1 c2 c3 c4 c5 c6 c7 t1 z1 t1a hfine' hK4 hR4 hT4 hM4 hk4 hB4
 go_wp2_with fail
 refine hdo.mono ?_
 clear hdo
 rintro e w7 ⟨⟨u',rfl⟩,L',n',hL',hown',hM',hn',hk'⟩
 have FIN:Aside (∃v' ms',TreeAt base w7 bt bm v' ms'/\ms'.Perm (((t,b),(node,other,name))::ms)/\Keeps (fun k=>k=bt\/k=bm\/some k=v.ownBlock) w w7/\(v'.ownBlock=v.ownBlock\/∀g,v'.ownBlock=some g->w.heap.size<=g)):=by
  have hgn:=hKF.o.2.2.2.1
  refine ⟨.slice (some ⟨g',0,none⟩) (ms.length+1) cap',gX ms i ((t,b),(node,other,name)),⟨?_,⟨L',hL',by rw [hlen'] at hown' |-;exact hown'⟩,⟨n',zj,hM'⟩,hHi.o.1,hHi.o.2⟩,ib _ _ _,?_,?_⟩
  ·exact (hk'.block bt hKF.o.2.2.2.2.2 (fun e=>e.elim (fun e=>hKF.o.2.2.2.2.1 e.symm) (fun e=>hgn e.symm))).trans hKF.o.2.1
  ·refine hKF.o.1.then hk' (fun k hk e=> ?_)
   rcases e with e | e
   ·exact .inr (.inl e)
   rcases hKF.o.2.2.1 with h | h
   ·exact .inr (.inr (by rw [e];exact h))
   omega
  rcases hKF.o.2.2.1 with h | h
  ·exact .inl h
  exact .inr (fun g hg=>by cases hg;exact h)
 clear hL' hown' hM' hk' hKF hHi hn'
 go_wp2
 go_ret
 exact ⟨rfl,FIN.o⟩
end
section
open Go.RowKit Go.Maps
open scoped Classical
theorem KY (w:World) (base bt bm n at_:Nat) (v:Value) (ms:List Mov) (L:List Ent) (hT:TreeCell w bt bm v) (hL:LogTo ms ms.length L) (hR:w.ownsRow base 300 8 v ms.length (aB gW L)) (hM:MapAt prog 3 w bm n (aH ms)) (hfine:∀m∈ms,FineP m.2) (hat:at_<=ms.length) (hlen:ms.length<=1000) (hn:n<=1000000):
  Calls prog 200 #[.pointer (some ⟨bt,0,none⟩),.int .i64 (at_:Int)] w fun e w'=>(∃u,e= .returned u)/\MapAt prog 3 w' bm (n+(ms.length - at_)) (aH (ms.take at_))/\Keeps (fun k=>k=bm) w w':=by
 have hll:(L.drop at_).length=ms.length - at_:=by rw [vx,hL.len]
 have hent:∀r,r<ms.length - at_->∃x,cL (L.drop at_) r=x/\L[ms.length - 1 - r]? =some x:=fun r hr=>by
  have:=pZ (L:=L.drop at_) (r:=r) zj
  rw [vW,hll] at this
  exact ⟨_,rfl,by rw [<-this];congr 1;omega⟩
 have hF:∀r,r<(L.drop at_).length->Jp (aH (ms.take (ms.length - r))) (cL (L.drop at_) r).1.2.1 (cL (L.drop at_) r).2=aH (ms.take (ms.length - (r+1))):=fun r hr=>by
  obtain ⟨x,h1,h2⟩:=hent r zj
  rw [h1]
  have hmx:=hL.mov h2
  have hfr:=hL.from_ _ x zj h2
  rw [lK hmx] at hfr
  have hmt:=rV hmx
  have hg:ko (aH (ms.take (ms.length - 1 - r))):=lw (fun m hm=>hfine m (uc hm))
  rw [show ms.length - 1 - r+1=ms.length - r by omega] at hmt
  rw [hmt,hfr,show ms.length - (r+1)=ms.length - 1 - r by omega]
  exact FM hg
 have hwf:∀r,Wf (cL (L.drop at_) r).1.2.1:=fun r=>by
  by_cases hr:r<ms.length - at_
  ·obtain ⟨x,h1,h2⟩:=hent r hr
   rw [h1]
   exact (il (hfine _ (jT (hL.mov h2)))).1
  by_cases h0:(L.drop at_).length=0
  ·have:L.drop at_= []:=ve.1 h0
   rw [this]
   exact (show Wf 0 from oI zo zo)
  have hz:(L.drop at_)[(L.drop at_).length - 1 - r]? =some (cL (L.drop at_) r):=by
   exact kh1
  rw [vW] at hz
  exact (il (hfine _ (jT (hL.mov hz)))).1
 have h0:aH (ms.take (ms.length - 0))=aH ms:=by rw [Nat.sub_zero,ul]
 have hM0:MapAt prog 3 w bm n ((fun r=>aH (ms.take (ms.length - r))) 0):=by show MapAt _ _ _ _ _ (aH (ms.take (ms.length - 0)));rw [h0];exact hM
 have fin:∀g off (ao bo:Option Addr) (cap:Nat),v= .slice ao ms.length cap->(if cap=at_ then ao else Option.map (fun x=>x.add (at_*8)) ao)=bo->(L.drop at_= []\/bo=some ⟨g,off,none⟩)->g<w.heap.size->g≠bm->RowAt w g off (L.drop at_)->
   Calls prog 200 #[.pointer (some ⟨bt,0,none⟩),.int .i64 (at_:Int)] w fun e w'=>(∃u,e= .returned u)/\MapAt prog 3 w' bm (n+(ms.length - at_)) (aH (ms.take at_))/\Keeps (fun k=>k=bm) w w':=fun g off ao bo cap hv hbo hao hg hgm hrow=>by
  refine (Fz w bt bm g off cap at_ ms.length n ao bo (L.drop at_) (fun r=>aH (ms.take (ms.length - r))) hat hll.symm hlen hn hT.c0 (by rw [<-hv];exact hT.c1) hbo hao hg hgm hrow hM0 hF hwf).mono ?_
  rintro e w' ⟨h1,h2,h3⟩
  rw [hll] at h2
  rw [show ms.length - (ms.length - at_)=at_ by omega] at h2
  exact ⟨h1,h2,h3⟩
 have hempty:ms.length=at_->L.drop at_= []:=fun h=>ve.1 (by rw [hll];omega)
 have hRow0:L.drop at_= []->∀g off,RowAt w g off (L.drop at_):=fun h g off j u hj=>by rw [h] at hj;simp [aB] at hj
 rcases hR.2 with ⟨hv,h0⟩ | ⟨g,cap,cur,hv,_,hg,hnc,_⟩
 ·exact fin bt 0 none none 0 (by rw [hv,h0]) zq (.inl (hempty zj)) hT.lt (hT.ne_map hM) (hRow0 (hempty zj) _ _)
 subst hv
 have hgl:g<w.heap.size:=(jJ.1 hg).1
 have hgm:=eF hR hM
 by_cases hc:cap=at_
 ·exact fin g 0 (some ⟨g,0,none⟩) _ cap rfl rfl (.inl (hempty zj)) hgl hgm (hRow0 (hempty zj) _ _)
 refine fin g (at_*8) (some ⟨g,0,none⟩) (some ⟨g,at_*8,none⟩) cap rfl (by rw [if_neg hc,uo,Addr.add_lit,vh]) (.inr rfl) hgl hgm (fun j u hj=> ?_)
 have:=wl hR (at_*8+j) u (by rw [<-eO eA L at_ (by rw [hL.len];exact hat),vW] at hj;exact hj)
 rwa [vh] at this
theorem Ft:Ju:=KY
end
section
open Go.RowKit
open scoped Classical
theorem DI (h:kdO o≠109):eu (o::A)=eu A:=by
 unfold eu
 exact List.filterMap_cons_none (if_neg h)
theorem FR (h:kdO o=109):eu (o::A)=((o.1,o.2.1),(aG o,aF o,o.2.2.2.2.2.2.1))::eu A:=by
 unfold eu
 exact List.filterMap_cons_some (if_pos h)
theorem TreeC.skip {c:Nat->Nat} (h:TreeC w c bt A) (ho:kdO o≠109):TreeC w c bt (o::A):=by
 obtain ⟨bm,v,ms,h1,h2,h3⟩:=h
 exact ⟨bm,v,ms,h1,by rw [DI ho];exact h2,h3⟩
theorem wF (h:StepOk A o) (hp:ms.Perm (eu A)):∀m∈ms,m.1≠(o.1,o.2.1):=fun m hm e=>by
 obtain ⟨x,hx,q⟩:=uI.1 (hp.mem_iff.1 hm)
 unfold OH at q
 split at q
 ·cases q
  exact h.new x hx e
 cases q
theorem CellC.skip {c:Nat->Nat} (h:CellC w c bc A) (ho:kdO o≠115):CellC w c bc (o::A):=by
 obtain ⟨cm,A',h1,h2,h3⟩:=h
 refine ⟨cm,A'++ [o],?_,(um).trans (h2.cons o),h3⟩
 rw [nr]
 unfold rm
 rw [if_neg (fun q=>ho q.2)]
 exact h1.mono zq
theorem CellC.set {c:Nat->Nat} (h2:A'.Perm A) (h3:c bc=4/\c cm=4) (h:Gz w bc cm A.length (fA A') o w'):CellC w' c bc (o::A):=
 ⟨cm,A'++ [o],by rw [nr];exact h.1,(um).trans (h2.cons o),h3⟩
theorem TextC.skip {w:World} {c:Nat->Nat} {bx:Nat} {A:List OpX} (h:TextC w c bx A) {o:OpX} (ho:kdO o≠105/\kdO o≠100) (hn:¬(kdO o=109/\aG o=idO o)):TextC w c bx (o::A):=by
 obtain ⟨n,tx,h1,h2,h3,h4,h5⟩:=h
 refine ⟨n,tx,zl,h2,h3,fun nd=>(h4 nd).trans ?_,fun nd p hp=> ?_⟩
 ·rw [kS]
  exact ⟨.inl,fun q=>q.elim id (fun q=>absurd ⟨q.1,q.2.1.trans q.2.2.symm⟩ hn)⟩
 obtain ⟨v,L,k1,k2,k3⟩:=h5 nd p hp
 exact ⟨v,L,k1,k2.skip (fun q=>q.2.elim ho.1 ho.2),k3⟩
theorem fw (hA:∀x∈A,bY x=0) {nd:Int} (h:KnownN A nd):4<=nd:=by
 obtain ⟨x,hx,_,_,e⟩:=h
 have:=KZ (hA x hx)
 omega
theorem LP {a b:Int} (ha:0<=a) (hb:0<=b) (h:cQ a=cQ b):a=b:=by unfold cQ at h;omega
end
section
open Go.RowKit Go.Maps
open scoped Classical
theorem Dg (x:OpX) (w:World) (h:bY x=0):Calls prog 135 #[ar x] w fun e w'=>e= .returned (.int .i64 (idO x))/\Below w.heap.size w w':=by
 have h0:=gj h
 obtain ⟨t,b,n,k,nd,o,s,v⟩:=x
 unfold ar idO
 dsimp only
 have h1:1<=t:=h0.1
 have h2:t<=1073741824:=h0.2.1
 have h3:0<=b:=h0.2.2.1
 have h4:b<4:=h0.2.2.2
 exact ke5
end
section
open Go.RowKit Go.Maps
open scoped Classical
structure RepPart (w:World) (c:Nat->Nat) (br:Nat) (T by_:Int) (kv:Nat->Value) (bt bx bc:Nat) (R:Rws) (A:List OpX):Prop where
 cell:RepCell w br T by_ kv bt bx bc
 hue:c br=1
 rows:RowsAt w c kv R
 tree:TreeC w c bt A
 text:TextC w c bx A
 marks:CellC w c bc A
theorem RepPart.kept {w w':World} {c c':Nat->Nat} {br:Nat} {T by_:Int} {kv:Nat->Value} {bt bx bc:Nat} {R:Rws} {A:List OpX} (h:RepPart w c br T by_ kv bt bx bc R A) (hk:∀i,i≠0->oT c i w c' w'):RepPart w' c' br T by_ kv bt bx bc R A:=by
 have k1:=hk 1 zj
 exact ⟨h.cell.same (k1.block _ h.cell.lt h.hue),(k1.hue _ h.cell.lt).trans h.hue,h.rows.kept (fun i _=>hk _ zj),h.tree.kept (hk 2 zj),h.text.kept (hk 3 zj) (fun nd _=>hk _ zY),h.marks.kept (hk 4 zj)⟩
theorem RepPart.later {c:Nat->Nat} (h:RepPart w c br T by_ kv bt bx bc R A) (hb:Below w.heap.size w w'):RepPart w' c br T by_ kv bt bx bc R A:=
 h.kept (fun i _=>⟨fun k hk _=>hb.block k hk,fun k _=>rfl⟩)
theorem RepPart.heard {W:World} {c:Nat->Nat} {t:Int} (h:RepPart w c br T by_ kv bt bx bc R A) (hb:Below w.heap.size w W) (hh:Fu br T t W w'):RepPart w' c br (if T<t then t else T) by_ kv bt bx bc R A/\Keeps (fun k=>k=br) w w':=by
 have hW:=h.later hb
 have hKW:Keeps (fun k=>k=br) w W:=(aV hb).mono (fun k hk e=>zj)
 rcases hh with ⟨hlt,W',hb',hheap,hk⟩ | ⟨hlt,hb'⟩
 ·have hW':=hW.later hb'
  have hk3:Keeps (fun k=>k=br) w w':=(hKW.then (aV hb') (fun k hk e=>by have:=hKW.size;omega)).then hk (fun _ _ e=>e)
  rw [if_pos hlt]
  have hkept:∀i,i≠1->oT c i W' c w':=fun i hi=>⟨fun k hkl e=>hk.block k hkl (fun e'=>by rw [e',hW'.hue] at e;omega),fun _ _=>rfl⟩
  refine ⟨⟨?_,hW'.hue,hW'.rows.kept (fun i _=>hkept _ zj),hW'.tree.kept (hkept 2 zj),hW'.text.kept (hkept 3 zj) (fun nd _=>hkept _ zY),hW'.marks.kept (hkept 4 zj)⟩,hk3⟩
  have:=heap_setCell_same W' br 0 _ _ (.int .i64 t) hW'.cell
  unfold RepCell
  rw [hheap,this]
  simp
 rw [if_neg hlt]
 exact ⟨hW.later hb',hKW.then (aV hb') (fun k hk e=>by have:=hKW.size;omega)⟩
def dR (c:Nat->Nat) (w w':World) (i:Nat):Nat->Nat:=fun k=>if k<w.heap.size then c k else if k<w'.heap.size then i else 0
theorem aq {c:Nat->Nat} (h:k<w.heap.size):dR c w w' i k=c k:=if_pos h
theorem gY {c:Nat->Nat} (h:w.heap.size<=k) (h':k<w'.heap.size):dR c w w' i k=i:=by unfold dR;rw [if_neg zj,if_pos h']
theorem fd {c:Nat->Nat} {Sx:Nat->Prop} {j m:Nat} (hk:Keeps Sx w w') (hS:∀k,k<w.heap.size->Sx k->c k=i) (hij:j≠i):oT c j w (dR c w w' m) w':=
 ⟨fun k hkl e=>hk.block k hkl (fun s=>hij (by rw [<-hS k hkl s,e])),fun k hkl=>aq hkl⟩
def AppOk (B:Nat) (w:World) (c:Nat->Nat) (br:Nat) (by_:Int) (kv:Nat->Value) (bt bx bc:Nat) (R:Rws) (A:List OpX) (T':Int) (w':World):Prop:=∃c',RepPart w' c' br T' by_ kv bt bx bc R A/\Acts w c w' c'/\(∀k,c' k≠0->B<=k)/\∀k,w'.heap.size<=k->c' k=0
theorem AppOk.of {c c1:Nat->Nat} {Sx:Nat->Prop} (hc:c'=dR c1 w1 w' i) (hp:RepPart w' c' br T' by_ kv bt bx bc R A) (h1:Acts w c w1 c1) (hk:Keeps Sx w1 w') (hS:∀k,k<w1.heap.size->Sx k->c1 k≠0) (hB:∀k,c1 k≠0->B<=k) (hBw:B<=w.heap.size):AppOk B w c br by_ kv bt bx bc R A T' w':=by
 subst hc
 refine ⟨_,hp,h1.trans ⟨hk.mono hS,fun k hkl=>aq hkl⟩,fun k e=> ?_,fun k hkl=> ?_⟩
 ·by_cases hkl:k<w1.heap.size
  ·rw [aq hkl] at e;exact hB k e
  have:=h1.keeps.size;omega
 have:=hk.size
 unfold dR
 exact kh5
theorem rr {c:Nat->Nat} (h:RepPart w1 c br T' by_ kv bt bx bc R A) (hkd:kdO o=115) (hA':A'.Perm A) (hcm:c bc=4/\c cm=4) (hset:Gz w1 bc cm A.length (fA A') o w') (h1:Acts w c w1 c) (hB:∀k,c k≠0->B<=k) (hBw:B<=w.heap.size):AppOk B w c br by_ kv bt bx bc R (o::A) T' w':=by
 have hS4:∀k,k<w1.heap.size->(k=cm)->c k=4:=fun k _ e=>by rw [e];exact hcm.2
 have kp:∀j,j≠4->oT c j w1 (dR c w1 w' 4) w':=fun j hj=>fd hset.2 hS4 hj
 have hk115:kdO o≠109:=by rw [hkd];decide
 have hbcl:=hset.1.lt
 refine AppOk.of (i:=4) rfl ⟨?_,?_,?_,?_,?_,?_⟩ h1 hset.2 (fun k hk e=>by rw [hS4 k hk e];decide) hB hBw
 ·exact h.cell.same ((kp 1 zj).block _ h.cell.lt h.hue)
 ·rw [aq h.cell.lt];exact h.hue
 ·exact h.rows.kept (fun i _=>kp _ zj)
 ·exact (h.tree.kept (kp 2 zj)).skip hk115
 ·exact (h.text.kept (kp 3 zj) (fun nd _=>kp _ zY)).skip ⟨by rw [hkd];decide,by rw [hkd];decide⟩ (fun q=>hk115 q.1)
 refine CellC.set (A':=A') (cm:=cm) hA' ?_ hset
 obtain ⟨cm0,A0,q1,_⟩:=h.marks
 have hbl:bc<w1.heap.size:=q1.lt.1
 have hcl:cm<w'.heap.size:=hbcl.2
 refine ⟨by rw [aq hbl];exact hcm.1,?_⟩
 by_cases e:cm<w1.heap.size
 ·rw [aq e];exact hcm.2
 rw [gY zj hcl]
theorem gv {B:Nat} {w w1 w':World} {c:Nat->Nat} {br:Nat} {by_:Int} {kv:Nat->Value} {bt bx bc:Nat} {R:Rws} {A:List OpX} {T':Int} {o:OpX} {nx:Nat} {tx:kw} {p:Nat} {v:Value} {L M:List Ltr} (h:RepPart w1 c br T' by_ kv bt bx bc R A) (hA:∀x∈A,bY x=0) (hkd:kdO o=105\/kdO o=100)
  (t1:nx<=A.length) (t2:TMapAt w1 bx nx tx) (t3:c bx=3) (t4:∀nd,(tx nd).isSome=true↔KnownN A nd) (t5:∀nd p,tx nd=some p->LineC w1 c p nd A) (hp:tx (aG o)=some p)
  (hL:LineAt (p+1) w1 p v L) (hue:c p=cQ (aG o)/\∀g,v.ownBlock=some g->c g=cQ (aG o)) (hact:ActOk (p+1) w1 p v M w') (hM:LineIs (o::A) (aG o) M) (h1:Acts w c w1 c) (hB:∀k,c k≠0->B<=k) (hBw:B<=w.heap.size):AppOk B w c br by_ kv bt bx bc R (o::A) T' w':=by
 obtain ⟨v',q1,q2,q3⟩:=hact
 have hS:∀k,k<w1.heap.size->(k=p\/some k=v.ownBlock)->c k=cQ (aG o):=fun k _ e=>e.elim (fun e=>by rw [e];exact hue.1) (fun e=>hue.2 k e.symm)
 have kp:∀j,j≠cQ (aG o)->oT c j w1 (dR c w1 w' (cQ (aG o))) w':=fun j hj=>fd q2 hS hj
 have n20:∀i,i<20->i≠cQ (aG o):=fun i hi=>zY
 have hk109:kdO o≠109:=fun e=>qM
 have hk115:kdO o≠115:=fun e=>qM
 have hnd:KnownN A (aG o):=(t4 _).1 ji
 have hnd4:=fw hA hnd
 refine AppOk.of (i:=cQ (aG o)) rfl ⟨?_,?_,?_,?_,?_,?_⟩ h1 q2 (fun k hk e=>by rw [hS k hk e];unfold cQ;omega) hB hBw
 ·exact h.cell.same ((kp 1 (n20 1 zj)).block _ h.cell.lt h.hue)
 ·rw [aq h.cell.lt];exact h.hue
 ·exact h.rows.kept (fun i hi=>kp _ (n20 _ zj))
 ·exact (h.tree.kept (kp 2 (n20 2 zj))).skip hk109
 ·have k3:=kp 3 (n20 3 zj)
  refine ⟨nx,tx,zl,t2.same (k3.block _ t2.lt t3),(k3.hue _ t2.lt).trans t3,fun nd=>(t4 nd).trans ?_,fun nd p' hp'=> ?_⟩
  ·rw [kS]
   exact ⟨.inl,fun q=>q.elim id (fun q=>absurd q.1 hk109)⟩
  by_cases e:nd=aG o
  ·subst e
   rw [hp] at hp'
   cases hp'
   refine ⟨v',M,q1,hM,by rw [aq hL.lt];exact hue.1,fun g hg=> ?_⟩
   have hgl:=q1.kin hg
   by_cases e:g<w1.heap.size
   ·rw [aq e]
    rcases q3 with e3 | e3
    ·rw [e3] at hg;exact hue.2 g hg
    have:=e3 g hg;omega
   rw [gY zj hgl]
  have hnk:=(t4 nd).1 (by rw [hp'];rfl)
  have hn4:=fw hA hnk
  obtain ⟨v2,L2,k1,k2,k4⟩:=(t5 nd p' hp').kept (kp (cQ nd) (fun q=>e (LP zj zj q)))
  exact ⟨v2,L2,k1,k2.skip (fun q=>e q.1.symm),k4⟩
 exact (h.marks.kept (kp 4 (n20 4 zj))).skip hk115
theorem gz {B:Nat} {w w1 w':World} {c c1:Nat->Nat} {br:Nat} {by_:Int} {kv:Nat->Value} {bt bx bc:Nat} {R:Rws} {A:List OpX} {T':Int} {o:OpX} {bm:Nat} {v v':Value} {ms ms':List Mov} (hcell:RepCell w1 br T' by_ kv bt bx bc) (hhue:c1 br=1) (hrows:RowsAt w1 c1 kv R) (htext:TextC w1 c1 bx (o::A)) (hmarks:CellC w1 c1 bc A) (hkd:kdO o=109)
  (hT:TreeAt 0 w1 bt bm v ms) (hms:ms.Perm (eu A)) (hue:c1 bt=2/\c1 bm=2/\∀g,v.ownBlock=some g->c1 g=2) (q1:TreeAt 0 w' bt bm v' ms') (q2:ms'.Perm (((o.1,o.2.1),(aG o,aF o,o.2.2.2.2.2.2.1))::ms)) (q3:Keeps (fun k=>k=bt\/k=bm\/some k=v.ownBlock) w1 w') (q4:v'.ownBlock=v.ownBlock\/∀g,v'.ownBlock=some g->w1.heap.size<=g) (h1:Acts w c w1 c1) (hB:∀k,c1 k≠0->B<=k) (hBw:B<=w.heap.size):AppOk B w c br by_ kv bt bx bc R (o::A) T' w':=by
 have hS:∀k,k<w1.heap.size->(k=bt\/k=bm\/some k=v.ownBlock)->c1 k=2:=fun k _ e=>by
  rcases e with e | e | e
  ·rw [e];exact hue.1
  ·rw [e];exact hue.2.1
  exact hue.2.2 k e.symm
 have kp:∀j,j≠2->oT c1 j w1 (dR c1 w1 w' 2) w':=fun j hj=>fd q3 hS hj
 obtain ⟨l1,l2,l3⟩:=hT.lt
 refine AppOk.of (i:=2) rfl ⟨?_,?_,?_,?_,?_,?_⟩ h1 q3 (fun k hk e=>by rw [hS k hk e];decide) hB hBw
 ·exact hcell.same ((kp 1 zj).block _ hcell.lt hhue)
 ·rw [aq hcell.lt];exact hhue
 ·exact hrows.kept (fun i _=>kp _ zj)
 ·refine ⟨bm,v',ms',q1,by rw [FR hkd];exact q2.trans (hms.cons _),by rw [aq l1];exact hue.1,by rw [aq l2];exact hue.2.1,fun g hg=> ?_⟩
  have hgl:=q1.lt.2.2 g hg
  by_cases e:g<w1.heap.size
  ·rw [aq e]
   rcases q4 with e4 | e4
   ·rw [e4] at hg;exact hue.2.2 g hg
   have:=e4 g hg;omega
  rw [gY zj hgl]
 ·exact htext.kept (kp 3 zj) (fun nd _=>kp _ zY)
 exact (hmarks.kept (kp 4 zj)).skip (by rw [hkd];decide)
theorem rJ {w2:World} {c:Nat->Nat} (h:RepPart w1 c br T' by_ kv bt bx bc R A) (hs:StepOk A o) (hkd:kdO o=109) (hid:aG o=idO o)
  (t1:nx<=A.length) (t2:TMapAt w2 bx (nx+1) (fun x=>if x=aG o then some p else tx x)) (t3:c bx=3) (t4:∀nd,(tx nd).isSome=true↔KnownN A nd) (t5:∀nd p,tx nd=some p->LineC w1 c p nd A) (hbx:bx<w1.heap.size)
  (hline:w2.heap[p]? =some (.cells #[.slice none 0 0] 280 (0,0))) (hpn:w1.heap.size<=p) (hk:Keeps (fun k=>k=bx) w1 w2):
  RepCell w2 br T' by_ kv bt bx bc/\dR c w1 w2 (cQ (aG o)) br=1/\RowsAt w2 (dR c w1 w2 (cQ (aG o))) kv R/\TreeC w2 (dR c w1 w2 (cQ (aG o))) bt A/\TextC w2 (dR c w1 w2 (cQ (aG o))) bx (o::A)/\CellC w2 (dR c w1 w2 (cQ (aG o))) bc A:=by
 have hS:∀k,k<w1.heap.size->k=bx->c k=3:=fun k _ e=>by rw [e];exact t3
 have kp:∀j,j≠3->oT c j w1 (dR c w1 w2 (cQ (aG o))) w2:=fun j hj=>fd hk hS hj
 have hA:∀x∈A,bY x=0:=fun x hx=>(hs.all x hx).1
 obtain ⟨hnk,hno⟩:=hs.fresh hid
 have hpl:p<w2.heap.size:=(jJ.1 hline).1
 refine ⟨h.cell.same ((kp 1 zj).block _ h.cell.lt h.hue),by rw [aq h.cell.lt];exact h.hue,h.rows.kept (fun i _=>kp _ zj),h.tree.kept (kp 2 zj),?_,h.marks.kept (kp 4 zj)⟩
 refine ⟨nx+1,_,zl,t2,by rw [aq hbx];exact t3,fun nd=> ?_,fun nd p' hp'=> ?_⟩
 ·rw [kS]
  by_cases e:nd=aG o
  ·subst e
   rw [if_pos rfl]
   exact ⟨fun _=>.inr ⟨hkd,rfl,hid.symm⟩,fun _=>rfl⟩
  rw [if_neg e,t4 nd]
  exact ⟨.inl,fun q=>q.elim id (fun q=>absurd q.2.1.symm e)⟩
 by_cases e:nd=aG o
 ·subst e
  rw [if_pos rfl] at hp'
  cases hp'
  refine ⟨.slice none 0 0,[],⟨hline,vD _ _ _ _,zj,zq,fun l hl=>by simp at hl,fun l hl=>by simp at hl⟩,?_,by rw [gY hpn hpl],fun g hg=>qI⟩
  exact LineIs.new (fun x hx q=>by
   rcases jQ.1 hx with rfl | hx
   ·rw [hkd];decide
   ·exact absurd q (hno x hx))
 rw [if_neg e] at hp'
 have hnk':=(t4 nd).1 (by rw [hp'];rfl)
 have hn4:=fw hA hnk'
 have hno4:=KZ hs.ok
 obtain ⟨v2,L2,k1,k2,k4⟩:=(t5 nd p' hp').kept (kp (cQ nd) zY)
 exact ⟨v2,L2,k1,k2.skip (fun q=>e q.1.symm),k4⟩
end
section
open Go.Shelf Go.RowKit Go.Lib Go.Sort
def Bo (P:Program) {β:Type} [Inhabited β] (lt:β->β->Bool) (k:Nat) (enc:β×Nat->List Value) (g:Nat) (w0:World) (blk off cap a b:Nat) (d:Array (β×Nat)) (w:World):Prop:=
 Calls P 256 #[.slice (some ⟨blk,off,none⟩) d.size cap,.int .i64 a,.int .i64 b,.func (.func g) #[] #[]] w fun e w'=>e= .returned (.tuple #[])/\∃d',(PermIn a b d d'/\SortedIn (slt lt) a b d')/\SWK enc k w0 blk off d' w'
theorem tc {P:Program} {β:Type} [Inhabited β] {lt:β->β->Bool} {enc:β×Nat->List Value} {cf:β×Nat->β×Nat->Int} {g:Nat} {w0:World} {blk off:Nat} {d0:Array (β×Nat)} (V:LJ P lt k enc cf g w0 blk off d0) (cap:Nat) (d:Array (β×Nat)) (w:World)
  (hF:P.funcs[(197:Nat)]? =some f197)
  (eI:∀args w,(callFunc 256 args).run P w= .ok (.enter 256 args) w)
  (INS:∀a b d w,d0.size=d.size->SWK enc k w0 blk off d w->a<=b->b<=d.size->d.size<4611686018427387904->(∀p q,a<=p->p<q->q<b->d[p]!.2<d[q]!.2)->Bo P lt k enc g w0 blk off cap a b d w)
  (hs:d0.size=d.size) (S:SWK enc k w0 blk off d w) (ht:∀p,p<d.size->d[p]!.2=p) (hsz:d.size<1152921504606846976):
  Calls P 197 #[.slice (some ⟨blk,off,none⟩) d.size cap,.int .i64 d.size,.func (.func g) #[] #[]] w fun e w'=>e= .returned (.tuple #[])/\∃d',(PermIn 0 d.size d d'/\SortedIn (slt lt) 0 d.size d')/\SWK enc k w0 blk off d' w':=by
 have L:=V.ty
 have mixed:=L.mixed;have t0:=L.t0;have a0:=L.a0;have z0:=L.z0;have v0:=L.v0;have t3:=L.t3;have a3:=L.a3;have z3:=L.z3;have v3:=L.v3;have t4:=L.t4;have a4:=L.a4;have z4:=L.z4;have v4:=L.v4;have tS:=L.tS;have aS:=L.aS;have zS:=L.zS;have vS:=L.vS;have tC:=L.tC;have aC:=L.aC;have zC:=L.zC;have vC:=L.vC;have tU:=L.tU;have aU:=L.aU;have zU:=L.zU;have vU:=L.vU;have aE:=L.aE;have zE:=L.zE
 have eM:∀args w,(callFunc 257 args).run P w= .ok (.enter 257 args) w:=enters_of V.fM zk rfl
 have I0:Aside (∀a b d w,d0.size=d.size->SWK enc k w0 blk off d w->a<=b->b<=d.size->d.size<4611686018427387904->(∀p q,a<=p->p<q->q<b->d[p]!.2<d[q]!.2)->Bo P lt k enc g w0 blk off cap a b d w):=INS
 have S0:Aside (SWK enc k w0 blk off d w):=S
 have T0:Aside (∀p,p<d.size->d[p]!.2=p):=ht
 clear S ht INS
 go_enter hF,ntmps197
 go_wp2
 go_loopg [7,8] d.size (fun kx s7 s8 wr=>∃(c a:Nat) (dk:Array (β×Nat)),s7= .int .i64 (a:Int)/\s8= .int .i64 ((a:Int)+20)/\a<=d.size/\d.size - a<=kx/\dk.size=d.size/\Aside (a=c*20)/\Aside (Blocks lt 20 a d.size dk)/\Aside (∀p,a<=p->p<d.size->dk[p]!.2=p)/\Aside (PermIn 0 d.size d dk)/\Aside (SWK enc k w0 blk off dk wr))
 case atStart=>exact ⟨0,0,d,rfl,zV,jX _,jL _,rfl,(by omega:(0:Nat)=0*20),⟨fun p hp c=>by rw [T0.o p hp],fun i j _ hj=>zj⟩,fun p _ hp=>T0.o p hp,permIn_refl _ _ _,S0⟩
 case round=>
  clear S0 T0
  obtain ⟨c,a,dk,rfl,rfl,han,hkx,hdk,HA,BL,TG,PM,S1⟩:=hrel
  by_cases hlt:a+20<=d.size
  ·have q1:decide ((a:Int)+20<=(d.size:Int))=true:=by simp;omega
   go_wp2_with fail
   clear q1
   have c1:(a:Int)+20=((a+20:Nat):Int):=zj
   have C:=I0.o a (a+20) dk wr zj S1.o zj zj zj (fun p q hp hpq hq=>qA)
   unfold Bo at C
   rw [hdk,<-c1] at C
   clear c1
   refine C.mono ?_
   clear C
   rintro ex w1 ⟨rfl,d1,⟨PM1,SO1⟩,S_1⟩
   have S2:Aside (SWK enc k w0 blk off d1 w1):=S_1
   have hd1:d1.size=d.size:=by rw [PM1.1,hdk]
   have BL2:Aside (Blocks lt 20 (a+20) d.size d1):=Blocks.step BL.o hdk.symm HA.o hlt (.inl rfl) PM1 SO1
   have TG2:Aside (∀p,a+20<=p->p<d.size->d1[p]!.2=p):=fun p hp hpn=>by rw [PM1.2.1 p (.inr hp)];exact TG.o p zj hpn
   have PM2:Aside (PermIn 0 d.size d d1):=permIn_trans _ _ _ _ _ PM.o (permIn_mono dk d1 _ _ _ _ (jX _) hlt zj PM1)
   have HA2:Aside (a+20=(c+1)*20):=by have:=HA.o;show _=_;omega
   clear S_1 PM1 SO1 BL TG PM S1 HA
   go_wp2
   go_roundg (d.size - (a+20))
   case measure=>omega
   case rel=>exact ⟨c+1,a+20,d1,zI,by first | rfl | go_num | (congr 1;omega),hlt,jL _,hd1,HA2,BL2,TG2,PM2,S2⟩
  have q1:decide ((a:Int)+20<=(d.size:Int))=false:=zl
  go_wp2_with fail
  clear q1
  have C:=I0.o a d.size dk wr zj S1.o zj zj zj (fun p q hp hpq hq=>qA)
  unfold Bo at C
  rw [hdk] at C
  refine C.mono ?_
  clear C
  rintro ex w1 ⟨rfl,d1,⟨PM1,SO1⟩,S_1⟩
  have S2:Aside (SWK enc k w0 blk off d1 w1):=S_1
  have hd1:d1.size=d.size:=by rw [PM1.1,hdk]
  have BL2:Aside (Blocks lt 20 d.size d.size d1):=Blocks.step BL.o hdk.symm HA.o zg (.inr ⟨rfl,zj⟩) PM1 SO1
  have PM2:Aside (PermIn 0 d.size d d1):=permIn_trans _ _ _ _ _ PM.o (permIn_mono dk d1 _ _ _ _ (jX _) zg zj PM1)
  clear S_1 PM1 SO1 BL TG PM S1 HA hkx hlt
  go_wp2
  go_loopg [6] d.size (fun kx s6 wr=>∃(B:Nat) (dk:Array (β×Nat)),s6= .int .i64 (B:Int)/\20<=B/\d.size - B<=kx/\dk.size=d.size/\Aside (Blocks lt B d.size d.size dk)/\Aside (PermIn 0 d.size d dk)/\Aside (SWK enc k w0 blk off dk wr))
  case atStart=>exact ⟨20,d1,rfl,jL _,zj,hd1,BL2,PM2,S2⟩
  case round=>
   clear S2 BL2 PM2 hd1
   obtain ⟨B,dk2,rfl,hB,hkx,hdk2,BL,PM,S1⟩:=hrel
   by_cases hBn:B<d.size
   ·have q1:decide ((B:Int)<(d.size:Int))=true:=by simp;omega
    have HF:Aside (Half lt B 0 d.size dk2):=BL.o.half
    go_wp2
    clear q1 BL
    go_loopg [7,8] d.size (fun kx s7 s8 wr=>∃(c a:Nat) (dk:Array (β×Nat)),s7= .int .i64 (a:Int)/\s8= .int .i64 ((a:Int)+2*(B:Int))/\a<=d.size/\d.size - a<=kx/\dk.size=d.size/\Aside (a=c*(2*B))/\Aside (Half lt B a d.size dk)/\Aside (PermIn 0 d.size d dk)/\Aside (SWK enc k w0 blk off dk wr))
    case atStart=>exact ⟨0,0,dk2,rfl,zV,jX _,jL _,hdk2,(by show 0=_;rw [Nat.zero_mul]),HF,PM,S1⟩
    case round=>
     clear S1 PM HF hdk2
     obtain ⟨c,a,dk3,rfl,rfl,han,hkx3,hdk3,HA,HF,PM,S1⟩:=hrel
     by_cases hlt:a+2*B<=d.size
     ·have q1:decide ((a:Int)+2*(B:Int)<=(d.size:Int))=true:=by simp;omega
      go_wp2_with fail
      clear q1
      have c1:(a:Int)+(B:Int)=((a+B:Nat):Int):=zj
      have c2:(a:Int)+2*(B:Int)=((a+2*B:Nat):Int):=zj
      have C:=sA V cap _ a (a+B) (a+2*B) dk3 wr zg zj S1.o (HF.o.runs HA.o rfl zj zj hlt) zj zj zj zj
      unfold eU at C
      rw [hdk3,<-c1,<-c2] at C
      clear c1 c2
      refine C.mono ?_
      clear C
      rintro ex w1 ⟨rfl,d1,⟨PM1,SO1⟩,S_1⟩
      have S2:Aside (SWK enc k w0 blk off d1 w1):=S_1
      have hd1:d1.size=d.size:=by rw [PM1.1,hdk3]
      have HF2:Aside (Half lt B (a+2*B) d.size d1):=Half.step HF.o hdk3.symm HA.o zj hlt (.inl rfl) PM1 SO1
      have PM2:Aside (PermIn 0 d.size d d1):=permIn_trans _ _ _ _ _ PM.o (permIn_mono dk3 d1 _ _ _ _ (jX _) hlt zj PM1)
      have HA2:Aside (a+2*B=(c+1)*(2*B)):=by show _=_;rw [uA,<-HA.o];omega
      clear S_1 PM1 SO1 HF PM S1 HA
      go_wp2
      go_roundg (d.size - (a+2*B))
      case measure=>omega
      case rel=>exact ⟨c+1,a+2*B,d1,zV,zV,hlt,jL _,hd1,HA2,HF2,PM2,S2⟩
     have q1:decide ((a:Int)+2*(B:Int)<=(d.size:Int))=false:=zl
     by_cases hmn:a+B<d.size
     ·have q2:decide ((a:Int)+(B:Int)<(d.size:Int))=true:=by simp;omega
      go_wp2_with fail
      clear q1 q2
      have c1:(a:Int)+(B:Int)=((a+B:Nat):Int):=zj
      have C:=sA V cap _ a (a+B) d.size dk3 wr zg zj S1.o (HF.o.runs HA.o rfl zj zj zg) zj zj zj zj
      unfold eU at C
      rw [hdk3,<-c1] at C
      clear c1
      refine C.mono ?_
      clear C
      rintro ex w1 ⟨rfl,d1,⟨PM1,SO1⟩,S_1⟩
      have S2:Aside (SWK enc k w0 blk off d1 w1):=S_1
      have hd1:d1.size=d.size:=by rw [PM1.1,hdk3]
      have BL2:Aside (Blocks lt (2*B) d.size d.size d1):=(Half.step HF.o hdk3.symm HA.o zj zg (.inr ⟨rfl,zj⟩) PM1 SO1).end_all
      have PM2:Aside (PermIn 0 d.size d d1):=permIn_trans _ _ _ _ _ PM.o (permIn_mono dk3 d1 _ _ _ _ (jX _) zg zj PM1)
      clear S_1 PM1 SO1 HF PM S1 HA
      go_wp2
      go_roundg (d.size - 2*B)
      case measure=>omega
      case rel=>exact ⟨2*B,d1,zV,zj,jL _,hd1,BL2,PM2,S2⟩
     have q2:decide ((a:Int)+(B:Int)<(d.size:Int))=false:=zl
     have BL2:Aside (Blocks lt (2*B) d.size d.size dk3):=HF.o.end_ HA.o zj
     clear HF HA
     go_wp2
     go_roundg (d.size - 2*B)
     case measure=>omega
     case rel=>exact ⟨2*B,dk3,zV,zj,jL _,hdk3,BL2,PM,S1⟩
   have q1:decide ((B:Int)<(d.size:Int))=false:=zl
   go_wp2
   go_end0
   exact ⟨rfl,dk2,⟨PM.o,BL.o.all zj⟩,S1.o⟩
end
section
open Go.RowKit Go.Lib Go.Sort
theorem Ay (h:InRow eL w ao xs) {x:Int} (hk:xs[k]? =some x):∃g o,ao=some ⟨g,o,none⟩/\w.cell? ⟨g,o+k,none⟩=some (.int .i64 x):=by
 rcases h with rfl | ⟨g,o,h1,h2⟩
 ·simp at hk
 have c0:=bd (enc:=eL) (k:=1) (fun _=>rfl) hk (c:=0) zj
 exact ⟨g,o,h1,h2 k _ (by simpa [eL] using c0)⟩
theorem gD {cap:Nat} (h:w.ownsRow B 3 1 (.slice ao xs.length cap) xs.length (aB eL xs)):InRow eL w ao xs:=by
 rcases h.2 with ⟨h1,h2⟩ | ⟨g,cap',cur,hv,_⟩
 ·exact kn9
 simp only [Value.slice.injEq] at hv
 obtain ⟨rfl,-,-⟩:=hv
 refine .inr ⟨g,0,rfl,fun j u hj=> ?_⟩
 have hl:=(jI.1 hj).1
 rw [aa (k:=1) (fun _=>rfl)] at hl
 rw [vh,h.cellAt j hl];exact hj
theorem kK (w:World) (a1 a2:Option Addr) (c1 c2:Nat) (xs:List Int) (hn:xs.length<=1000) (h1:InRow eL w a1 xs) (h2:InRow eL w a2 xs):
  Calls prog 15 #[.slice a1 xs.length c1,.slice a2 xs.length c2] w fun e w'=>e= .returned (.bool true)/\Below w.heap.size w w':=by
 have H:Aside (InRow eL w a1 xs/\InRow eL w a2 xs):=⟨h1,h2⟩
 clear h1 h2
 go_enter func15,ntmps15
 go_wp2
 go_loopg [5] xs.length (fun kx s5 wr=>∃k:Nat,s5= .int .i64 (k:Int)/\k<=xs.length/\xs.length - k<=kx/\Aside (Below w.heap.size w wr))
 case atStart=>exact ⟨0,rfl,jX _,jL _,jN _ _⟩
 case round=>
  obtain ⟨k,rfl,hk,hkx,A⟩:=hrel
  by_cases hlt:k<xs.length
  ·have hltz:decide ((k:Int)<(xs.length:Int))=true:=by simp;omega
   have ek:((k:Int)).toNat=k:=zj
   have pk:(0:Int)<=(k:Int):=zj
   have bk:(k:Int)<(xs.length:Int):=zj
   obtain ⟨x,hx⟩:∃x,Aside (xs[k]? =some x):=⟨xs[k],jK hlt⟩
   obtain ⟨g1,o1,e1,r1⟩:=Ay H.o.1 hx.o
   obtain ⟨g2,o2,e2,r2⟩:=Ay H.o.2 hx.o
   subst e1 e2
   have z1:=bA A.o r1
   have z2:=bA A.o r2
   clear r1 r2
   go_wp2
   go_quiet (fail)
   go_wp2
   go_roundg (xs.length - (k+1))
   case measure=>omega
   case rel=>exact ⟨k+1,zI,zj,jL _,Go.below_drewN A.o _⟩
  have hltz:decide ((k:Int)<(xs.length:Int))=false:=zl
  go_wp2
  go_ret
  exact ⟨rfl,A.o⟩
