import Derived.Test.YtebpcnkdhgnghaaGreatDoorPM07
import Derived.Test.YtebpcnkdhgnghaaGreatDoorPM08
import Derived.Test.YtebpcnkdhgnghaaGreatDoorPM10
import Derived.Maps.OwnIn
set_option linter.unusedSimpArgs false
set_option linter.unusedVariables false
set_option maxRecDepth 100000
set_option maxHeartbeats 64000000
namespace Go.Proofs.YtebpcnkdhgnghaaGreatDoor
open Go.Proofs.Tryz
variable {T by_:Int} {xs:List Int} {ms:List Mov} {A:List OpX} {base bc bm br bt bx i k p:Nat} {c':Nat→Nat} {kv:Nat→Value} {ao:Option Addr} {R:Rws} {v:Value} {w w':World}
section
open Go.RowKit Go.Maps
open scoped Classical
structure TreeAt (base:Nat) (w:World) (bt bm:Nat) (v:Value) (ms:List Mov):Prop where
 cell:TreeCell w bt bm v
 row:∃L,LogTo ms ms.length L/\w.ownsRow base 300 8 v ms.length (aI gE L)
 map:∃n,n<=600*ms.length/\MapAt prog 3 w bm n (aO ms)
 by_:bQ ms
 fine:∀m∈ms,FineP m.2
theorem TreeAt.good (h:TreeAt base w bt bm v ms):gj (aO ms):=fl h.fine
theorem TreeAt.lt {base:Nat} {w:World} {bt bm:Nat} {v:Value} {ms:List Mov} (h:TreeAt base w bt bm v ms):bt<w.heap.size/\bm<w.heap.size/\∀g,v.ownBlock=some g->g<w.heap.size:=by
 obtain ⟨n,_,hM⟩:=h.map;obtain ⟨L,_,hR⟩:=h.row;exact ⟨h.cell.lt,hM.lt,fun g hg=>(hR.lt g hg).2⟩
theorem bg {n:Nat} {e:TypeId} {xs:List Value} (h:w.ownsRow base e k v n xs) (hs:∀g,v.ownBlock=some g->w'.heap[g]? =w.heap[g]?):w'.ownsRow base e k v n xs:=by
 refine ⟨h.1,?_⟩
 rcases h.2 with h0 | ⟨g,cap,cur,rfl,h1,hg,h2⟩
 ·exact .inl h0
 exact km3
theorem TreeAt.same {base:Nat} {w w':World} {bt bm:Nat} {v:Value} {ms:List Mov} (h:TreeAt base w bt bm v ms) (h1:w'.heap[bt]? =w.heap[bt]?) (h2:w'.heap[bm]? =w.heap[bm]?) (h3:∀g,v.ownBlock=some g->w'.heap[g]? =w.heap[g]?):TreeAt base w' bt bm v ms:=by
 obtain ⟨n,hn,hM⟩:=h.map;obtain ⟨L,hL,hR⟩:=h.row;exact ⟨h1.trans h.cell,⟨L,hL,bg hR h3⟩,⟨n,hn,hM.same h2⟩,h.by_,h.fine⟩
theorem TreeAt.later (h:TreeAt base w bt bm v ms) (hb:Below w.heap.size w w'):TreeAt base w' bt bm v ms:=
 h.same (hb.block _ h.lt.1) (hb.block _ h.lt.2.1) (fun g hg=>hb.block g (h.lt.2.2 g hg))
theorem pu {t b n:Int} {node other:Int} {name value:ByteArray} (h:opE t b n 109 node other name.data.toList value.data.toList=0):FineP (node,other,name):=by
 have h0:=ar h;unfold opE at h;rw [if_pos ⟨h0.1,h0.2.1,h0.2.2.1,h0.2.2.2.1,h0.2.2.2.2.1,h0.2.2.2.2.2.1⟩] at h;unfold fO at h;rw [if_pos rfl] at h;unfold bK at h;split at h
 ·cases h
 rename_i hc;have hl:name.data.toList.length=name.size:=zt;obtain ⟨_,_,_,_,_,_,_,_,_,_,_,_,h12,_⟩:=h0;refine ⟨?_,?_,?_,?_,?_,?_⟩<;>dsimp only<;>omega
def Jm:Prop:=∀(w:World) (base bt bm n at_:Nat) (v:Value) (ms:List Mov) (L:List Ent),TreeCell w bt bm v->LogTo ms ms.length L->w.ownsRow base 300 8 v ms.length (aI gE L)->MapAt prog 3 w bm n (aO ms)->(∀m∈ms,FineP m.2)->at_<=ms.length->ms.length<=1000->n<=1000000->
  Calls prog 200 #[.pointer (some ⟨bt,0,none⟩),.int .i64 (at_:Int)] w fun e w'=>(∃u,e= .returned u)/\MapAt prog 3 w' bm (n+(ms.length - at_)) (aO (ms.take at_))/\Keeps (fun k=>k=bm) w w'
end
section
open Go.RowKit Go.Maps
open scoped Classical
theorem Kb (w:World) (base bt bm n:Nat) (v:Value) (ms:List Mov) (L:List Ent) (s:Int×Int) (hT:TreeCell w bt bm v) (hL:LogTo ms ms.length L) (hR:w.ownsRow base 300 8 v ms.length (aI gE L)) (hby:bQ ms) (hlen:ms.length<=1000) (_hM:MapAt prog 3 w bm n (aO ms)):
  Calls prog 199 #[.pointer (some ⟨bt,0,none⟩),.agg #[.int .i64 s.1,.int .i64 s.2]] w fun e w'=>(∃(i:Nat) (b:Bool),e= .returned (.tuple #[.int .i64 (i:Int),.bool b])/\sm ms s i b)/\Below w.heap.size w w':=by
 have hll:=hL.len
 rcases hR.2 with ⟨hv,h0⟩ | ⟨g,cap,cur,hv,_,hg,hnc,_⟩
 ·have hL0:L= []:=vZ.1 zj;subst hv;exact Ak w bt bt 0 none L ms s hL.movs hby zj (by rw [hll,h0];exact hT.c1) (.inl hL0) hT.lt (fun j u hj=>by rw [hL0] at hj;simp [aI] at hj)
 subst hv;exact Ak w bt g cap (some ⟨g,0,none⟩) L ms s hL.movs hby zj (by rw [hll];exact hT.c1) (.inr rfl) (vD.1 hg).1 (AY hR)
theorem nU (hU:Jm) {ad:Nat->Addr} (w:World) (base bt bm:Nat) (v:Value) (ms:List Mov) (t b n node other:Int) (name value:ByteArray) (hE:Op4 ad w) (hT:TreeAt base w bt bm v ms) (hbase:base<=w.heap.size) (hlen:ms.length<=250)
  (hsn:name.size<=1000000) (hsv:value.size<=1000000) (hop:opE t b n 109 node other name.data.toList value.data.toList=0) (hnew:∀m∈ms,m.1≠(t,b)):
  Calls prog 137 #[.pointer (some ⟨bt,0,none⟩),.agg #[.int .i64 t,.int .i64 b,.int .i64 n,.int .u8 109,.int .i64 node,.int .i64 other,.string name,.string value]] w fun e w'=>e= .returned .nilIface/\∃v' ms',TreeAt base w' bt bm v' ms'/\ms'.Perm (((t,b),(node,other,name))::ms)/\Keeps (fun k=>k=bt\/k=bm\/some k=v.ownBlock) w w'/\(v'.ownBlock=v.ownBlock\/∀g,v'.ownBlock=some g->w.heap.size<=g):=by
 have hbx:∀o,Below w.heap.size w (w.alloc o):=fun o=>(vG _ w).alloc zg o
 obtain ⟨w1,hw1⟩:=zc (w.alloc (.cells #[.int .i64 t,.int .i64 b,.int .i64 n,.int .u8 109,.int .i64 node,.int .i64 other,.string name,.string value] 61))
 have O1:OpAt w1 w.heap.size t b n 109 node other name value:=by rw [hw1];exact OpAt.new w t b n 109 node other name value 61
 have B1:Below w.heap.size w w1:=by rw [hw1];exact hbx _
 have hck:=bA t b n 109 node other name value w1 (hE.later B1) hsn hsv;rw [hop] at hck;have e0:eV ad 0= .nilIface:=rfl;rw [e0] at hck;have s1:w1.heap.size=w.heap.size+1:=xP
 have H1:Aside (OpAt w1 w.heap.size t b n 109 node other name value/\TreeAt base w1 bt bm v ms/\Below w.heap.size w w1):=⟨O1,hT.later B1,B1⟩
 have HT:Aside (TreeAt base w bt bm v ms):=hT;clear hT B1 hE hbx e0;go_enter func137,ntmps137;go_wp2_with fail;rw [<-hw1];clear hw1 O1;refine hck.mono ?_;clear hck;rintro e w2 ⟨rfl,hb2⟩
 have H2:Aside (OpAt w2 w.heap.size t b n 109 node other name value/\TreeAt base w2 bt bm v ms/\Below w.heap.size w w2/\w.heap.size+1<=w2.heap.size):=⟨H1.o.1.later hb2,H1.o.2.1.later hb2,zi H1.o.2.2 hb2,by have:=hb2.size;omega⟩
 clear hb2 H1;obtain ⟨c0,c1,c2,c3,c4,c5,c6,c7⟩:=H2.o.1;have c3:w2.cell? ⟨w.heap.size,3,none⟩=some (.int .u8 109):=c3;go_wp2_with fail;obtain ⟨L,hL,hR⟩:=H2.o.2.1.row;obtain ⟨nn,hnn,hM⟩:=H2.o.2.1.map;refine (Kb w2 base bt bm nn v ms L (t,b) H2.o.2.1.cell hL hR H2.o.2.1.by_ zj hM).mono ?_;rintro e w3 ⟨⟨i,bo,rfl,hF⟩,hb3⟩;obtain ⟨rfl,hil,hF1,hF2⟩:=Fy hF hnew
 have H3:Aside (OpAt w3 w.heap.size t b n 109 node other name value/\TreeAt base w3 bt bm v ms/\Below w.heap.size w w3/\w.heap.size+1<=w3.heap.size/\(∀x∈ms.take i,SLt x.1 (t,b))/\(∀x∈ms.drop i,SLt (t,b) x.1)):=⟨H2.o.1.later hb3,H2.o.2.1.later hb3,zi H2.o.2.2.1 hb3,by have:=H2.o.2.2.2;have:=hb3.size;omega,hF1,hF2⟩
 clear hb3 H2 hF hF1 hF2 c0 c1 c2 c3 c4 c5 c6 c7 hM hR hL hnn;clear L nn;go_wp2_with fail;obtain ⟨L,hL,hR⟩:=H3.o.2.1.row;obtain ⟨nn,hnn,hM⟩:=H3.o.2.1.map;refine (hU w3 base bt bm nn i v ms L H3.o.2.1.cell hL hR hM H3.o.2.1.fine hil zj zj).mono ?_;rintro e w4 ⟨⟨u,rfl⟩,hM4,hk4⟩;have hsz4:=hk4.size;have htl:=H3.o.2.1.lt;have htm:=H3.o.2.1.cell.ne_map hM
 have hbxm:w.heap.size≠bm:=by
  intro e;obtain ⟨es,ck,hb⟩:=hM.block;have:=H3.o.1.c0;rw [e] at this;simp [World.cell?,hb] at this
 have hT4:TreeCell w4 bt bm v:=(hk4.block bt htl.1 htm).trans H3.o.2.1.cell
 have hR4:w4.ownsRow base 300 8 v ms.length (aI gE L):=bg hR (fun g hg=>hk4.block g (htl.2.2 g hg) (by
  rcases hR.2 with ⟨hv,_⟩ | ⟨g',cap',cur,hv,_⟩
  ·rw [hv] at hg;cases hg
  ·subst hv;cases hg;exact eu hR hM))
 have hbB:w.heap.size<w3.heap.size:=by have:=H3.o.2.2.2.1;omega
 have hB4:w4.heap[w.heap.size]? =w3.heap[w.heap.size]? :=hk4.block _ hbB hbxm
 have O4:OpAt w4 w.heap.size t b n 109 node other name value:=by
  have h:=fun o=>uc (a:=⟨w.heap.size,o,none⟩) hB4
  exact ⟨(h 0).trans H3.o.1.c0,(h 1).trans H3.o.1.c1,(h 2).trans H3.o.1.c2,(h 3).trans H3.o.1.c3,(h 4).trans H3.o.1.c4,(h 5).trans H3.o.1.c5,(h 6).trans H3.o.1.c6,(h 7).trans H3.o.1.c7⟩
 have hK4:Keeps (fun k=>k=bt\/k=bm\/some k=v.ownBlock) w w4:=((aX H3.o.2.2.1).mono (fun k hk e=>zj)).then hk4 (fun k _ e=>.inr (.inl e))
 obtain ⟨c0,c1,c2,c3,c4,c5,c6,c7⟩:=O4;have c3:w4.cell? ⟨w.heap.size,3,none⟩=some (.int .u8 109):=c3;have t1:=hT4.c1;have z1:=hT4.fz 1;go_wp2_with fail;obtain ⟨B,hB⟩:=zc w.heap.size
 rw [<-hB] at c0 c1 c2 c3 c4 c5 c6 c7 hbB hbxm |-
 have HB:Aside (B=w.heap.size):=hB;clear hB
 have hbtg:∀g,v.ownBlock=some g->g≠bt/\g≠bm/\g<w4.heap.size:=fun g hg=>by
  rcases hR4.2 with ⟨hv,_⟩ | ⟨g',cap',cur,hv,_⟩
  ·rw [hv] at hg;cases hg
  subst hv;cases hg;exact ⟨gC hR4 hT4,eu hR4 hM4,(hR4.lt _ rfl).2⟩
 have hxw:∀X:World,X=(w4.alloc (.cells #[.int .i64 t,.int .i64 b,.int .i64 node,.int .i64 other,.string name,.int .i64 0,.int .i64 0,.string ⟨#[]⟩] 300)).drew->Calls prog 201 #[v,.int .i64 (i:Int),.slice (some ⟨w4.heap.size,0,none⟩) 1 1] X
   fun e w'=>∃g' cap',e= .returned (.slice (some ⟨g',0,none⟩) (ms.length+1) cap')/\Aside (w'.ownsRow base 300 8 (.slice (some ⟨g',0,none⟩) (ms.length+1) cap') (ms.length+1) (aI gE (Dq L i (((t,b),(node,other,name)),cU)))/\Keeps (fun k=>some k=v.ownBlock) w4 w'/\(some g'=v.ownBlock\/w4.heap.size<=g'))/\w'.cell? ⟨bt,1,none⟩=some v/\w'.frozen? ⟨bt,1,none⟩=false/\(w'.cell? ⟨B,0,none⟩=some (.int .i64 t)/\w'.cell? ⟨B,1,none⟩=some (.int .i64 b)/\w'.cell? ⟨B,4,none⟩=some (.int .i64 node)/\w'.cell? ⟨B,5,none⟩=some (.int .i64 other)/\w'.cell? ⟨B,6,none⟩=some (.string name)/\w'.cell? ⟨bt,1,none⟩=some v):=by
  rintro X rfl;obtain ⟨Y,hY⟩:=zc ((w4.alloc (.cells #[.int .i64 t,.int .i64 b,.int .i64 node,.int .i64 other,.string name,.int .i64 0,.int .i64 0,.string ⟨#[]⟩] 300)).drew)
  have hnb:Y.heap[w4.heap.size]? =some (.cells #[.int .i64 t,.int .i64 b,.int .i64 node,.int .i64 other,.string name,.int .i64 0,.int .i64 0,.string ⟨#[]⟩] 300 (0,0)):=by rw [hY];exact heap_alloc_new w4 _
  have hYk:Keeps (fun _=>False) w4 Y:=by rw [hY];exact ((Keeps.refl _ w4).alloc _).drew
  have hYs:Y.heap.size=w4.heap.size+1:=by rw [hY];simp
  have hRY:=bg (w':=Y) hR4 (fun g hg=>hYk.block g (hbtg g hg).2.2 (fun e=>e));rw [<-hY];refine (CR Y base ms.length i v (aI gE L) (gE (((t,b),(node,other,name)),cU)) hRY zj w4.heap.size rfl (fun j u hj=> ?_) (wa _) (fb wa L) (fun e=>by have:=(hbtg _ e.symm).2.2;omega) ?_ (fun j=> ?_) (by have:=hK4.size;omega) hil).mono ?_
  ·simp only [World.cell?,hnb];rw [<-hj];simp [gE,cU]
  ·simp [World.shape?,hnb]
  ·simp [World.frozen?,hnb]
  rintro e w' ⟨v',rfl,ho,hk,hv'⟩;obtain ⟨g',cap',rfl⟩:=ownsRow_succ ho;have hkk:Keeps (fun k=>some k=v.ownBlock) w4 w':=(hYk.mono (fun _ _ e=>e.elim)).trans hk;have hTb:=hkk.block bt zj (fun e=>(hbtg bt e.symm).1 rfl);have hT5:TreeCell w' bt bm v:=hTb.trans hT4;rw [<-AC ed L i (by rw [hL.len];exact hil)] at ho;have hBb:=hkk.block B zj (fun e=>by have:=HT.o.lt.2.2 B e.symm;have:=HB.o;omega)
  have hBc:=fun o=>uc (a:=⟨B,o,none⟩) hBb
  refine ⟨g',cap',rfl,⟨ho,hkk,?_⟩,hT5.c1,hT5.fz 1,(hBc 0).trans c0,(hBc 1).trans c1,(hBc 4).trans c4,(hBc 5).trans c5,(hBc 6).trans c6,hT5.c1⟩
  rcases hv' with e | e
  ·exact .inl e
  right
  have:g'=Y.heap.size:=by simpa [Value.ownBlock] using e
  omega
 have t1a:∀o,(w4.alloc o).cell? ⟨bt,1,none⟩=some v:=fun o=>(uc (a:=⟨bt,1,none⟩) (vP w4 o bt hT4.lt)).trans t1
 have hbtB:bt≠B:=by have:=HT.o.lt.1;have:=HB.o;omega
 have hBbt:B≠bt:=fun e=>hbtB e.symm
 have hBl:B<w4.heap.size:=zj;have hBn:B≠w4.heap.size:=zj;have hBm:w4.heap.size≠B:=zj
 have htn:bt≠w4.heap.size:=by have:=hT4.lt;omega
 have htn':w4.heap.size≠bt:=by have:=hT4.lt;omega
 refine bv (S:=(fun w'=>w'.cell? ⟨B,0,none⟩=some (.int .i64 t)/\w'.cell? ⟨B,1,none⟩=some (.int .i64 b)/\w'.cell? ⟨B,4,none⟩=some (.int .i64 node)/\w'.cell? ⟨B,5,none⟩=some (.int .i64 other)/\w'.cell? ⟨B,6,none⟩=some (.string name)/\w'.cell? ⟨bt,1,none⟩=some v)) (z:=20) zo ⟨c0,c1,c4,c5,c6,t1⟩ (fun hHeld=> ?_);refine aY (i:=0) (v:= ?v0) zr rfl zo zo zo (fun _ _ _ h=>h) (Or.inl ⟨zv,?hy0⟩) hHeld ?rest0
 case hy0=>(intro w' _;go_simp;try with_reducible rfl)
 simp only [Act.put,vO,vX,vY];refine aY (i:=1) (v:= ?v1) zr rfl zo zo zo (fun _ _ _ h=>h) (Or.inl ⟨zv,?hy1⟩) hHeld ?rest1
 case hy1=>(intro w' _;go_simp;try with_reducible rfl)
 simp only [Act.put,vO,vX,vY];refine aY (i:=2) (v:= ?v2) zr rfl zo zo zo (fun _ _ _ h=>h) (Or.inl ⟨zv,?hy2⟩) hHeld ?rest2
 case hy2=>(intro w' _;go_simp;try with_reducible rfl)
 simp only [Act.put,vO,vX,vY];refine aY (i:=3) (v:= ?v3) zr rfl zo zo zo (fun _ _ _ h=>h) (Or.inl ⟨zv,?hy3⟩) hHeld ?rest3
 case hy3=>(intro w' _;go_simp;try with_reducible rfl)
 simp only [Act.put,vO,vX,vY];refine aA (i:=4) (v:= ?v4) zr zo rfl zo zo zo zo (fun _ _ _ h=>h) (Or.inl ⟨zv,?hy4⟩) hHeld ?rest4
 case hy4=>(intro w' hSw;obtain ⟨k0,k1,k4,k5,k6,k7⟩:=hSw;go_simp;try with_reducible rfl)
 simp only [Act.put,vO,vX,vY];refine aY (i:=5) (v:= ?v5) zr rfl zo zo zo (fun _ _ _ h=>h) (Or.inl ⟨zv,?hy5⟩) hHeld ?rest5
 case hy5=>(intro w' _;go_simp;try with_reducible rfl)
 simp only [Act.put,vO,vX,vY];refine aY (i:=6) (v:= ?v6) zr rfl zo zo zo (fun _ _ _ h=>h) (Or.inl ⟨zv,?hy6⟩) hHeld ?rest6
 case hy6=>(intro w' _;go_simp;try with_reducible rfl)
 simp only [Act.put,vO,vX,vY];refine aA (i:=7) (v:= ?v7) zr zo rfl zo zo zo zo (fun _ _ _ h=>h) (Or.inl ⟨zv,?hy7⟩) hHeld ?rest7
 case hy7=>(intro w' hSw;obtain ⟨k0,k1,k4,k5,k6,k7⟩:=hSw;go_simp;try with_reducible rfl)
 simp only [Act.put,vO,vX,vY];refine aY (i:=8) (v:= ?v8) zr rfl zo zo zo (fun _ _ _ h=>h) (Or.inl ⟨zv,?hy8⟩) hHeld ?rest8
 case hy8=>(intro w' _;go_simp;try with_reducible rfl)
 simp only [Act.put,vO,vX,vY];refine aA (i:=9) (v:= ?v9) zr zo rfl zo zo zo zo (fun _ _ _ h=>h) (Or.inl ⟨zv,?hy9⟩) hHeld ?rest9
 case hy9=>(intro w' hSw;obtain ⟨k0,k1,k4,k5,k6,k7⟩:=hSw;go_simp;try with_reducible rfl)
 simp only [Act.put,vO,vX,vY];refine aY (i:=10) (v:= ?v10) zr rfl zo zo zo (fun _ _ _ h=>h) (Or.inl ⟨zv,?hy10⟩) hHeld ?rest10
 case hy10=>(intro w' _;go_simp;try with_reducible rfl)
 simp only [Act.put,vO,vX,vY];refine aA (i:=11) (v:= ?v11) zr zo rfl zo zo zo zo (fun _ _ _ h=>h) (Or.inl ⟨zv,?hy11⟩) hHeld ?rest11
 case hy11=>(intro w' hSw;obtain ⟨k0,k1,k4,k5,k6,k7⟩:=hSw;go_simp;try with_reducible rfl)
 simp only [Act.put,vO,vX,vY];refine aY (i:=12) (v:= ?v12) zr rfl zo zo zo (fun _ _ _ h=>h) (Or.inl ⟨zv,?hy12⟩) hHeld ?rest12
 case hy12=>(intro w' _;go_simp;try with_reducible rfl)
 simp only [Act.put,vO,vX,vY];refine aA (i:=13) (v:= ?v13) zr zo rfl zo zo zo zo (fun _ _ _ h=>h) (Or.inl ⟨zv,?hy13⟩) hHeld ?rest13
 case hy13=>(intro w' hSw;obtain ⟨k0,k1,k4,k5,k6,k7⟩:=hSw;go_simp;try with_reducible rfl)
 simp only [Act.put,vO,vX,vY];refine aY (i:=14) (v:= ?v14) zr rfl zo zo zo (fun _ _ _ h=>h) (Or.inl ⟨zv,?hy14⟩) hHeld ?rest14
 case hy14=>(intro w' _;go_simp;try with_reducible rfl)
 simp only [Act.put,vO,vX,vY];refine aY (i:=15) (v:= ?v15) zr rfl zo zo zo (fun _ _ _ h=>h) (Or.inl ⟨zv,?hy15⟩) hHeld ?rest15
 case hy15=>(intro w' _;go_simp;try with_reducible rfl)
 simp only [Act.put,vO,vX,vY];refine aF (i:=16) zo rfl (fun K hK=> ?_);go_simp;refine hK _ _ (.inl ?s16) ?n16
 case s16=>
  have hbl:=fun o=>uc (a:=⟨B,o,none⟩) (vP w4 (.cells #[.int .i64 t,.int .i64 b,.int .i64 node,.int .i64 other,.string name,.int .i64 0,.int .i64 0,.string ⟨#[]⟩] 300) B hBl)
  exact ⟨(hbl 0).trans c0,(hbl 1).trans c1,(hbl 4).trans c4,(hbl 5).trans c5,(hbl 6).trans c6,t1a _⟩
 clear hK K hHeld;refine aF (i:=17) zo rfl (fun K hK=> ?_);go_simp;refine (hxw _ rfl).mono ?_;rintro e w5 ⟨g',cap',rfl,H5,u1,u2,u3⟩;refine hK _ _ (.inl u3) ?_;clear hK K;refine qn ?_;refine aY (i:=18) (v:= ?v18) zr rfl zo zo zo (fun _ _ _ h=>h) (Or.inl ⟨zv,?hy18⟩) u3 ?rest18
 case hy18=>(intro w' _;go_simp;try with_reducible rfl)
 refine qn ?_;refine aY (i:=19) (v:= ?v19) zr rfl zo zo zo (fun _ _ _ h=>h) (Or.inl ⟨zv,?hy19⟩) u3 ?rest19
 case hy19=>(intro w' _;go_simp;try with_reducible rfl)
 refine qn ?_;refine aF (i:=20) zo rfl (fun K hK=> ?_);go_simp;refine hK _ _ (.inr ⟨rfl,zr⟩) ?_;clear hK K;refine bB zo ?_ _;obtain ⟨w6,hw6⟩:=zc (w5.setCell ⟨bt,1,none⟩ (.slice (some ⟨g',0,none⟩) (ms.length+1) cap'));rw [<-hw6];have hk45:=H5.o.2.1;have hT5:TreeCell w5 bt bm v:=(hk45.block bt hT4.lt (fun e=>(hbtg bt e.symm).1 rfl)).trans hT4;have hM5:=hM4.same (hk45.block bm hM4.lt (fun e=>(hbtg bm e.symm).2.1 rfl));have hgbt:=gC H5.o.1 hT5;have hgbm:=eu H5.o.1 hM5
 have hk56:Keeps (fun k=>k=bt) w5 w6:=by rw [hw6];exact aZ bt [_] 1 w5
 have hT6:TreeCell w6 bt bm (.slice (some ⟨g',0,none⟩) (ms.length+1) cap'):=by rw [hw6];exact heap_setCell_same w5 bt 1 _ _ _ hT5
 have hM6:=hM5.same (hk56.block bm hM5.lt (fun e=>htm e.symm));have hgl5:=(H5.o.1.lt g' rfl).2;have hR6:=iz H5.o.1 (hk56.block g' hgl5 hgbt);have hlen':(gH ms i ((t,b),(node,other,name))).length=ms.length+1:=rP _ _ _;have hL6:=Gj (m:=((t,b),(node,other,name))) hL hil cU
 have hfine':∀m∈gH ms i ((t,b),(node,other,name)),FineP m.2:=fun m hm=>by
  rcases vJ.1 ((im ms i _).mem_iff.1 hm) with rfl | hm
  ·exact pu hop
  exact H3.o.2.1.fine m hm
 have hdo:=My w6 bt bm base g' cap' i (nn+(ms.length - i)) (Dq L i (((t,b),(node,other,name)),cU)) (gH ms i ((t,b),(node,other,name))) (by rw [hlen'];exact hT6) (by rw [hlen'];exact hR6) hL6 (by rw [BJ hil];exact hM6) hfine' zj zj zj
 have hKF:Aside (Keeps (fun k=>k=bt\/k=bm\/some k=v.ownBlock) w w6/\TreeCell w6 bt bm (.slice (some ⟨g',0,none⟩) (ms.length+1) cap')/\(some g'=v.ownBlock\/w.heap.size<=g')/\g'≠bt/\bm≠bt/\bt<w6.heap.size):=
  ⟨(hK4.then hk45 (fun _ _ e=>.inr (.inr e))).then hk56 (fun _ _ e=>.inl e),hT6,H5.o.2.2.imp id (fun h=>by have:=hK4.size;omega),hgbt,fun e=>htm e.symm,hT6.lt⟩
 have hHi:Aside (bQ (gH ms i ((t,b),(node,other,name)))/\(∀m∈gH ms i ((t,b),(node,other,name)),FineP m.2)):=⟨Hc H3.o.2.1.by_ H3.o.2.2.2.2.1 H3.o.2.2.2.2.2,hfine'⟩
 clear hw6 hk45 hT5 hM5 hgbt hgbm hk56 hT6 hM6 hgl5 hR6 hL6 H5 u1 u2 u3 hxw c0 c1 c2 c3 c4 c5 c6 c7 t1 z1 t1a hfine' hK4 hR4 hT4 hM4 hk4 hB4;go_wp2_with fail;refine hdo.mono ?_;clear hdo;rintro e w7 ⟨⟨u',rfl⟩,L',n',hL',hown',hM',hn',hk'⟩
 have FIN:Aside (∃v' ms',TreeAt base w7 bt bm v' ms'/\ms'.Perm (((t,b),(node,other,name))::ms)/\Keeps (fun k=>k=bt\/k=bm\/some k=v.ownBlock) w w7/\(v'.ownBlock=v.ownBlock\/∀g,v'.ownBlock=some g->w.heap.size<=g)):=by
  have hgn:=hKF.o.2.2.2.1;refine ⟨.slice (some ⟨g',0,none⟩) (ms.length+1) cap',gH ms i ((t,b),(node,other,name)),⟨?_,⟨L',hL',by rw [hlen'] at hown' |-;exact hown'⟩,⟨n',zj,hM'⟩,hHi.o.1,hHi.o.2⟩,im _ _ _,?_,?_⟩
  ·exact (hk'.block bt hKF.o.2.2.2.2.2 (fun e=>e.elim (fun e=>hKF.o.2.2.2.2.1 e.symm) (fun e=>hgn e.symm))).trans hKF.o.2.1
  ·refine hKF.o.1.then hk' (fun k hk e=> ?_)
   rcases e with e | e
   ·exact .inr (.inl e)
   rcases hKF.o.2.2.1 with h | h
   ·exact .inr (.inr (by rw [e];exact h))
   omega
  rcases hKF.o.2.2.1 with h | h
  ·exact .inl h
  exact .inr (fun g hg=>by cases hg;exact h)
 clear hL' hown' hM' hk' hKF hHi hn';go_wp2;go_ret;exact ⟨rfl,FIN.o⟩
end
section
open Go.RowKit
open scoped Classical
structure pR (c:Nat->Nat) (i:Nat) (w:World) (c':Nat->Nat) (w':World):Prop where
 block:∀k,k<w.heap.size->c k=i->w'.heap[k]? =w.heap[k]?
 hue:∀k,k<w.heap.size->c' k=c k
def cO (nd:Int):Nat:=20+nd.toNat
def RepCell (w:World) (br:Nat) (T by_:Int) (kv:Nat->Value) (bt bx bc:Nat):Prop:=w.heap[br]? =some (.cells #[.int .i64 T,.int .i64 by_,kv 0,kv 1,kv 2,kv 3,.pointer (some ⟨bt,0,none⟩),.map (some bx),.pointer (some ⟨bc,0,none⟩)] 117 (0,0))
theorem RepCell.lt (h:RepCell w br T by_ kv bt bx bc):br<w.heap.size:=(vD.1 h).1
theorem RepCell.same (h:RepCell w br T by_ kv bt bx bc) (e:w'.heap[br]? =w.heap[br]?):RepCell w' br T by_ kv bt bx bc:=e.trans h
theorem RepCell.c0 (h:RepCell w br T by_ kv bt bx bc):w.cell? ⟨br,0,none⟩=some (.int .i64 T):=zO
theorem RepCell.c1 (h:RepCell w br T by_ kv bt bx bc):w.cell? ⟨br,1,none⟩=some (.int .i64 by_):=zO
theorem RepCell.c2 (h:RepCell w br T by_ kv bt bx bc):w.cell? ⟨br,2,none⟩=some (kv 0):=zO
theorem RepCell.c3 (h:RepCell w br T by_ kv bt bx bc):w.cell? ⟨br,3,none⟩=some (kv 1):=zO
theorem RepCell.c4 (h:RepCell w br T by_ kv bt bx bc):w.cell? ⟨br,4,none⟩=some (kv 2):=zO
theorem RepCell.c5 (h:RepCell w br T by_ kv bt bx bc):w.cell? ⟨br,5,none⟩=some (kv 3):=zO
theorem RepCell.c6 (h:RepCell w br T by_ kv bt bx bc):w.cell? ⟨br,6,none⟩=some (.pointer (some ⟨bt,0,none⟩)):=zO
theorem RepCell.c7 (h:RepCell w br T by_ kv bt bx bc):w.cell? ⟨br,7,none⟩=some (.map (some bx)):=zO
theorem RepCell.c8 (h:RepCell w br T by_ kv bt bx bc):w.cell? ⟨br,8,none⟩=some (.pointer (some ⟨bc,0,none⟩)):=zO
theorem RepCell.fz (h:RepCell w br T by_ kv bt bx bc) (o:Nat):w.frozen? ⟨br,o,none⟩=false:=by unfold RepCell at h;simp [World.frozen?,h]
def RowsAt (w:World) (c:Nat->Nat) (kv:Nat->Value) (R:Rws):Prop:=∀i,i<4->w.ownsRow 0 61 8 (kv i) (R i).length (cellsOf (R i))/\∀g,(kv i).ownBlock=some g->c g=10+i
theorem RowsAt.one {c:Nat->Nat} (h:RowsAt w c kv R) (hi:i<4) (hk:pR c (10+i) w c' w'):w'.ownsRow 0 61 8 (kv i) (R i).length (cellsOf (R i))/\∀g,(kv i).ownBlock=some g->c' g=10+i:=by
 obtain ⟨h1,h2⟩:=h i hi;refine ⟨bg h1 (fun g hg=>hk.block g (h1.lt g hg).2 (h2 g hg)),fun g hg=> ?_⟩;rw [hk.hue g (h1.lt g hg).2];exact h2 g hg
theorem RowsAt.kept {c:Nat->Nat} (h:RowsAt w c kv R) (hk:∀i,i<4->pR c (10+i) w c' w'):RowsAt w' c' kv R:=fun i hi=>h.one hi (hk i hi)
theorem RowsAt.ops {c:Nat->Nat} (h:RowsAt w c kv R) (hi:i<4):OpsAt w (kv i) (R i):=ft (h i hi).1
def TreeC (w:World) (c:Nat->Nat) (bt:Nat) (A:List OpX):Prop:=∃bm v ms,TreeAt 0 w bt bm v ms/\ms.Perm (bO A)/\c bt=2/\c bm=2/\∀g,v.ownBlock=some g->c g=2
theorem TreeC.kept {c:Nat->Nat} (h:TreeC w c bt A) (hk:pR c 2 w c' w'):TreeC w' c' bt A:=by
 obtain ⟨bm,v,ms,h1,h2,h3,h4,h5⟩:=h;obtain ⟨l1,l2,l3⟩:=h1.lt;exact ⟨bm,v,ms,h1.same (hk.block _ l1 h3) (hk.block _ l2 h4) (fun g hg=>hk.block g (l3 g hg) (h5 g hg)),h2,(hk.hue _ l1).trans h3,(hk.hue _ l2).trans h4,fun g hg=>(hk.hue g (l3 g hg)).trans (h5 g hg)⟩
def LineC (w:World) (c:Nat->Nat) (p:Nat) (nd:Int) (A:List OpX):Prop:=∃v L,LineAt (p+1) w p v L/\LineIs A nd L/\c p=cO nd/\∀g,v.ownBlock=some g->c g=cO nd
theorem LineAt.kin {L:List Ltr} (h:LineAt base w p v L) {g:Nat} (hg:v.ownBlock=some g):g<w.heap.size:=(h.row.lt g hg).2
theorem LineC.kept {c:Nat->Nat} {nd:Int} (h:LineC w c p nd A) (hk:pR c (cO nd) w c' w'):LineC w' c' p nd A:=by
 obtain ⟨v,L,h1,h2,h3,h4⟩:=h;refine ⟨v,L,⟨(hk.block p h1.lt h3).trans h1.cell,gT h1.row (fun g hg=>hk.block g (h1.kin hg) (h4 g hg)),h1.low,h1.nodup,h1.pos,h1.small⟩,h2,(hk.hue _ h1.lt).trans h3,fun g hg=>(hk.hue g (h1.kin hg)).trans (h4 g hg)⟩
def TextC (w:World) (c:Nat->Nat) (bx:Nat) (A:List OpX):Prop:=∃n tx,n<=A.length/\TMapAt w bx n tx/\c bx=3/\(∀nd,(tx nd).isSome=true↔KnownN A nd)/\∀nd p,tx nd=some p->LineC w c p nd A
theorem TextC.kept {w w':World} {c c':Nat->Nat} {bx:Nat} {A:List OpX} (h:TextC w c bx A) (hk:pR c 3 w c' w') (hl:∀nd,KnownN A nd->pR c (cO nd) w c' w'):TextC w' c' bx A:=by
 obtain ⟨n,tx,h1,h2,h3,h4,h5⟩:=h;exact ⟨n,tx,h1,h2.same (hk.block _ h2.lt h3),(hk.hue _ h2.lt).trans h3,h4,fun nd p hp=>(h5 nd p hp).kept (hl nd ((h4 nd).1 (by rw [hp];rfl)))⟩
def CellC (w:World) (c:Nat->Nat) (bc:Nat) (A:List OpX):Prop:=∃cm A',CellsAt w bc cm A.length (du A')/\A'.Perm A/\c bc=4/\c cm=4
theorem CellC.kept {c:Nat->Nat} (h:CellC w c bc A) (hk:pR c 4 w c' w'):CellC w' c' bc A:=by
 obtain ⟨cm,A',h1,h2,h3,h4⟩:=h;exact ⟨cm,A',h1.same (hk.block _ h1.lt.1 h3) (hk.block _ h1.lt.2 h4),h2,(hk.hue _ h1.lt.1).trans h3,(hk.hue _ h1.lt.2).trans h4⟩
structure RepMid (w:World) (c:Nat->Nat) (br:Nat) (T by_:Int) (kv:Nat->Value) (bt bx bc:Nat) (R:Rws) (A:List OpX):Prop where
 cell:RepCell w br T by_ kv bt bx bc
 hue:c br=1
 rows:RowsAt w c kv R
 tree:TreeC w c bt A
 text:TextC w c bx A
 marks:CellC w c bc A
 time:dM A T
theorem RepMid.kept {w w':World} {c c':Nat->Nat} {br:Nat} {T by_:Int} {kv:Nat->Value} {bt bx bc:Nat} {R:Rws} {A:List OpX} (h:RepMid w c br T by_ kv bt bx bc R A) (hk:∀i,i≠0->pR c i w c' w'):RepMid w' c' br T by_ kv bt bx bc R A:=by
 have k1:=hk 1 zj;exact ⟨h.cell.same (k1.block _ h.cell.lt h.hue),(k1.hue _ h.cell.lt).trans h.hue,h.rows.kept (fun i _=>hk _ zj),h.tree.kept (hk 2 zj),h.text.kept (hk 3 zj) (fun nd _=>hk _ yj),h.marks.kept (hk 4 zj),h.time⟩
theorem RepMid.later {c:Nat->Nat} (h:RepMid w c br T by_ kv bt bx bc R A) (hb:Below w.heap.size w w'):RepMid w' c br T by_ kv bt bx bc R A:=
 h.kept (fun i _=>⟨fun k hk _=>hb.block k hk,fun k _=>rfl⟩)
def RepAt (w:World) (c:Nat->Nat) (br:Nat) (by_:Int) (R:Rws):Prop:=∃T kv bt bx bc A,RepMid w c br T by_ kv bt bx bc R A/\A.Perm (aQ R)/\RowsK R/\0<=by_/\by_<4
theorem RepAt.kept {w w':World} {c c':Nat->Nat} {br:Nat} {by_:Int} {R:Rws} (h:RepAt w c br by_ R) (hk:∀i,i≠0->pR c i w c' w'):RepAt w' c' br by_ R:=by
 obtain ⟨T,kv,bt,bx,bc,A,h1,h2⟩:=h;exact ⟨T,kv,bt,bx,bc,A,h1.kept hk,h2⟩
theorem RepAt.later {c:Nat->Nat} (h:RepAt w c br by_ R) (hb:Below w.heap.size w w'):RepAt w' c br by_ R:=
 h.kept (fun i _=>⟨fun k hk _=>hb.block k hk,fun k _=>rfl⟩)
structure Acts (w:World) (c:Nat->Nat) (w':World) (c':Nat->Nat):Prop where
 keeps:Keeps (fun k=>c k≠0) w w'
 hue:∀k,k<w.heap.size->c' k=c k
theorem Acts.of_below (c:Nat->Nat) (hb:Below w.heap.size w w'):Acts w c w' c:=⟨(aX hb).mono (fun k hk e=>absurd hk zj),fun _ _=>rfl⟩
theorem Acts.trans {w w1 w2:World} {c c1 c2:Nat->Nat} (h:Acts w c w1 c1) (k:Acts w1 c1 w2 c2):Acts w c w2 c2:=
 ⟨h.keeps.then k.keeps (fun i hi e=>by rw [h.hue i hi] at e;exact e),fun i hi=>(k.hue i (vV hi h.keeps.size)).trans (h.hue i hi)⟩
end
section
open Go.Shelf Go.RowKit Go.Lib Go.Sort Go.Maps
open scoped Classical
theorem Jj:(prog.info? 3).map (fun i=>(i.zero,i.size,i.bytes))=some (some (.int .i64 0),1,8):=zo
def kF (k:Int):List Value:=[.int .i64 k]
end
section
open Go.RowKit Go.Lib Go.Sort
theorem An (h:InRow kF w ao xs) {x:Int} (hk:xs[k]? =some x):∃g o,ao=some ⟨g,o,none⟩/\w.cell? ⟨g,o+k,none⟩=some (.int .i64 x):=by
 rcases h with rfl | ⟨g,o,h1,h2⟩
 ·simp at hk
 have c0:=cX (enc:=kF) (k:=1) (fun _=>rfl) hk (c:=0) zj;exact ⟨g,o,h1,h2 k _ (by simpa [kF] using c0)⟩
theorem tQ {B:Nat} {cap:Nat} (h:w.ownsRow B 3 1 (.slice ao xs.length cap) xs.length (aI kF xs)):InRow kF w ao xs:=by
 rcases h.2 with ⟨h1,h2⟩ | ⟨g,cap',cur,hv,_⟩
 ·exact kj5
 exact kg4
theorem rg (w:World) (a1 a2:Option Addr) (c1 c2:Nat) (xs:List Int) (hn:xs.length<=1000) (h1:InRow kF w a1 xs) (h2:InRow kF w a2 xs):
  Calls prog 15 #[.slice a1 xs.length c1,.slice a2 xs.length c2] w fun e w'=>e= .returned (.bool true)/\Below w.heap.size w w':=by
 have H:Aside (InRow kF w a1 xs/\InRow kF w a2 xs):=⟨h1,h2⟩
 clear h1 h2;go_enter func15,ntmps15;go_wp2;go_loopg [5] xs.length (fun kx s5 wr=>∃k:Nat,s5= .int .i64 (k:Int)/\k<=xs.length/\xs.length - k<=kx/\Aside (Below w.heap.size w wr))
 case atStart=>exact ⟨0,rfl,vM _,vB _,vG _ _⟩
 case round=>
  obtain ⟨k,rfl,hk,hkx,A⟩:=hrel;by_cases hlt:k<xs.length
  ·have hltz:decide ((k:Int)<(xs.length:Int))=true:=by simp;omega
   have ek:((k:Int)).toNat=k:=zj;have pk:(0:Int)<=(k:Int):=zj;have bk:(k:Int)<(xs.length:Int):=zj
   obtain ⟨x,hx⟩:∃x,Aside (xs[k]? =some x):=⟨xs[k],vF hlt⟩
   obtain ⟨g1,o1,e1,r1⟩:=An H.o.1 hx.o;obtain ⟨g2,o2,e2,r2⟩:=An H.o.2 hx.o;subst e1 e2;have z1:=aT A.o r1;have z2:=aT A.o r2;clear r1 r2;go_wp2;go_quiet (fail);go_wp2;go_roundg (xs.length - (k+1))
   case measure=>omega
   case rel=>exact ⟨k+1,zw,zj,vB _,Go.below_drewN A.o _⟩
  have hltz:decide ((k:Int)<(xs.length:Int))=false:=zq;go_wp2;go_ret;exact ⟨rfl,A.o⟩
end
section
open Go.RowKit Go.Shelf Go.Maps
attribute [local go_sem] Oper.semAt_some
theorem OA (p q:Plc) (w:World):(Op.equalIn 10000 119 (.agg #[.int .i64 p.1,.int .i64 p.2.1,.string p.2.2]) (.agg #[.int .i64 q.1,.int .i64 q.2.1,.string q.2.2])).run prog w= .ok (decide (p=q)) w:=by
 obtain ⟨a,b,s⟩:=p;obtain ⟨a',b',s'⟩:=q
 have hs:∀x y:ByteArray,x.toList=y.toList↔x=y:=fun x y=>⟨fun h=>by rw [uy,uy] at h;exact WideShapes.bytes_inj h,fun h=>by rw [h]⟩
 go_simp;by_cases h1:a=a'<;>by_cases h2:b=b'<;>by_cases h3:s=s'<;>simp [h1,h2,h3]
theorem Keeps.grownFrom {S:Nat->Prop} {X Y:World} {row:Option Nat} (h:Keeps S w X) (hg:X.grownBy Y row) (hr:∀r,row=some r->w.heap.size<=r):Keeps S w Y:=
 h.then (aV hg) (fun i hi e=>by have:=hr i e.symm;omega)
theorem EJ (w:World) (bt bm g off cap at_ len n:Nat) (ao bo:Option Addr) (L:List Ent) (F:Nat->Sta) (hat:at_<=len) (hll:len - at_=L.length) (hlen:len<=1000) (hn:n<=1000000) (hm0:w.cell? ⟨bt,0,none⟩=some (.map (some bm))) (hsl:w.cell? ⟨bt,1,none⟩=some (.slice ao len cap))
  (hbo:(if cap=at_ then ao else Option.map (fun x=>x.add (at_*8)) ao)=bo) (hao:L= []\/bo=some ⟨g,off,none⟩) (hg:g<w.heap.size) (hgm:g≠bm) (hrow:RowAt w g off L) (hM:MapAt prog 3 w bm n (F 0))
  (hF:∀r,r<L.length->JJ (F r) (cE L r).1.2.1 (cE L r).2=F (r+1)) (hwf:∀r,Wf (cE L r).1.2.1):
  Calls prog 200 #[.pointer (some ⟨bt,0,none⟩),.int .i64 (at_:Int)] w fun e w'=>(∃v,e= .returned v)/\MapAt prog 3 w' bm (n+L.length) (F L.length)/\Keeps (fun k=>k=bm) w w':=by
 have hbt:bt<w.heap.size:=block_lt_of_cell hsl;have hbm:bm<w.heap.size:=hM.lt
 have htm:bt≠bm:=by
  intro e;obtain ⟨es,ck,hb⟩:=hM.block;rw [<-e] at hb;simp [World.cell?,hb] at hm0
 have hsl3:∀o1,(w.alloc o1).cell? ⟨bt,1,none⟩=some (.slice ao len cap):=fun o1=>
  (((vG w.heap.size w).alloc zg o1).cell (p:=⟨bt,1,none⟩) hbt).trans hsl
 refine (callsIn_wide (n:=4)).1 ?_;refine callsIn_of_wp_marks func200 rfl trivial ?_ rfl;simp only [ntmps200,uq,ud,uz,Nat.reduceAdd,Nat.reduceSub,uM,uN,uV,uO,uR,Zb];gi_wp2_with (refine ⟨trivial,?_⟩;gi_at_call 258;refine (Em Fence.wide (4 - 1) trivial rfl _ _ _ _).mono ?_;rintro e w' ⟨rfl,rfl⟩);obtain ⟨w2,hw2⟩:=zc ((w.alloc (.cells #[.pointer (some ⟨bt,0,none⟩)] 113)).alloc (.cells #[.slice bo L.length (cap - at_)] 194));rw [<-hw2]
 have hB0:Below w.heap.size w w2:=by rw [hw2];exact ((vG w.heap.size w).alloc zg _).alloc zt _
 have hs2:w2.heap.size=w.heap.size+2:=by rw [hw2];simp
 obtain ⟨B,hB⟩:=zc w.heap.size
 have e1:Boxed w2 B 113 (.pointer (some ⟨bt,0,none⟩)):=by rw [hw2,hB];exact (NA w _ _).1
 have e2:Boxed w2 (B+1) 194 (.slice bo L.length (cap - at_)):=by rw [hw2,hB];exact (NA w _ _).2
 rw [<-hB] at hB0 hs2 hg hbt hbm |-
 have HB:Aside (B=w.heap.size):=hB;have hBw:B<=w.heap.size:=zj;clear hB;have hrow2:RowAt w2 g off L:=hrow.same (hB0.block g hg);have hM2:=hM.same (hB0.block bm hbm);have hk2:Keeps (fun k=>k=bm) w w2:=(aX hB0).mono (fun k hk e=>yN);clear hw2 hsl3 hrow hM hbo
 refine wpIn_rangeFunc_ownH rfl zj (gf:=308) (lb:= #[.pointer (some ⟨B+1,0,none⟩)]) rfl trivial (enters_of func308 zo rfl)
  (nK Fence.wide (4 - 1) trivial rfl zj (B+1) g off (cap - at_) bo L zj hao w2 zj zj e2.cell hrow2) KeepTwo.trans (fun W l o o' hl _ _ _=>KeepTwo.put (N:=w2.heap.size) zj zj W l o' hl) (vG _ _) (fun _=>rfl)
  (fun pre W=>((∃f,MapAt prog 3 W bm (n+pre.length) f/\(pre=List.range pre.length->f=F pre.length))/\Boxed W B 113 (.pointer (some ⟨bt,0,none⟩))/\w2.heap.size<=W.heap.size)/\Keeps (fun k=>k=bm) w W)
  (fun _ _ _=>False)
  (fun pre X Y row hs hg hr=>by
   obtain ⟨⟨⟨f,q1,q2⟩,q3,q4⟩,q5⟩:=hs
   have hne:some bm≠row:=fun e=>by have:=(hr bm e.symm).1;omega
   exact ⟨⟨⟨f,q1.same (hg.block bm q1.lt hne),q2⟩,bF q3 hg (fun r e=>(hr r e).2),vI q4 hg.size⟩,q5.grownFrom hg (fun r e=>by have:=(hr r e).1;have:=HB.o;omega)⟩)
  (fun _ _ _ _ _ hs _ _=>hs)
  ⟨⟨⟨F 0,hM2,fun _=>rfl⟩,e1,vB _⟩,hk2⟩
  (fun x a' W=>∃Bx,w2.heap.size<=Bx/\EntAt W Bx (cE L x)/\a'= {tmps:= #[.pointer (some ⟨bt,0,none⟩),.int .i64 (at_:Int),.pointer (some ⟨B,0,none⟩),undef,undef,.pointer (some ⟨Bx,0,none⟩),.pointer (some ⟨bt,0,none⟩),.pointer (some ⟨bt,0,none⟩),.pointer (some ⟨bt,1,none⟩),.slice ao len cap,.int .i64 (at_:Int),.slice bo L.length (cap - at_),.func (.func 308) #[] #[.pointer (some ⟨B+1,0,none⟩)],.int .i64 ((L.length - 1 - x:Nat):Int),.agg #[.int .i64 (cE L x).1.1.1,.int .i64 (cE L x).1.1.2,.int .i64 (cE L x).1.2.1,.int .i64 (cE L x).1.2.2.1,.string (cE L x).1.2.2.2,.int .i64 (cE L x).2.1,.int .i64 (cE L x).2.2.1,.string (cE L x).2.2.2],undef,undef,undef,undef,undef,undef,undef,undef,undef,undef,undef,undef,undef,undef,undef,undef,undef,undef,undef,undef],defers:=[]})
  (fun x a'=>Own.from (fun _ X Y row hs hg hr=>yg) _)
  ?assign ?body ?done ?stop
 case assign=>
  rintro l pre x W K ⟨⟨⟨f,hf,hfp⟩,hr1,hsz⟩,hkW⟩ hK;have hK':Aside _:=hK;have hBs:B<=W.heap.size:=zj;clear hK;unfold MR;gi_wp2;refine hK'.o _ _ ((KeepsOthers.alloc _ _).from _) ⟨vP _ _ _ zj,vP _ _ _ zj⟩ ⟨⟨⟨f,hf.same (vP _ _ _ hf.lt),hfp⟩,hr1.alloc _,zq⟩,hkW.alloc _⟩ ⟨W.heap.size,zj,heap_alloc_new W _,rfl⟩
 case body=>
  rintro l pre x a' W hl _ ⟨⟨⟨f,hf,hfp⟩,hr1,hsz⟩,hkW⟩ ⟨Bx,hBx,hE,rfl⟩ hlt;have hwx:=hwf x;obtain ⟨y,hy⟩:=zc (cE L x)
  rw [<-hy] at hE hwx |-
  have hFx:x=pre.length->JJ (F pre.length) y.1.2.1 y.2=F (pre.length+1):=fun e=>by rw [hy,e];exact hF pre.length hlt
  clear hF hwf hy;obtain ⟨⟨⟨y1,y2⟩,y3,y4,y5⟩,y6,y7,y8⟩:=y
  dsimp only at hwx hFx |-
  have g1:=hr1.cell;have f2:=hE.cell 2 (u:=.int .i64 y3) rfl;have f5:=hE.cell 5 (u:=.int .i64 y6) rfl;have f6:=hE.cell 6 (u:=.int .i64 y7) rfl;have f7:=hE.cell 7 (u:=.string y8) rfl;have htc:W.cell? ⟨bt,0,none⟩=some (.map (some bm)):=(hkW.cell (a:=⟨bt,0,none⟩) (by show bt<_;omega) htm).trans hm0
  have fin:∀(w1:World) (f':Sta),W.drew.grownBy w1 (some bm)->MapAt prog 3 w1 bm (n+pre.length+1) f'->f'=JJ f y3 (y6,y7,y8)->
    Aside (KeepsFrom w2.heap.size W w1/\KeepTwo g (B+1) W w1/\((∃f,MapAt prog 3 w1 bm (n+(pre++ [x]).length) f/\(pre++ [x]=List.range (pre++ [x]).length->f=F (pre++ [x]).length))/\Boxed w1 B 113 (.pointer (some ⟨bt,0,none⟩))/\w2.heap.size<=w1.heap.size)/\Keeps (fun k=>k=bm) w w1):=fun w1 f' hg1 hM1 hf1=>by
   have hg1':W.grownBy w1 (some bm):=⟨hg1.os,hg1.tape,hg1.output,hg1.size,hg1.block⟩
   have hsz1:=hg1'.size;refine ⟨KeepsFrom.of_grownBy hg1' (fun j e=>by cases e;omega),⟨hg1'.block g zj (by simpa using hgm),hg1'.block (B+1) zj zq⟩,⟨⟨f',by rw [vN,Zc,<-uT];exact hM1,fun hp=> ?_⟩,hr1.kept hg1' zq,zj⟩,hkW.then (aV hg1') (fun i _ e=>yu)⟩;obtain ⟨hp1,hp2⟩:=gQ hp;rw [hf1,hfp hp1,vN,Zc,hFx hp2]
  have hBxm:Bx≠bm:=zj;have hBxW:Bx<W.heap.size:=(vD.1 hE).1
  have cells1:∀w1:World,W.drew.grownBy w1 (some bm)->Aside (w1.cell? ⟨B,0,none⟩=some (.pointer (some ⟨bt,0,none⟩))/\w1.cell? ⟨bt,0,none⟩=some (.map (some bm))/\w1.cell? ⟨Bx,2,none⟩=some (.int .i64 y3)/\w1.cell? ⟨Bx,5,none⟩=some (.int .i64 y6)/\w1.cell? ⟨Bx,6,none⟩=some (.int .i64 y7)/\w1.cell? ⟨Bx,7,none⟩=some (.string y8)):=fun w1 hg1=>by
   have hb:∀k,k<W.heap.size->k≠bm->∀o,w1.cell? ⟨k,o,none⟩=W.cell? ⟨k,o,none⟩:=fun k hk hne o=>uc (a:=⟨k,o,none⟩) (hg1.block k hk (by simpa using hne))
   exact ⟨(hb B zj zj 0).trans g1,(hb bt zj htm 0).trans htc,(hb Bx hBxW hBxm 2).trans f2,(hb Bx hBxW hBxm 5).trans f5,(hb Bx hBxW hBxm 6).trans f6,(hb Bx hBxW hBxm 7).trans f7⟩
  by_cases he:((y6,y7,y8):Plc)=cU
  ·have hq:∀w',(Op.equalIn 10000 119 (.agg #[.int .i64 y6,.int .i64 y7,.string y8]) (.agg #[.int .i64 0,.int .i64 0,.string ⟨#[]⟩])).run prog w'= .ok true w':=fun w'=>by
    have:=OA (y6,y7,y8) cU w';rw [decide_eq_true he] at this;exact this
   obtain ⟨w1,hrun,hM1,ht1⟩:=(show MapAt prog 3 W.drew bm (n+pre.length) f from hf).drop (T:=193) (E:=119) underlying3 underlying193 hwx 0;have X1:=cells1 w1 ht1.grown;have FIN:=fin w1 (upd f y3 none) ht1.grown (hM1.mono (Nat.le_succ _)) (by rw [he];unfold JJ;rw [if_pos rfl]);clear he fin hM1 ht1 hf hfp hkW hM2 hk2 hrow2 e1 e2 hB0 hE hr1 hao hsl hm0 hll hat hlen hn hsz hBx hl hs2 hbm hbt hg htm hgm hBw HB hwx hlt hFx cells1 hBxm hBxW;gi_wp2;refine fd (S:=(fun w'=>w'.cell? ⟨B,0,none⟩=some (.pointer (some ⟨bt,0,none⟩))/\w'.cell? ⟨bt,0,none⟩=some (.map (some bm))/\w'.cell? ⟨Bx,2,none⟩=some (.int .i64 y3))) zo zo (by rintro ⟨_,_,h⟩;exact h) ⟨g1,htc,f2⟩ (fun hHeld=> ?_);refine tk 0 hHeld ?_ (hy:=Or.inl ⟨zv,zH⟩);refine tk 1 hHeld ?_ (hy:=Or.inl ⟨zv,zH⟩);refine tk 2 hHeld ?_ (hy:=Or.inl ⟨zv,zH⟩);refine tk 3 hHeld ?_ (hy:=Or.inl ⟨zv,zH⟩);refine tk 4 hHeld ?_ (hy:=Or.inl ⟨zv,zH⟩);refine tk 5 hHeld ?_ (hy:=Or.inl ⟨zv,zH⟩);refine tk 6 hHeld ?_ (hy:=Or.inl ⟨zv,zH⟩);refine aW (i:=7) zo rfl (fun K hK=> ?_);go_simp;refine hK _ _ ⟨X1.o.1,X1.o.2.1,X1.o.2.2.1⟩ ?_;exact kq4
  have hq:∀w',(Op.equalIn 10000 119 (.agg #[.int .i64 y6,.int .i64 y7,.string y8]) (.agg #[.int .i64 0,.int .i64 0,.string ⟨#[]⟩])).run prog w'= .ok false w':=fun w'=>by
   have:=OA (y6,y7,y8) cU w';rw [decide_eq_false he] at this;exact this
  obtain ⟨w1,hrun,hM1,ht1⟩:=(show MapAt prog 3 W.drew bm (n+pre.length) f from hf).store (T:=193) (E:=119) underlying3 underlying193 zA hwx (y6,y7,y8);unfold kC at hrun;dsimp only at hrun;have X1:=cells1 w1 ht1.grown;have FIN:=fin w1 (upd f y3 (some (y6,y7,y8))) ht1.grown hM1 (by unfold JJ;rw [if_neg he]);clear he fin hM1 ht1 hf hfp hkW hM2 hk2 hrow2 e1 e2 hB0 hE hr1 hao hsl hm0 hll hat hlen hn hsz hBx hl hs2 hbm hbt hg htm hgm hBw HB hwx hlt hFx cells1 hBxm hBxW;gi_wp2;refine fd (S:=(fun w'=>w'.cell? ⟨B,0,none⟩=some (.pointer (some ⟨bt,0,none⟩))/\w'.cell? ⟨bt,0,none⟩=some (.map (some bm))/\w'.cell? ⟨Bx,2,none⟩=some (.int .i64 y3)/\w'.cell? ⟨Bx,5,none⟩=some (.int .i64 y6)/\w'.cell? ⟨Bx,6,none⟩=some (.int .i64 y7)/\w'.cell? ⟨Bx,7,none⟩=some (.string y8))) zo zo (by rintro ⟨_,_,h⟩;exact h) ⟨g1,htc,f2,f5,f6,f7⟩ (fun hHeld=> ?_);refine tk 0 hHeld ?_ (hy:=Or.inl ⟨zv,zB⟩);refine tk 1 hHeld ?_ (hy:=Or.inl ⟨zv,zB⟩);refine tk 2 hHeld ?_ (hy:=Or.inl ⟨zv,zB⟩);refine tk 3 hHeld ?_ (hy:=Or.inl ⟨zv,zB⟩);refine tk 4 hHeld ?_ (hy:=Or.inl ⟨zv,zB⟩);refine tk 5 hHeld ?_ (hy:=Or.inl ⟨zv,zB⟩);refine tk 6 hHeld ?_ (hy:=Or.inl ⟨zv,zB⟩);refine tk 7 hHeld ?_ (hy:=Or.inl ⟨zv,zB⟩);refine tk 8 hHeld ?_ (hy:=Or.inl ⟨zv,zB⟩);refine aW (i:=9) zo rfl (fun K hK=> ?_);go_simp;refine hK _ _ ⟨X1.o.1,X1.o.2.1,X1.o.2.2.1,X1.o.2.2.2.1,X1.o.2.2.2.2.1,X1.o.2.2.2.2.2⟩ ?_;exact kq4
 case done=>
  rintro D ys W hD rfl ⟨⟨⟨f,hf,hfp⟩,hr1,hsz⟩,hkW⟩ hK;have hfF:=hfp zt;subst hfF;gi_wp2;refine ⟨zt,.inl ⟨_,_,rfl,run_takeDeferred hK,?_⟩⟩;have hgp:=grownBy_putObj' W D (.deferred none);refine ⟨.tuple #[],by simp [results,f200,go_sem],⟨_,rfl⟩,?_,hkW.grownFrom hgp (fun r e=>by cases e;have:=HB.o;omega)⟩;have:=hf.same (hgp.block bm hf.lt zq);exact kp3
 case stop=>
  exact km9
