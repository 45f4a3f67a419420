import Derived.Test.YtjclejjkganhfaaGreatDoorSR11
import Derived.Test.YtjclejjkganhfaaGreatDoorSR12
import Derived.Shelf.SlSortCmp.QuietGrown
set_option linter.unusedSimpArgs false
set_option linter.unusedVariables false
set_option maxRecDepth 100000
set_option maxHeartbeats 64000000
namespace Go.Proofs.YtjclejjkganhfaaGreatDoor
open Go.Proofs.Tryz
section
open RowKit Maps
open scoped Classical
theorem Wh(w)(l9 bt bm n)(v)(ms)(L)(s)(hT:t7 w bt bm v)(hL:M6 ms ms.length L)(hR:w.ownsRow l9 348 8 v ms.length (mP tQ L))(bJ:mn ms)(hlen:ms.length<=1000)(_hM:sL prog 3 w bm n (lM ms)):
  qC 274 #[qP bt,.agg #[qI s.1,qI s.2]] w fun e w'=>(∃(i:Nat) (b:Bool),e=qT #[qN i,.bool b]/\Iu ms s i b)/\qL w w':=by
 have jL:=hL.D4
 rcases hR.2 with ⟨hv,h0⟩ | ⟨g,cap,cur,hv,_,hg,hnc,_⟩
 ·have hL0:L= []:=Zg.1 zj;subst hv;exact KJ w bt bt 0 none L ms s hL.abA bJ zj (by rw [jL,h0];exact hT.c1) (.inl hL0) hT.lt (fun j u hj=>by rw [hL0] at hj;simp [mP] at hj)
 subst hv;exact KJ w bt g cap (qS g) L ms s hL.abA bJ zj (by rw [jL];exact hT.c1) (.inr rfl) (uK.1 hg).1 (KZ hR)
theorem Dp(hU:VG){ad}(w)(l9 bt bm)(v)(ms)(t b n l8 other)(name value)(hE:U7 ad w)(hT:I9 l9 w bt bm v ms)(aj:l9<=w.heap.size)(hlen:ms.length<=250)
  (bO:name.size<=1000000) (dI:value.size<=1000000) (dL:opE t b n 109 l8 other name.data.toList value.data.toList=0) (hnew:∀m∈ms,m.1≠(t,b)):
  qC 226 #[qP bt,.agg #[qI t,qI b,qI n,.int .u8 109,qI l8,qI other,.string name,.string value]] w fun e w'=>e= .returned .nilIface/\∃v' ms',I9 l9 w' bt bm v' ms'/\ms'.Perm (((t,b),(l8,other,name))::ms)/\m7 (fun k=>k=bt\/k=bm\/some k=v.ownBlock) w w'/\(v'.ownBlock=v.ownBlock\/∀g,v'.ownBlock=some g->w.heap.size<=g):=by
 have gF:∀o,qL w (w.alloc o):=fun o=>(uM _ w).alloc zg o
 obtain ⟨w1,hw1⟩:=za (w.alloc (.cells #[qI t,qI b,qI n,.int .u8 109,qI l8,qI other,.string name,.string value] 88))
 have O1:Q4 w1 w.heap.size t b n 109 l8 other name value:=by rw [hw1];exact Q4.F5 w t b n 109 l8 other name value 88
 have B1:qL w w1:=by rw [hw1];exact gF _
 have bA:=mr t b n 109 l8 other name value w1 (hE.later B1) bO dI;rw [dL] at bA;have e0:eV ad 0= .nilIface:=rfl;rw [e0] at bA;have s1:w1.heap.size=w.heap.size+1:=xX
 have H1:Aside (Q4 w1 w.heap.size t b n 109 l8 other name value/\I9 l9 w1 bt bm v ms/\qL w w1):=⟨O1,hT.later B1,B1⟩
 have HT:Aside (I9 l9 w bt bm v ms):=hT;clear hT B1 hE gF e0;go_enter func226,ntmps226;go_wp2_with fail;rw [<-hw1];clear hw1 O1;refine bA.mono ?_;clear bA;rintro e w2 ⟨rfl,hb2⟩
 have H2:Aside (Q4 w2 w.heap.size t b n 109 l8 other name value/\I9 l9 w2 bt bm v ms/\qL w w2/\w.heap.size+1<=w2.heap.size):=⟨H1.o.1.later hb2,H1.o.2.1.later hb2,zi H1.o.2.2 hb2,by have:=hb2.size;omega⟩
 clear hb2 H1;obtain ⟨c0,c1,c2,c3,c4,c5,c6,c7⟩:=H2.o.1;have c3:w2.cell? (qA w.heap.size 3)=some (.int .u8 109):=c3;go_wp2_with fail;obtain ⟨L,hL,hR⟩:=H2.o.2.1.row;obtain ⟨nn,dF,hM⟩:=H2.o.2.1.map;refine (Wh w2 l9 bt bm nn v ms L (t,b) H2.o.2.1.cell hL hR H2.o.2.1.o9 zj hM).mono ?_;rintro e w3 ⟨⟨i,bo,rfl,hF⟩,hb3⟩;obtain ⟨rfl,ce,lA,hF2⟩:=NA hF hnew
 have H3:Aside (Q4 w3 w.heap.size t b n 109 l8 other name value/\I9 l9 w3 bt bm v ms/\qL w w3/\w.heap.size+1<=w3.heap.size/\(∀x∈ms.take i,SLt x.1 (t,b))/\(∀x∈ms.drop i,SLt (t,b) x.1)):=⟨H2.o.1.later hb3,H2.o.2.1.later hb3,zi H2.o.2.2.1 hb3,by have:=H2.o.2.2.2;have:=hb3.size;omega,lA,hF2⟩
 clear hb3 H2 hF lA hF2 c0 c1 c2 c3 c4 c5 c6 c7 hM hR hL dF;clear L nn;go_wp2_with fail;obtain ⟨L,hL,hR⟩:=H3.o.2.1.row;obtain ⟨nn,dF,hM⟩:=H3.o.2.1.map;refine (hU w3 l9 bt bm nn i v ms L H3.o.2.1.cell hL hR hM H3.o.2.1.Y8 ce zj zj).mono ?_;rintro e w4 ⟨⟨u,rfl⟩,hM4,hk4⟩;have hsz4:=hk4.size;have aV:=H3.o.2.1.lt;have iZ:=H3.o.2.1.cell.abO hM
 have hbxm:w.heap.size≠bm:=by
  intro e;obtain ⟨es,ck,hb⟩:=hM.block;have:=H3.o.1.c0;rw [e] at this;simp [World.cell?,hb] at this
 have j8:t7 w4 bt bm v:=(hk4.block bt aV.1 iZ).trans H3.o.2.1.cell
 have hR4:=nh hR (fun g hg=>hk4.block g (aV.2.2 g hg) (by
  rcases hR.2 with ⟨hv,_⟩ | ⟨g',cap',cur,hv,_⟩
  ·rw [hv] at hg;cases hg
  ·subst hv;cases hg;exact rZ hR hM))
 have eu:w.heap.size<w3.heap.size:=by have:=H3.o.2.2.2.1;omega
 have hB4:=hk4.block _ eu hbxm
 have O4:Q4 w4 w.heap.size t b n 109 l8 other name value:=by
  have h:=fun o=>uS (a:=(qA w.heap.size o)) hB4
  exact ⟨(h 0).trans H3.o.1.c0,(h 1).trans H3.o.1.c1,(h 2).trans H3.o.1.c2,(h 3).trans H3.o.1.c3,(h 4).trans H3.o.1.c4,(h 5).trans H3.o.1.c5,(h 6).trans H3.o.1.c6,(h 7).trans H3.o.1.c7⟩
 have hK4:m7 (fun k=>k=bt\/k=bm\/some k=v.ownBlock) w w4:=((lW H3.o.2.2.1).mono (fun k hk e=>zj)).then hk4 (fun k _ e=>.inr (.inl e))
 obtain ⟨c0,c1,c2,c3,c4,c5,c6,c7⟩:=O4;have c3:w4.cell? (qA w.heap.size 3)=some (.int .u8 109):=c3;have t1:=j8.c1;have z1:=j8.fz 1;go_wp2_with fail;obtain ⟨B,hB⟩:=za w.heap.size
 rw [<-hB] at c0 c1 c2 c3 c4 c5 c6 c7 eu hbxm |-
 have HB:Aside (B=w.heap.size):=hB;clear hB
 have iN:∀g,v.ownBlock=some g->g≠bt/\g≠bm/\g<w4.heap.size:=fun g hg=>by
  rcases hR4.2 with ⟨hv,_⟩ | ⟨g',cap',cur,hv,_⟩
  ·rw [hv] at hg;cases hg
  subst hv;cases hg;exact ⟨tG hR4 j8,rZ hR4 hM4,(hR4.lt _ rfl).2⟩
 have hxw:∀X:World,X=(w4.alloc (.cells #[qI t,qI b,qI l8,qI other,.string name,qI 0,qI 0,.string ⟨#[]⟩] 348)).drew->qC 276 #[v,qN i,qG w4.heap.size 1 1] X
   fun e w'=>∃g' cap',e= .returned (qG g' (ms.length+1) cap')/\Aside (w'.ownsRow l9 348 8 (qG g' (ms.length+1) cap') (ms.length+1) (mP tQ (QH L i (((t,b),(l8,other,name)),mS)))/\m7 (fun k=>some k=v.ownBlock) w4 w'/\(some g'=v.ownBlock\/w4.heap.size<=g'))/\w'.cell? (qA bt 1)=some v/\w'.frozen? (qA bt 1)=false/\(w'.cell? (qB B)=some (qI t)/\w'.cell? (qA B 1)=some (qI b)/\w'.cell? (qA B 4)=some (qI l8)/\w'.cell? (qA B 5)=some (qI other)/\w'.cell? (qA B 6)=some (.string name)/\w'.cell? (qA bt 1)=some v):=by
  rintro X rfl;obtain ⟨Y,hY⟩:=za ((w4.alloc (.cells #[qI t,qI b,qI l8,qI other,.string name,qI 0,qI 0,.string ⟨#[]⟩] 348)).drew)
  have hnb:Y.heap[w4.heap.size]? =some (.cells #[qI t,qI b,qI l8,qI other,.string name,qI 0,qI 0,.string ⟨#[]⟩] 348 (0,0)):=by rw [hY];exact heap_alloc_new w4 _
  have hYk:m7 (fun _=>False) w4 Y:=by rw [hY];exact ((m7.refl _ w4).alloc _).drew
  have hYs:Y.heap.size=w4.heap.size+1:=by rw [hY];simp
  have hRY:=nh (w':=Y) hR4 (fun g hg=>hYk.block g (iN g hg).2.2 (fun e=>e));rw [<-hY];refine (Lg Y l9 ms.length i v (mP tQ L) (tQ (((t,b),(l8,other,name)),mS)) hRY zj w4.heap.size rfl (fun j u hj=> ?_) (KW _) (sC KW L) (fun e=>by have:=(iN _ e.symm).2.2;omega) ?_ (fun j=> ?_) (by have:=hK4.size;omega) ce).mono ?_
  ·simp only [World.cell?,hnb];rw [<-hj];simp [tQ,mS]
  ·simp [World.shape?,hnb]
  ·simp [World.frozen?,hnb]
  rintro e w' ⟨v',rfl,ho,hk,hv'⟩;obtain ⟨g',cap',rfl⟩:=ownsRow_succ ho;have gA:=(hYk.mono (fun _ _ e=>e.elim)).trans hk;have hTb:=gA.block bt zj (fun e=>(iN bt e.symm).1 rfl);have hT5:t7 w' bt bm v:=hTb.trans j8;rw [<-Jr rD L i (by rw [hL.D4];exact ce)] at ho;have hBb:=gA.block B zj (fun e=>by have:=HT.o.lt.2.2 B e.symm;have:=HB.o;omega)
  have hBc:=fun o=>uS (a:=(qA B o)) hBb
  refine ⟨g',cap',rfl,⟨ho,gA,?_⟩,hT5.c1,hT5.fz 1,(hBc 0).trans c0,(hBc 1).trans c1,(hBc 4).trans c4,(hBc 5).trans c5,(hBc 6).trans c6,hT5.c1⟩
  rcases hv' with e | e
  ·exact .inl e
  right
  have:g'=Y.heap.size:=by simpa [Value.ownBlock] using e
  omega
 have t1a:∀o,(w4.alloc o).cell? (qA bt 1)=some v:=fun o=>(uS (a:=(qA bt 1)) (uR w4 o bt j8.lt)).trans t1
 have hbtB:bt≠B:=by have:=HT.o.lt.1;have:=HB.o;omega
 have hBl:B<w4.heap.size:=zj
 have htn':w4.heap.size≠bt:=by have:=j8.lt;omega
 refine nS (S:=(fun w'=>w'.cell? (qB B)=some (qI t)/\w'.cell? (qA B 1)=some (qI b)/\w'.cell? (qA B 4)=some (qI l8)/\w'.cell? (qA B 5)=some (qI other)/\w'.cell? (qA B 6)=some (.string name)/\w'.cell? (qA bt 1)=some v)) (z:=20) zk ⟨c0,c1,c4,c5,c6,t1⟩ (fun aa=> ?_);refine lY (i:=0) (v:= ?v0) zo rfl zk zk zk (fun _ _ _ h=>h) (Or.inl ⟨zt,?hy0⟩) aa ?rest0
 case hy0=>(intro w' _;go_simp;try with_reducible rfl)
 simp only [Act.put,uU,Zd,Ze];refine lY (i:=1) (v:= ?v1) zo rfl zk zk zk (fun _ _ _ h=>h) (Or.inl ⟨zt,?hy1⟩) aa ?rest1
 case hy1=>(intro w' _;go_simp;try with_reducible rfl)
 simp only [Act.put,uU,Zd,Ze];refine lY (i:=2) (v:= ?v2) zo rfl zk zk zk (fun _ _ _ h=>h) (Or.inl ⟨zt,?hy2⟩) aa ?rest2
 case hy2=>(intro w' _;go_simp;try with_reducible rfl)
 simp only [Act.put,uU,Zd,Ze];refine lY (i:=3) (v:= ?v3) zo rfl zk zk zk (fun _ _ _ h=>h) (Or.inl ⟨zt,?hy3⟩) aa ?rest3
 case hy3=>(intro w' _;go_simp;try with_reducible rfl)
 simp only [Act.put,uU,Zd,Ze];refine mV (i:=4) (v:= ?v4) zo zk rfl zk zk zk zk (fun _ _ _ h=>h) (Or.inl ⟨zt,?hy4⟩) aa ?rest4
 case hy4=>(intro w' ab;obtain ⟨k0,k1,k4,k5,k6,k7⟩:=ab;go_simp;try with_reducible rfl)
 simp only [Act.put,uU,Zd,Ze];refine lY (i:=5) (v:= ?v5) zo rfl zk zk zk (fun _ _ _ h=>h) (Or.inl ⟨zt,?hy5⟩) aa ?rest5
 case hy5=>(intro w' _;go_simp;try with_reducible rfl)
 simp only [Act.put,uU,Zd,Ze];refine lY (i:=6) (v:= ?v6) zo rfl zk zk zk (fun _ _ _ h=>h) (Or.inl ⟨zt,?hy6⟩) aa ?rest6
 case hy6=>(intro w' _;go_simp;try with_reducible rfl)
 simp only [Act.put,uU,Zd,Ze];refine mV (i:=7) (v:= ?v7) zo zk rfl zk zk zk zk (fun _ _ _ h=>h) (Or.inl ⟨zt,?hy7⟩) aa ?rest7
 case hy7=>(intro w' ab;obtain ⟨k0,k1,k4,k5,k6,k7⟩:=ab;go_simp;try with_reducible rfl)
 simp only [Act.put,uU,Zd,Ze];refine lY (i:=8) (v:= ?v8) zo rfl zk zk zk (fun _ _ _ h=>h) (Or.inl ⟨zt,?hy8⟩) aa ?rest8
 case hy8=>(intro w' _;go_simp;try with_reducible rfl)
 simp only [Act.put,uU,Zd,Ze];refine mV (i:=9) (v:= ?v9) zo zk rfl zk zk zk zk (fun _ _ _ h=>h) (Or.inl ⟨zt,?hy9⟩) aa ?rest9
 case hy9=>(intro w' ab;obtain ⟨k0,k1,k4,k5,k6,k7⟩:=ab;go_simp;try with_reducible rfl)
 simp only [Act.put,uU,Zd,Ze];refine lY (i:=10) (v:= ?v10) zo rfl zk zk zk (fun _ _ _ h=>h) (Or.inl ⟨zt,?hy10⟩) aa ?rest10
 case hy10=>(intro w' _;go_simp;try with_reducible rfl)
 simp only [Act.put,uU,Zd,Ze];refine mV (i:=11) (v:= ?v11) zo zk rfl zk zk zk zk (fun _ _ _ h=>h) (Or.inl ⟨zt,?hy11⟩) aa ?rest11
 case hy11=>(intro w' ab;obtain ⟨k0,k1,k4,k5,k6,k7⟩:=ab;go_simp;try with_reducible rfl)
 simp only [Act.put,uU,Zd,Ze];refine lY (i:=12) (v:= ?v12) zo rfl zk zk zk (fun _ _ _ h=>h) (Or.inl ⟨zt,?hy12⟩) aa ?rest12
 case hy12=>(intro w' _;go_simp;try with_reducible rfl)
 simp only [Act.put,uU,Zd,Ze];refine mV (i:=13) (v:= ?v13) zo zk rfl zk zk zk zk (fun _ _ _ h=>h) (Or.inl ⟨zt,?hy13⟩) aa ?rest13
 case hy13=>(intro w' ab;obtain ⟨k0,k1,k4,k5,k6,k7⟩:=ab;go_simp;try with_reducible rfl)
 simp only [Act.put,uU,Zd,Ze];refine lY (i:=14) (v:= ?v14) zo rfl zk zk zk (fun _ _ _ h=>h) (Or.inl ⟨zt,?hy14⟩) aa ?rest14
 case hy14=>(intro w' _;go_simp;try with_reducible rfl)
 simp only [Act.put,uU,Zd,Ze];refine lY (i:=15) (v:= ?v15) zo rfl zk zk zk (fun _ _ _ h=>h) (Or.inl ⟨zt,?hy15⟩) aa ?rest15
 case hy15=>(intro w' _;go_simp;try with_reducible rfl)
 simp only [Act.put,uU,Zd,Ze];refine lN (i:=16) zk rfl (fun K hK=> ?_);go_simp;refine hK _ _ (.inl ?s16) ?n16
 case s16=>
  have cN:=fun o=>uS (a:=(qA B o)) (uR w4 (.cells #[qI t,qI b,qI l8,qI other,.string name,qI 0,qI 0,.string ⟨#[]⟩] 348) B hBl)
  exact ⟨(cN 0).trans c0,(cN 1).trans c1,(cN 4).trans c4,(cN 5).trans c5,(cN 6).trans c6,t1a _⟩
 clear hK K aa;refine lN (i:=17) zk rfl (fun K hK=> ?_);go_simp;refine (hxw _ rfl).mono ?_;rintro e w5 ⟨g',cap',rfl,H5,u1,u2,u3⟩;refine hK _ _ (.inl u3) ?_;clear hK K;refine qn ?_;refine lY (i:=18) (v:= ?v18) zo rfl zk zk zk (fun _ _ _ h=>h) (Or.inl ⟨zt,?hy18⟩) u3 ?rest18
 case hy18=>(intro w' _;go_simp;try with_reducible rfl)
 refine qn ?_;refine lY (i:=19) (v:= ?v19) zo rfl zk zk zk (fun _ _ _ h=>h) (Or.inl ⟨zt,?hy19⟩) u3 ?rest19
 case hy19=>(intro w' _;go_simp;try with_reducible rfl)
 refine qn ?_;refine lN (i:=20) zk rfl (fun K hK=> ?_);go_simp;refine hK _ _ (.inr ⟨rfl,zo⟩) ?_;clear hK K;refine nZ zk ?_ _;obtain ⟨w6,gv⟩:=za (w5.setCell (qA bt 1) (qG g' (ms.length+1) cap'));rw [<-gv];have jO:=H5.o.2.1;have hT5:t7 w5 bt bm v:=(jO.block bt j8.lt (fun e=>(iN bt e.symm).1 rfl)).trans j8;have hM5:=hM4.same (jO.block bm hM4.lt (fun e=>(iN bm e.symm).2.1 rfl));have hgbt:=tG H5.o.1 hT5;have hgbm:=rZ H5.o.1 hM5
 have fy:m7 (fun k=>k=bt) w5 w6:=by rw [gv];exact lZ bt [_] 1 w5
 have hT6:t7 w6 bt bm (qG g' (ms.length+1) cap'):=by rw [gv];exact heap_setCell_same w5 bt 1 _ _ _ hT5
 have hM6:=hM5.same (fy.block bm hM5.lt (fun e=>iZ e.symm));have hgl5:=(H5.o.1.lt g' rfl).2;have hR6:=wJ H5.o.1 (fy.block g' hgl5 hgbt);have hlen':(sj ms i ((t,b),(l8,other,name))).length=ms.length+1:=GW _ _ _;have hL6:=TK (m:=((t,b),(l8,other,name))) hL ce mS
 have fA:∀m∈sj ms i ((t,b),(l8,other,name)),O9 m.2:=fun m hm=>by
  rcases uX.1 ((AC ms i _).mem_iff.1 hm) with rfl | hm
  ·exact Gl dL
  exact H3.o.2.1.Y8 m hm
 have hdo:=zaV w6 bt bm l9 g' cap' i (nn+(ms.length - i)) (QH L i (((t,b),(l8,other,name)),mS)) (sj ms i ((t,b),(l8,other,name))) (by rw [hlen'];exact hT6) (by rw [hlen'];exact hR6) hL6 (by rw [KB ce];exact hM6) fA zj zj zj
 have lz:Aside (m7 (fun k=>k=bt\/k=bm\/some k=v.ownBlock) w w6/\t7 w6 bt bm (qG g' (ms.length+1) cap')/\(some g'=v.ownBlock\/w.heap.size<=g')/\g'≠bt/\bm≠bt/\bt<w6.heap.size):=
  ⟨(hK4.then jO (fun _ _ e=>.inr (.inr e))).then fy (fun _ _ e=>.inl e),hT6,H5.o.2.2.imp id (fun h=>by have:=hK4.size;omega),hgbt,fun e=>iZ e.symm,hT6.lt⟩
 have hHi:Aside (mn (sj ms i ((t,b),(l8,other,name)))/\(∀m∈sj ms i ((t,b),(l8,other,name)),O9 m.2)):=⟨SA H3.o.2.1.o9 H3.o.2.2.2.2.1 H3.o.2.2.2.2.2,fA⟩
 clear gv jO hT5 hM5 hgbt hgbm fy hT6 hM6 hgl5 hR6 hL6 H5 u1 u2 u3 hxw c0 c1 c2 c3 c4 c5 c6 c7 t1 z1 t1a fA hK4 hR4 j8 hM4 hk4 hB4;go_wp2_with fail;refine hdo.mono ?_;clear hdo;rintro e w7 ⟨⟨u',rfl⟩,L',n',hL',hown',hM',hn',hk'⟩
 have iW:Aside (∃v' ms',I9 l9 w7 bt bm v' ms'/\ms'.Perm (((t,b),(l8,other,name))::ms)/\m7 (fun k=>k=bt\/k=bm\/some k=v.ownBlock) w w7/\(v'.ownBlock=v.ownBlock\/∀g,v'.ownBlock=some g->w.heap.size<=g)):=by
  have hgn:=lz.o.2.2.2.1;refine ⟨qG g' (ms.length+1) cap',sj ms i ((t,b),(l8,other,name)),⟨?_,⟨L',hL',by rw [hlen'] at hown' |-;exact hown'⟩,⟨n',zj,hM'⟩,hHi.o.1,hHi.o.2⟩,AC _ _ _,?_,?_⟩
  ·exact (hk'.block bt lz.o.2.2.2.2.2 (fun e=>e.elim (fun e=>lz.o.2.2.2.2.1 e.symm) (fun e=>hgn e.symm))).trans lz.o.2.1
  ·refine lz.o.1.then hk' (fun k hk e=> ?_)
   rcases e with e | e
   ·exact .inr (.inl e)
   rcases lz.o.2.2.1 with h | h
   ·exact .inr (.inr (by rw [e];exact h))
   omega
  rcases lz.o.2.2.1 with h | h
  ·exact .inl h
  exact .inr (fun g hg=>by cases hg;exact h)
 clear hL' hown' hM' hk' lz hHi hn';go_wp2;go_ret;exact ⟨rfl,iW.o⟩
end
section
open Shelf RowKit Lib Go.Sort
structure Ws (P:Program) {β:Type} [Inhabited β] (lt:β->β->Bool) (k:Nat) (enc:β×Nat->List Value) (cf:β×Nat->β×Nat->Int) (g:Nat) (w0:qW) (blk off:Nat) (d0:Array (β×Nat)):Prop where
 ty:STy P k
 fS:P.funcs[(379:Nat)]? =some f379
 fR:P.funcs[(366:Nat)]? =some f366
 fM:P.funcs[(330:Nat)]? =some f330
 row:RowK enc k w0 blk off d0
 X5:∀x y,decide (cf x y<0)=tlt lt x y
 swo:SWO lt
 eg:∀args w,(callFunc g args).run P w= .ok (.enter g args) w
 cmp:CmpLays P g #[] enc k cf blk off d0.size w0
def pr(P:Program){β:Type}[Inhabited β](lt:β->β->Bool)(k:Nat)(enc:β×Nat->List Value)(g:Nat)(w0:qW)(blk off cap a m b:Nat)(d:Array (β×Nat))(w:qW):Prop:=
 Calls P 330 #[.slice (some (qA blk off)) d.size cap,qI a,qI m,qI b,.func (.func g) #[] #[]] w fun e w'=>e=qT #[]/\∃d',(PermIn a b d d'/\SortedIn (slt lt) a b d')/\SWK enc k w0 blk off d' w'
theorem Nz{P}{β}[Inhabited β]{lt}{k}{enc}{cf}{g}{w0}{blk off}{d0}(V:Ws P lt k enc cf g w0 blk off d0)(cap a m b)(d:Array (β×Nat))(w)
  (hs:d0.size=d.size) (S:SWK enc k w0 blk off d w) (hr:F0 lt a m b d) (ham:a<m) (iq:m<b) (hb:b<=d.size) (hsz:d.size<4611686018427387904) (h1:m=a+1):
  pr P lt k enc g w0 blk off cap a m b d w:=by
 unfold pr;have L:=V.ty;have mixed:=L.mixed;have t0:=L.t0;have a0:=L.a0;have z0:=L.z0;have v0:=L.v0;have t3:=L.t3;have a3:=L.a3;have z3:=L.z3;have v3:=L.v3;have t4:=L.t4;have a4:=L.a4;have z4:=L.z4;have v4:=L.v4;have tS:=L.tS;have aS:=L.aS;have zS:=L.zS;have vS:=L.vS;have tC:=L.tC;have aC:=L.aC;have zC:=L.zC;have vC:=L.vC;have tU:=L.tU;have aU:=L.aU;have zU:=L.zU;have vU:=L.vU;have aE:=L.aE;have zE:=L.zE;have R:=V.row;have eg:=V.eg;have CMP:Aside (CmpLays P g #[] enc k cf blk off d0.size w0):=V.cmp;have LT:Aside (∀x y,decide (cf x y<0)=tlt lt x y):=V.X5;have S0:Aside (SWK enc k w0 blk off d w):=S;have HR:Aside (F0 lt a m b d):=hr;clear S hr;have q0:((m:Int) - (a:Int)==1)=true:=zm;have H1:Aside (m=a+1):=h1;clear h1;go_enter V.fM,ntmps330;go_wp2;clear q0;go_loopg [10,11] (b - m) (fun kx gW iX wr=>∃(i j:Nat),gW=qN i/\iX=qN j/\m<=i/\i<=j/\j<=b/\j - i<=kx/\Aside ((m<i->tlt lt d[i - 1]! d[a]! =true)/\(j<b->tlt lt d[j]! d[a]! =false))/\Aside (SWK enc k w0 blk off d wr))
 case atStart=>exact ⟨m,b,rfl,rfl,uL _,zj,uL _,uL _,⟨fun h=>zj,fun h=>zj⟩,S0⟩
 case round=>
  clear S0;obtain ⟨i,j,rfl,rfl,hi,aA,hj,aY,ED,S1⟩:=hrel;by_cases hlt:i<j
  ·have aq:qlt i j=true:=by simp;omega
   go_wp2_with fail
   obtain ⟨h,hh⟩:∃h:Nat,h=(i+j) / 2:=⟨_,rfl⟩
   have gD:i<=h:=zj;have hi2:h<j:=zj;have hz:((i:Int)+(j:Int)) / 2=(h:Int):=zj;rw [hz];clear hz hh;have ex:((h:Int)).toNat=h:=zj;have px:(0:Int)<=(h:Int):=zj;have bdx:(h:Int)<(d.size:Int):=zj;have rx:IntKind.i64.wrap ((h:Int))=(h:Int):=zw;have ey:((a:Int)).toNat=a:=zj;have py:(0:Int)<=(a:Int):=zj;have bdy:(a:Int)<(d.size:Int):=zj;have ry:IntKind.i64.wrap ((a:Int))=(a:Int):=zw;have lx:=S1.o.ld R zj P (h) zj;have ly:=S1.o.ld R zj P (a) zj;have hc:=S1.o.cmp CMP.o zj d[h]! d[a]!;have hl:=LT.o d[h]! d[a]!
   have SG:Aside (∀n os,SWK enc k w0 blk off d (grow (wr.drewN n) os)):=fun n os=>S1.o.grown n os
   generalize cf d[h]! d[a]! =z at hc hl;have HL:=Lib.hid hl;clear hl;simp only [Array.append_empty] at hc;by_cases ir:z<0
   ·go_wp2_with fail;go_quiet_grown (first | (go_at_fn g;refine Calls.grown_of (hc _ _)));have S2:Aside (SWK enc k w0 blk off d (grow (wr.drewN nq) osq)):=SG.o nq osq
    have fJ:Aside ((m<h+1->tlt lt d[h+1 - 1]! d[a]! =true)/\(j<b->tlt lt d[j]! d[a]! =false)):=⟨fun _=>by rw [Nat.add_sub_cancel,<-HL.o];exact decide_eq_true ir,ED.o.2⟩
    clear lx ly hc SG S1 ED
    generalize grow (wr.drewN nq) osq=w2 at S2 |-
    go_wp2;go_roundg (j - (h+1))
    case measure=>omega
    case rel=>exact ⟨h+1,j,zN,rfl,zj,zj,hj,uL _,fJ,S2⟩
   go_wp2_with fail;go_quiet_grown (first | (go_at_fn g;refine Calls.grown_of (hc _ _)));have S2:Aside (SWK enc k w0 blk off d (grow (wr.drewN nq) osq)):=SG.o nq osq
   have fJ:Aside ((m<i->tlt lt d[i - 1]! d[a]! =true)/\(h<b->tlt lt d[h]! d[a]! =false)):=⟨ED.o.1,fun _=>by rw [<-HL.o];exact decide_eq_false zj⟩
   clear lx ly hc SG S1 ED
   generalize grow (wr.drewN nq) osq=w2 at S2 |-
   go_wp2;go_roundg (h - i)
   case measure=>omega
   case rel=>exact ⟨i,h,rfl,rfl,hi,gD,zj,uL _,fJ,S2⟩
  have aq:qlt i j=false:=zm;obtain rfl:i=j:=zj;have EI:=ED;go_wp2;clear ED;go_loopg [13] (i - 1 - a) (fun kx s13 wv=>∃(t:Nat) (dk:Array (β×Nat)),s13=qN t/\a<=t/\t+1<=i/\i - 1 - t<=kx/\dk.size=d.size/\Aside (M9 d dk a (a+1) (t+1))/\Aside (SWK enc k w0 blk off dk wv))
  case atStart=>exact ⟨a,d,rfl,uL _,zj,uL _,rfl,M9.none d a (a+1) (a+1) zj zj (.inr rfl),S1⟩
  case round=>
   clear S1;obtain ⟨t,dk,rfl,ht,hti,hkx2,gQ,RT,S1⟩:=hrel;by_cases iv:t+1<i
   ·have iu:decide ((t:Int)<(i:Int) - 1)=true:=by simp;omega
    go_wp2_with fail;have ex:((t:Int)).toNat=t:=zj;have px:(0:Int)<=(t:Int):=zj;have bdx:(t:Int)<(d.size:Int):=zj;have rx:IntKind.i64.wrap ((t:Int))=(t:Int):=zw;have ey:((t:Int)+1).toNat=t+1:=zj;have py:(0:Int)<=(t:Int)+1:=zj;have bdy:(t:Int)+1<(d.size:Int):=zj;have ry:IntKind.i64.wrap ((t:Int)+1)=(t:Int)+1:=zw;have S2:Aside (SWK enc k w0 blk off (swp dk (t) (t+1)) ((wr.drew.setCells blk (off+(t)*k) (enc dk[t+1]!)).setCells blk (off+(t+1)*k) (enc dk[t]!))):=S1.o.swapped R (t) (t+1) zj zj;have la:=S1.o.ld1 R zj P (t) zj;have lb:=S1.o.ld1 R zj P (t+1) zj;have sa:=S1.o.st1 R zj P (t) zj dk[t+1]!;have sb:=S1.o.st2 R zj P (t) (t+1) zj zj dk[t+1]! dk[t]!;have na:(enc dk[t]!).length=k:=R.hk _;have nb:(enc dk[t+1]!).length=k:=R.hk _;generalize enc dk[t]! =cI at S2 la sb na;generalize enc dk[t+1]! =cJ at S2 lb sa sb nb;clear S1;go_big_region_o;clear la lb sa sb
    generalize (wr.drew.setCells blk (off+(t)*k) cJ).setCells blk (off+(t+1)*k) cI=w2 at S2 |-
    go_wp2;go_roundg (i - 1 - (t+1))
    case measure=>omega
    case rel=>exact ⟨t+1,swp dk t (t+1),zN,zj,zj,uL _,by rw [swp_size];exact gQ,RT.o.up ht zj,S2⟩
   have iu:decide ((t:Int)<(i:Int) - 1)=false:=zm;go_wp2;(try simp only [Exit.inBlock,Exit.then]);refine bodyPost_ret (results_none rfl _ _ _) rfl ?_;have kH:t+1=i:=zj
   have iT:M9 d dk a (a+1) i:=by rw [<-kH];exact RT.o
   have h1:=H1.o;subst h1;exact ⟨rfl,dk,⟨permIn_mono d dk _ _ _ _ zg hj hb iT.G4,F0.first V.swo HR.o hi hj (fun h=>EI.o.1 h) (fun h=>EI.o.2 h) iT⟩,S1.o⟩
theorem Tr{P}{β}[Inhabited β]{lt}{k}{enc}{cf}{g}{w0}{blk off}{d0}(V:Ws P lt k enc cf g w0 blk off d0)(cap a m b)(d:Array (β×Nat))(w)
  (hs:d0.size=d.size) (S:SWK enc k w0 blk off d w) (hr:F0 lt a m b d) (ham:a<m) (iq:m<b) (hb:b<=d.size) (hsz:d.size<4611686018427387904) (h0:m≠a+1) (h1:b=m+1):
  pr P lt k enc g w0 blk off cap a m b d w:=by
 unfold pr;have L:=V.ty;have mixed:=L.mixed;have t0:=L.t0;have a0:=L.a0;have z0:=L.z0;have v0:=L.v0;have t3:=L.t3;have a3:=L.a3;have z3:=L.z3;have v3:=L.v3;have t4:=L.t4;have a4:=L.a4;have z4:=L.z4;have v4:=L.v4;have tS:=L.tS;have aS:=L.aS;have zS:=L.zS;have vS:=L.vS;have tC:=L.tC;have aC:=L.aC;have zC:=L.zC;have vC:=L.vC;have tU:=L.tU;have aU:=L.aU;have zU:=L.zU;have vU:=L.vU;have aE:=L.aE;have zE:=L.zE;have R:=V.row;have eg:=V.eg;have CMP:Aside (CmpLays P g #[] enc k cf blk off d0.size w0):=V.cmp;have LT:Aside (∀x y,decide (cf x y<0)=tlt lt x y):=V.X5;have S0:Aside (SWK enc k w0 blk off d w):=S;have HR:Aside (F0 lt a m b d):=hr;clear S hr;have q0:((m:Int) - (a:Int)==1)=false:=zm;have q1:((b:Int) - (m:Int)==1)=true:=zm;have H1:Aside (b=m+1):=h1;clear h0 h1;go_enter V.fM,ntmps330;go_wp2;clear q0 q1;go_loopg [14,15] (m - a) (fun kx gW iX wr=>∃(i j:Nat),gW=qN i/\iX=qN j/\a<=i/\i<=j/\j<=m/\j - i<=kx/\Aside ((a<i->tlt lt d[m]! d[i - 1]! =false)/\(j<m->tlt lt d[m]! d[j]! =true))/\Aside (SWK enc k w0 blk off d wr))
 case atStart=>exact ⟨a,m,rfl,rfl,uL _,zj,uL _,uL _,⟨fun h=>zj,fun h=>zj⟩,S0⟩
 case round=>
  clear S0;obtain ⟨i,j,rfl,rfl,hi,aA,hj,aY,ED,S1⟩:=hrel;by_cases hlt:i<j
  ·have aq:qlt i j=true:=by simp;omega
   go_wp2_with fail
   obtain ⟨h,hh⟩:∃h:Nat,h=(i+j) / 2:=⟨_,rfl⟩
   have gD:i<=h:=zj;have hi2:h<j:=zj;have hz:((i:Int)+(j:Int)) / 2=(h:Int):=zj;rw [hz];clear hz hh;have ex:((m:Int)).toNat=m:=zj;have px:(0:Int)<=(m:Int):=zj;have bdx:(m:Int)<(d.size:Int):=zj;have rx:IntKind.i64.wrap ((m:Int))=(m:Int):=zw;have ey:((h:Int)).toNat=h:=zj;have py:(0:Int)<=(h:Int):=zj;have bdy:(h:Int)<(d.size:Int):=zj;have ry:IntKind.i64.wrap ((h:Int))=(h:Int):=zw;have lx:=S1.o.ld R zj P (m) zj;have ly:=S1.o.ld R zj P (h) zj;have hc:=S1.o.cmp CMP.o zj d[m]! d[h]!;have hl:=LT.o d[m]! d[h]!
   have SG:Aside (∀n os,SWK enc k w0 blk off d (grow (wr.drewN n) os)):=fun n os=>S1.o.grown n os
   generalize cf d[m]! d[h]! =z at hc hl;have HL:=Lib.hid hl;clear hl;simp only [Array.append_empty] at hc;by_cases ir:z<0
   ·go_wp2_with fail;go_quiet_grown (first | (go_at_fn g;refine Calls.grown_of (hc _ _)));have S2:Aside (SWK enc k w0 blk off d (grow (wr.drewN nq) osq)):=SG.o nq osq
    have fJ:Aside ((a<i->tlt lt d[m]! d[i - 1]! =false)/\(h<m->tlt lt d[m]! d[h]! =true)):=⟨ED.o.1,fun _=>by rw [<-HL.o];exact decide_eq_true ir⟩
    clear lx ly hc SG S1 ED
    generalize grow (wr.drewN nq) osq=w2 at S2 |-
    go_wp2;go_roundg (h - i)
    case measure=>omega
    case rel=>exact ⟨i,h,rfl,rfl,hi,gD,zj,uL _,fJ,S2⟩
   go_wp2_with fail;go_quiet_grown (first | (go_at_fn g;refine Calls.grown_of (hc _ _)));have S2:Aside (SWK enc k w0 blk off d (grow (wr.drewN nq) osq)):=SG.o nq osq
   have fJ:Aside ((a<h+1->tlt lt d[m]! d[h+1 - 1]! =false)/\(j<m->tlt lt d[m]! d[j]! =true)):=⟨fun _=>by rw [Nat.add_sub_cancel,<-HL.o];exact decide_eq_false zj,ED.o.2⟩
   clear lx ly hc SG S1 ED
   generalize grow (wr.drewN nq) osq=w2 at S2 |-
   have hd:(!decide (z<0))=true:=xf;go_wp2;go_roundg (j - (h+1))
   case measure=>omega
   case rel=>exact ⟨h+1,j,zN,rfl,zj,zj,hj,uL _,fJ,S2⟩
   rename_i hx;exact ko0
  have aq:qlt i j=false:=zm;obtain rfl:i=j:=zj;have EI:=ED;go_wp2;clear ED;go_loopg [17] (m - i) (fun kx js wv=>∃(t:Nat) (dk:Array (β×Nat)),js=qN t/\i<=t/\t<=m/\t - i<=kx/\dk.size=d.size/\Aside (M9 d dk t m (m+1))/\Aside (SWK enc k w0 blk off dk wv))
  case atStart=>exact ⟨m,d,rfl,hj,uL _,uL _,rfl,M9.none d m m (m+1) zj zj (.inl rfl),S1⟩
  case round=>
   clear S1;obtain ⟨t,dk,rfl,ht,iZ,hkx2,gQ,RT,S1⟩:=hrel;by_cases iv:i<t
   ·obtain ⟨t',rfl⟩:∃t',t=t'+1:=⟨t - 1,zj⟩
    have iu:decide ((i:Int)<((t'+1:Nat):Int))=true:=zm;have hltz3:decide ((i:Int)<(t':Int)+1)=true:=zm;go_wp2_with fail;have ex:((t':Int)+1).toNat=t'+1:=zj;have px:(0:Int)<=(t':Int)+1:=zj;have bdx:(t':Int)+1<(d.size:Int):=zj;have rx:IntKind.i64.wrap ((t':Int)+1)=(t':Int)+1:=zw;have ey:((t':Int)).toNat=t':=zj;have py:(0:Int)<=(t':Int):=zj;have bdy:(t':Int)<(d.size:Int):=zj;have ry:IntKind.i64.wrap ((t':Int))=(t':Int):=zw;have S2:Aside (SWK enc k w0 blk off (swp dk (t'+1) (t')) ((wr.drew.setCells blk (off+(t'+1)*k) (enc dk[t']!)).setCells blk (off+(t')*k) (enc dk[t'+1]!))):=S1.o.swapped R (t'+1) (t') zj zj;have la:=S1.o.ld1 R zj P (t'+1) zj;have lb:=S1.o.ld1 R zj P (t') zj;have sa:=S1.o.st1 R zj P (t'+1) zj dk[t']!;have sb:=S1.o.st2 R zj P (t'+1) (t') zj zj dk[t']! dk[t'+1]!;have na:(enc dk[t'+1]!).length=k:=R.hk _;have nb:(enc dk[t']!).length=k:=R.hk _;generalize enc dk[t'+1]! =cI at S2 la sb na;generalize enc dk[t']! =cJ at S2 lb sa sb nb;clear S1;go_big_region_o;clear la lb sa sb
    generalize (wr.drew.setCells blk (off+(t'+1)*k) cJ).setCells blk (off+(t')*k) cI=w2 at S2 |-
    go_wp2;go_roundg (t' - i)
    case measure=>omega
    case rel=>exact ⟨t',swp dk (t'+1) t',by first | rfl | go_num | (congr 1;omega),zj,zj,uL _,by rw [swp_size];exact gQ,RT.o.abY zj zj,S2⟩
   have iu:qlt i t=false:=zm;go_wp2;(try simp only [Exit.inBlock,Exit.then]);refine bodyPost_ret (results_none rfl _ _ _) rfl ?_;have kH:t=i:=zj
   have iT:M9 d dk i m (m+1):=by rw [<-kH];exact RT.o
   have h1:=H1.o;subst h1;exact ⟨rfl,dk,⟨permIn_mono d dk _ _ _ _ hi zg hb iT.G4,F0.acq V.swo HR.o hi hj (fun h=>EI.o.1 h) (fun h=>EI.o.2 h) iT⟩,S1.o⟩
theorem F0.off{β}[Inhabited β]{lt}{a c e b}{d d':Array (β×Nat)}(h:F0 lt c e b d)(hce:c<=e)(p:PermIn a c d d'):F0 lt c e b d' where
 one:=fun i j hi aA hj=>by rw [p.2.1 i (.inr hi),p.2.1 j (.inr zj)];exact h.one i j hi aA hj
 two:=fun i j hi aA hj=>by rw [p.2.1 i (.inr zj),p.2.1 j (.inr zj)];exact h.two i j hi aA hj
 tag:=fun x y hx b9 hy hyb=>by rw [p.2.1 x (.inr hx),p.2.1 y (.inr zj)];exact h.tag x y hx b9 hy hyb
theorem zbY{P}{β}[Inhabited β]{lt}{k}{enc}{cf}{g}{w0}{blk off}{d0}(V:Ws P lt k enc cf g w0 blk off d0)(cap a m b)(d:Array (β×Nat))(w)
  (hs:d0.size=d.size) (S:SWK enc k w0 blk off d w) (hr:F0 lt a m b d) (ham:a<m) (iq:m<b) (hb:b<=d.size) (hsz:d.size<4611686018427387904) (_h0:m≠a+1) (_h1:b≠m+1)
  (IH:∀a' m' b' d' w',b' - a'<b - a->d0.size=d'.size->SWK enc k w0 blk off d' w'->F0 lt a' m' b' d'->a'<m'->m'<b'->b'<=d'.size->d'.size<4611686018427387904->pr P lt k enc g w0 blk off cap a' m' b' d' w') (cr:(a+b) / 2<m):
  pr P lt k enc g w0 blk off cap a m b d w:=by
 unfold pr;have L:=V.ty;have mixed:=L.mixed;have t0:=L.t0;have a0:=L.a0;have z0:=L.z0;have v0:=L.v0;have t3:=L.t3;have a3:=L.a3;have z3:=L.z3;have v3:=L.v3;have t4:=L.t4;have a4:=L.a4;have z4:=L.z4;have v4:=L.v4;have tS:=L.tS;have aS:=L.aS;have zS:=L.zS;have vS:=L.vS;have tC:=L.tC;have aC:=L.aC;have zC:=L.zC;have vC:=L.vC;have tU:=L.tU;have aU:=L.aU;have zU:=L.zU;have vU:=L.vU;have aE:=L.aE;have zE:=L.zE;have eR:∀args w,(callFunc 366 args).run P w= .ok (.enter 366 args) w:=enters_of V.fR zk rfl;have eM:∀args w,(callFunc 330 args).run P w= .ok (.enter 330 args) w:=enters_of V.fM zk rfl;have R:=V.row;have eg:=V.eg;have CMP:Aside (CmpLays P g #[] enc k cf blk off d0.size w0):=V.cmp;have LT:Aside (∀x y,decide (cf x y<0)=tlt lt x y):=V.X5;have S0:Aside (SWK enc k w0 blk off d w):=S;have HR:Aside (F0 lt a m b d):=hr;have lG:Aside (∀a' m' b' d' w',b' - a'<b - a->d0.size=d'.size->SWK enc k w0 blk off d' w'->F0 lt a' m' b' d'->a'<m'->m'<b'->b'<=d'.size->d'.size<4611686018427387904->pr P lt k enc g w0 blk off cap a' m' b' d' w'):=IH;clear S hr IH;have q0:((m:Int) - (a:Int)==1)=false:=zm;have q1:((b:Int) - (m:Int)==1)=false:=zm;clear _h0 _h1
 obtain ⟨mid,hmi⟩:∃mid:Nat,mid=(a+b) / 2:=⟨_,rfl⟩
 rw [<-hmi] at cr;have hm1:a<mid:=zj;have bR:mid<b:=zj;have cC:a+b<=2*mid+1:=zj;have jJ:2*mid<=a+b:=zj;have q2:qlt mid m=true:=zm;have hz:((a:Int)+(b:Int)) / 2=(mid:Int):=zj;have HZ:=Lib.hid hz
 obtain ⟨pp,hpp⟩:∃pp:Nat,pp=mid+m - 1:=⟨_,rfl⟩
 have bQ:pp+1<=mid+m:=zj;have fX:mid+m<=pp+1:=zj;have HP:=Lib.hid (show (mid:Int)+(m:Int) - 1=(pp:Int) by omega);clear hz hmi hpp;go_enter V.fM,ntmps330;go_upto_region 25 with fail;rw [HZ.o];clear HZ;go_wp2;rw [HP.o];clear HP;clear q0 q1 q2;go_loopg [20,21] (mid - (mid+m - b)) (fun kx s20 s21 wr=>∃(i j:Nat),s20=qN i/\s21=qN j/\mid+m - b<=i/\i<=j/\j<=mid/\j - i<=kx/\Aside ((mid+m - b<i->tlt lt d[mid+m - i]! d[i - 1]! =false)/\(j<mid->tlt lt d[mid+m - 1 - j]! d[j]! =true))/\Aside (SWK enc k w0 blk off d wr))
 case atStart=>exact ⟨mid+m - b,mid,yg,rfl,uL _,zj,uL _,uL _,⟨fun h=>zj,fun h=>zj⟩,S0⟩
 case round=>
  clear S0;obtain ⟨i,j,rfl,rfl,hi,aA,hj,aY,ED,S1⟩:=hrel;by_cases hlt:i<j
  ·have aq:qlt i j=true:=by simp;omega
   go_wp2_with fail
   obtain ⟨h,hh⟩:∃h:Nat,h=(i+j) / 2:=⟨_,rfl⟩
   have gD:i<=h:=zj;have hi2:h<j:=zj;have hz:((i:Int)+(j:Int)) / 2=(h:Int):=zj
   obtain ⟨q,hq⟩:∃q:Nat,q=mid+m - 1 - h:=⟨_,rfl⟩
   have hq1:q+h+1<=mid+m:=zj;have hq2:mid+m<=q+h+1:=zj;have HQ:=Lib.hid (show (pp:Int)=(q:Int)+(h:Int) by omega);have kr:=Lib.hid hq;rw [hz,HQ.o];clear hz hh hq;have ex:((q:Int)).toNat=q:=zj;have px:(0:Int)<=(q:Int):=zj;have bdx:(q:Int)<(d.size:Int):=zj;have rx:IntKind.i64.wrap ((q:Int))=(q:Int):=zw;have ey:((h:Int)).toNat=h:=zj;have py:(0:Int)<=(h:Int):=zj;have bdy:(h:Int)<(d.size:Int):=zj;have ry:IntKind.i64.wrap ((h:Int))=(h:Int):=zw;have lx:=S1.o.ld R zj P (q) zj;have ly:=S1.o.ld R zj P (h) zj;have hc:=S1.o.cmp CMP.o zj d[q]! d[h]!;have hl:=LT.o d[q]! d[h]!
   have SG:Aside (∀n os,SWK enc k w0 blk off d (grow (wr.drewN n) os)):=fun n os=>S1.o.grown n os
   generalize cf d[q]! d[h]! =z at hc hl;have HL:=Lib.hid hl;clear hl;simp only [Array.append_empty] at hc;by_cases ir:z<0
   ·go_wp2_with fail;go_quiet_grown (first | (go_at_fn g;refine Calls.grown_of (hc _ _)));have S2:Aside (SWK enc k w0 blk off d (grow (wr.drewN nq) osq)):=SG.o nq osq
    have fJ:Aside ((mid+m - b<i->tlt lt d[mid+m - i]! d[i - 1]! =false)/\(h<mid->tlt lt d[mid+m - 1 - h]! d[h]! =true)):=⟨ED.o.1,fun _=>vw⟩
    clear lx ly hc SG S1 ED
    generalize grow (wr.drewN nq) osq=w2 at S2 |-
    rw [<-HQ.o];clear HQ kr;go_wp2;go_roundg (h - i)
    case measure=>omega
    case rel=>exact ⟨i,h,rfl,rfl,hi,gD,zj,uL _,fJ,S2⟩
   go_wp2_with fail;go_quiet_grown (first | (go_at_fn g;refine Calls.grown_of (hc _ _)));have S2:Aside (SWK enc k w0 blk off d (grow (wr.drewN nq) osq)):=SG.o nq osq
   have fJ:Aside ((mid+m - b<h+1->tlt lt d[mid+m - (h+1)]! d[h+1 - 1]! =false)/\(j<mid->tlt lt d[mid+m - 1 - j]! d[j]! =true)):=⟨fun _=>by rw [Nat.add_sub_cancel,show mid+m - (h+1)=mid+m - 1 - h by omega,<-kr.o,<-HL.o];exact decide_eq_false zj,ED.o.2⟩
   clear lx ly hc SG S1 ED
   generalize grow (wr.drewN nq) osq=w2 at S2 |-
   have hd:(!decide (z<0))=true:=xf;rw [<-HQ.o];clear HQ kr;go_wp2;go_roundg (j - (h+1))
   case measure=>omega
   case rel=>exact ⟨h+1,j,zN,rfl,zj,zj,hj,uL _,fJ,S2⟩
   rename_i hx;exact ko0
  have aq:qlt i j=false:=zm;obtain rfl:i=j:=zj
  obtain ⟨e,hee⟩:∃e:Nat,e=mid+m - i:=⟨_,rfl⟩
  have he1:i+e=mid+m:=zj
  have bC:a<i->e<b->tlt lt d[e]! d[i - 1]! =false:=fun x y=>by rw [hee];exact ED.o.1 zj
  have iE:i<m->m<e->tlt lt d[e - 1]! d[i]! =true:=fun x y=>qV
  have ku:Aside (a<i->e<b->tlt lt d[e]! d[i - 1]! =false):=bC;have kw:Aside (i<m->m<e->tlt lt d[e - 1]! d[i]! =true):=iE;have hze:(mid:Int)+(m:Int) - (i:Int)=(e:Int):=zj;have HZE:=Lib.hid hze;clear bC iE hze hee ED;go_upto_region 39 with fail;rw [HZE.o];clear HZE;by_cases hrot:i<mid
  ·skip;have b0:qlt i m=true:=zm;have b1:qlt m e=true:=zm;go_wp2_with fail;clear b0 b1;refine (CR k L V.fS V.fR enc blk off cap i m e d0 d w0 wr _ R hs S1.o zj zj zj zj).mono ?_;rintro ex w1 ⟨rfl,d1,RT,S_1⟩;have cj:=RT.G4.1;have S2:Aside (SWK enc k w0 blk off d1 w1):=S_1;clear S_1 S1
   have ci:Aside (F0 lt a i mid d1/\F0 lt mid e b d1/\∀p q,a<=p->p<mid->mid<=q->q<b->slt lt d1[q]! d1[p]! =false):=by
    exact kd0
   have gV:Aside (PermIn a b d d1):=permIn_mono d d1 _ _ _ _ zj zj hb RT.G4;clear RT ku kw;by_cases hse:a<i
   ·skip;have b0:qlt a i=true:=zm;have b1:qlt i mid=true:=zm;go_wp2_with fail;clear b0 b1;have C:=lG.o a i mid d1 w1 zj zj S2.o ci.o.1 zj zj zj zj;unfold pr at C;rw [cj] at C;refine C.mono ?_;clear C;rintro ex w2 ⟨rfl,d2,⟨PMd2,SOd2⟩,S_d2⟩
    have gr:d2.size=d.size:=by rw [PMd2.1,cj]
    have lE:Aside (SWK enc k w0 blk off d2 w2):=S_d2
    have gm:Aside (PermIn a mid d1 d2/\SortedIn (slt lt) a mid d2):=⟨PMd2,SOd2⟩
    clear PMd2 SOd2 S_d2;clear S2;by_cases hth:e<b
    ·exact ka8
    skip;have b0:qlt mid e=true:=zm;have b1:qlt e b=false:=zm;exact kc3
   skip;have b0:qlt a i=false:=zm
   have eA:Aside (PermIn a mid d1 d1/\SortedIn (slt lt) a mid d1):=⟨permIn_refl _ _ _,F0.V ci.o.1 zj⟩
   by_cases hth:e<b
   ·exfalso;omega
   skip;have b0:qlt mid e=true:=zm;have b1:qlt e b=false:=zm;exact kb1
  skip;have b0:qlt i m=true:=zm;have b1:qlt m e=false:=zm
  obtain ⟨d1,w1,cW,hw1⟩:∃d1 w1,d1=d/\w1=wr:=⟨_,_,rfl,rfl⟩
  have RT:M9 d d1 i m e:=xH;have cj:=RT.G4.1
  have S2:Aside (SWK enc k w0 blk off d1 w1):=by rw [cW,hw1];exact S1
  rw [<-hw1];clear cW hw1 S1
  have ci:Aside (F0 lt a i mid d1/\F0 lt mid e b d1/\∀p q,a<=p->p<mid->mid<=q->q<b->slt lt d1[q]! d1[p]! =false):=by
   exact kd0
  have gV:Aside (PermIn a b d d1):=permIn_mono d d1 _ _ _ _ zj zj hb RT.G4;clear RT ku kw;have b0:qlt a i=true:=zm;have b1:qlt i mid=false:=zm
  have eA:Aside (PermIn a mid d1 d1/\SortedIn (slt lt) a mid d1):=⟨permIn_refl _ _ _,F0.V ci.o.1 zj⟩
  by_cases hth:e<b
  ·exact kb0
  exfalso;omega
theorem zbu{P}{β}[Inhabited β]{lt}{k}{enc}{cf}{g}{w0}{blk off}{d0}(V:Ws P lt k enc cf g w0 blk off d0)(cap a m b)(d:Array (β×Nat))(w)
  (hs:d0.size=d.size) (S:SWK enc k w0 blk off d w) (hr:F0 lt a m b d) (ham:a<m) (iq:m<b) (hb:b<=d.size) (hsz:d.size<4611686018427387904) (_h0:m≠a+1) (_h1:b≠m+1)
  (IH:∀a' m' b' d' w',b' - a'<b - a->d0.size=d'.size->SWK enc k w0 blk off d' w'->F0 lt a' m' b' d'->a'<m'->m'<b'->b'<=d'.size->d'.size<4611686018427387904->pr P lt k enc g w0 blk off cap a' m' b' d' w') (cr:m<=(a+b) / 2):
  pr P lt k enc g w0 blk off cap a m b d w:=by
 unfold pr;have L:=V.ty;have mixed:=L.mixed;have t0:=L.t0;have a0:=L.a0;have z0:=L.z0;have v0:=L.v0;have t3:=L.t3;have a3:=L.a3;have z3:=L.z3;have v3:=L.v3;have t4:=L.t4;have a4:=L.a4;have z4:=L.z4;have v4:=L.v4;have tS:=L.tS;have aS:=L.aS;have zS:=L.zS;have vS:=L.vS;have tC:=L.tC;have aC:=L.aC;have zC:=L.zC;have vC:=L.vC;have tU:=L.tU;have aU:=L.aU;have zU:=L.zU;have vU:=L.vU;have aE:=L.aE;have zE:=L.zE;have eR:∀args w,(callFunc 366 args).run P w= .ok (.enter 366 args) w:=enters_of V.fR zk rfl;have eM:∀args w,(callFunc 330 args).run P w= .ok (.enter 330 args) w:=enters_of V.fM zk rfl;have R:=V.row;have eg:=V.eg;have CMP:Aside (CmpLays P g #[] enc k cf blk off d0.size w0):=V.cmp;have LT:Aside (∀x y,decide (cf x y<0)=tlt lt x y):=V.X5;have S0:Aside (SWK enc k w0 blk off d w):=S;have HR:Aside (F0 lt a m b d):=hr;have lG:Aside (∀a' m' b' d' w',b' - a'<b - a->d0.size=d'.size->SWK enc k w0 blk off d' w'->F0 lt a' m' b' d'->a'<m'->m'<b'->b'<=d'.size->d'.size<4611686018427387904->pr P lt k enc g w0 blk off cap a' m' b' d' w'):=IH;clear S hr IH;have q0:((m:Int) - (a:Int)==1)=false:=zm;have q1:((b:Int) - (m:Int)==1)=false:=zm;clear _h0 _h1
 obtain ⟨mid,hmi⟩:∃mid:Nat,mid=(a+b) / 2:=⟨_,rfl⟩
 rw [<-hmi] at cr;have hm1:a<mid:=zj;have bR:mid<b:=zj;have cC:a+b<=2*mid+1:=zj;have jJ:2*mid<=a+b:=zj;have q2:qlt mid m=false:=zm;have hz:((a:Int)+(b:Int)) / 2=(mid:Int):=zj;have HZ:=Lib.hid hz
 obtain ⟨pp,hpp⟩:∃pp:Nat,pp=mid+m - 1:=⟨_,rfl⟩
 have bQ:pp+1<=mid+m:=zj;have fX:mid+m<=pp+1:=zj;have HP:=Lib.hid (show (mid:Int)+(m:Int) - 1=(pp:Int) by omega);clear hz hmi hpp;go_enter V.fM,ntmps330;go_upto_region 25 with fail;rw [HZ.o];clear HZ;go_wp2;rw [HP.o];clear HP;rw [decide_eq_false (show ¬mid<m by omega)];clear q0 q1 q2;go_loopg [20,21] (m - (a)) (fun kx s20 s21 wr=>∃(i j:Nat),s20=qN i/\s21=qN j/\a<=i/\i<=j/\j<=m/\j - i<=kx/\Aside ((a<i->tlt lt d[mid+m - i]! d[i - 1]! =false)/\(j<m->tlt lt d[mid+m - 1 - j]! d[j]! =true))/\Aside (SWK enc k w0 blk off d wr))
 case atStart=>exact ⟨a,m,yg,rfl,uL _,zj,uL _,uL _,⟨fun h=>zj,fun h=>zj⟩,S0⟩
 case round=>
  clear S0;obtain ⟨i,j,rfl,rfl,hi,aA,hj,aY,ED,S1⟩:=hrel;by_cases hlt:i<j
  ·have aq:qlt i j=true:=by simp;omega
   go_wp2_with fail
   obtain ⟨h,hh⟩:∃h:Nat,h=(i+j) / 2:=⟨_,rfl⟩
   have gD:i<=h:=zj;have hi2:h<j:=zj;have hz:((i:Int)+(j:Int)) / 2=(h:Int):=zj
   obtain ⟨q,hq⟩:∃q:Nat,q=mid+m - 1 - h:=⟨_,rfl⟩
   have hq1:q+h+1<=mid+m:=zj;have hq2:mid+m<=q+h+1:=zj;have HQ:=Lib.hid (show (pp:Int)=(q:Int)+(h:Int) by omega);have kr:=Lib.hid hq;rw [hz,HQ.o];clear hz hh hq;have ex:((q:Int)).toNat=q:=zj;have px:(0:Int)<=(q:Int):=zj;have bdx:(q:Int)<(d.size:Int):=zj;have rx:IntKind.i64.wrap ((q:Int))=(q:Int):=zw;have ey:((h:Int)).toNat=h:=zj;have py:(0:Int)<=(h:Int):=zj;have bdy:(h:Int)<(d.size:Int):=zj;have ry:IntKind.i64.wrap ((h:Int))=(h:Int):=zw;have lx:=S1.o.ld R zj P (q) zj;have ly:=S1.o.ld R zj P (h) zj;have hc:=S1.o.cmp CMP.o zj d[q]! d[h]!;have hl:=LT.o d[q]! d[h]!
   have SG:Aside (∀n os,SWK enc k w0 blk off d (grow (wr.drewN n) os)):=fun n os=>S1.o.grown n os
   generalize cf d[q]! d[h]! =z at hc hl;have HL:=Lib.hid hl;clear hl;simp only [Array.append_empty] at hc;by_cases ir:z<0
   ·go_wp2_with fail;go_quiet_grown (first | (go_at_fn g;refine Calls.grown_of (hc _ _)));have S2:Aside (SWK enc k w0 blk off d (grow (wr.drewN nq) osq)):=SG.o nq osq
    have fJ:Aside ((a<i->tlt lt d[mid+m - i]! d[i - 1]! =false)/\(h<m->tlt lt d[mid+m - 1 - h]! d[h]! =true)):=⟨ED.o.1,fun _=>vw⟩
    clear lx ly hc SG S1 ED
    generalize grow (wr.drewN nq) osq=w2 at S2 |-
    rw [<-HQ.o];clear HQ kr;go_wp2;go_roundg (h - i)
    case measure=>omega
    case rel=>exact ⟨i,h,rfl,rfl,hi,gD,zj,uL _,fJ,S2⟩
   go_wp2_with fail;go_quiet_grown (first | (go_at_fn g;refine Calls.grown_of (hc _ _)));have S2:Aside (SWK enc k w0 blk off d (grow (wr.drewN nq) osq)):=SG.o nq osq
   have fJ:Aside ((a<h+1->tlt lt d[mid+m - (h+1)]! d[h+1 - 1]! =false)/\(j<m->tlt lt d[mid+m - 1 - j]! d[j]! =true)):=⟨fun _=>by rw [Nat.add_sub_cancel,show mid+m - (h+1)=mid+m - 1 - h by omega,<-kr.o,<-HL.o];exact decide_eq_false zj,ED.o.2⟩
   clear lx ly hc SG S1 ED
   generalize grow (wr.drewN nq) osq=w2 at S2 |-
   have hd:(!decide (z<0))=true:=xf;rw [<-HQ.o];clear HQ kr;go_wp2;go_roundg (j - (h+1))
   case measure=>omega
   case rel=>exact ⟨h+1,j,zN,rfl,zj,zj,hj,uL _,fJ,S2⟩
   rename_i hx;exact ko0
  have aq:qlt i j=false:=zm;obtain rfl:i=j:=zj
  obtain ⟨e,hee⟩:∃e:Nat,e=mid+m - i:=⟨_,rfl⟩
  have he1:i+e=mid+m:=zj
  have bC:a<i->e<b->tlt lt d[e]! d[i - 1]! =false:=fun x y=>by rw [hee];exact ED.o.1 zj
  have iE:i<m->m<e->tlt lt d[e - 1]! d[i]! =true:=fun x y=>qV
  have ku:Aside (a<i->e<b->tlt lt d[e]! d[i - 1]! =false):=bC;have kw:Aside (i<m->m<e->tlt lt d[e - 1]! d[i]! =true):=iE;have hze:(mid:Int)+(m:Int) - (i:Int)=(e:Int):=zj;have HZE:=Lib.hid hze;clear bC iE hze hee ED;go_upto_region 39 with fail;rw [HZE.o];clear HZE;by_cases hrot:i<m
  ·skip;have b0:qlt i m=true:=zm;have b1:qlt m e=true:=zm;go_wp2_with fail;clear b0 b1;refine (CR k L V.fS V.fR enc blk off cap i m e d0 d w0 wr _ R hs S1.o zj zj zj zj).mono ?_;rintro ex w1 ⟨rfl,d1,RT,S_1⟩;have cj:=RT.G4.1;have S2:Aside (SWK enc k w0 blk off d1 w1):=S_1;clear S_1 S1
   have ci:Aside (F0 lt a i mid d1/\F0 lt mid e b d1/\∀p q,a<=p->p<mid->mid<=q->q<b->slt lt d1[q]! d1[p]! =false):=by
    exact kd0
   have gV:Aside (PermIn a b d d1):=permIn_mono d d1 _ _ _ _ zj zj hb RT.G4;clear RT ku kw;by_cases hse:a<i
   ·skip;have b0:qlt a i=true:=zm;have b1:qlt i mid=true:=zm;go_wp2_with fail;clear b0 b1;have C:=lG.o a i mid d1 w1 zj zj S2.o ci.o.1 zj zj zj zj;unfold pr at C;rw [cj] at C;refine C.mono ?_;clear C;rintro ex w2 ⟨rfl,d2,⟨PMd2,SOd2⟩,S_d2⟩
    have gr:d2.size=d.size:=by rw [PMd2.1,cj]
    have lE:Aside (SWK enc k w0 blk off d2 w2):=S_d2
    have gm:Aside (PermIn a mid d1 d2/\SortedIn (slt lt) a mid d2):=⟨PMd2,SOd2⟩
    clear PMd2 SOd2 S_d2;clear S2;by_cases hth:e<b
    ·exact ka8
    exfalso;omega
   skip;have b0:qlt a i=false:=zm
   have eA:Aside (PermIn a mid d1 d1/\SortedIn (slt lt) a mid d1):=⟨permIn_refl _ _ _,F0.V ci.o.1 zj⟩
   by_cases hth:e<b
   ·exact kb0
   skip;have b0:qlt mid e=true:=zm;have b1:qlt e b=false:=zm;exact kb1
  skip;have b0:qlt i m=false:=zm
  obtain ⟨d1,w1,cW,hw1⟩:∃d1 w1,d1=d/\w1=wr:=⟨_,_,rfl,rfl⟩
  have RT:M9 d d1 i m e:=xH;have cj:=RT.G4.1
  have S2:Aside (SWK enc k w0 blk off d1 w1):=by rw [cW,hw1];exact S1
  rw [<-hw1];clear cW hw1 S1
  have ci:Aside (F0 lt a i mid d1/\F0 lt mid e b d1/\∀p q,a<=p->p<mid->mid<=q->q<b->slt lt d1[q]! d1[p]! =false):=by
   exact kd0
  have gV:Aside (PermIn a b d d1):=permIn_mono d d1 _ _ _ _ zj zj hb RT.G4;clear RT ku kw;by_cases hse:i<mid
  ·skip;have b0:qlt a i=true:=zm;have b1:qlt i mid=true:=zm;go_wp2_with fail;clear b0 b1;have C:=lG.o a i mid d1 w1 zj zj S2.o ci.o.1 zj zj zj zj;unfold pr at C;rw [cj] at C;refine C.mono ?_;clear C;rintro ex w2 ⟨rfl,d2,⟨PMd2,SOd2⟩,S_d2⟩
   have gr:d2.size=d.size:=by rw [PMd2.1,cj]
   have lE:Aside (SWK enc k w0 blk off d2 w2):=S_d2
   have gm:Aside (PermIn a mid d1 d2/\SortedIn (slt lt) a mid d2):=⟨PMd2,SOd2⟩
   clear PMd2 SOd2 S_d2;clear S2;have b0:qlt mid e=false:=zm;exact kc3
  skip;have b0:qlt a i=true:=zm;have b1:qlt i mid=false:=zm
  have eA:Aside (PermIn a mid d1 d1/\SortedIn (slt lt) a mid d1):=⟨permIn_refl _ _ _,F0.V ci.o.1 zj⟩
  have b0:qlt mid e=false:=zm;exact kb1
theorem IF{P}{β}[Inhabited β]{lt}{k}{enc}{cf}{g}{w0}{blk off}{d0}(V:Ws P lt k enc cf g w0 blk off d0)(cap):∀(n a m b:Nat) (d:Array (β×Nat)) (w:qW),
  b - a<=n->d0.size=d.size->SWK enc k w0 blk off d w->F0 lt a m b d->a<m->m<b->b<=d.size->d.size<4611686018427387904->pr P lt k enc g w0 blk off cap a m b d w
 | 0,a,m,b,d,w=>fun hn _ _ _ h1 h2 _ _=>absurd hn zj
 | n+1,a,m,b,d,w=>fun hn hs S hr h1 h2 hb hsz=>by
  have IH:∀a' m' b' d' w',b' - a'<b - a->d0.size=d'.size->SWK enc k w0 blk off d' w'->F0 lt a' m' b' d'->a'<m'->m'<b'->b'<=d'.size->d'.size<4611686018427387904->pr P lt k enc g w0 blk off cap a' m' b' d' w':=fun a' m' b' d' w' hl=>IF V cap n a' m' b' d' w' zj
  grind [Nz,Tr,zbY,zbu]

end