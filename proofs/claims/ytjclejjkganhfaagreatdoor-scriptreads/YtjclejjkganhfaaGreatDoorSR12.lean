import Derived.Test.YtjclejjkganhfaaGreatDoorSR06
import Derived.Test.YtjclejjkganhfaaGreatDoorSR07
import Derived.Test.YtjclejjkganhfaaGreatDoorSR08
import Derived.Deep.CutRange
import Derived.Deep.DeepCutAuto
import Derived.Shelf.SlSortCmp.KitK
import Derived.Laws.ResultCell
set_option linter.unusedSimpArgs false
set_option linter.unusedVariables false
set_option maxRecDepth 100000
set_option maxHeartbeats 64000000
namespace Go.Proofs.YtjclejjkganhfaaGreatDoor
open Go.Proofs.Tryz
variable {L:List Ltr}
section
open RowKit Lib Go.Sort
section
variable {P:Program} {ops:Array Oper} {Q:Exit→Act→World→Prop} {md:Region.Mode} {S:World→Prop} {z:Nat}
theorem MQ{i j}{oi oj}{fuel}{listed}{a}{w}(hr:Region.ready md ops listed= [i,j])(hoi:ops[i]? =some oi)(hoj:ops[j]? =some oj)
  (h1:∀K:Act->World->Prop,(∀a' w',(S w'\/i=z/\z<listed.size)->nz P md ops Q S z fuel (listed.setIfInBounds i true) a' w'->K a' w')->if Region.wanted oi (yielded ops a.tmps)=true then Oper.wp P oi a w K Q else K (a.put oi.dst undef) w)
  (h2:∀K:Act->World->Prop,(∀a' w',(S w'\/j=z/\z<listed.size)->nz P md ops Q S z fuel (listed.setIfInBounds j true) a' w'->K a' w')->if Region.wanted oj (yielded ops a.tmps)=true then Oper.wp P oj a w K Q else K (a.put oj.dst undef) w):nz P md ops Q S z (fuel+1) listed a w:=by
 refine ⟨fun h0=>zL,fun k hk=> ?_⟩;rw [hr] at hk;simp only [uX,ZP,or_false] at hk
 rcases hk with rfl | rfl
 ·have:=h1 (fun a' w'=>(S w'\/(listed.setIfInBounds k true).getD z false=true)/\nz P md ops Q S z fuel (listed.setIfInBounds k true) a' w') (fun a' w' h1 h2=>⟨h1.imp id (fun h=>by
   obtain ⟨e,hl⟩:=h
   subst e
   simp [hl]),h2⟩)
  unfold wpOp
  grind
 have:=h2 (fun a' w'=>(S w'\/(listed.setIfInBounds k true).getD z false=true)/\nz P md ops Q S z fuel (listed.setIfInBounds k true) a' w') (fun a' w' h1 h2=>⟨h1.imp id (fun h=>by
  obtain ⟨e,hl⟩:=h
  subst e
  simp [hl]),h2⟩)
 unfold wpOp
 grind
end
structure Ln4 (ad:qF) (w:qW):Prop where
 c1:w.cell? (qB 0)=some (.iface 437 (.pointer (some (ad 1))))
 c2:w.cell? (qB 2)=some (.iface 437 (.pointer (some (ad 2))))
 c5:w.cell? (qB 5)=some (.iface 437 (.pointer (some (ad 5))))
 c6:w.cell? (qB 6)=some (.iface 437 (.pointer (some (ad 6))))
theorem Ln4.later{ad}{w w'}(h:Ln4 ad w)(hb:qL w w'):Ln4 ad w':=
 ⟨pS hb h.c1,pS hb h.c2,pS hb h.c5,pS hb h.c6⟩
def Ce(id behind:Int):Prop:=4<=id/\id<4294967300/\0<=behind/\behind<id
theorem FD{ad}(w)(p)(id behind)(c:Nat)(hE:Ln4 ad w)(hi: -9223372036854775808<=id/\id<=9223372036854775807)(h:¬Ce id behind):
  qC 227 #[qP p,qI id,qI behind,.int .u8 (c:Int)] w (qR (.iface 437 (.pointer (some (ad 2)))) w):=by
 have HE:Aside (Ln4 ad w):=hE;have cY:0<w.heap.size:=uN w (qB _) hE.c1;by_cases h1:4<=id/\id<4294967300
 ·have fY:=QZ id w h1.1 h1.2;by_cases h2:behind<0
  ·have d2:=decide_eq_true h2;exact kb8
  have d2:=decide_eq_false h2;have d3:decide (id<=behind)=true:=decide_eq_true (by unfold Ce at h;omega);exact kb8
 have fY:=zci id w _ _ hE.c1 cY zj hi.1 hi.2;exact kb8
theorem Gg{ad}(w)(l9 p)(v)(L)(id behind)(c:Nat)(hE:Ln4 ad w)(hT:x9 l9 w p v L)(hL:L.length<=1000)(h:Ce id behind)(hx:id∈L.map (·.1)):
  qC 227 #[qP p,qI id,qI behind,.int .u8 (c:Int)] w (qR (.iface 437 (.pointer (some (ad 6)))) w):=by
 have HE:Aside (Ln4 ad w):=hE;have HT:Aside (x9 l9 w p v L):=hT;have fY:=QZ id w h.1 h.2.1;have d2:decide (behind<0)=false:=decide_eq_false vR;have d3:decide (id<=behind)=false:=decide_eq_false vP;obtain ⟨i,hi,-,ce⟩:=FA hx;have HI:=Lib.hid hi;go_enter func227,ntmps227;go_wp2_with fail;refine fY.mono ?_;rintro e w1 ⟨rfl,hb⟩
 have B2:Aside (∀o,qL w (w1.alloc o)):=fun o=>hb.alloc hb.size o
 go_wp2_with fail;refine (pL _ l9 p v L id (HT.o.later (B2.o _)) hL).mono ?_;rintro e w2 ⟨rfl,hb2⟩;rw [HI.o];have B3:Aside (qL w w2):=(B2.o _).trans (hb2.mono (B2.o _).size);have c6:=(HE.o.later B3.o).c6;go_wp2;go_ret;exact ⟨rfl,B3.o⟩
theorem Hh{ad}(w)(l9 p)(v)(L)(id behind)(c:Nat)(hE:Ln4 ad w)(hT:x9 l9 w p v L)(hL:L.length<=1000)(h:Ce id behind)(hx:id∉L.map (·.1))(h0:behind≠0)(hy:behind∉L.map (·.1)):
  qC 227 #[qP p,qI id,qI behind,.int .u8 (c:Int)] w (qR (.iface 437 (.pointer (some (ad 5)))) w):=by
 have HE:Aside (Ln4 ad w):=hE;have HT:Aside (x9 l9 w p v L):=hT;have fY:=QZ id w h.1 h.2.1;have d2:decide (behind<0)=false:=decide_eq_false vR;have d3:decide (id<=behind)=false:=decide_eq_false vP;have d4:(behind !=0)=true:=xm;have HI:=Lib.hid (re hx);have HJ:=Lib.hid (re hy);go_enter func227,ntmps227;go_wp2_with fail;refine fY.mono ?_;rintro e w1 ⟨rfl,hb⟩
 have B2:Aside (∀o,qL w (w1.alloc o)):=fun o=>hb.alloc hb.size o
 go_wp2_with fail;refine (pL _ l9 p v L id (HT.o.later (B2.o _)) hL).mono ?_;rintro e w2 ⟨rfl,hb2⟩;rw [HI.o];have B3:Aside (qL w w2):=(B2.o _).trans (hb2.mono (B2.o _).size);go_wp2_with fail;refine (pL _ l9 p v L behind (HT.o.later B3.o) hL).mono ?_;rintro e w3 ⟨rfl,hb3⟩;rw [HJ.o];have B4:Aside (qL w w3):=zi B3.o hb3;have c5:=(HE.o.later B4.o).c5;go_wp2;go_ret;exact ⟨rfl,B4.o⟩
theorem Wr{w:qW}{l9 n k}{v}{e}{xs}(h:w.ownsRow l9 e k v (n+1) xs):∃g cap,v=qG g (n+1) cap:=by
 rcases h.2 with ⟨_,h2⟩ | ⟨g,cap,cur,rfl,_⟩
 ·omega
 simp_all
theorem x9.ne{l9}{w}{p}{v}{L}(h:x9 l9 w p v L):∀g,v.ownBlock=some g->g≠p/\g<w.heap.size/\l9<=g:=fun g hg=>by
 have h1:=h.row.lt g hg;have h2:=h.low;omega
theorem DQ(X)(l9 p vb k)(v)(L)(x)(hT:x9 l9 X p v L)(aj:l9<=X.heap.size)(hL:L.length<=900)(hk:k<=L.length)(fN:X.heap[vb]? =some (.cells #[qI x.1,.int .u8 (x.2.1:Int),.bool (!x.2.2)] 334 (0,0)))(hvn:some vb≠v.ownBlock):
  qC 280 #[v,qN k,qG vb 1 1] X
   fun e w'=>∃g' cap',e= .returned (qG g' (L.length+1) cap')/\w'.cell? (qB p)=some v/\w'.frozen? (qB p)=false/\Aside (w'.ownsRow l9 334 3 (qG g' (L.length+1) cap') (L.length+1) (mP Fq (L.take k++x::L.drop k))/\m7 (fun k=>some k=v.ownBlock) X w'/\(some g'=v.ownBlock\/X.heap.size<=g')/\w'.heap[p]? =some (.cells #[v] 332 (0,0))):=by
 refine (Kd X l9 L.length k v (mP Fq L) (Fq x) hT.row zj vb rfl (fun j u hj=> ?_) (KR x) (sC KR L) hvn ?_ (fun j=> ?_) aj hk).mono ?_
 ·simp only [World.cell?,fN];rw [<-hj];simp [Fq]
 ·simp [World.shape?,fN]
 ·simp [World.frozen?,fN]
 rintro e w' ⟨v',rfl,ho,hkp,hv'⟩;obtain ⟨g',cap',rfl⟩:=Wr ho;have hp:=hkp.block p hT.lt (fun e=>(hT.ne p e.symm).1 rfl);have dX:=hp.trans hT.cell;rw [<-Jr rI L k hk] at ho;refine ⟨g',cap',rfl,by simp [World.cell?,dX],by simp [World.frozen?,dX],ho,hkp,?_,dX⟩
 rcases hv' with e | e
 ·exact .inl e
 right
 have:g'=X.heap.size:=by simpa [Value.ownBlock] using e
 omega
theorem LP{w wc}(hb:qL w wc)(cs)(t):∃Y,Y=(wc.alloc (.cells cs t)).drew/\qL w Y/\Y.heap[wc.heap.size]? =some (.cells cs t (0,0))/\wc.heap.size<Y.heap.size:=by
 refine ⟨_,rfl,(hb.alloc hb.size _).drew,?_,?_⟩
 ·exact heap_alloc_new wc _
 simp_all
def UF(l9:Nat)(w:qW)(p:Nat)(v:Value)(M:List Ltr)(w':qW):Prop:=
 ∃v',x9 l9 w' p v' M/\m7 (fun k=>k=p\/some k=v.ownBlock) w w'/\(v'.ownBlock=v.ownBlock\/∀g,v'.ownBlock=some g->w.heap.size<=g)
theorem XB{l9}{w X w5}{p k g' cap'}{v}{L M}{x}(hT:x9 l9 w p v L)(hB:qL w X)(hM:M=L.take k++x::L.drop k)(hlen:M.length=L.length+1)
  (hn:(M.map (·.1)).Nodup) (hpos:∀l∈M,l.1≠0) (fh:∀l∈M,l.2.1<256)
  (h5:w5.ownsRow l9 334 3 (qG g' (L.length+1) cap') (L.length+1) (mP Fq (L.take k++x::L.drop k))/\m7 (fun k=>some k=v.ownBlock) X w5/\(some g'=v.ownBlock\/X.heap.size<=g')/\w5.heap[p]? =some (.cells #[v] 332 (0,0))):
  UF l9 w p v M (w5.setCell (qB p) (qG g' (L.length+1) cap')):=by
 obtain ⟨ho,hkp,hg,hp⟩:=h5;obtain ⟨w6,gv⟩:=za (w5.setCell (qB p) (qG g' (L.length+1) cap'));rw [<-gv]
 have fy:m7 (fun k=>k=p) w5 w6:=by rw [gv];exact lZ p [_] 0 w5
 have bY:=ho.lt g' rfl;have iw:=hT.low
 have jU:w6.heap[p]? =some (.cells #[qG g' (L.length+1) cap'] 332 (0,0)):=by rw [gv];exact heap_setCell_same w5 p 0 _ _ _ hp
 have hr6:=EB (w':=w6) ho (fun g hg'=>by
  cases hg'
  exact fy.block g' bY.2 (fun e=>zj))
 have hKw:m7 (fun k=>k=p\/some k=v.ownBlock) w X:=(lW hB).mono (fun k hk e=>zj);refine ⟨_,⟨jU,zL,hT.low,hn,hpos,fh⟩,(hKw.then hkp (fun _ _ e=>.inr e)).then fy (fun _ _ e=>.inl e),?_⟩
 rcases hg with h | h
 ·exact .inl h
 refine .inr (fun g hg=> ?_)
 have e:g'=g:=by simpa [Value.ownBlock] using hg
 have:=hB.size;omega
theorem Om(w)(l9 p)(v)(L)(id behind)(c:Nat)(hT:x9 l9 w p v L)(aj:l9<=w.heap.size)(hL:L.length<=900)(h:Ce id behind)(hc:c<256)(hx:id∉L.map (·.1))(hy:behind=0\/behind∈L.map (·.1)):
  qC 227 #[qP p,qI id,qI behind,.int .u8 (c:Int)] w fun e w'=>e= .returned .nilIface/\UF l9 w p v (put behind (id,c,false) L) w':=by
 have HT:Aside (x9 l9 w p v L):=hT;have fY:=QZ id w h.1 h.2.1;have d2:decide (behind<0)=false:=decide_eq_false vR;have d3:decide (id<=behind)=false:=decide_eq_false vP;have HI:=Lib.hid (re hx);have HX:Aside (id∉L.map (·.1)):=hx
 obtain ⟨bf,k,hbf,hbk,hk,hpl⟩:∃(bf:Int) (k:Nat),Aside (DZ behind L=bf/\((bf= -1/\behind=0)\/0<=bf))/\IntKind.i64.wrap (bf+1)=(k:Int)/\k<=L.length/\Aside (k+ou id (L.drop k)=sd behind id L):=by
  unfold sd;by_cases h0:behind=0
  ·refine ⟨-1,0,⟨re (fun hm=> ?_),.inl ⟨rfl,h0⟩⟩,zo,uW _,?_⟩
   ·obtain ⟨l,hl,e⟩:=Zj.1 hm;exact hT.pos l hl (by rw [e,h0])
   show _=_
   rw [if_pos h0];simp
  obtain ⟨i,hi,hf,ce⟩:=FA (hy.resolve_left h0);refine ⟨i,i+1,⟨hi,.inr zj⟩,?_,zj,?_⟩
  ·rw [IntKind.wrap_i64];omega
  show _=_
  rw [if_neg h0,hf]
 have HM:Aside (put behind (id,c,false) L=L.take (sd behind id L)++(id,c,false)::L.drop (sd behind id L)/\(put behind (id,c,false) L).length=L.length+1/\((put behind (id,c,false) L).map (·.1)).Nodup/\(∀l∈put behind (id,c,false) L,l.1≠0)/\(∀l∈put behind (id,c,false) L,l.2.1<256)/\sd behind id L<=L.length):=by
  refine ⟨(Ou hy).2,WD hy,Nm hy hT.J2 hx,fun l hl=> ?_,fun l hl=> ?_,(Ou (x:=(id,c,false)) hy).1⟩
  ·rcases uX.1 ((BR hy).mem_iff.1 hl) with rfl | hl
   ·have:=h.1;omega
   exact hT.pos l hl
  rcases uX.1 ((BR hy).mem_iff.1 hl) with rfl | hl
  ·exact hc
  exact hT.aaq l hl
 obtain ⟨M,hM⟩:∃M,put behind (id,c,false) L=M:=⟨_,rfl⟩
 rw [hM] at HM |-
 obtain ⟨q,hq⟩:∃q,sd behind id L=q:=⟨_,rfl⟩
 rw [hq] at HM hpl;clear hM hq hT hy hx h;go_enter func227,ntmps227;go_wp2_with fail;refine fY.mono ?_;rintro e w1 ⟨rfl,hb⟩
 have B2:Aside (∀o,qL w (w1.alloc o)):=fun o=>hb.alloc hb.size o
 clear hb fY;go_wp2_with fail;refine (pL _ l9 p v L id (HT.o.later (B2.o _)) zj).mono ?_;rintro e w2 ⟨rfl,hb2⟩;rw [HI.o];have B3:Aside (qL w w2):=(B2.o _).trans (hb2.mono (B2.o _).size);clear hb2 B2;go_wp2_with fail;refine (pL _ l9 p v L behind (HT.o.later B3.o) zj).mono ?_;rintro e w3 ⟨rfl,hb3⟩;rw [hbf.o.1];have B4:Aside (qL w w3):=zi B3.o hb3;clear hb3 B3;go_upto_region 7 with fail;go_cut [42] (fun s42 wx=>s42= .bool false/\wx=w3)
 case first=>
  rcases hbf.o.2 with ⟨rfl,rfl⟩ | hp
  ·go_wp2;go_meet;exact ki2
  have dp:decide (bf<0)=false:=decide_eq_false zj;go_wp2;go_meet;exact ki2
 obtain ⟨rfl,rfl⟩:=hcut;go_upto_region 9 with fail;have hpc:=KV wc.drew l9 p k v L id (HT.o.later B4.o.drew) zj hk HX.o;rw [hpl.o] at hpc;obtain ⟨Y,hY,BY,hYb,hYs⟩:=LP B4.o #[qI id,.int .u8 (c:Int),.bool true] 334;have hpy:=KV Y l9 p k v L id (HT.o.later BY) zj hk HX.o;rw [hpl.o] at hpy;have gT:=(HT.o.later B4.o.drew).c0;refine nS (S:=fun w'=>w'.cell? (qB p)=some v) (z:=17) zk gT (fun aa=> ?_);refine lY (i:=0) (v:= ?v0) zo rfl zk zk zk (fun _ _ _ h=>h) (Or.inl ⟨zt,?hy0⟩) aa ?rest0
 case hy0=>(intro w' _;go_simp;try with_reducible rfl)
 refine qn ?_;refine lY (i:=1) (v:= ?v1) zo rfl zk zk zk (fun _ _ _ h=>h) (Or.inl ⟨zt,?hy1⟩) aa ?rest1
 case hy1=>(intro w' _;go_simp;try with_reducible rfl)
 refine qn ?_;refine lY (i:=2) (v:= ?v2) zo rfl zk zk zk (fun _ _ _ h=>h) (Or.inl ⟨zt,?hy2⟩) aa ?rest2
 case hy2=>(intro w' _;go_simp;try with_reducible rfl)
 refine qn ?_;refine lY (i:=3) (v:= ?v3) zo rfl zk zk zk (fun _ _ _ h=>h) (Or.inl ⟨zt,?hy3⟩) aa ?rest3
 case hy3=>(intro w' _;go_simp;try with_reducible rfl)
 refine qn ?_;refine mV (i:=4) (v:= ?v4) zo zk rfl zk zk zk zk (fun _ _ _ h=>h) (Or.inl ⟨zt,?hy4⟩) aa ?rest4
 case hy4=>(intro w' ab;go_simp;try with_reducible rfl)
 refine qn ?_;refine lY (i:=5) (v:= ?v5) zo rfl zk zk zk (fun _ _ _ h=>h) (Or.inl ⟨zt,?hy5⟩) aa ?rest5
 case hy5=>(intro w' _;go_simp;try with_reducible rfl)
 refine qn ?_;refine lY (i:=6) (v:= ?v6) zo rfl zk zk zk (fun _ _ _ h=>h) (Or.inl ⟨zt,?hy6⟩) aa ?rest6
 case hy6=>(intro w' _;go_simp;try with_reducible rfl)
 refine qn ?_;refine lY (i:=7) (v:= ?v7) zo rfl zk zk zk (fun _ _ _ h=>h) (Or.inl ⟨zt,?hy7⟩) aa ?rest7
 case hy7=>(intro w' _;go_simp;try with_reducible rfl)
 refine qn ?_;refine lY (i:=8) (v:= ?v8) zo rfl zk zk zk (fun _ _ _ h=>h) (Or.inl ⟨zt,?hy8⟩) aa ?rest8
 case hy8=>(intro w' _;go_simp;try with_reducible rfl)
 refine qn ?_;refine lY (i:=10) (v:= ?v10) zo rfl zk zk zk (fun _ _ _ h=>h) (Or.inl ⟨zt,?hy10⟩) aa ?rest10
 case hy10=>(intro w' _;go_simp;try with_reducible rfl)
 refine qn ?_;refine lY (i:=11) (v:= ?v11) zo rfl zk zk zk (fun _ _ _ h=>h) (Or.inl ⟨zt,?hy11⟩) aa ?rest11
 case hy11=>(intro w' _;go_simp;try with_reducible rfl)
 refine qn ?_;refine lY (i:=12) (v:= ?v12) zo rfl zk zk zk (fun _ _ _ h=>h) (Or.inl ⟨zt,?hy12⟩) aa ?rest12
 case hy12=>(intro w' _;go_simp;try with_reducible rfl)
 refine qn ?_;refine MQ (i:=9) (j:=13) zk rfl rfl (fun K hK=> ?pa) (fun K hK=> ?al)
 case pa=>
  go_simp;refine hpc.mono ?_;rintro e w4 ⟨rfl,hb4⟩;have B5:=zi B4.o.drew hb4;refine hK _ _ (.inl (HT.o.later B5).c0) ?_;clear hK K;refine qn ?_;obtain ⟨X,hX⟩:=za (w4.alloc (.cells #[qI id,.int .u8 (c:Int),.bool true] 334))
  have BX:qL w X:=by rw [hX];exact B5.alloc B5.size _
  have TX:Aside (x9 l9 X p v L/\qL w X):=⟨HT.o.later BX,BX⟩
  have hlay:=DQ X l9 p w4.heap.size q v L (id,c,false) TX.o.1 (by have:=BX.size;omega) hL HM.o.2.2.2.2.2 (by rw [hX];exact heap_alloc_new w4 _) (fun e=>by have h1:=((HT.o.later B5).ne _ e.symm).2.1;omega);refine lN (i:=13) zk rfl (fun K hK=> ?_);go_simp;rw [<-hX];refine hK _ _ (.inl TX.o.1.c0) ?_;clear hK K hX;refine qn ?_;refine lN (i:=14) zk rfl (fun K hK=> ?_);go_simp;refine hlay.mono ?_;rintro e w5 ⟨g',cap',rfl,u1,u2,H5⟩;refine hK _ _ (.inl u1) ?_;clear hK K;refine qn ?_;refine lY (i:=15) (v:= ?v15) zo rfl zk zk zk (fun _ _ _ h=>h) (Or.inl ⟨zt,?hy15⟩) u1 ?rest15
  case hy15=>(intro w' _;go_simp;try with_reducible rfl)
  refine qn ?_;refine lY (i:=16) (v:= ?v16) zo rfl zk zk zk (fun _ _ _ h=>h) (Or.inl ⟨zt,?hy16⟩) u1 ?rest16
  case hy16=>(intro w' _;go_simp;try with_reducible rfl)
  exact kc8
 case al=>
  go_simp;rw [<-hY];refine hK _ _ (.inl (HT.o.later BY).c0) ?_;clear hK K hY;refine qn ?_;refine lN (i:=9) zk rfl (fun K hK=> ?_);go_simp;refine hpy.mono ?_;rintro e X ⟨rfl,hbX⟩;have BX:=zi BY hbX
  have TX:Aside (x9 l9 X p v L/\qL w X):=⟨HT.o.later BX,BX⟩
  have hlay:=DQ X l9 p wc.heap.size q v L (id,c,false) TX.o.1 (by have:=BX.size;omega) hL HM.o.2.2.2.2.2 ((hbX.block _ hYs).trans hYb) (fun e=>by have h1:=((HT.o.later B4.o).ne _ e.symm).2.1;omega);refine hK _ _ (.inl TX.o.1.c0) ?_;clear hK K;refine qn ?_;refine lN (i:=14) zk rfl (fun K hK=> ?_);go_simp;refine hlay.mono ?_;rintro e w5 ⟨g',cap',rfl,u1,u2,H5⟩;refine hK _ _ (.inl u1) ?_;clear hK K;refine qn ?_;refine lY (i:=15) (v:= ?vb15) zo rfl zk zk zk (fun _ _ _ h=>h) (Or.inl ⟨zt,?hyb15⟩) u1 ?restb15
  case hyb15=>(intro w' _;go_simp;try with_reducible rfl)
  refine qn ?_;refine lY (i:=16) (v:= ?vb16) zo rfl zk zk zk (fun _ _ _ h=>h) (Or.inl ⟨zt,?hyb16⟩) u1 ?restb16
  case hyb16=>(intro w' _;go_simp;try with_reducible rfl)
  exact kc8
theorem zbV:(prog.info? 5).map (fun i=>(i.zero,i.size,i.bytes))=some (some (.int .u8 0),1,1):=zk
def sh(l:qU):List Value:=l.map fun c=>.int .u8 (c.toNat:Int)
theorem FX(a b):sh (a++b)=sh a++sh b:=by simp [sh]
theorem ET{w}{l9}{v}{n}{l}(h:w.ownsRow l9 5 1 v n (sh l))(hl:l.length=n):
  Sem.run prog (convert 141 9 v) w= .ok (.string ⟨l.toArray⟩) w:=by
 rcases Nat.eq_zero_or_pos n with h0 | h0
 ·have cP:l= []:=Zg.1 zj;subst cP
  rcases h.2 with ⟨hv,_⟩ | ⟨g,cap,cur,hv,_⟩
  ·exact kk7
  grind [run_convert_bytes_back,underlying141,underlying5,underlying9]
 obtain ⟨g,cap,rfl⟩:∃g cap,v=qG g n cap:=by
  rcases h.2 with ⟨_,h2⟩ | ⟨g,cap,cur,hv,_⟩
  ·omega
  exact ⟨g,cap,hv⟩
 have hc:=h.cells (g:=g) rfl
 grind [run_convert_bytes_back,underlying141,underlying5,underlying9,sh,uJ]
def rz(L:List Ltr):qU:=(nV L).map fun l=>UInt8.ofNat l.2.1
theorem CB{k}{l:Ltr}(h:L[k]? =some l):nV (L.take (k+1))=nV (L.take k)++(if l.2.2 then [] else [l]):=by
 unfold nV;rw [Zy,h,Ya]
 grind
theorem Le{k:Nat}{a}{c}{g}(h:L[k]? =some (a,c,g)):rz (L.take (k+1))=rz (L.take k)++(if g then [] else [UInt8.ofNat c]):=by
 grind [rz,CB]
theorem wE(L):(rz L).length<=L.length:=by
 grind [rz,nV,Zh,Yi]
theorem Uc(w)(l9 p)(v)(L)(h:x9 l9 w p v L)(hL:L.length<=1000):
  qC 182 #[qP p] w (qR (.string ⟨(rz L).toArray⟩) w):=by
 obtain ⟨i0,hi,aD,aw,aH⟩:=info_parts zbV;obtain ⟨ao,cap,rfl⟩:=wA h.row;have c0:=h.c0
 have HI:Aside (Q0 w ao L/\∀l∈L,l.2.1<256):=⟨DL h.row,h.aaq⟩
 go_enter func182,ntmps182;go_wp2;go_loopg [3,11] L.length (fun kx s3 iX wr=>∃(k:Nat) (ov:Value),ov=s3/\iX=qN k/\k<=L.length/\L.length - k<=kx/\Aside (wr.ownsRow w.heap.size 5 1 ov (rz (L.take k)).length (sh (rz (L.take k)))/\qL w wr))
 case atStart=>exact ⟨0,_,rfl,rfl,uW _,uL _,⟨Zi _ _ _ _,uM _ w⟩⟩
 case round=>
  obtain ⟨k,ov,rfl,rfl,hk,aY,A⟩:=hrel;by_cases hlt:k<L.length
  ·have aq:qlt k L.length=true:=by simp;omega
   have ek:((k:Int)).toNat=k:=zj;have pk:(0:Int)<=(k:Int):=zj;have bk:(k:Int)<(L.length:Int):=zj
   obtain ⟨⟨a,c,gn⟩,hl⟩:∃l,Aside (L[k]? =some l):=⟨L[k],uJ hlt⟩
   obtain ⟨blk,off,rfl,f0,f1,f2⟩:=(HI.o.1.later A.o.2).at hl.o;have HN:=Lib.hid (Le hl.o);have hc256:c<256:=HI.o.2 _ (uP hl.o)
   obtain ⟨T,hT⟩:∃T,Aside (rz (L.take k)=T):=⟨_,rfl⟩
   have A':Aside (wr.ownsRow w.heap.size 5 1 ov T.length (sh T)/\qL w wr):=by have:=A.o;rw [hT.o] at this;exact this
   have hTl:T.length<=1000:=by have:=wE (L.take k);rw [hT.o,Zr] at this;omega
   obtain ⟨u,hu⟩:=za wr;subst hu
   cases gn with
   | true=>
    have f2':u.cell? (qA blk (off+k*3+2))=some (.bool false):=f2;go_wp2;go_roundg (L.length - (k+1))
    case measure=>omega
    case rel=>
     refine ⟨k+1,_,rfl,zN,zj,uL _,?_⟩
     have e:rz (L.take (k+1))=T:=by rw [HN.o,hT.o];simp
     rw [e];exact ⟨A'.o.1.alloc _,A'.o.2.alloc A'.o.2.size _⟩
   | false=>
    have f2':u.cell? (qA blk (off+k*3+2))=some (.bool true):=f2
    obtain ⟨cb,hcb⟩:∃cb:UInt8,Aside (UInt8.ofNat c=cb):=⟨_,rfl⟩
    have hcn:(c:Int)=(cb.toNat:Int):=by rw [<-hcb.o];simp;omega
    rw [hcn] at f1;go_wp2_with (at_builtin;refine wpList_append_own _ rfl _ _ 141 rfl w.heap.size 5 i0 _ 1 1 underlying141 hi aD aw aH rfl zj _ _ _ rfl ((A'.o.1.alloc _).alloc _) (qB (u.heap.size+1)) 1 1 [.int .u8 (cb.toNat:Int)] rfl ?qb1 ?qb2 ?qb3 ?qb4 ?qb5 ?qb6 ?_)
    case qb1=>rfl
    case qb2=>exact YH (cs:= #[.int .u8 (cb.toNat:Int)]) (t:=5) (fr:=(0,0)) (by
     have:=heap_alloc_new (u.alloc (.cells #[qI a,.int .u8 (cb.toNat:Int),.bool true] 334)) (.cells #[.int .u8 (cb.toNat:Int)] 5)
     rwa [Zt] at this)
    case qb3=>simp [Value.oneCell']
    case qb4=>simp only [maxLen];omega
    case qb5=>omega
    case qb6=>have:=A'.o.2.size;simp;omega
    intro v2 u2 hown ag hnil
    have W1:=(A'.o.2.alloc A'.o.2.size (.cells #[qI a,.int .u8 (cb.toNat:Int),.bool true] 334))
    have W2:=(W1.alloc W1.size _).grown ag (by have:=A'.o.2.size;simp;omega) (fun k hk=>(A'.o.1.lt k hk).1)
    have R2:Aside (u2.ownsRow w.heap.size 5 1 v2 (rz (L.take (k+1))).length (sh (rz (L.take (k+1))))/\qL w u2):=by
     have e:rz (L.take (k+1))=T++ [cb]:=by rw [HN.o,hT.o,<-hcb.o];rfl
     rw [e,FX,uQ];exact ⟨hown,W2⟩
    go_wp2;go_roundg (L.length - (k+1))
    case measure=>omega
    case rel=>exact ⟨k+1,_,rfl,zN,zj,uL _,R2⟩
  have aq:qlt k L.length=false:=zm;have ek:L.take k=L:=Zk zj;rw [ek] at A;have jS:=ET A.o.1 rfl;go_wp2;go_ret;exact ⟨rfl,A.o.2⟩
theorem Hs{ad}(w)(l9 p)(v)(L)(id)(hE:Ln4 ad w)(hT:x9 l9 w p v L)(hL:L.length<=1000)(hx:id∉L.map (·.1)):
  qC 228 #[qP p,qI id] w (qR (.iface 437 (.pointer (some (ad 5)))) w):=by
 have HE:Aside (Ln4 ad w):=hE;have hf:=pL w l9 p v L id hT hL;rw [re hx] at hf;go_enter func228,ntmps228;go_wp2_with fail;refine hf.mono ?_;rintro e w1 ⟨rfl,hb1⟩;have B1:Aside (qL w w1):=hb1;have c5:=(HE.o.later hb1).c5;go_wp2;go_ret;exact ⟨rfl,B1.o⟩
theorem OK(w)(l9 p i)(v)(L)(id)(hT:x9 l9 w p v L)(hL:L.length<=1000)(hf:oO id L=some i):
  qC 228 #[qP p,qI id] w fun e w'=>e= .returned .nilIface/\x9 l9 w' p v (L.set i (id,0,true))/\m7 (fun k=>some k=v.ownBlock) w w':=by
 obtain ⟨⟨a,c,gn⟩,hl,rfl⟩:=oS hf;have ce:=(uI.1 hl).1;have hfa:=pL w l9 p v L a hT hL;rw [show DZ a L=(i:Int) by unfold DZ;rw [hf]] at hfa;obtain ⟨ao,cap,rfl⟩:=wA hT.row
 obtain ⟨g,rfl⟩:∃g,ao=some (qB g):=by
  rcases hT.row.2 with ⟨_,h2⟩ | ⟨g,cap',cur,hv,_⟩
  ·omega
  cases hv;exact ⟨g,rfl⟩
 have HT:Aside (x9 l9 w p (qG g L.length cap) L):=hT;have HL:Aside (L[i]? =some (a,c,gn)):=hl;have d0:decide ((i:Int)<0)=false:=zr;have ei:((i:Int)).toNat=i:=zj;have bi:(i:Int)<(L.length:Int):=zj;have pi:(0:Int)<=(i:Int):=zj;go_enter func228,ntmps228;go_wp2_with fail;refine hfa.mono ?_;rintro e w1 ⟨rfl,hb1⟩
 have H1:Aside (x9 l9 w1 p (qG g L.length cap) L/\qL w w1):=⟨HT.o.later hb1,hb1⟩
 have c0:=H1.o.1.c0;obtain ⟨blk,off,hbo,f0,f1,f2⟩:=(DL H1.o.1.row).at HL.o
 have hoff:blk=g/\off=0:=by
  rcases DL H1.o.1.row with h | ⟨b',o',h1,_⟩
  ·rw [h] at ce;simp at ce
  simp only [Option.some.injEq,Addr.mk.injEq,and_true] at hbo;omega
 obtain ⟨rfl,rfl⟩:=hoff;rw [Zc] at f0 f1 f2
 have z0:∀j,w1.frozen? (qA blk j)=false:=fun j=>H1.o.1.row.frozenAt j
 have hne:=(H1.o.1.ne blk rfl).1
 have iW:Aside (x9 l9 (w1.setCells blk (i*3) [qI a,.int .u8 0,.bool false]) p (qG blk L.length cap) (L.set i (a,0,true))/\m7 (fun k=>some k=some blk) w (w1.setCells blk (i*3) [qI a,.int .u8 0,.bool false])):=by
  have hkp:=lZ blk [qI a,.int .u8 0,.bool false] (i*3) w1;have cR:=H1.o.1.row
  have hself:L.set i (a,c,gn)=L:=by
   have h:=List.set_getElem_self ce;rw [(uI.1 HL.o).2] at h;exact h
  have e1:mP Fq L=(mP Fq L).take (i*3)++Fq (a,c,gn)++(mP Fq L).drop ((i+1)*3):=by
   rw [<-BS rI L i ce (a,c,gn),hself]
  have e2:=BS rI L i ce (a,0,true)
  have el:((mP Fq L).take (i*3)).length=i*3:=by rw [Zr,mu rI];omega
  rw [e1] at cR;have ho:=GU (vs:=[qI a,.int .u8 0,.bool false]) cR rfl;rw [el] at ho
  have hm:∀l∈L.set i (a,0,true),l∈L\/l=(a,0,true):=fun l hl=>List.mem_or_eq_of_mem_set hl
  refine ⟨⟨(hkp.block p H1.o.1.lt (fun e=>hne e.symm)).trans H1.o.1.cell,?_,H1.o.1.low,?_,fun l hl=> ?_,fun l hl=> ?_⟩,?_⟩
  ·rw [YL,e2];exact ho
  ·rw [zaD HL.o];exact H1.o.1.J2
  ·rcases hm l hl with h | rfl
   ·exact H1.o.1.pos l h
   exact H1.o.1.pos (a,c,gn) (uP HL.o)
  ·rcases hm l hl with h | rfl
   ·exact H1.o.1.aaq l h
   show 0<256
   omega
  exact ((lW H1.o.2).mono (fun k hk e=>zj)).then hkp (fun k _ e=>by rw [e])
 go_wp2;go_ret;exact ⟨rfl,iW.o⟩
def atL(n:Int)(L:List Ltr):Int×Bool:=if 0<=n then (match (nV L)[n.toNat]? with
 | some l=>(l.1,true)
 | none=>(0,false)) else (0,false)
theorem XT{n}{L}{k}{l}(h:L[k]? =some l)(hg:l.2.2=false)(hn:n=((nV (L.take k)).length:Int)):atL n L=(l.1,true):=by
 have hk:=(uI.1 h).1
 have e:nV L=nV (L.take (k+1))++nV (L.drop (k+1)):=by
  unfold nV;rw [<-Ya,Zx]
 simp_all [atL,if_pos,Int.toNat_natCast,CB]
theorem Sc{n}{L}(h:∀j:Nat,j<(nV L).length->n≠(j:Int)):atL n L=(0,false):=by
 grind [atL,List.getElem?_eq_none]
theorem zaX(w)(l9 p)(v)(L)(n)(h:x9 l9 w p v L)(hL:L.length<=1000)(hn: -9223372036854775808<=n/\n<=9223372036854775807):
  qC 324 #[qP p,qI n] w (qR (.tuple #[qI (atL n L).1,.bool (atL n L).2]) w):=by
 obtain ⟨ao,cap,rfl⟩:=wA h.row;have c0:=h.c0;have HI:Aside (Q0 w ao L):=DL h.row
 obtain ⟨r1,r2,hr⟩:∃r1 r2,Aside (atL n L=(r1,r2)):=⟨_,_,rfl⟩
 rw [hr.o]
 show Calls _ _ _ _ (qR (.tuple #[qI r1,.bool r2]) w)
 go_enter func324,ntmps324;go_wp2;go_loopg [1,13] L.length (fun kx s1 s13 wr=>∃(k:Nat) (m:Int),s1=qI m/\s13=qN k/\k<=L.length/\L.length - k<=kx/\Aside (m=IntKind.i64.wrap (n - ((nV (L.take k)).length:Int))/\(∀j:Nat,j<(nV (L.take k)).length->n≠(j:Int))/\qL w wr))
 case atStart=>exact ⟨0,_,rfl,rfl,uW _,uL _,⟨by rw [IntKind.wrap_i64];simp [nV];omega,fun j hj=>by simp [nV] at hj,uM _ w⟩⟩
 case round=>
  obtain ⟨k,m,rfl,rfl,hk,aY,A⟩:=hrel;by_cases hlt:k<L.length
  ·have aq:qlt k L.length=true:=by simp;omega
   have ek:((k:Int)).toNat=k:=zj;have pk:(0:Int)<=(k:Int):=zj;have bk:(k:Int)<(L.length:Int):=zj
   obtain ⟨⟨a,c,gn⟩,hl⟩:∃l,Aside (L[k]? =some l):=⟨L[k],uJ hlt⟩
   obtain ⟨blk,off,rfl,f0,f1,f2⟩:=(HI.o.later A.o.2.2).at hl.o;have HN:=Lib.hid (CB hl.o)
   have HS:=Lib.hid (show (nV (L.take k)).length<=1000 by
    have:(nV (L.take k)).length<=(L.take k).length:=Yi _ _
    rw [Zr] at this;omega)
   obtain ⟨u,hu⟩:=za wr;subst hu
   have HB:Aside (∀o,qL w (u.alloc o)):=fun o=>A.o.2.2.alloc A.o.2.2.size o
   cases gn with
   | true=>
    have f2':u.cell? (qA blk (off+k*3+2))=some (.bool false):=f2;go_wp2;go_roundg (L.length - (k+1))
    case measure=>omega
    case rel=>
     have e:nV (L.take (k+1))=nV (L.take k):=by rw [HN.o];simp
     exact ⟨k+1,m,rfl,zN,zj,uL _,⟨by rw [e];exact A.o.1,by rw [e];exact A.o.2.1,HB.o _⟩⟩
   | false=>
    have f2':u.cell? (qA blk (off+k*3+2))=some (.bool true):=f2;by_cases hm:m=0
    ·have dm:(m==0)=true:=by simp [hm]
     have hnk:n=((nV (L.take k)).length:Int):=by
      have h1:=A.o.1;have h2:=HS.o;rw [hm,IntKind.wrap_i64] at h1;omega
     have aN:=XT hl.o rfl hnk;rw [hr.o] at aN;have HR:=Lib.hid aN;go_wp2;go_ret2;exact ⟨by cases HR.o;rfl,HB.o _⟩
    have dm:(m==0)=false:=by simp [hm]
    have hne:n≠((nV (L.take k)).length:Int):=by
     intro e;have h1:=A.o.1;rw [e,IntKind.wrap_i64] at h1;omega
    have HNE:=Lib.hid hne;go_wp2;go_roundg (L.length - (k+1))
    case measure=>omega
    case rel=>
     have e:(nV (L.take (k+1))).length=(nV (L.take k)).length+1:=by rw [HN.o];simp
     refine ⟨k+1,_,rfl,zN,zj,uL _,⟨?_,fun j hj=> ?_,HB.o _⟩⟩
     ·have h1:=A.o.1;have h2:=HS.o;rw [e,h1,IntKind.wrap_i64,IntKind.wrap_i64];unfold wrap64;omega
     rw [e] at hj
     rcases Yc j (nV (L.take k)).length with h | h
     ·exact A.o.2.1 j h
     obtain rfl:j=(nV (L.take k)).length:=zj;exact HNE.o
  have aq:qlt k L.length=false:=zm;have et:L.take k=L:=Zk zj;have aN:=Sc (n:=n) (L:=L) (by have:=A.o.2.1;rwa [et] at this);rw [hr.o] at aN;have HR:=Lib.hid aN;go_wp2;go_ret2;exact ⟨by cases HR.o;rfl,A.o.2.2⟩
end
section
open RowKit Lib Go.Sort
open scoped Classical
def Y5(l9:Nat)(w:qW)(p:Nat)(v:Value)(M:List Ltr)(w':qW):Prop:=
 ∃v',x9 l9 w' p v' M/\m7 (fun k=>k=p\/some k=v.ownBlock) w w'/\(v'.ownBlock=v.ownBlock\/∀g,v'.ownBlock=some g->w.heap.size<=g)
theorem Y5.y{l9}{w w'}{p}{v}{L}(h:x9 l9 w p v L)(hb:qL w w'):Y5 l9 w p v L w':=
 ⟨v,h.later hb,(lW hb).mono (fun k hk e=>zj),.inl rfl⟩
theorem Y5.ac5{l9}{w w'}{p}{v}{M}(h:UF l9 w p v M w'):Y5 l9 w p v M w':=by
 obtain ⟨v',h1,h2,h3⟩:=h;exact ⟨v',h1,h2,h3⟩
def GN(id behind:Int)(L:List Ltr):Nat:=
 if 4<=id/\id<4294967300/\0<=behind/\behind<id then (if id∈L.map (·.1) then 7 else if behind=0\/behind∈L.map (·.1) then 0 else 6) else 3
def zc2(id behind:Int)(c:Nat)(L:List Ltr):List Ltr:=if GN id behind L=0 then put behind (id,c,false) L else L
def zdl(ad:qF)(c:Nat):Value:=if c=0 then .nilIface else .iface 437 (.pointer (some (ad (c - 1))))
theorem MB{ad}(w)(l9 p)(v)(L)(id behind)(c:Nat)(hE:Ln4 ad w)(hT:x9 l9 w p v L)(aj:l9<=w.heap.size)(hL:L.length<=900)(hi: -9223372036854775808<=id/\id<=9223372036854775807)(hc:c<256):
  qC 227 #[qP p,qI id,qI behind,.int .u8 (c:Int)] w fun e w'=>e= .returned (zdl ad (GN id behind L))/\Y5 l9 w p v (zc2 id behind c L) w':=by
 unfold zc2 GN;by_cases h1:4<=id/\id<4294967300/\0<=behind/\behind<id
 ·rw [if_pos h1];by_cases h2:id∈L.map (·.1)
  ·rw [if_pos h2,if_neg zj];refine (Gg w l9 p v L id behind c hE hT zj h1 h2).mono ?_;exact kh4
  rw [if_neg h2];by_cases h3:behind=0\/behind∈L.map (·.1)
  ·rw [if_pos h3,if_pos rfl];refine (Om w l9 p v L id behind c hT aj hL h1 hc h2 h3).mono ?_;rintro e w' ⟨rfl,hp⟩;exact ⟨rfl,Y5.ac5 hp⟩
  rw [if_neg h3,if_neg zj];refine (Hh w l9 p v L id behind c hE hT zj h1 h2 (fun e=>h3 (.inl e)) (fun e=>h3 (.inr e))).mono ?_;exact kh4
 rw [if_neg h1,if_neg zj];refine (FD w p id behind c hE hi h1).mono ?_;exact kh4
def Vm(id:Int)(L:List Ltr):Nat:=match oO id L with
 | none=>6
 | some _=>0
def zct(id:Int)(L:List Ltr):List Ltr:=match oO id L with
 | none=>L
 | some i=>L.set i (id,0,true)
theorem LJ{ad}(w)(l9 p)(v)(L)(id)(hE:Ln4 ad w)(hT:x9 l9 w p v L)(hL:L.length<=1000):
  qC 228 #[qP p,qI id] w fun e w'=>e= .returned (zdl ad (Vm id L))/\Y5 l9 w p v (zct id L) w':=by
 unfold Vm zct
 cases hf:oO id L with
 | none=>
  refine (Hs w l9 p v L id hE hT hL (fun hm=> ?_)).mono ?_
  ·obtain ⟨l,hl,e⟩:=Zj.1 hm;exact Aw hf l hl e
  exact kh4
 | some i=>
  refine (OK w l9 p i v L id hT hL hf).mono ?_;rintro e w' ⟨rfl,h1,h2⟩;exact ⟨rfl,v,h1,h2.mono (fun k _ e=>.inr e),.inl rfl⟩
end
section
open Shelf RowKit Lib Go.Sort
def Cl(x:OpX×Nat):List Value:=ny x.1
theorem TY(x):(Cl x).length=8:=rfl
theorem UK(x):∀v∈Cl x,v.oneCell'=true:=by
 intro v hv;simp [Cl,ny] at hv;exact kh2
def ltX(x y:OpX):Bool:=oa x.1 x.2.1 y.1 y.2.1
def Vh(x y:OpX×Nat):Int:=if ltX x.1 y.1 then -1 else if ltX y.1 x.1 then 1 else 0
theorem NO(x y):decide (Vh x y<0)=tlt ltX x y:=by
 unfold Vh tlt
 grind
theorem Pb:ltOf Vh=tlt ltX:=by
 funext x y;exact NO x y
theorem EG(t b t' b'):oa t b t' b'=decide (t<t'\/(t=t'/\b<b')):=by
 unfold oa
 grind
theorem PK:SWO ltX where
 irrefl x:=by unfold ltX;rw [EG];simp
 trans x y z h1 h2:=by grind [ltX,EG]
 ntrans x y z h1 h2:=by grind [ltX,EG]
theorem rL{w w1 w2:qW}(h1:∃q os,w1=grow (w.drewN q) os)(h2:∃q os,w2=grow (w1.drewN q) os):∃q os,w2=grow (w.drewN q) os:=by
 obtain ⟨q,os,rfl⟩:=h1;obtain ⟨q',os',rfl⟩:=h2;exact ⟨q+q',os++os',by rw [<-grow_grow,<-World.drewN_drewN];rfl⟩
theorem QU(t b t' b')(w):
  qC 218 #[.agg #[qI t,qI b],.agg #[qI t',qI b']] w fun e w'=>e= .returned (.bool (oa t b t' b'))/\∃q os,w'=grow (w.drewN q) os:=by
 unfold oa;by_cases h:t=t'
 ·have hd:(t !=t')=false:=by simp [h]
  rw [if_pos h];go_enter func218,ntmps218;go_wp2;exact ki4
 have hd:(t !=t')=true:=by simp [h]
 rw [if_neg h];go_enter func218,ntmps218;go_wp2;exact ki4
theorem tH(t b t' b')(z)(w)(hz:oa t b t' b'=z):
  qC 218 #[.agg #[qI t,qI b],.agg #[qI t',qI b']] w fun e w'=>e= .returned (.bool z)/\∃q os,w'=grow (w.drewN q) os:=by rw [<-hz];exact QU t b t' b' w
theorem mM{w w'}(h:∃q os,w'=grow (w.drewN q) os):qL w w':=by
 obtain ⟨q,os,rfl⟩:=h;exact Lib.below_grow _ _ zg _ _
theorem JK(x y)(w):
  qC 223 #[.agg (Cl x).toArray,.agg (Cl y).toArray] w fun e w'=>e= .returned (qI (Vh x y))/\∃q os,w'=grow (w.drewN q) os:=by
 obtain ⟨⟨t,b,n,k,l8,other,name,value⟩,i⟩:=x;obtain ⟨⟨t',b',n',k',node',other',name',value'⟩,i'⟩:=y
 have hg:∃q os,((w.alloc (qOc t b n k l8 other name value)).alloc (qOc t' b' n' k' node' other' name' value'))=grow (w.drewN q) os:=⟨0,_,vG⟩
 have c0:((w.alloc (qOc t b n k l8 other name value)).alloc (qOc t' b' n' k' node' other' name' value')).cell? (qB w.heap.size)=some (qI t):=zY;have c1:((w.alloc (qOc t b n k l8 other name value)).alloc (qOc t' b' n' k' node' other' name' value')).cell? (qA w.heap.size 1)=some (qI b):=zY;have c2:((w.alloc (qOc t b n k l8 other name value)).alloc (qOc t' b' n' k' node' other' name' value')).cell? (qB (w.heap.size+1))=some (qI t'):=zY;have c3:((w.alloc (qOc t b n k l8 other name value)).alloc (qOc t' b' n' k' node' other' name' value')).cell? (qA (w.heap.size+1) 1)=some (qI b'):=zY;unfold Vh ltX;simp only [Cl,ny]
 cases h1:oa t b t' b' with
 | true=>
  have H1:=Lib.hid h1;go_enter func223,ntmps223;go_wp2_with fail
  generalize ((w.alloc (qOc t b n k l8 other name value)).alloc (qOc t' b' n' k' node' other' name' value'))=u at hg c0 c1 c2 c3 |-
  refine (tH _ _ _ _ true _ H1.o).mono ?_;rintro e w1 ⟨rfl,hb⟩;have hg1:=rL hg hb;go_wp2;go_ret;exact ⟨rfl,hg1⟩
 | false=>
  have H1:=Lib.hid h1
  cases h2:oa t' b' t b with
  | true=>
   have H2:=Lib.hid h2;go_enter func223,ntmps223;go_wp2_with fail
   generalize ((w.alloc (qOc t b n k l8 other name value)).alloc (qOc t' b' n' k' node' other' name' value'))=u at hg c0 c1 c2 c3 |-
   refine (tH _ _ _ _ false _ H1.o).mono ?_;rintro e w1 ⟨rfl,hb⟩;have hg1:=rL hg hb;have e0:=lO (mM hb) c0;have e1:=lO (mM hb) c1;have e2:=lO (mM hb) c2;have e3:=lO (mM hb) c3;go_wp2_with fail;refine (tH _ _ _ _ true _ H2.o).mono ?_;exact kk4
  | false=>
   have H2:=Lib.hid h2;go_enter func223,ntmps223;go_wp2_with fail
   generalize ((w.alloc (qOc t b n k l8 other name value)).alloc (qOc t' b' n' k' node' other' name' value'))=u at hg c0 c1 c2 c3 |-
   refine (tH _ _ _ _ false _ H1.o).mono ?_;rintro e w1 ⟨rfl,hb⟩;have hg1:=rL hg hb;have e0:=lO (mM hb) c0;have e1:=lO (mM hb) c1;have e2:=lO (mM hb) c2;have e3:=lO (mM hb) c3;go_wp2_with fail;refine (tH _ _ _ _ false _ H2.o).mono ?_;exact kk4
theorem Jd(blk off size)(w):CmpLays prog 223 #[] Cl 8 Vh blk off size w:=fun _ _ _ _ x y=>JK x y _
theorem VK:∀args w,(callFunc 223 args).run prog w= .ok (.enter 223 args) w:=enters_of func223 zk rfl
structure STy (P:Program) (k:Nat):Prop where
 mixed:P.follows .mixedOrders=true
 t0:P.underlying 0=some (TypeDesc.tuple #[])
 a0:∀w,(isAgg 0).run P w= .ok false w
 z0:∀w,(Go.sizeOf 0).run P w= .ok 1 w
 v0:∀w,(zeroValue 0).run P w= .ok (Value.tuple #[]) w
 t3:P.underlying 3=some (TypeDesc.int IntKind.i64)
 a3:∀w,(isAgg 3).run P w= .ok false w
 z3:∀w,(Go.sizeOf 3).run P w= .ok 1 w
 v3:∀w,(zeroValue 3).run P w= .ok (Value.int IntKind.i64 0) w
 t4:P.underlying 4=some (TypeDesc.bool)
 a4:∀w,(isAgg 4).run P w= .ok false w
 z4:∀w,(Go.sizeOf 4).run P w= .ok 1 w
 v4:∀w,(zeroValue 4).run P w= .ok (Value.bool false) w
 tS:P.underlying 136=some (TypeDesc.slice 88)
 aS:∀w,(isAgg 136).run P w= .ok false w
 zS:∀w,(Go.sizeOf 136).run P w= .ok 1 w
 vS:∀w,(zeroValue 136).run P w= .ok (Value.slice none 0 0) w
 tC:P.underlying 307=some (TypeDesc.func #[88,88] #[3] false)
 aC:∀w,(isAgg 307).run P w= .ok false w
 zC:∀w,(Go.sizeOf 307).run P w= .ok 1 w
 vC:∀w,(zeroValue 307).run P w= .ok (Value.nilFunc) w
 tU:P.underlying 325=some (TypeDesc.int IntKind.u64)
 aU:∀w,(isAgg 325).run P w= .ok false w
 zU:∀w,(Go.sizeOf 325).run P w= .ok 1 w
 vU:∀w,(zeroValue 325).run P w= .ok (Value.int IntKind.u64 0) w
 aE:∀w,(isAgg 88).run P w= .ok true w
 zE:∀w,(Go.sizeOf 88).run P w= .ok k w
theorem Sg:STy prog 8:=⟨zk,underlying0,isAgg0,sizeOf0,zeroValue0,underlying3,isAgg3,sizeOf3,zeroValue3,underlying4,isAgg4,sizeOf4,zeroValue4,underlying136,isAgg136,sizeOf136,zeroValue136,underlying307,isAgg307,sizeOf307,zeroValue307,underlying325,isAgg325,sizeOf325,zeroValue325,isAgg88,sizeOf88⟩
theorem pA{P}{α}[Inhabited α](k)(L:STy P k)(hF:P.funcs[(379:Nat)]? =some f379)(enc)(blk off cap a b n:Nat)(d0 d:Array α)(w0 w)(cf)
  (R:RowK enc k w0 blk off d0) (hs:d0.size=d.size) (S:SWK enc k w0 blk off d w) (hab:a+n<=b) (hb:b+n<=d.size) (hsz:d.size<4611686018427387904):
  Calls P 379 #[.slice (some (qA blk off)) d.size cap,qI a,qI b,qI n,cf] w fun e w'=>e=qT #[]/\∃d',aam d d' a b n/\SWK enc k w0 blk off d' w':=by
 have mixed:=L.mixed;have t0:=L.t0;have a0:=L.a0;have z0:=L.z0;have v0:=L.v0;have t3:=L.t3;have a3:=L.a3;have z3:=L.z3;have v3:=L.v3;have t4:=L.t4;have a4:=L.a4;have z4:=L.z4;have v4:=L.v4;have tS:=L.tS;have aS:=L.aS;have zS:=L.zS;have vS:=L.vS;have tC:=L.tC;have aC:=L.aC;have zC:=L.zC;have vC:=L.vC;have tU:=L.tU;have aU:=L.aU;have zU:=L.zU;have vU:=L.vU;have aE:=L.aE;have zE:=L.zE;have S0:Aside (SWK enc k w0 blk off d w):=S;go_enter hF,ntmps379;go_wp2;go_loopg [10] n (fun kx gW wr=>∃(i:Nat) (dk:Array α),gW=qI i/\i<=n/\n - i<=kx/\Aside (aam d dk a b i)/\Aside (SWK enc k w0 blk off dk wr))
 case atStart=>exact ⟨0,d,rfl,uW _,uL _,aam.zero d a b,S0⟩
 case round=>
  obtain ⟨i,dk,rfl,hi,aY,EX,S1⟩:=hrel;have gQ:=EX.o.size;by_cases hlt:i<n
  ·have aq:(i:Int)<(n:Int):=by omega
   go_wp2_with fail;have ea:((a:Int)+(i:Int)).toNat=a+i:=zj;have pa:(0:Int)<=(a:Int)+(i:Int):=zj;have ba:(a:Int)+(i:Int)<(d.size:Int):=zj;have ra:IntKind.i64.wrap ((a:Int)+(i:Int))=(a:Int)+(i:Int):=zw;have ec:((b:Int)+(i:Int)).toNat=b+i:=zj;have pc:(0:Int)<=(b:Int)+(i:Int):=zj;have bc:(b:Int)+(i:Int)<(d.size:Int):=zj;have rc:IntKind.i64.wrap ((b:Int)+(i:Int))=(b:Int)+(i:Int):=zw;have S2:Aside (SWK enc k w0 blk off (swp dk (a+i) (b+i)) ((wr.drew.setCells blk (off+(a+i)*k) (enc dk[b+i]!)).setCells blk (off+(b+i)*k) (enc dk[a+i]!))):=S1.o.swapped R (a+i) (b+i) zj zj;have la:=S1.o.ld1 R zj P (a+i) zj;have lb:=S1.o.ld1 R zj P (b+i) zj;have sa:=S1.o.st1 R zj P (a+i) zj dk[b+i]!;have sb:=S1.o.st2 R zj P (a+i) (b+i) zj zj dk[b+i]! dk[a+i]!;have na:(enc dk[a+i]!).length=k:=R.hk _;have nb:(enc dk[b+i]!).length=k:=R.hk _;generalize enc dk[a+i]! =cI at S2 la sb na;generalize enc dk[b+i]! =cJ at S2 lb sa sb nb;go_big_region_o
   generalize (wr.drew.setCells blk (off+(a+i)*k) cJ).setCells blk (off+(b+i)*k) cI=w2 at S2 |-
   go_wp2;go_roundg (n - (i+1))
   case measure=>omega
   case rel=>exact ⟨i+1,swp dk (a+i) (b+i),zN,zj,uL _,EX.o.next zj zj,S2⟩
  have aq:¬(i:Int)<(n:Int):=zj;go_wp2;go_end0;have:i=n:=zj;subst this;exact ⟨rfl,dk,EX.o,S1.o⟩
theorem CR{P}{α}[Inhabited α](k)(L:STy P k)(hF:P.funcs[(379:Nat)]? =some f379)(hG:P.funcs[(366:Nat)]? =some f366)(enc)(blk off cap a m b)(d0 d:Array α)(w0 w)(cf)
  (R:RowK enc k w0 blk off d0) (hs:d0.size=d.size) (S:SWK enc k w0 blk off d w) (ham:a<m) (iq:m<b) (hb:b<=d.size) (hsz:d.size<4611686018427387904):
  Calls P 366 #[.slice (some (qA blk off)) d.size cap,qI a,qI m,qI b,cf] w fun e w'=>e=qT #[]/\∃d',M9 d d' a m b/\SWK enc k w0 blk off d' w':=by
 have eS:∀args w,(callFunc 379 args).run P w= .ok (.enter 379 args) w:=enters_of hF zk rfl;have S0:Aside (SWK enc k w0 blk off d w):=S;go_enter hG,ntmps366;go_wp2;go_loopg [10,11] (b - a) (fun kx gW iX wr=>∃(i j:Nat) (dk:Array α),gW=qN i/\iX=qN j/\0<i/\0<j/\a+i<=m/\m+j<=b/\i+j<=kx/\dk.size=d.size/\Aside (∀d2,M9 dk d2 (m - i) m (m+j)->M9 d d2 a m b)/\Aside (SWK enc k w0 blk off dk wr))
 case atStart=>exact ⟨m - a,b - m,d,ut,ut,zj,zj,zj,zj,zj,rfl,(fun d2 h=>by rw [show m - (m - a)=a by omega,show m+(b - m)=b by omega] at h;exact h),S0⟩
 case round=>
  obtain ⟨i,j,dk,rfl,rfl,hi,hj,him,hjm,aY,gQ,RT,S1⟩:=hrel
  rcases Nat.lt_trichotomy i j with hlt | rfl | hgt
  ·have q1:((i:Int) !=(j:Int))=true:=by simp;omega
   have q2:qlt j i=false:=zm;go_wp2_with fail;have c1:(m:Int) - (i:Int)=((m - i:Nat):Int):=zj;have c2:(m:Int)+(j:Int) - (i:Int)=((m+j - i:Nat):Int):=zj;rw [c1,c2,<-gQ];refine (pA k L hF enc blk off cap (m - i) (m+j - i) i d0 dk w0 wr cf R zj S1.o zj zj zj).mono ?_;rintro e w2 ⟨rfl,d1,EX,S2⟩
   have cW:d1.size=d.size:=by rw [EX.size,gQ]
   have iT:Aside (∀d2,M9 d1 d2 (m - i) m (m+(j - i))->M9 d d2 a m b):=fun d2 h2=>RT.o d2 (M9.right zj hlt zj EX h2)
   have S3:Aside (SWK enc k w0 blk off d1 w2):=S2;rw [gQ];go_wp2;go_roundg (i+(j - i))
   case measure=>omega
   case rel=>exact ⟨i,j - i,d1,rfl,ut,hi,zj,him,zj,uL _,cW,iT,S3⟩
  ·have q1:((i:Int) !=(i:Int))=false:=by simp
   go_wp2_with fail;have c1:(m:Int) - (i:Int)=((m - i:Nat):Int):=zj;rw [c1,<-gQ];refine (pA k L hF enc blk off cap (m - i) m i d0 dk w0 wr cf R zj S1.o zj zj zj).mono ?_;rintro e w2 ⟨rfl,d1,EX,S2⟩;have iT:=RT.o d1 (M9.adH zj zj EX);go_wp2;go_end0;exact ⟨rfl,d1,iT,S2⟩
  have q1:((i:Int) !=(j:Int))=true:=zm;have q2:qlt j i=true:=zm;go_wp2_with fail;have c1:(m:Int) - (i:Int)=((m - i:Nat):Int):=zj;rw [c1,<-gQ];refine (pA k L hF enc blk off cap (m - i) m j d0 dk w0 wr cf R zj S1.o zj zj zj).mono ?_;rintro e w2 ⟨rfl,d1,EX,S2⟩
  have cW:d1.size=d.size:=by rw [EX.size,gQ]
  have iT:Aside (∀d2,M9 d1 d2 (m - (i - j)) m (m+j)->M9 d d2 a m b):=fun d2 h2=>RT.o d2 (M9.left zj hgt zj EX h2)
  have S3:Aside (SWK enc k w0 blk off d1 w2):=S2;rw [gQ];go_wp2;go_roundg (i - j+j)
  case measure=>omega
  case rel=>exact ⟨i - j,j,d1,ut,rfl,zj,hj,zj,hjm,uL _,cW,iT,S3⟩
end
section
open RowKit Maps
def JU(x:OpX):Nat:=if mv x=0 then (if x.2.2.2.1=115 then 0 else 5) else mv x
def zas(f:Do)(x:OpX):Bool:=if mv x=0/\x.2.2.2.1=115 then tA f (za6 x) (Nx x) else false
def Su(w:qW)(bc bm n:Nat)(f:Do)(x:OpX)(w':qW):Prop:=E9 w' bc bm (n+1) (Gy f x)/\m7 (fun j=>j=bm) w w'
theorem DH{w w'}{bc bm n}{f}{x}(h:E9 w bc bm n f)(hx:¬(mv x=0/\x.2.2.2.1=115))(hb:qL w w'):Su w bc bm n f x w':=by
 have:Gy f x=f:=by unfold Gy;rw [if_neg hx]
 exact ⟨by rw [this];exact (h.later hb).mono (Nat.le_succ n),(lW hb).mono (fun k hk e=>zj)⟩
theorem zb6{t b n}{k}{l8 other}{name value:qY}(h:opE t b n k l8 other name.data.toList value.data.toList=0)(hs:name.size<=1000000):WfK (l8,name):=by
 obtain ⟨h1,h2,h3,h4,h5,h6,h7,h8,h9,_⟩:=mT h
 grind [zbS]
theorem MP{ad}(w)(bc)(t b n)(k)(l8 other)(name value)(hE:U7 ad w)(bO:name.size<=1000000)(dI:value.size<=1000000)(dL:opE t b n k l8 other name.data.toList value.data.toList≠0):
  qC 229 #[qP bc,.agg (qOa t b n k l8 other name value)] w (qR (.tuple #[.bool false,eV ad (opE t b n k l8 other name.data.toList value.data.toList)]) w):=by
 obtain ⟨w1,hw1⟩:=za (w.alloc (qOc t b n k l8 other name value));have B1:qL w w1:=vX;have bA:=mr t b n k l8 other name value w1 (hE.later B1) bO dI
 obtain ⟨er,aB⟩:∃er,Aside (opE t b n k l8 other name.data.toList value.data.toList=er):=⟨_,rfl⟩
 rw [aB.o] at bA dL |-
 unfold eV at bA |-
 rw [if_neg dL] at bA |-
 have H1:Aside (qL w w1):=B1;go_enter func229,ntmps229;go_wp2_with fail;rw [<-hw1];refine bA.mono ?_;rintro e w2 ⟨rfl,hb2⟩;have H2:Aside (qL w w2):=zi H1.o hb2;go_wp2;go_ret2;exact ⟨rfl,H2.o⟩
theorem Qn{ad}(w)(bc)(t b n)(k)(l8 other)(name value)(hE:U7 ad w)(bO:name.size<=1000000)(dI:value.size<=1000000)(dL:opE t b n k l8 other name.data.toList value.data.toList=0)(hk:k≠115):
  qC 229 #[qP bc,.agg (qOa t b n k l8 other name value)] w (qR (.tuple #[.bool false,eV ad 5]) w):=by
 obtain ⟨w1,hw1⟩:=za (w.alloc (qOc t b n k l8 other name value))
 have O1:Q4 w1 w.heap.size t b n k l8 other name value:=by rw [hw1];exact Q4.F5 w t b n k l8 other name value 88
 have B1:qL w w1:=vX;have bA:=mr t b n k l8 other name value w1 (hE.later B1) bO dI;rw [dL] at bA;have e0:eV ad 0= .nilIface:=rfl;rw [e0] at bA;have e5:eV ad 5= .iface 437 (.pointer (some (ad 4))):=rfl;rw [e5]
 have H1:Aside (Q4 w1 w.heap.size t b n k l8 other name value/\U7 ad w1/\qL w w1):=⟨O1,hE.later B1,B1⟩
 have dk:((k:Int) !=115)=true:=zm;go_enter func229,ntmps229;go_wp2_with fail;rw [<-hw1];refine bA.mono ?_;rintro e w2 ⟨rfl,hb2⟩;have c3:=(H1.o.1.later hb2).c3;have g4:=(H1.o.2.1.later hb2).c4;have H2:Aside (qL w w2):=zi H1.o.2.2 hb2;go_wp2_with fail;go_quiet (fail);go_wp2;go_ret2;exact ⟨rfl,⟨H2.o.os,H2.o.tape,H2.o.output,H2.o.size,H2.o.block⟩⟩
theorem XR{ad}(w)(bc bm m)(f)(t b n l8 other)(name value)(hE:U7 ad w)(hC:E9 w bc bm m f)(hm:m<=1000000)(bO:name.size<=1000000)(dI:value.size<=1000000)(dL:opE t b n 115 l8 other name.data.toList value.data.toList=0):
  qC 229 #[qP bc,.agg (qOa t b n 115 l8 other name value)] w fun e w'=>e=qT #[.bool (tA f (l8,name) (value,(t,b))),.nilIface]/\DB w bc bm m f ((l8,name),(value,(t,b))) w':=by
 obtain ⟨w1,hw1⟩:=za (w.alloc (qOc t b n 115 l8 other name value))
 have O1:Q4 w1 w.heap.size t b n 115 l8 other name value:=by rw [hw1];exact Q4.F5 w t b n 115 l8 other name value 88
 have B1:qL w w1:=vX;have bA:=mr t b n 115 l8 other name value w1 (hE.later B1) bO dI;have bG:=zb6 dL bO;rw [dL] at bA;have e0:eV ad 0= .nilIface:=rfl;rw [e0] at bA
 have H1:Aside (Q4 w1 w.heap.size t b n 115 l8 other name value/\E9 w1 bc bm m f/\qL w w1/\WfK (l8,name)):=⟨O1,hC.later B1,B1,bG⟩
 go_enter func229,ntmps229;go_wp2_with fail;rw [<-hw1];refine bA.mono ?_;rintro e w2 ⟨rfl,hb2⟩;obtain ⟨c0,c1,c2,c3,c4,c5,c6,c7⟩:=H1.o.1.later hb2;have hput:=WQ w2 bc bm m f l8 name value t b (H1.o.2.1.later hb2) hm H1.o.2.2.2;have H2:Aside (qL w w2):=zi H1.o.2.2.1 hb2;go_wp2_with fail;refine hput.mono ?_;rintro e w3 ⟨rfl,hP⟩
 have HP:Aside (DB w bc bm m f ((l8,name),(value,(t,b))) w3):=⟨hP.1,(lW H2.o).mono (fun k hk e=>zj) |>.then hP.2 (fun i hi e=>e)⟩
 go_wp2;go_ret2;exact ⟨rfl,HP.o⟩
theorem UX{ad}(w)(bc bm m)(f)(t b n)(k:Nat)(l8 other)(name value)(hE:U7 ad w)(hC:E9 w bc bm m f)(hm:m<=1000000)(bO:name.size<=1000000)(dI:value.size<=1000000):
  qC 229 #[qP bc,.agg (qOa t b n k l8 other name value)] w fun e w'=>e=qT #[.bool (zas f (t,b,n,k,l8,other,name,value)),eV ad (JU (t,b,n,k,l8,other,name,value))]/\Su w bc bm m f (t,b,n,k,l8,other,name,value) w':=by
 by_cases h0:opE t b n k l8 other name.data.toList value.data.toList=0
 ·by_cases hk:k=115
  ·subst hk
   have hx:mv (t,b,n,115,l8,other,name,value)=0/\(115:Nat)=115:=⟨h0,rfl⟩
   have e1:zas f (t,b,n,115,l8,other,name,value)=tA f (l8,name) (value,(t,b)):=by unfold zas;rw [if_pos hx];rfl
   have e2:JU (t,b,n,115,l8,other,name,value)=0:=by unfold JU;rw [if_pos (show mv (t,b,n,115,l8,other,name,value)=0 from h0)];rfl
   have e3:Gy f (t,b,n,115,l8,other,name,value)=FO f ((l8,name),(value,(t,b))):=by unfold Gy;rw [if_pos hx];rfl
   rw [e1,e2];refine (XR w bc bm m f t b n l8 other name value hE hC hm bO dI h0).mono ?_;rintro e w' ⟨rfl,hP⟩;exact ⟨rfl,by rw [e3];exact hP.1,hP.2⟩
  have hx:¬(mv (t,b,n,k,l8,other,name,value)=0/\k=115):=fun h=>hk h.2
  have e1:zas f (t,b,n,k,l8,other,name,value)=false:=by unfold zas;rw [if_neg hx]
  have e2:JU (t,b,n,k,l8,other,name,value)=5:=by unfold JU;rw [if_pos (show mv (t,b,n,k,l8,other,name,value)=0 from h0)];exact if_neg hk
  rw [e1,e2];refine (Qn w bc t b n k l8 other name value hE bO dI h0 hk).mono ?_;rintro e w' ⟨rfl,hb⟩;exact ⟨rfl,DH hC hx hb⟩
 have hx:¬(mv (t,b,n,k,l8,other,name,value)=0/\k=115):=fun h=>h0 h.1
 have e1:zas f (t,b,n,k,l8,other,name,value)=false:=by unfold zas;rw [if_neg hx]
 have e2:JU (t,b,n,k,l8,other,name,value)=opE t b n k l8 other name.data.toList value.data.toList:=by unfold JU;rw [if_neg (show ¬mv (t,b,n,k,l8,other,name,value)=0 from h0)];rfl
 rw [e1,e2];refine (MP w bc t b n k l8 other name value hE bO dI h0).mono ?_;rintro e w' ⟨rfl,hb⟩;exact ⟨rfl,DH hC hx hb⟩

end