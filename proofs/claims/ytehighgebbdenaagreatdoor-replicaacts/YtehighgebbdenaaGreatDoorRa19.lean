import Derived.Test.YtehighgebbdenaaGreatDoorRa18
import Derived.Laws.Cover1
set_option maxRecDepth 100000
set_option maxHeartbeats 64000000
namespace Go.Proofs.YtehighgebbdenaaGreatDoor
open Go.Proofs.Tryz
variable {L:List OpX} {cap g n:Nat} {W W' w:World}
section
open Go.RowKit Go.Shelf Go.Maps
attribute [local go_sem] Oper.semAt_some
def OpsRow (W:World) (g off:Nat) (L:List OpX):Prop:=∀j u,(cellsOf L)[j]? =some u->W.cell? ⟨g,off+j,none⟩=some u
theorem OpsRow.same {off:Nat} (h:OpsRow W g off L) (e:W'.heap[g]? =W.heap[g]?):OpsRow W' g off L:=fun j u hj=>by
 rw [<-h j u hj];exact uk (a:=⟨g,off+j,none⟩) e
theorem OpsRow.at {off:Nat} (h:OpsRow W g off L) {i:Nat} {x:OpX} (hx:L[i]? =some x) (c:Nat) {u:Value} (hu:(au x)[c]? =some u):W.cell? ⟨g,off+i*8+c,none⟩=some u:=by
 have hin:OpsIn W (some ⟨g,off,none⟩) L:=.inr ⟨g,off,rfl,h⟩;obtain ⟨b,o,e,hc⟩:=hin.get hx
 cases e
 exact hc c u hu
theorem DS (h:g<W.heap.size) (e:W'.heap[g]? =W.heap[g]?):g<W'.heap.size:=by
 rw [Zx h] at e;exact (vO.1 e).1
theorem BT (F:Fence) (n:Nat) (h7:F.fn 183) (hro:F.round=none) (hn:1<=n) (l Bs g off cap:Nat) (ao:Option Addr) (L:List OpX) (hlen:L.length<=1000) (hao:L= []\/ao=some ⟨g,off,none⟩) (J Jx:List OpX->World->Prop)
  (hY:∀pre x W,J pre W->pre.length<L.length->YieldAt F (n - 1) prog l #[aD x] W fun e W'=>
   (e= .returned (.bool true)/\J (pre++ [x]) W'/\KeepTwo g Bs W W')\/(e= .returned (.bool false)/\Jx (pre++ [x]) W'))
  (W:World) (hJ:AbidesFrom W.heap.size J) (hBl:Bs<W.heap.size) (hgl:g<W.heap.size) (hBs:W.cell? ⟨Bs,0,none⟩=some (.slice ao L.length cap)) (hc:OpsRow W g off L) (h0:J [] W):
  CallsIn F n prog 183 #[.func (.yield l) #[] #[],.pointer (some ⟨Bs,0,none⟩)] W fun e W'=>(∃v,e= .returned v)/\
   ((∃ys,ys=L/\J ys W')\/(∃pre,True/\Jx pre W')):=by
 refine callsIn_of_wp func183 rfl h7 ?_ hro;simp only [ntmps183,uA,uu,uM,Nat.reduceAdd,Nat.reduceSub,uT,uU,Zh,uX,Zb,Zl];gi_wp2
 gi_loopw [4,7] (fun _ i wr=>∃k:Nat,k<=L.length/\i= .int .i64 (k:Int)/\J (L.take k) wr/\KeepTwo g Bs W wr)
  (fun _ i _=>(L.length - (intOf i).toNat))
 case atStart=>exact ⟨0,vV _,zv,by simpa using h0,KeepTwo.refl _ _ _⟩
 case round=>
  obtain ⟨k,hk,rfl,hJs,hnx⟩:=hrel;have hBs':wr.cell? ⟨Bs,0,none⟩=some (.slice ao L.length cap):=(uk (a:=⟨Bs,0,none⟩) hnx.2).trans hBs;by_cases hlt:k<L.length
  ·have hao':ao=some ⟨g,off,none⟩:=hao.resolve_left (fun e=>by rw [e] at hlt;simp at hlt);subst hao'
   obtain ⟨⟨t,b,m,kd,nd,o,s,v⟩,hix⟩:∃x,L[k]? =some x:=⟨L[k],vN hlt⟩
   have hJ3:J (L.take k) (wr.alloc (.cells #[.int .i64 t,.int .i64 b,.int .i64 m,.int .u8 (kd:Int),.int .i64 nd,.int .i64 o,.string s,.string v] 38)):=hJ _ wr _ none hJs (World.grownBy_alloc wr _ none) (fun r e=>yL);obtain ⟨fn,tmps,assign,body,hy,hR⟩:=hY _ (t,b,m,kd,nd,o,s,v) _ hJ3 ym;have hrow:=hc.same hnx.1;unfold aD at hy;dsimp only at hy;have c0:wr.cell? ⟨g,off+k*8,none⟩=some (.int .i64 t):=hrow.at hix 0 (u:=.int .i64 t) rfl;have c1:=hrow.at hix 1 (u:=.int .i64 b) rfl;have c2:=hrow.at hix 2 (u:=.int .i64 m) rfl;have c3:=hrow.at hix 3 (u:=.int .u8 (kd:Int)) rfl;have c4:=hrow.at hix 4 (u:=.int .i64 nd) rfl;have c5:=hrow.at hix 5 (u:=.int .i64 o) rfl;have c6:=hrow.at hix 6 (u:=.string s) rfl;have c7:=hrow.at hix 7 (u:=.string v) rfl;have hi0:(0:Int)<=(k:Int):=zo;have hib:(k:Int)<(L.length:Int):=zo;have wk:((k:Int)).toNat=k:=zo;have d1:decide ((k:Int)<(L.length:Int))=true:=zr
   have htake:L.take (k+1)=L.take k++ [(t,b,m,kd,nd,o,s,v)]:=by
    rw [uS,hix];rfl
   have HK:Aside (k<L.length/\KeepTwo g Bs W (wr.alloc (.cells #[.int .i64 t,.int .i64 b,.int .i64 m,.int .u8 (kd:Int),.int .i64 nd,.int .i64 o,.string s,.string v] 38))/\L.take (k+1)=L.take k++ [(t,b,m,kd,nd,o,s,v)]):=⟨hlt,hnx.trans ⟨vZ _ _ _ (DS hgl hnx.1),vZ _ _ _ (DS hBl hnx.2)⟩,htake⟩
   have hR':Aside (RoundIn F (n - 1) prog l fn tmps assign body (wr.alloc (.cells #[.int .i64 t,.int .i64 b,.int .i64 m,.int .u8 (kd:Int),.int .i64 nd,.int .i64 o,.string s,.string v] 38)) fun e W'=>(e= .returned (.bool true)/\J (L.take k++ [(t,b,m,kd,nd,o,s,v)]) W'/\KeepTwo g Bs (wr.alloc (.cells #[.int .i64 t,.int .i64 b,.int .i64 m,.int .u8 (kd:Int),.int .i64 nd,.int .i64 o,.string s,.string v] 38)) W')\/(e= .returned (.bool false)/\Jx (L.take k++ [(t,b,m,kd,nd,o,s,v)]) W')):=hR;clear hlt hk hix hR hrow hnx hJs hY h0 htake hJ3;gi_wp2;refine hR'.o.mono ?_;rintro e W3 (⟨rfl,hJ3,hk3⟩ | ⟨rfl,hJx3⟩)
   ·gi_wp2;go_roundw
    case rel=>exact ⟨k+1,by have:=HK.o.1;omega,zD,by rw [HK.o.2.2];exact hJ3,HK.o.2.1.trans hk3⟩
    case measure=>have:=HK.o.1;simp [intOf];omega
   gi_wp2;refine bodyPost_ret (results_none rfl _ _ _) rfl ?_;exact ⟨⟨_,rfl⟩,.inr ⟨_,trivial,hJx3⟩⟩
  obtain rfl:k=L.length:=zo;have d1:decide ((L.length:Int)<(L.length:Int))=false:=zv;gi_wp2;go_end0;exact ⟨⟨_,rfl⟩,.inl ⟨_,rfl,by rw [Zu] at hJs;exact hJs⟩⟩
theorem pG (F:Fence) (n:Nat) (h7:F.fn 183) (hro:F.round=none) (hn:1<=n) (Bs g off cap:Nat) (ao:Option Addr) (L:List OpX) (hlen:L.length<=1000) (hao:L= []\/ao=some ⟨g,off,none⟩) (w:World) (hBs:Bs<w.heap.size) (hg:g<w.heap.size)
  (hc:w.cell? ⟨Bs,0,none⟩=some (.slice ao L.length cap)) (hI:OpsRow w g off L):
  SeqStopsK F n prog 183 #[.pointer (some ⟨Bs,0,none⟩)] (fun x:OpX=> #[aD x]) (KeepTwo g Bs) (fun ys=>ys=L) (fun _=>True) L.length w:=fun l J Jx W hW hJ _ hY h0=>by
 have hc':=(hW.cell (p:=⟨Bs,0,none⟩) hBs).trans hc;exact BT F n h7 hro hn l Bs g off cap ao L hlen hao J Jx hY W hJ (um hBs hW.size) (um hg hW.size) hc' (hI.same (hW.block g hg)) h0
theorem Ax (a:Option Addr) (len cap:Nat) (w:World):Calls prog 113 #[.slice a len cap] w fun e w'=>e= .returned (.func (.func 183) #[] #[.pointer (some ⟨w.heap.size,0,none⟩)])/\w'=w.alloc (.cells #[.slice a len cap] 32):=by
 go_enter func113,ntmps113;exact kb4
theorem ny (w:World) (Bs g off cap:Nat) (ao:Option Addr) (L:List OpX) (hlen:L.length<=1000) (hao:L= []\/ao=some ⟨g,off,none⟩) (hBs:Bs<w.heap.size) (hg:g<w.heap.size) (hc:w.cell? ⟨Bs,0,none⟩=some (.slice ao L.length cap)) (hI:OpsRow w g off L):
  Calls prog 223 #[.slice none 0 0,.func (.func 183) #[] #[.pointer (some ⟨Bs,0,none⟩)]] w fun e w'=>∃v,e= .returned v/\w'.ownsRow w.heap.size 38 8 v L.length (cellsOf L)/\Below w.heap.size w w':=by
 obtain ⟨i0,hi,hz0,hz1,hz2⟩:=info_parts dX;refine (callsIn_wide (n:=4)).1 ?_;refine callsIn_of_wp_marks func223 rfl trivial ?_ rfl;simp only [ntmps223,uA,uu,uM,Nat.reduceAdd,Nat.reduceSub,uT,uU,Zh,uX,Zb,Zl];gi_wp2;obtain ⟨w1,hw1⟩:=zc (w.alloc (.cells #[.slice none 0 0] 32));rw [<-hw1];have hB0:Below w.heap.size w w1:=qj;have hs1:w1.heap.size=w.heap.size+1:=xS;obtain ⟨B,hB⟩:=zc w.heap.size;have e1:Boxed w1 B 32 (.slice none 0 0):=qU
 rw [<-hB] at hB0 hs1 hBs hg |-
 have HB:Aside (B=w.heap.size):=hB;have hBw:B<=w.heap.size:=zo;clear hB;have hc1:=(hB0.cell (p:=⟨Bs,0,none⟩) hBs).trans hc;have hI1:=hI.same (hB0.block g hg);clear hw1 hc hI
 refine wpIn_rangeFunc_ownH rfl zo (gf:=183) (lb:= #[.pointer (some ⟨Bs,0,none⟩)]) rfl trivial (enters_of func183 zq rfl)
  (pG Fence.wide (4 - 1) trivial rfl zo Bs g off cap ao L hlen hao w1 zo zo hc1 hI1) KeepTwo.trans (fun W l o o' hl _ _ _=>KeepTwo.put (N:=w1.heap.size) zo zo W l o' hl) (vP _ _) (fun _=>rfl)
  (fun pre W=>((∃v,Boxed W B 32 v/\W.ownsRow B 38 8 v pre.length (cellsOf pre)/\pre.length<=L.length))/\(w1.heap.size<=W.heap.size/\Below B w W))
  (fun _ _ _=>False)
  (OwnFrom.and (Own.from (holdsRow_own B B 32 38 8 (fun pre=>pre.length) (fun pre=>cellsOf pre) (fun pre _=>pre.length<=L.length)) _) (OwnFrom.and (fun _ X Y row hs hg _=>uf hs hg.size) (ownFrom_below zo zo)))
  (fun _ _ _ _ _ hs _ _=>hs)
  ⟨⟨_,e1,un w1 B _ _,vV _⟩,vM _,hB0⟩
  (fun x a' W=>∃Bx,w1.heap.size<=Bx/\OpBlk W Bx x/\a'= {tmps:= #[.slice none 0 0,.func (.func 183) #[] #[.pointer (some ⟨Bs,0,none⟩)],.pointer (some ⟨B,0,none⟩),undef,.slice none 0 0,.pointer (some ⟨Bx,0,none⟩),.func (.func 183) #[] #[.pointer (some ⟨Bs,0,none⟩)],aD x,undef,undef,undef,undef,undef],defers:=[]})
  (fun x a'=>Own.from (fun _ X Y row hs hg hr=>yi) _)
  ?assign ?body ?done ?stop
 case assign=>
  rintro l pre x W K ⟨⟨v,hv,hrow,hpl⟩,hsz,hBW⟩ hK;have hK':Aside _:=hK;have hBs':B<=W.heap.size:=zo;clear hK;unfold aD;gi_wp2;refine hK'.o _ _ ((KeepsOthers.alloc _ _).from _) ⟨vZ _ _ _ zo,vZ _ _ _ zo⟩ ⟨⟨v,hv.alloc _,hrow.alloc _,hpl⟩,zr,hBW.alloc hBs' _⟩ ⟨W.heap.size,zo,heap_alloc_new W _,rfl⟩
 case body=>
  rintro l pre x a' W hl _ ⟨⟨v,hv,hrow,hpl⟩,hsz,hBW⟩ ⟨Bx,hBx,hE,rfl⟩ hlt;have g1:=hv.cell;obtain ⟨f0,f1,f2,f3,f4,f5,f6,f7,-⟩:=hE.cells;have hBs':B<=W.heap.size:=zo;obtain ⟨t,b,m,kd,nd,o,s,v0⟩:=x;dsimp only at f0 f1 f2 f3 f4 f5 f6 f7;unfold aD;gi_wp2_with (gi_at_builtin;refine wpListIn_append_own _ rfl _ _ 32 rfl B 38 i0 _ 8 80 underlying32 hi hz0 hz1 hz2 rfl zo _ _ _ rfl (hrow.alloc _) ⟨W.heap.size,0,none⟩ 1 1 (au (t,b,m,kd,nd,o,s,v0)) rfl rfl (dC W (t,b,m,kd,nd,o,s,v0) _) (cv _) zH zo zr ?_;intro v' w2 hown' hgrow _;obtain ⟨g',cap',rfl⟩:=ownsRow_succ hown';obtain ⟨hv1,hv2,hr2,hk2,hb2⟩:=hv.appended zu hrow hBs' zg hown' hgrow;have hc1:=hv1.cell;have hf1:=hv1.frozen);refine ⟨hk2.from _,⟨hb2.block g hg,hb2.block Bs hBs⟩,⟨⟨_,hv2,?_,zr⟩,jX,hBW.trans hb2⟩⟩;rw [ub,Zp,cM];have:cellsOf [(t,b,m,kd,nd,o,s,v0)]=au (t,b,m,kd,nd,o,s,v0):=xC;rw [this];exact hr2
 case done=>
  rintro D ys W hD hall ⟨⟨v,hv,hrow,hpl⟩,hsz,hBW⟩ hK;have g1:=hv.cell;gi_wp2;refine ⟨zv,.inl ⟨_,_,rfl,run_takeDeferred hK,?_⟩⟩;subst hall;refine ⟨v,by simp [results,f223,go_sem],v,rfl,?_,?_⟩
  ·exact kp3
  exact kg2
 case stop=>
  exact kp0
theorem mr (w:World) (Bs g off cap:Nat) (ao:Option Addr) (L:List OpX) (hlen:L.length<=1000) (hao:L= []\/ao=some ⟨g,off,none⟩) (hBs:Bs<w.heap.size) (hg:g<w.heap.size) (hc:w.cell? ⟨Bs,0,none⟩=some (.slice ao L.length cap)) (hI:OpsRow w g off L):
  Calls prog 181 #[.func (.func 183) #[] #[.pointer (some ⟨Bs,0,none⟩)]] w fun e w'=>∃v,e= .returned v/\w'.ownsRow w.heap.size 38 8 v L.length (cellsOf L)/\Below w.heap.size w w':=by
 have hcl:=ny w Bs g off cap ao L hlen hao hBs hg hc hI;go_enter func181,ntmps181;go_wp2_with fail;refine hcl.mono ?_;clear hcl;rintro e w' ⟨v,rfl,H⟩;have HH:Aside (w'.ownsRow w.heap.size 38 8 v L.length (cellsOf L)/\Below w.heap.size w w'):=H;clear H;go_wp2;go_ret;exact ⟨v,rfl,HH.o⟩
end
section
open Go.Shelf
set_option maxRecDepth 100000
def pR:Ren:=⟨fun | 6=>182 | 14=>224 | 15=>203 | 20=>225 | 21=>274 | 22=>275 | 23=>276 | 24=>277 | 25=>278 | 26=>279 | 27=>280 | 28=>252 | 29=>253 | 46=>304 | 47=>290 | 48=>291 | 49=>305 | 50=>306 | 57=>317 | n=>n,fun | 0=>0 | 3=>3 | 4=>4 | 5=>5 | 9=>9 | 22=>32 | 24=>38 | 25=>210 | 39=>295 | 45=>344 | 46=>345 | 50=>88 | 53=>351 | 55=>336 | 66=>371 | 70=>375 | 76=>390 | 77=>113 | n=>n,fun n=>n⟩
theorem wt:SlLaysF0.n6 prog pR where
 mixed:=zq
 f6:=⟨ "slices.SortFunc[[]concordat/api.Op,concordat/api.Op]",zq,func182.trans (congrArg some zq)⟩
 f14:=⟨ "slices.pdqsortCmpFunc[concordat/api.Op]",zq,func224.trans (congrArg some zq)⟩
 f15:=func203.trans (congrArg some zq)
 f20:=⟨ "slices.insertionSortCmpFunc[concordat/api.Op]",zq,func225.trans (congrArg some zq)⟩
 f21:=⟨ "slices.heapSortCmpFunc[concordat/api.Op]",zq,func274.trans (congrArg some zq)⟩
 f22:=⟨ "slices.breakPatternsCmpFunc[concordat/api.Op]",zq,func275.trans (congrArg some zq)⟩
 f23:=⟨ "slices.choosePivotCmpFunc[concordat/api.Op]",zq,func276.trans (congrArg some zq)⟩
 f24:=⟨ "slices.reverseRangeCmpFunc[concordat/api.Op]",zq,func277.trans (congrArg some zq)⟩
 f25:=⟨ "slices.partialInsertionSortCmpFunc[concordat/api.Op]",zq,func278.trans (congrArg some zq)⟩
 f26:=⟨ "slices.partitionEqualCmpFunc[concordat/api.Op]",zq,func279.trans (congrArg some zq)⟩
 f27:=⟨ "slices.partitionCmpFunc[concordat/api.Op]",zq,func280.trans (congrArg some zq)⟩
 f28:=func252.trans (congrArg some zq)
 f29:=func253.trans (congrArg some zq)
 f46:=⟨ "slices.siftDownCmpFunc[concordat/api.Op]",zq,func304.trans (congrArg some zq)⟩
 f47:=func290.trans (congrArg some zq)
 f48:=func291.trans (congrArg some zq)
 f49:=⟨ "slices.medianAdjacentCmpFunc[concordat/api.Op]",zq,func305.trans (congrArg some zq)⟩
 f50:=⟨ "slices.medianCmpFunc[concordat/api.Op]",zq,func306.trans (congrArg some zq)⟩
 f57:=⟨ "slices.order2CmpFunc[concordat/api.Op]",zq,func317.trans (congrArg some zq)⟩
 t0:=underlying0
 a0:=isAgg0
 z0:=sizeOf0
 v0:=zeroValue0
 t3:=underlying3
 a3:=isAgg3
 z3:=sizeOf3
 v3:=zeroValue3
 t4:=underlying4
 a4:=isAgg4
 z4:=sizeOf4
 v4:=zeroValue4
 t5:=underlying5
 a5:=isAgg5
 z5:=sizeOf5
 v5:=zeroValue5
 t9:=underlying9
 a9:=isAgg9
 z9:=sizeOf9
 v9:=zeroValue9
 t22:=underlying32
 a22:=isAgg32
 z22:=sizeOf32
 v22:=zeroValue32
 t25:=underlying210
 a25:=isAgg210
 z25:=sizeOf210
 v25:=zeroValue210
 t39:=underlying295
 a39:=isAgg295
 z39:=sizeOf295
 v39:=zeroValue295
 t45:=underlying344
 a45:=isAgg344
 z45:=sizeOf344
 v45:=zeroValue344
 t46:=underlying345
 a46:=isAgg345
 z46:=sizeOf345
 v46:=zeroValue345
 t50:=underlying88
 a50:=isAgg88
 z50:=sizeOf88
 v50:=zeroValue88
 t53:=underlying351
 a53:=isAgg351
 z53:=sizeOf351
 v53:=zeroValue351
 t55:=underlying336
 a55:=isAgg336
 z55:=sizeOf336
 v55:=zeroValue336
 t66:=underlying371
 a66:=isAgg371
 z66:=sizeOf371
 v66:=zeroValue371
 t70:=underlying375
 a70:=isAgg375
 z70:=sizeOf375
 v70:=zeroValue375
 t76:=underlying390
 a76:=isAgg390
 z76:=sizeOf390
 v76:=zeroValue390
 t77:=underlying113
 a77:=isAgg113
 z77:=sizeOf113
 v77:=zeroValue113
end
section
open Go.Shelf
set_option maxRecDepth 100000
def oU:Ren:=⟨fun | 6=>145 | 14=>204 | 15=>203 | 20=>254 | 21=>255 | 22=>256 | 23=>257 | 24=>258 | 25=>259 | 26=>260 | 27=>261 | 28=>252 | 29=>253 | 46=>294 | 47=>290 | 48=>291 | 49=>295 | 50=>296 | 57=>313 | n=>n,fun | 0=>0 | 3=>3 | 4=>4 | 5=>5 | 9=>9 | 22=>149 | 24=>152 | 25=>240 | 39=>295 | 45=>344 | 46=>345 | 50=>88 | 53=>351 | 55=>336 | 66=>371 | 70=>375 | 76=>390 | 77=>113 | n=>n,fun n=>n⟩
theorem pd:SlLaysF0.n6 prog oU where
 mixed:=zq
 f6:=⟨ "slices.SortFunc[[]concordat/cells.Mark,concordat/cells.Mark]",zq,func145.trans (congrArg some zq)⟩
 f14:=⟨ "slices.pdqsortCmpFunc[concordat/cells.Mark]",zq,func204.trans (congrArg some zq)⟩
 f15:=func203.trans (congrArg some zq)
 f20:=⟨ "slices.insertionSortCmpFunc[concordat/cells.Mark]",zq,func254.trans (congrArg some zq)⟩
 f21:=⟨ "slices.heapSortCmpFunc[concordat/cells.Mark]",zq,func255.trans (congrArg some zq)⟩
 f22:=⟨ "slices.breakPatternsCmpFunc[concordat/cells.Mark]",zq,func256.trans (congrArg some zq)⟩
 f23:=⟨ "slices.choosePivotCmpFunc[concordat/cells.Mark]",zq,func257.trans (congrArg some zq)⟩
 f24:=⟨ "slices.reverseRangeCmpFunc[concordat/cells.Mark]",zq,func258.trans (congrArg some zq)⟩
 f25:=⟨ "slices.partialInsertionSortCmpFunc[concordat/cells.Mark]",zq,func259.trans (congrArg some zq)⟩
 f26:=⟨ "slices.partitionEqualCmpFunc[concordat/cells.Mark]",zq,func260.trans (congrArg some zq)⟩
 f27:=⟨ "slices.partitionCmpFunc[concordat/cells.Mark]",zq,func261.trans (congrArg some zq)⟩
 f28:=func252.trans (congrArg some zq)
 f29:=func253.trans (congrArg some zq)
 f46:=⟨ "slices.siftDownCmpFunc[concordat/cells.Mark]",zq,func294.trans (congrArg some zq)⟩
 f47:=func290.trans (congrArg some zq)
 f48:=func291.trans (congrArg some zq)
 f49:=⟨ "slices.medianAdjacentCmpFunc[concordat/cells.Mark]",zq,func295.trans (congrArg some zq)⟩
 f50:=⟨ "slices.medianCmpFunc[concordat/cells.Mark]",zq,func296.trans (congrArg some zq)⟩
 f57:=⟨ "slices.order2CmpFunc[concordat/cells.Mark]",zq,func313.trans (congrArg some zq)⟩
 t0:=underlying0
 a0:=isAgg0
 z0:=sizeOf0
 v0:=zeroValue0
 t3:=underlying3
 a3:=isAgg3
 z3:=sizeOf3
 v3:=zeroValue3
 t4:=underlying4
 a4:=isAgg4
 z4:=sizeOf4
 v4:=zeroValue4
 t5:=underlying5
 a5:=isAgg5
 z5:=sizeOf5
 v5:=zeroValue5
 t9:=underlying9
 a9:=isAgg9
 z9:=sizeOf9
 v9:=zeroValue9
 t22:=underlying149
 a22:=isAgg149
 z22:=sizeOf149
 v22:=zeroValue149
 t25:=underlying240
 a25:=isAgg240
 z25:=sizeOf240
 v25:=zeroValue240
 t39:=underlying295
 a39:=isAgg295
 z39:=sizeOf295
 v39:=zeroValue295
 t45:=underlying344
 a45:=isAgg344
 z45:=sizeOf344
 v45:=zeroValue344
 t46:=underlying345
 a46:=isAgg345
 z46:=sizeOf345
 v46:=zeroValue345
 t50:=underlying88
 a50:=isAgg88
 z50:=sizeOf88
 v50:=zeroValue88
 t53:=underlying351
 a53:=isAgg351
 z53:=sizeOf351
 v53:=zeroValue351
 t55:=underlying336
 a55:=isAgg336
 z55:=sizeOf336
 v55:=zeroValue336
 t66:=underlying371
 a66:=isAgg371
 z66:=sizeOf371
 v66:=zeroValue371
 t70:=underlying375
 a70:=isAgg375
 z70:=sizeOf375
 v70:=zeroValue375
 t76:=underlying390
 a76:=isAgg390
 z76:=sizeOf390
 v76:=zeroValue390
 t77:=underlying113
 a77:=isAgg113
 z77:=sizeOf113
 v77:=zeroValue113
end
section
open Go.Shelf Go.RowKit Go.Lib Go.Sort
def Hb (a b:List UInt8):Int:=if a<b then -1 else if b<a then 1 else 0
def orZ (a b:Int):Int:=if a=0 then b else a
def Ja (x y:Mrk):Int:=orZ (nZ x.1 y.1) (Hb x.2.1.data.toList y.2.1.data.toList)
theorem iJ (x y:Mrk):ltOf Ja x y=decide (KLt (im x) (im y)):=by
 unfold ltOf Ja orZ nZ;by_cases h1:x.1<y.1
 ·simp [h1]
 rw [if_neg h1];by_cases h2:y.1<x.1
 ·have h3:x.1≠y.1:=by omega
  simp [h1,h2,h3]
 have h3:x.1=y.1:=zo;rw [if_neg h2,if_pos rfl];unfold Hb;by_cases h4:x.2.1.data.toList<y.2.1.data.toList
 ·simp [h3,h4]
 rw [if_neg h4];by_cases h5:y.2.1.data.toList<x.2.1.data.toList<;>simp [h3,h4,h5]
theorem FP:SWO (ltOf Ja) where
 irrefl x:=by rw [iJ];exact decide_eq_false eG
 trans x y z h1 h2:=by
  rw [iJ] at*;exact decide_eq_true (io (of_decide_eq_true h1) (of_decide_eq_true h2))
 ntrans x y z h1 h2:=by
  rw [iJ] at*;have k1:=of_decide_eq_false h1;have k2:=of_decide_eq_false h2
  refine decide_eq_false fun h=> ?_
  by_cases e:im x=im y
  ·rw [e] at h;exact k2 h
  rcases mQ e with q | q
  ·exact k1 q
  exact k2 (io q h)
def bK (m:Mrk):List Value:=[.int .i64 m.1,.string m.2.1,.string m.2.2]
theorem MY (a:ByteArray) (w:World):Calls prog 205 #[.string a] w fun e w'=>e= .returned (.bool false)/\w'=w:=by
 go_enter func205,ntmps205;go_wp2;go_ret;exact ⟨zv,rfl⟩
theorem Hw (a b:ByteArray) (w:World):Calls prog 148 #[.string a,.string b] w fun e w'=>e= .returned (.int .i64 (Hb a.data.toList b.data.toList))/\w'=w:=by
 unfold Hb;by_cases h1:a.data.toList<b.data.toList
 ·have d1:Op.bytesLess a.toList b.toList=true:=(gQ _ _).trans <| decide_eq_true h1
  rw [if_pos h1];exact kg5
 have d1:Op.bytesLess a.toList b.toList=false:=(gQ _ _).trans <| decide_eq_false h1
 rw [if_neg h1];by_cases h2:b.data.toList<a.data.toList
 ·have d2:(a.toList==b.toList)=false:=by
   rw [uH,uH];exact beq_false_of_ne (fun e=>by rw [e] at h2;exact List.lt_irrefl _ h2)
  rw [if_pos h2];exact kg5
 have d2:(a.toList==b.toList)=true:=by
  rw [uH,uH];by_cases e:a.data.toList=b.data.toList
  ·rw [e];simp
  rcases ma e with q | q
  ·exact absurd q h1
  exact absurd q h2
 rw [if_neg h2];exact kg5
theorem Kp (w:World) (g:Nat) (a b:Int) (h0:w.cell? ⟨g,0,none⟩=some (.int .i64 a)) (h1:w.cell? ⟨g,1,none⟩=some (.int .i64 b)):
  Calls prog 147 #[.slice (some ⟨g,0,none⟩) 2 2] w fun e w'=>e= .returned (.int .i64 (orZ a b))/\w'=w:=by
 unfold orZ;by_cases ha:a=0
 ·rw [if_pos ha]
  have da:(a !=0)=false:=by simp [ha]
  clear ha;by_cases hb:b=0
  ·have db:(b !=0)=false:=by simp [hb]
   have HB:=Lib.hid hb;clear hb;go_enter func147,ntmps147;go_wp2;refine wp_loop_rounds 3 ?_;rw [rounds_succ];go_wp2;rw [rounds_succ];go_wp2;rw [rounds_succ];go_wp2;go_ret;exact ⟨by rw [HB.o];rfl,rfl⟩
  have db:(b !=0)=true:=by simp [hb]
  clear hb;go_enter func147,ntmps147;go_wp2;refine wp_loop_rounds 2 ?_;rw [rounds_succ];go_wp2;rw [rounds_succ];exact kb4
 rw [if_neg ha]
 have da:(a !=0)=true:=by simp [ha]
 clear ha;go_enter func147,ntmps147;go_wp2;refine wp_loop_rounds 1 ?_;rw [rounds_succ];exact kb4
theorem Fb (x y:Mrk) (w:World):Calls prog 146 (#[.agg (bK x).toArray,.agg (bK y).toArray]++ #[]) w fun e w'=>e= .returned (.int .i64 (Ja x y))/\∃q os',w'=grow (w.drewN q) os':=by
 obtain ⟨a,s,c⟩:=x;obtain ⟨a',s',c'⟩:=y;unfold bK;dsimp only;obtain ⟨S,hS⟩:=zc w.heap.size;obtain ⟨U,hU⟩:=zc ((w.alloc (.cells #[.int .i64 a,.string s,.string c] 152)).alloc (.cells #[.int .i64 a',.string s',.string c'] 152))
 have hu1:U.heap[S+1]? =some (.cells #[.int .i64 a',.string s',.string c'] 152 (0,0)):=by
  have:=heap_alloc_new (w.alloc (.cells #[.int .i64 a,.string s,.string c] 152)) (.cells #[.int .i64 a',.string s',.string c'] 152);rw [uP] at this;rw [hU,hS];exact this
 have hu0:U.heap[S]? =some (.cells #[.int .i64 a,.string s,.string c] 152 (0,0)):=by
  exact ki7
 have x0:U.drew.cell? ⟨S,0,none⟩=some (.int .i64 a):=vn;have x1:U.drew.cell? ⟨S,1,none⟩=some (.string s):=vn;have y0:U.drew.cell? ⟨S+1,0,none⟩=some (.int .i64 a'):=vA;have y1:U.drew.cell? ⟨S+1,1,none⟩=some (.string s'):=vA
 have HX:Aside (U.drew.cell? ⟨S,0,none⟩=some (.int .i64 a)/\U.drew.cell? ⟨S,1,none⟩=some (.string s)/\U.drew.cell? ⟨S+1,0,none⟩=some (.int .i64 a')/\U.drew.cell? ⟨S+1,1,none⟩=some (.string s')):=⟨x0,x1,y0,y1⟩
 have HU:Aside (∃os,U=grow w os):=⟨_,by rw [hU,alloc_eq_grow,alloc_eq_grow,grow_grow]⟩
 clear hu0 hu1 x0 x1 y0 y1;go_enter func146,ntmps146;go_wp2_with fail;rw [<-hU,<-hS];clear hU hS;refine aO (S:=fun w'=>w'.cell? ⟨S,0,none⟩=some (.int .i64 a)/\w'.cell? ⟨S,1,none⟩=some (.string s)/\w'.cell? ⟨S+1,0,none⟩=some (.int .i64 a')/\w'.cell? ⟨S+1,1,none⟩=some (.string s')) zq HX.o (fun hHeld=> ?_);refine tk 0 hHeld ?_ (hy:=Or.inl ⟨zA,zJ⟩);refine tk 1 hHeld ?_ (hy:=Or.inl ⟨zA,zJ⟩);refine tk 2 hHeld ?_ (hy:=Or.inl ⟨zA,zJ⟩);refine tk 3 hHeld ?_ (hy:=Or.inl ⟨zA,zJ⟩);refine tk 5 hHeld ?_ (hy:=Or.inl ⟨zA,zJ⟩);refine tk 6 hHeld ?_ (hy:=Or.inl ⟨zA,zJ⟩);refine tk 7 hHeld ?_ (hy:=Or.inl ⟨zA,zJ⟩);refine tk 8 hHeld ?_ (hy:=Or.inl ⟨zA,zJ⟩);refine aY (i:=4) zq rfl (fun K hK=> ?_);go_simp;refine (oY _ _ _).mono ?_;rintro e w1 ⟨rfl,rfl⟩;refine hK _ _ HX.o ?_;clear hK K;refine qn ?_;refine aY (i:=9) zq rfl (fun K hK=> ?_);go_simp;refine (Hw _ _ _).mono ?_;rintro e w1 ⟨rfl,rfl⟩;refine hK _ _ HX.o ?_;clear hK K;refine qn ?_;refine aY (i:=10) zq rfl (fun K hK=> ?_);go_simp;obtain ⟨V,hV⟩:=zc ((U.alloc (.cells #[.int .i64 (nZ a a'),.int .i64 (Hb s.data.toList s'.data.toList)] 3)).drew)
 have hbV:Below U.drew.heap.size U.drew V:=by rw [hV];exact ⟨rfl,rfl,rfl,((vP U.heap.size U).alloc zg _).size,((vP U.heap.size U).alloc zg (.cells #[.int .i64 (nZ a a'),.int .i64 (Hb s.data.toList s'.data.toList)] 3)).block⟩
 have hVn:V.heap[U.heap.size]? =some (.cells #[.int .i64 (nZ a a'),.int .i64 (Hb s.data.toList s'.data.toList)] 3 (0,0)):=by rw [hV];exact heap_alloc_new U _
 have HV:Aside (∃q os',V=grow (w.drewN q) os'):=by
  obtain ⟨os,rfl⟩:=HU.o;exact ⟨1,_,by rw [hV,alloc_eq_grow,grow_grow];rfl⟩
 have g0:V.cell? ⟨U.heap.size,0,none⟩=some (.int .i64 (nZ a a')):=by simp [World.cell?,hVn]
 have g1:V.cell? ⟨U.heap.size,1,none⟩=some (.int .i64 (Hb s.data.toList s'.data.toList)):=by simp [World.cell?,hVn]
 rw [<-hV]
 have HY:Aside (V.cell? ⟨S,0,none⟩=some (.int .i64 a)/\V.cell? ⟨S,1,none⟩=some (.string s)/\V.cell? ⟨S+1,0,none⟩=some (.int .i64 a')/\V.cell? ⟨S+1,1,none⟩=some (.string s')):=⟨dO hbV HX.o.1,dO hbV HX.o.2.1,dO hbV HX.o.2.2.1,dO hbV HX.o.2.2.2⟩
 refine hK _ _ HY.o ?_;clear hK K hV hbV hVn;refine qn ?_;refine aY (i:=11) zq rfl (fun K hK=> ?_);go_simp;refine (Kp V _ _ _ g0 g1).mono ?_;rintro e w1 ⟨rfl,rfl⟩;refine hK _ _ HY.o ?_;clear hK K;refine qn ?_;refine aY (i:=12) zq rfl (fun K hK=> ?_);go_simp;refine hK _ _ HY.o ?_;clear hK K;refine wpAnyH_done zq ?_ _;clear hHeld;go_wp2;go_ret;exact ⟨rfl,HV.o⟩
theorem Cs (blk off size:Nat) (w:World):CmpLays prog 146 #[] bK 3 Ja blk off size w:=fun _ _ _ _ x y=>Fb x y _
theorem Jt:∀args w,(callFunc 146 args).run prog w= .ok (.enter 146 args) w:=enters_of func146 zq rfl
theorem dW (x:Mrk):(bK x).length=3:=rfl
theorem nK (x:Mrk):∀v∈bK x,v.oneCell'=true:=by
 intro v hv;simp only [bK,vT,ZI,or_false] at hv;exact kp8
theorem kD (w:World) (g n:Nat) (d:Array Mrk) (os:Array Obj):Keeps (fun k=>k=g) w (sortWorldK bK 3 w g 0 n d os):=by
 refine ⟨rfl,rfl,rfl,?_,fun k hk hs=> ?_⟩
 ·exact ko2
 exact ke9
theorem KD {base:Nat} {ps:List Mrk} (h:w.ownsRow base 152 3 (.slice (some ⟨g,0,none⟩) n cap) n (aA bK ps)) (hn:n=ps.length):HoldsK bK 3 w g 0 ps.toArray:=fun j hj=>by
 rw [size_flatK] at hj;simp only [uA] at hj;have h1:j / 3<ps.length:=zo;have h2:j / 3*3+j % 3=j:=zo;refine ⟨?_,qd⟩;rw [vY,h.cellAt j zo,get_flatK _ _ _ _ yO];have:=dM (enc:=bK) dW (L:=ps) (i:=j / 3) (c:=j % 3) (x:=ps[j / 3]) (vN h1) zo;rw [h2] at this;rw [this,getElem!_pos ps.toArray (j / 3) xu,ZC,vN qW,getElem!_pos _ (j % 3) qW];rfl
theorem pD {d:Array Mrk} (h:HoldsK bK 3 w g 0 d) (j:Nat) (u:Value) (hj:(aA bK d.toList)[j]? =some u):w.cell? ⟨g,j,none⟩=some u:=by
 have hl:=(vL.1 hj).1;rw [bR dW,uw] at hl;have h1:j / 3<d.size:=zo;have h2:j / 3*3+j % 3=j:=zo;have H:=(h j qV).1;rw [vY,get_flatK _ _ _ _ zo] at H;have:=dM (enc:=bK) dW (L:=d.toList) (i:=j / 3) (c:=j % 3) (x:=d[j / 3]) (by rw [Yk,Zx h1]) zo;rw [h2,hj,vN qW] at this;rw [H,getElem!_pos d (j / 3) h1,getElem!_pos _ (j % 3) qW,this];rfl
theorem KV (w:World) (base g cap:Nat) (ps:List Mrk) (hown:w.ownsRow base 152 3 (.slice (some ⟨g,0,none⟩) ps.length cap) ps.length (aA bK ps)) (hl:ps.length<=100000):
  Calls prog 145 #[.slice (some ⟨g,0,none⟩) ps.length cap,.func (.func 146) #[] #[]] w fun e w'=>e= .returned (.tuple #[])/\∃qs:List Mrk,qs.Perm ps/\qs.Pairwise (fun a b=>¬KLt (im b) (im a))/\(∀j u,(aA bK qs)[j]? =some u->w'.cell? ⟨g,j,none⟩=some u)/\Keeps (fun k=>k=g) w w':=by
 have hH:=KD hown rfl;have hblk:g<w.heap.size:=(hown.lt g rfl).2;have h:=AnyQ.slices_SortFunc pd 3 isAgg152 sizeOf152 bK dW nK Ja FP 146 #[] g 0 cap ps.toArray w Jt (Cs g 0 ps.toArray.size w) hH hblk zr;refine Calls.mono h ?_;rintro e w' ⟨rfl,d',n,os,hp,hs,rfl⟩;simp only [uA] at hp hs;have hsz:d'.size=ps.length:=xY
 have hperm:d'.toList.Perm ps:=by
  exact kd2
 refine ⟨rfl,d'.toList,hperm,?_,?_,kD w g n d' os⟩
 ·rw [ud];intro i j hi hj hij;have hi':i<d'.size:=qG;have hj':j<d'.size:=yO;have:=hs i j (vV _) hij zo;rw [iJ,getElem!_pos d' i hi',getElem!_pos d' j hj'] at this;have:=of_decide_eq_false this;simpa using this
 exact pD ((show SWK bK 3 w g 0 d' _ from ⟨n,os,rfl⟩).holds hblk hH (by rw [hsz];simp))
theorem si (p:Option Addr) (cap:Nat) (fv:Value) (w:World):Calls prog 145 #[.slice p 0 cap,fv] w fun e w'=>e= .returned (.tuple #[])/\w'=w:=
 AnyF.slices_SortFunc_none pd p cap fv w
end
section
open Go.Shelf Go.RowKit Go.Lib Go.Sort
def JZ (x y:OpX):Int:=nZ x.2.2.1 y.2.2.1
theorem iz (x y:OpX):ltOf JZ x y=decide (x.2.2.1<y.2.2.1):=by
 unfold ltOf JZ nZ;by_cases h1:x.2.2.1<y.2.2.1
 ·simp [h1]
 rw [if_neg h1];by_cases h2:y.2.2.1<x.2.2.1<;>simp [h1,h2]
theorem Ge:SWO (ltOf JZ) where
 irrefl x:=by rw [iz];exact decide_eq_false zo
 trans x y z h1 h2:=by
  rw [iz] at*;have:=of_decide_eq_true h1;have:=of_decide_eq_true h2;exact decide_eq_true zo
 ntrans x y z h1 h2:=by
  rw [iz] at*;have:=of_decide_eq_false h1;have:=of_decide_eq_false h2;exact decide_eq_false zo
theorem Gi (x y:OpX) (w:World):Calls prog 114 (#[.agg (au x).toArray,.agg (au y).toArray]++ #[]) w fun e w'=>e= .returned (.int .i64 (JZ x y))/\∃q os',w'=grow (w.drewN q) os':=by
 obtain ⟨t,b,n,k,nd,o,s,v⟩:=x;obtain ⟨t',b',n',k',nd',o',s',v'⟩:=y;unfold au JZ
 show Calls prog 114 #[.agg #[.int .i64 t,.int .i64 b,.int .i64 n,.int .u8 (k:Int),.int .i64 nd,.int .i64 o,.string s,.string v],.agg #[.int .i64 t',.int .i64 b',.int .i64 n',.int .u8 (k':Int),.int .i64 nd',.int .i64 o',.string s',.string v']] w _
 go_enter func114,ntmps114;go_wp2_with (go_at_call 103;refine (oY _ _ _).mono ?_;rintro e w' ⟨rfl,rfl⟩);go_ret;exact ⟨rfl,0,#[.cells #[.int .i64 t,.int .i64 b,.int .i64 n,.int .u8 (k:Int),.int .i64 nd,.int .i64 o,.string s,.string v] 38]++ #[.cells #[.int .i64 t',.int .i64 b',.int .i64 n',.int .u8 (k':Int),.int .i64 nd',.int .i64 o',.string s',.string v'] 38],jA⟩
theorem Du (blk off size:Nat) (w:World):CmpLays prog 114 #[] au 8 JZ blk off size w:=fun _ _ _ _ x y=>Gi x y _
theorem Ia:∀args w,(callFunc 114 args).run prog w= .ok (.enter 114 args) w:=enters_of func114 zq rfl
theorem kB (w:World) (g n:Nat) (d:Array OpX) (os:Array Obj):Keeps (fun k=>k=g) w (sortWorldK au 8 w g 0 n d os):=by
 refine ⟨rfl,rfl,rfl,?_,fun k hk hs=> ?_⟩
 ·exact ko2
 exact ke9
theorem LQ {base:Nat} {ps:List OpX} (h:w.ownsRow base 38 8 (.slice (some ⟨g,0,none⟩) n cap) n (cellsOf ps)) (hn:n=ps.length):HoldsK au 8 w g 0 ps.toArray:=fun j hj=>by
 rw [size_flatK] at hj;simp only [uA] at hj;have h1:j / 8<ps.length:=zo;have h2:j / 8*8+j % 8=j:=zo;refine ⟨?_,qd⟩;rw [vY,h.cellAt j zo,get_flatK _ _ _ _ yO];have:=bO ps (j / 8) (j % 8) h1 zo;rw [h2] at this;rw [this,getElem!_pos ps.toArray (j / 8) xu,ZC,getElem!_pos ps (j / 8) h1];rfl
theorem rL {d:Array OpX} (h:HoldsK au 8 w g 0 d) (j:Nat) (u:Value) (hj:(cellsOf d.toList)[j]? =some u):w.cell? ⟨g,j,none⟩=some u:=by
 have hl:=(vL.1 hj).1;rw [aH,uw] at hl;have h1:j / 8<d.size:=zo;have h2:j / 8*8+j % 8=j:=zo;have H:=(h j qV).1;rw [vY,get_flatK _ _ _ _ zo] at H;have:=bO d.toList (j / 8) (j % 8) (by rw [uw];exact h1) zo;rw [h2,hj,getElem!_pos d.toList (j / 8) (by rw [uw];exact h1)] at this;rw [H,getElem!_pos d (j / 8) h1,this];simp
theorem Kk (w:World) (base g cap:Nat) (ps:List OpX) (hown:w.ownsRow base 38 8 (.slice (some ⟨g,0,none⟩) ps.length cap) ps.length (cellsOf ps)) (hl:ps.length<=100000):
  Calls prog 182 #[.slice (some ⟨g,0,none⟩) ps.length cap,.func (.func 114) #[] #[]] w fun e w'=>e= .returned (.tuple #[])/\∃qs:List OpX,qs.Perm ps/\qs.Pairwise (fun a b=>a.2.2.1<=b.2.2.1)/\(∀j u,(cellsOf qs)[j]? =some u->w'.cell? ⟨g,j,none⟩=some u)/\Keeps (fun k=>k=g) w w':=by
 have hH:=LQ hown rfl;have hblk:g<w.heap.size:=(hown.lt g rfl).2;have h:=AnyQ.slices_SortFunc wt 8 isAgg38 sizeOf38 au bE cv JZ Ge 114 #[] g 0 cap ps.toArray w Ia (Du g 0 ps.toArray.size w) hH hblk zr;refine Calls.mono h ?_;rintro e w' ⟨rfl,d',n,os,hp,hs,rfl⟩;simp only [uA] at hp hs;have hsz:d'.size=ps.length:=xY
 have hperm:d'.toList.Perm ps:=by
  exact kd2
 refine ⟨rfl,d'.toList,hperm,?_,?_,kB w g n d' os⟩
 ·rw [ud];intro i j hi hj hij;have hi':i<d'.size:=qG;have hj':j<d'.size:=yO;have:=hs i j (vV _) hij zo;rw [iz,getElem!_pos d' i hi',getElem!_pos d' j hj'] at this;have:=of_decide_eq_false this;simp only [Array.getElem_toList];omega
 exact rL ((show SWK au 8 w g 0 d' _ from ⟨n,os,rfl⟩).holds hblk hH (by rw [hsz];simp))
theorem tW (p:Option Addr) (cap:Nat) (fv:Value) (w:World):Calls prog 182 #[.slice p 0 cap,fv] w fun e w'=>e= .returned (.tuple #[])/\w'=w:=
 AnyF.slices_SortFunc_none wt p cap fv w
