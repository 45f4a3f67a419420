import Derived.Test.YtehighgebbdenaaGreatDoorRa10
import Derived.Sort.MapsRangeIn
import Derived.Shelf.SlSortCmp.NoneTotal
set_option maxRecDepth 100000
set_option maxHeartbeats 64000000
namespace Go.Proofs.YtehighgebbdenaaGreatDoor
open Go.Proofs.Tryz
variable {D:DataW Unit} {id x:Int} {ps qs:List Plc} {g:Nat} {ad:Nat→Addr} {R:Rws} {f:Sta} {w:World}
section
open Go.RowKit Go.Shelf Go.Maps
open scoped Classical
attribute [local go_sem] Oper.semAt_some
def AllP (f:Sta) (ps:List Plc):Prop:=(ps.map (·.1)).Nodup/\∀p,p∈ps↔f p.1=some p
theorem AllP.places (h:AllP f ps) (hp:qs.Perm ps) (hs:qs.Pairwise (fun a b=>¬b.1<a.1)):IsPlaces f qs:=by
 refine ⟨?_,fun p=>(hp.mem_iff).trans (h.2 p)⟩;have hn:(qs.map (·.1)).Nodup:=(hp.map _).nodup_iff.2 h.1;have hn':qs.Pairwise (fun a b=>a.1≠b.1):=ZA.1 hn;exact (hs.and hn').imp (fun {a b} h=>by have h1:=h.1;have h2:=h.2;omega)
def CollP (D:DataW Unit) (f:Sta) (left:Lit->Bool) (ps:List Plc):Prop:=
 (ps.map (·.1)).Nodup/\(∀p∈ps,f p.1=some p/\left (.int .i64 p.1)=false)/\∀k,Wf k->has D (.int .i64 k)=true->left (.int .i64 k)=false->k∈ps.map (·.1)
theorem tP (D:DataW Unit) (f:Sta):CollP D f (has D) []:=⟨List.nodup_nil,fun p hp=>by simp at hp,fun k _ h1 h2=>by rw [h1] at h2;cases h2⟩
theorem km (a b:Int):Lit.sameKey (.int .i64 a) (.int .i64 b)=decide (a=b):=by
 by_cases h:a=b
 ·subst h;rw [WideAt.sameKey_self (show WideAt.IsKeyLit (.int .i64 a) from trivial)];simp
 rw [sameKey_ne (lB h)];simp [h]
theorem CollP.step {left:Lit->Bool} (h:CollP D f left ps) {c:Plc} (hl:left (.int .i64 x)=true) (hf:f x=some c) (hk:c.1=x):CollP D f (fun z=>left z && !z.sameKey (.int .i64 x)) (ps++ [c]):=by
 obtain ⟨h1,h2,h3⟩:=h;refine ⟨?_,fun p hp=> ?_,fun k hw hh hlk=> ?_⟩
 ·rw [uI,Ze];refine ⟨h1,zv,fun a ha b hb=> ?_⟩;simp only [uG,ZR,uq] at hb;subst hb;intro e;obtain ⟨p,hp,rfl⟩:=ut.1 ha;have:=(h2 p hp).2;rw [e,hk,hl] at this
  cases this
 ·rcases vW.1 hp with hp | hp
  ·have:=h2 p hp;exact ⟨this.1,by show (left (.int .i64 p.1) &&_)=false;rw [this.2];rfl⟩
  simp only [uq] at hp;subst hp;refine ⟨by rw [hk];exact hf,?_⟩
  show (left (.int .i64 p.1) && !Lit.sameKey (.int .i64 p.1) (.int .i64 x))=false
  rw [hk,km];simp
 have hlk:(left (.int .i64 k) && !Lit.sameKey (.int .i64 k) (.int .i64 x))=false:=hlk;rw [km] at hlk;rw [uI];by_cases e:k=x
 ·subst e;simp [hk]
 refine uF _ (h3 k hw hh ?_);simpa [e] using hlk
theorem CollP.all {left:Lit->Bool} (h:CollP D f left ps) (hr:ReadsAs D f) (G:gr f) (hl:∀kl,left kl=false):AllP f ps:=by
 refine ⟨h.1,fun p=>⟨fun hp=>(h.2.1 p hp).1,fun hp=> ?_⟩⟩;have hw:=Ki G hp;have hm:=h.2.2 p.1 hw (by rw [hr.has hw,hp];rfl) (hl _);obtain ⟨q,hq,e⟩:=ut.1 hm;have:=(h.2.1 q hq).1;rw [e,hp] at this
 cases this
 exact hq
theorem JD (hr:ReadsAs D f) (G:gr f) {c:Plc} (hw:Wf x) (hat:∀zd,D.atKey (.int .i64 x) zd=dat c):f x=some c/\c.1=x:=by
 have hh:=hr.has hw;rw [has_true_of_atKey hat] at hh
 cases hf:f x with
 | none=>rw [hf] at hh;cases hh
 | some p=>
  have:=hr.some hw hf .nil;rw [hat] at this;rw [tL this];exact ⟨rfl,G.key x p hf⟩
theorem Bg (F:Fence) (n:Nat) (h8:F.fn 167) (hro:F.round=none) (hn:1<=n) (l Bm b nn:Nat) (D0:DataW Unit) (f:Sta) (hr:ReadsAs D0 f) (G:gr f) (J Jx:List Plc->World->Prop)
  (hY:∀pre x W,J pre W->pre.length<nn->YieldAt F (n - 1) prog l #[kE x] W fun e W'=>
   (e= .returned (.bool true)/\J (pre++ [x]) W'/\KeepsWalks W W')\/(e= .returned (.bool false)/\Jx (pre++ [x]) W'))
  (W:World) (hJ:AbidesFrom W.heap.size J) (hm:W.cell? ⟨Bm,0,none⟩=some (.map (some b))) (hown:W.ownsMap prog 3 IU b nn D0) (h0:J [] W):
  CallsIn F n prog 167 #[.func (.yield l) #[] #[],.pointer (some ⟨Bm,0,none⟩)] W fun e W'=>(∃v,e= .returned v)/\
   ((∃xs,AllP f xs/\J xs W')\/(∃pre,True/\Jx pre W')):=by
 refine callsIn_of_wp func167 rfl h8 ?_ hro;simp only [ntmps167,uA,uu,uM,Nat.reduceAdd,Nat.reduceSub,uT,uU,Zh,uX,Zb,Zl];have hsn:=hown.size_le
 gi_wp2_with (first
  | (gi_at_range;refine wpListIn_range_own _ rfl _ 184 rfl 3 106 (int_keyed underlying3) underlying184 _ b nn _ rfl hown ?_;intro w0 hrg0 hg0 hs0)
  | gi_in)
 go_frame
 gi_loopw [4] (fun _ wr=>∃(left:Lit->Bool) (cnt:Nat) (ps:List Plc),wr.ranges prog 3 IU b W.heap.size nn D0 left cnt/\ps.length+cnt<=nn/\CollP D0 f left ps/\J ps wr)
  (fun _ wr=>wr.rangeLeft b W.heap.size)
 case atStart=>
  exact ⟨_,_,[],hrg0,by simpa using hsn,tP D0 f,hJ [] W w0 none h0 hg0 (fun r e=>yL)⟩
 case round=>
  obtain ⟨left,cnt,ps,hrg,hcs,hC,hJs⟩:=hrel
  gi_wp2_with (first
   | (gi_at_next;refine wpListIn_next_ranges _ rfl _ rfl 3 (int_keyed underlying3) IU (Value.int .i64) kE (fun key kl hk=>qM) (fun v y hv=>by obtain ⟨c,rfl,_⟩:=kq hv;exact ⟨c,rfl⟩) b W.heap.size nn _ _ _ rfl hrg ?_ ?_)
   | gi_in)
  ·exact ko7
  intro x c1 c2 c3 kl yd yp w2 cnt2 hkey hlk hv hat hrg2 hlt hg2 hs2 hen;obtain ⟨x',ex,rfl,hwx⟩:=Maps.keyOf_int_inv underlying3 hkey
  obtain rfl:x=x':=by simpa using ex
  obtain ⟨c',ec,ez⟩:=kq hv;obtain rfl:(c1,c2,c3)=c':=Hy ec;obtain rfl:yd=dat (c1,c2,c3):=(Prod.mk.inj ez).1;obtain ⟨hfx,hcx⟩:=JD hr G hwx hat;have hcx:c1=x:=hcx;subst hcx;have hJ2:J ps w2:=hJ ps wr w2 (some W.heap.size) hJs hg2 (fun r e=>jw);have hJ3:J ps (w2.alloc (.cells #[.int .i64 c1,.int .i64 c2,.string c3] 106)):=hJ ps w2 _ none hJ2 (World.grownBy_alloc w2 _ none) (fun r e=>yL);obtain ⟨fn,tmps,assign,body,hy,hR⟩:=hY ps (c1,c2,c3) _ hJ3 zo;unfold kE at hy hen;dsimp only at hy hen;have hrg3:=hrg2.alloc (.cells #[.int .i64 c1,.int .i64 c2,.string c3] 106);have hC2:=hC.step hlk hfx rfl;have H3:Aside (RoundIn F (n - 1) prog l fn tmps assign body _ _):=hR;clear hs2 hR hJ2 hJ3;unfold kE;dsimp only;gi_wp2;refine RoundIn.mono H3.o ?_;rintro e W3 (⟨rfl,hJ4,hk4⟩ | ⟨rfl,hJx4⟩)
  ·gi_wp2;have hrg4:=hrg3.of_walks hk4;go_roundw
   case rel=>exact ⟨_,cnt2,ps++ [(c1,c2,c3)],hrg4,zr,hC2,hJ4⟩
   case measure=>rw [hrg4.left_eq,hrg.left_eq];exact hlt
  gi_wp2;refine bodyPost_ret (results_none rfl _ _ _) rfl ?_;exact ⟨⟨_,rfl⟩,.inr ⟨ps++ [(c1,c2,c3)],trivial,hJx4⟩⟩
theorem Cw (F:Fence) (n:Nat) (hf:F.fn 101) (hro:F.round=none) (mb:Option Nat) (w:World):
  CallsIn F n prog 101 #[.map mb] w fun e w'=>e= .returned (.func (.func 167) #[] #[.pointer (some ⟨w.heap.size,0,none⟩)])/\w'=w.alloc (.cells #[.map mb] 184):=by
 refine callsIn_of_wp func101 rfl hf ?_ hro;simp only [ntmps101,uA,uu,uM,Nat.reduceAdd,Nat.reduceSub,uT,uU,Zh,uX,Zb,Zl];gi_wp2;go_ret;exact km8
theorem rH (F:Fence) (n:Nat) (h8:F.fn 167) (hro:F.round=none) (hn:1<=n) (Bm b nn:Nat) (f:Sta) (G:gr f) (w:World) (hBm:Bm<w.heap.size) (hm:w.cell? ⟨Bm,0,none⟩=some (.map (some b))) (hM:MapAt prog 3 w b nn f):
  SeqStopsK F n prog 167 #[.pointer (some ⟨Bm,0,none⟩)] (fun x:Plc=> #[kE x]) KeepsWalks (fun xs=>AllP f xs) (fun _=>True) nn w:=fun l J Jx W hW hJ _ hY h0=>by
 have hbl:=hM.lt;obtain ⟨D,hown,hr⟩:=hM.same (hW.block b hbl);exact Bg F n h8 hro hn l Bm b nn D f hr G J Jx hY W hJ ((hW.cell (p:=⟨Bm,0,none⟩) hBm).trans hm) hown h0
end
section
open Go.Shelf
set_option maxRecDepth 100000
def rM:Ren:=⟨fun | 6=>157 | 14=>209 | 15=>203 | 20=>262 | 21=>263 | 22=>264 | 23=>265 | 24=>266 | 25=>267 | 26=>268 | 27=>269 | 28=>252 | 29=>253 | 46=>297 | 47=>290 | 48=>291 | 49=>298 | 50=>299 | 57=>314 | n=>n,fun | 0=>0 | 3=>3 | 4=>4 | 5=>5 | 9=>9 | 22=>103 | 24=>106 | 25=>189 | 39=>295 | 45=>344 | 46=>345 | 50=>88 | 53=>351 | 55=>336 | 66=>371 | 70=>375 | 76=>390 | 77=>113 | n=>n,fun n=>n⟩
theorem wC:SlLaysF0.n6 prog rM where
 mixed:=zq
 f6:=⟨ "slices.SortFunc[[]concordat/tree.Place,concordat/tree.Place]",zq,func157.trans (congrArg some zq)⟩
 f14:=⟨ "slices.pdqsortCmpFunc[concordat/tree.Place]",zq,func209.trans (congrArg some zq)⟩
 f15:=func203.trans (congrArg some zq)
 f20:=⟨ "slices.insertionSortCmpFunc[concordat/tree.Place]",zq,func262.trans (congrArg some zq)⟩
 f21:=⟨ "slices.heapSortCmpFunc[concordat/tree.Place]",zq,func263.trans (congrArg some zq)⟩
 f22:=⟨ "slices.breakPatternsCmpFunc[concordat/tree.Place]",zq,func264.trans (congrArg some zq)⟩
 f23:=⟨ "slices.choosePivotCmpFunc[concordat/tree.Place]",zq,func265.trans (congrArg some zq)⟩
 f24:=⟨ "slices.reverseRangeCmpFunc[concordat/tree.Place]",zq,func266.trans (congrArg some zq)⟩
 f25:=⟨ "slices.partialInsertionSortCmpFunc[concordat/tree.Place]",zq,func267.trans (congrArg some zq)⟩
 f26:=⟨ "slices.partitionEqualCmpFunc[concordat/tree.Place]",zq,func268.trans (congrArg some zq)⟩
 f27:=⟨ "slices.partitionCmpFunc[concordat/tree.Place]",zq,func269.trans (congrArg some zq)⟩
 f28:=func252.trans (congrArg some zq)
 f29:=func253.trans (congrArg some zq)
 f46:=⟨ "slices.siftDownCmpFunc[concordat/tree.Place]",zq,func297.trans (congrArg some zq)⟩
 f47:=func290.trans (congrArg some zq)
 f48:=func291.trans (congrArg some zq)
 f49:=⟨ "slices.medianAdjacentCmpFunc[concordat/tree.Place]",zq,func298.trans (congrArg some zq)⟩
 f50:=⟨ "slices.medianCmpFunc[concordat/tree.Place]",zq,func299.trans (congrArg some zq)⟩
 f57:=⟨ "slices.order2CmpFunc[concordat/tree.Place]",zq,func314.trans (congrArg some zq)⟩
 t0:=underlying0
 a0:=isAgg0
 z0:=sizeOf0
 v0:=zeroValue0
 t3:=underlying3
 a3:=isAgg3
 z3:=sizeOf3
 v3:=zeroValue3
 t4:=underlying4
 a4:=isAgg4
 z4:=sizeOf4
 v4:=zeroValue4
 t5:=underlying5
 a5:=isAgg5
 z5:=sizeOf5
 v5:=zeroValue5
 t9:=underlying9
 a9:=isAgg9
 z9:=sizeOf9
 v9:=zeroValue9
 t22:=underlying103
 a22:=isAgg103
 z22:=sizeOf103
 v22:=zeroValue103
 t25:=underlying189
 a25:=isAgg189
 z25:=sizeOf189
 v25:=zeroValue189
 t39:=underlying295
 a39:=isAgg295
 z39:=sizeOf295
 v39:=zeroValue295
 t45:=underlying344
 a45:=isAgg344
 z45:=sizeOf344
 v45:=zeroValue344
 t46:=underlying345
 a46:=isAgg345
 z46:=sizeOf345
 v46:=zeroValue345
 t50:=underlying88
 a50:=isAgg88
 z50:=sizeOf88
 v50:=zeroValue88
 t53:=underlying351
 a53:=isAgg351
 z53:=sizeOf351
 v53:=zeroValue351
 t55:=underlying336
 a55:=isAgg336
 z55:=sizeOf336
 v55:=zeroValue336
 t66:=underlying371
 a66:=isAgg371
 z66:=sizeOf371
 v66:=zeroValue371
 t70:=underlying375
 a70:=isAgg375
 z70:=sizeOf375
 v70:=zeroValue375
 t76:=underlying390
 a76:=isAgg390
 z76:=sizeOf390
 v76:=zeroValue390
 t77:=underlying113
 a77:=isAgg113
 z77:=sizeOf113
 v77:=zeroValue113
end
section
open Go.Shelf Go.RowKit Go.Lib Go.Sort
def LJ (a b:Int):Int:=if a<b then -1 else if b<a then 1 else 0
theorem Ed (a:Int) (w:World):Calls prog 168 #[.int .i64 a] w fun e w'=>e= .returned (.bool false)/\w'=w:=by
 have d0:(a !=a)=false:=zv;go_enter func168,ntmps168;exact kb4
theorem th (a b:Int) (w:World):Calls prog 103 #[.int .i64 a,.int .i64 b] w fun e w'=>e= .returned (.int .i64 (LJ a b))/\w'=w:=by
 unfold LJ;by_cases h1:a<b
 ·have d1:decide (a<b)=true:=decide_eq_true h1;rw [if_pos h1];exact kg1
 have d1:decide (a<b)=false:=decide_eq_false h1;rw [if_neg h1];by_cases h2:b<a
 ·have d2:decide (b<a)=true:=decide_eq_true h2;rw [if_pos h2];exact kg1
 have d2:decide (b<a)=false:=decide_eq_false h2;rw [if_neg h2];exact kg1
def JR (x y:Plc):Int:=LJ x.1 y.1
theorem iY (x y:Plc):ltOf JR x y=decide (x.1<y.1):=by
 unfold ltOf JR LJ;by_cases h1:x.1<y.1
 ·simp [h1]
 rw [if_neg h1];by_cases h2:y.1<x.1<;>simp [h1,h2]
theorem Gj:SWO (ltOf JR) where
 irrefl x:=by rw [iY];simp
 trans x y z h1 h2:=by rw [iY] at*;simp at*;omega
 ntrans x y z h1 h2:=by rw [iY] at*;simp at*;omega
theorem GV (x y:Plc) (w:World):Calls prog 102 (#[.agg (aM x).toArray,.agg (aM y).toArray]++ #[]) w fun e w'=>e= .returned (.int .i64 (JR x y))/\∃q os',w'=grow (w.drewN q) os':=by
 have hc:∀w',Calls prog 103 #[.int .i64 x.1,.int .i64 y.1] w' fun e w''=>e= .returned (.int .i64 (JR x y))/\w''=w':=fun w'=>th _ _ _
 unfold aM;go_enter func102,ntmps102;go_wp2_with (go_at_call 103;refine (hc _).mono ?_;rintro e w' ⟨rfl,rfl⟩);exact kf3
theorem DY (blk off size:Nat) (w:World):CmpLays prog 102 #[] aM 3 JR blk off size w:=fun _ _ _ _ x y=>GV x y _
theorem Jh:∀args w,(callFunc 102 args).run prog w= .ok (.enter 102 args) w:=enters_of func102 zq rfl
theorem dB (x:Plc):(aM x).length=3:=rfl
theorem dD (x:Plc):∀v∈aM x,v.oneCell'=true:=by
 intro v hv;simp only [aM,vT,ZI,or_false] at hv;exact kp8
theorem li (w:World) (g n:Nat) (d:Array Plc) (os:Array Obj):Keeps (fun k=>k=g) w (sortWorldK aM 3 w g 0 n d os):=by
 refine ⟨rfl,rfl,rfl,?_,fun k hk hs=> ?_⟩
 ·exact ko2
 exact ke9
theorem KA {base cap n:Nat} (h:w.ownsRow base 106 3 (.slice (some ⟨g,0,none⟩) n cap) n (aA aM ps)) (hn:n=ps.length):HoldsK aM 3 w g 0 ps.toArray:=fun j hj=>by
 rw [size_flatK] at hj;simp only [uA] at hj;have h1:j / 3<ps.length:=zo;have h2:j / 3*3+j % 3=j:=zo;refine ⟨?_,qd⟩;rw [vY,h.cellAt j zo,get_flatK _ _ _ _ yO];have:=dM (enc:=aM) dB (L:=ps) (i:=j / 3) (c:=j % 3) (x:=ps[j / 3]) (vN h1) zo;rw [h2] at this;rw [this,getElem!_pos ps.toArray (j / 3) xu,ZC,vN qS,getElem!_pos _ (j % 3) qS];rfl
theorem sU {d:Array Plc} (h:HoldsK aM 3 w g 0 d) (j:Nat) (u:Value) (hj:(aA aM d.toList)[j]? =some u):w.cell? ⟨g,j,none⟩=some u:=by
 have hl:=(vL.1 hj).1;rw [bR dB,uw] at hl;have h1:j / 3<d.size:=zo;have h2:j / 3*3+j % 3=j:=zo;have H:=(h j qV).1;rw [vY,get_flatK _ _ _ _ zo] at H;have:=dM (enc:=aM) dB (L:=d.toList) (i:=j / 3) (c:=j % 3) (x:=d[j / 3]) (by rw [Yk,Zx h1]) zo;rw [h2,hj,vN qS] at this;rw [H,getElem!_pos d (j / 3) h1,getElem!_pos _ (j % 3) qS,this];rfl
theorem Ks (w:World) (base g cap:Nat) (ps:List Plc) (hown:w.ownsRow base 106 3 (.slice (some ⟨g,0,none⟩) ps.length cap) ps.length (aA aM ps)) (hl:ps.length<=100000):
  Calls prog 157 #[.slice (some ⟨g,0,none⟩) ps.length cap,.func (.func 102) #[] #[]] w fun e w'=>e= .returned (.tuple #[])/\∃qs:List Plc,qs.Perm ps/\qs.Pairwise (fun a b=>¬b.1<a.1)/\(∀j u,(aA aM qs)[j]? =some u->w'.cell? ⟨g,j,none⟩=some u)/\Keeps (fun k=>k=g) w w':=by
 have hH:=KA hown rfl;have hblk:g<w.heap.size:=(hown.lt g rfl).2;have h:=AnyQ.slices_SortFunc wC 3 isAgg106 sizeOf106 aM dB dD JR Gj 102 #[] g 0 cap ps.toArray w Jh (DY g 0 ps.toArray.size w) hH hblk zr;refine Calls.mono h ?_;rintro e w' ⟨rfl,d',n,os,hp,hs,rfl⟩;simp only [uA] at hp hs;have hsz:d'.size=ps.length:=xY
 have hperm:d'.toList.Perm ps:=by
  exact kd2
 refine ⟨rfl,d'.toList,hperm,?_,?_,li w g n d' os⟩
 ·rw [ud];intro i j hi hj hij;have hi':i<d'.size:=qG;have hj':j<d'.size:=yO;have:=hs i j (vV _) hij zo;rw [iY,getElem!_pos d' i hi',getElem!_pos d' j hj'] at this;simpa using this
 exact sU ((show SWK aM 3 w g 0 d' _ from ⟨n,os,rfl⟩).holds hblk hH (by rw [hsz];simp))
theorem sW (p:Option Addr) (cap:Nat) (fv:Value) (w:World):Calls prog 157 #[.slice p 0 cap,fv] w fun e w'=>e= .returned (.tuple #[])/\w'=w:=
 AnyF.slices_SortFunc_none wC p cap fv w
end
section
open Go.RowKit Go.Shelf Go.Maps
attribute [local go_sem] Oper.semAt_some
theorem Kf:(prog.info? 106).map (fun i=>(i.zero,i.size,i.bytes))=some (some (.agg #[.int .i64 0,.int .i64 0,.string ⟨#[]⟩]),3,32):=zq
theorem Ae (w:World) (p:Plc) (j:Nat) (u:Value) (hj:(aM p)[j]? =some u):(w.alloc (.cells #[.int .i64 p.1,.int .i64 p.2.1,.string p.2.2] 106)).cell? ((⟨w.heap.size,0,none⟩:Addr).add j)=some u:=by
 rw [Addr.add_lit,vY];have h:=heap_alloc_new w (.cells #[.int .i64 p.1,.int .i64 p.2.1,.string p.2.2] 106);simp only [World.cell?,h];rw [<-hj];simp [aM]
theorem oZ (w:World) (Bm b nn:Nat) (f:Sta) (G:gr f) (hBm:Bm<w.heap.size) (hm:w.cell? ⟨Bm,0,none⟩=some (.map (some b))) (hM:MapAt prog 3 w b nn f) (hnn:nn<=2000000):
  Calls prog 215 #[.slice none 0 0,.func (.func 167) #[] #[.pointer (some ⟨Bm,0,none⟩)]] w fun e w'=>∃v ps,e= .returned v/\AllP f ps/\ps.length<=nn/\w'.ownsRow w.heap.size 106 3 v ps.length (aA aM ps)/\Below w.heap.size w w':=by
 obtain ⟨i0,hi,hz0,hz1,hz2⟩:=info_parts Kf;refine (callsIn_wide (n:=4)).1 ?_;refine callsIn_of_wp_marks func215 rfl trivial ?_ rfl;simp only [ntmps215,uA,uu,uM,Nat.reduceAdd,Nat.reduceSub,uT,uU,Zh,uX,Zb,Zl];gi_wp2;obtain ⟨w1,hw1⟩:=zc (w.alloc (.cells #[.slice none 0 0] 103));rw [<-hw1];have hB0:Below w.heap.size w w1:=qj;have hs1:w1.heap.size=w.heap.size+1:=xS;obtain ⟨B,hB⟩:=zc w.heap.size;have e1:Boxed w1 B 103 (.slice none 0 0):=qU
 rw [<-hB] at hB0 hs1 hBm |-
 have HB:Aside (B=w.heap.size):=hB;have hBw:B<=w.heap.size:=zo;clear hB;have hm1:=(hB0.cell (p:=⟨Bm,0,none⟩) hBm).trans hm;have hM1:=hM.same (hB0.block b (by have:=HB.o;have:=hM.lt;omega));clear hw1 hm hM
 refine wpIn_rangeFunc_ownH rfl zo (gf:=167) (lb:= #[.pointer (some ⟨Bm,0,none⟩)]) rfl trivial (enters_of func167 zq rfl)
  (rH Fence.wide (4 - 1) trivial rfl zo Bm b nn f G w1 zo hm1 hM1) walksK_t (walksK_b (w:=w1)) (vP _ _) (fun _=>rfl)
  (fun pre W=>((∃v,Boxed W B 103 v/\W.ownsRow B 106 3 v pre.length (aA aM pre)/\pre.length<=nn))/\(w1.heap.size<=W.heap.size/\Below B w W))
  (fun _ _ _=>False)
  (OwnFrom.and (Own.from (holdsRow_own B B 103 106 3 (fun pre=>pre.length) (fun pre=>aA aM pre) (fun pre _=>pre.length<=nn)) _) (OwnFrom.and (fun _ X Y row hs hg _=>uf hs hg.size) (ownFrom_below zo zo)))
  (fun _ _ _ _ _ hs _ _=>hs)
  ⟨⟨_,e1,un w1 B _ _,vV _⟩,vM _,hB0⟩
  (fun x a' W=>∃Bx,w1.heap.size<=Bx/\PlcAt W Bx x/\a'= {tmps:= #[.slice none 0 0,.func (.func 167) #[] #[.pointer (some ⟨Bm,0,none⟩)],.pointer (some ⟨B,0,none⟩),undef,.slice none 0 0,.pointer (some ⟨Bx,0,none⟩),.func (.func 167) #[] #[.pointer (some ⟨Bm,0,none⟩)],.agg #[.int .i64 x.1,.int .i64 x.2.1,.string x.2.2],undef,undef,undef,undef,undef],defers:=[]})
  (fun x a'=>Own.from (fun _ X Y row hs hg hr=>yi) _)
  ?assign ?body ?done ?stop
 case assign=>
  rintro l pre x W K ⟨⟨v,hv,hrow,hpl⟩,hsz,hBW⟩ hK;have hK':Aside _:=hK;have hBs:B<=W.heap.size:=zo;clear hK;unfold kE;gi_wp2;refine hK'.o _ _ ((KeepsOthers.alloc _ _).from _) (KeepsOthers.alloc _ _).walks ⟨⟨v,hv.alloc _,hrow.alloc _,hpl⟩,zr,hBW.alloc hBs _⟩ ⟨W.heap.size,zo,heap_alloc_new W _,rfl⟩
 case body=>
  rintro l pre x a' W hl _ ⟨⟨v,hv,hrow,hpl⟩,hsz,hBW⟩ ⟨Bx,hBx,hE,rfl⟩ hlt;have g1:=hv.cell;have f0:=hE.c0;have f1:=hE.c1;have f2:=hE.c2;have hBs:B<=W.heap.size:=zo;gi_wp2_with (gi_at_builtin;refine wpListIn_append_own _ rfl _ _ 103 rfl B 106 i0 _ 3 32 underlying103 hi hz0 hz1 hz2 rfl zo _ _ _ rfl (hrow.alloc _) ⟨W.heap.size,0,none⟩ 1 1 (aM x) rfl rfl (Ae W x) (dD x) zH zo zr ?_;intro v' w2 hown' hgrow _;obtain ⟨g',cap',rfl⟩:=ownsRow_succ hown';obtain ⟨hv1,hv2,hr2,hk2,hb2⟩:=hv.appended zu hrow hBs zg hown' hgrow;have hc1:=hv1.cell;have hf1:=hv1.frozen);exact ⟨hk2.from _,hk2.walks,⟨⟨_,hv2,by rw [ub,Zp,bX];simpa [aA] using hr2,zr⟩,jX,hBW.trans hb2⟩⟩
 case done=>
  rintro D ys W hD hall ⟨⟨v,hv,hrow,hpl⟩,hsz,hBW⟩ hK;have g1:=hv.cell;gi_wp2;refine ⟨zv,.inl ⟨_,_,rfl,run_takeDeferred hK,?_⟩⟩;refine ⟨v,by simp [results,f215,go_sem],v,ys,rfl,hall,hpl,?_,?_⟩
  ·exact kp3
  exact kg2
 case stop=>
  exact kp0
def PlsAt (w:World) (v:Value) (qs:List Plc):Prop:=(v= .slice none 0 0/\qs= [])\/∃g cap,v= .slice (some ⟨g,0,none⟩) qs.length cap/\g<w.heap.size/\∀j u,(aA aM qs)[j]? =some u->w.cell? ⟨g,j,none⟩=some u
theorem PlsAt.later {w':World} {v:Value} (h:PlsAt w v qs) (hb:Below w.heap.size w w'):PlsAt w' v qs:=by
 rcases h with h | ⟨g,cap,h1,h2,h3⟩
 ·exact .inl h
 exact .inr ⟨g,cap,h1,um h2 hb.size,fun j u hj=>(hb.cell (p:=⟨g,j,none⟩) h2).trans (h3 j u hj)⟩
theorem se (w:World) (Bm b nn:Nat) (f:Sta) (G:gr f) (hBm:Bm<w.heap.size) (hm:w.cell? ⟨Bm,0,none⟩=some (.map (some b))) (hM:MapAt prog 3 w b nn f) (hnn:nn<=2000000):
  Calls prog 166 #[.func (.func 167) #[] #[.pointer (some ⟨Bm,0,none⟩)]] w fun e w'=>∃v ps,e= .returned v/\AllP f ps/\ps.length<=nn/\w'.ownsRow w.heap.size 106 3 v ps.length (aA aM ps)/\Below w.heap.size w w':=by
 have hc:=oZ w Bm b nn f G hBm hm hM hnn;go_enter func166,ntmps166;go_wp2_with fail;refine hc.mono ?_;clear hc;rintro e w' ⟨v,ps,rfl,H⟩;have HH:Aside (AllP f ps/\ps.length<=nn/\w'.ownsRow w.heap.size 106 3 v ps.length (aA aM ps)/\Below w.heap.size w w'):=H;clear H;go_wp2;go_ret;exact ⟨v,ps,rfl,HH.o⟩
theorem BB (w:World) (Bm b nn:Nat) (f:Sta) (G:gr f) (hBm:Bm<w.heap.size) (hm:w.cell? ⟨Bm,0,none⟩=some (.map (some b))) (hM:MapAt prog 3 w b nn f) (hnn:nn<=100000):
  Calls prog 100 #[.func (.func 167) #[] #[.pointer (some ⟨Bm,0,none⟩)],.func (.func 102) #[] #[]] w fun e w'=>∃v qs,e= .returned v/\IsPlaces f qs/\qs.length<=nn/\PlsAt w' v qs/\Below w.heap.size w w'/\∀g,v.ownBlock=some g->w.heap.size<=g:=by
 have hc:=se w Bm b nn f G hBm hm hM zo;go_enter func100,ntmps100;go_wp2_with fail;refine hc.mono ?_;clear hc;rintro e w1 ⟨v,ps,rfl,hall,hpl,hown,hb⟩
 rcases hown.2 with ⟨rfl,h0⟩ | ⟨g,cap,cur,rfl,hbg,-⟩
 ·have hps:ps= []:=uh.1 h0
  have HH:Aside (IsPlaces f []/\Below w.heap.size w w1):=⟨by subst hps;exact hall.places (List.Perm.refl _) List.Pairwise.nil,hb⟩
  clear hall hown hb hps h0;go_wp2_with (go_at_call 157;refine (sW none 0 _ _).mono ?_;rintro e w' ⟨rfl,rfl⟩);go_ret;exact ⟨_,[],rfl,HH.o.1,vV _,.inl ⟨rfl,rfl⟩,HH.o.2,fun g e=>yL⟩
 have hs:=Ks w1 w.heap.size g cap ps hown zo;have hgl:=(hown.lt g rfl).2
 have HH:Aside (AllP f ps/\ps.length<=nn/\Below w.heap.size w w1/\w.heap.size<=g/\g<w1.heap.size):=⟨hall,hpl,hb,hbg,hgl⟩
 clear hall hown hb hpl hbg hgl;go_wp2_with fail;refine hs.mono ?_;clear hs;rintro e w2 ⟨rfl,qs,hp,hpw,hcells,hk⟩
 have H2:Aside (IsPlaces f qs/\qs.length=ps.length/\qs.length<=nn/\(∀j u,(aA aM qs)[j]? =some u->w2.cell? ⟨g,j,none⟩=some u)/\Below w.heap.size w w2/\g<w2.heap.size/\w.heap.size<=g):=
  ⟨HH.o.1.places hp (List.Pairwise.imp (fun {a b} h=>zo) hpw),hp.length_eq,jR,hcells,HH.o.2.2.1.trans (hk.below (HH.o.2.2.1.size) (fun k e=>by have:=HH.o.2.2.2.1;omega)),um HH.o.2.2.2.2 hk.size,HH.o.2.2.2.1⟩
 clear hp hpw hcells hk HH;go_wp2;go_ret;exact ⟨_,qs,rfl,H2.o.1,H2.o.2.2.1,.inr ⟨g,cap,by rw [H2.o.2.1];rfl,H2.o.2.2.2.2.2.1,H2.o.2.2.2.1⟩,H2.o.2.2.2.2.1,fun k e=>by cases e;exact H2.o.2.2.2.2.2.2⟩
theorem AF (w:World) (bt bm nn:Nat) (v0:Value) (f:Sta) (G:gr f) (hT:TreeCell w bt bm v0) (hM:MapAt prog 3 w bm nn f) (hnn:nn<=100000):
  Calls prog 42 #[.pointer (some ⟨bt,0,none⟩)] w fun e w'=>∃v qs,e= .returned v/\IsPlaces f qs/\qs.length<=nn/\PlsAt w' v qs/\Below w.heap.size w w'/\∀g,v.ownBlock=some g->w.heap.size<=g:=by
 have t0:=hT.c0;have hv:=callsIn_wide.1 (Cw Fence.wide 3 trivial rfl (some bm) w);have hb1:Below w.heap.size w (w.alloc (.cells #[.map (some bm)] 184)):=zh w _;have hbox:Boxed (w.alloc (.cells #[.map (some bm)] 184)) w.heap.size 184 (.map (some bm)):=heap_alloc_new w _;have hs:=BB (w.alloc (.cells #[.map (some bm)] 184)) w.heap.size bm nn f G zv hbox.cell (hM.same (hb1.block bm hM.lt)) hnn;go_enter func42,ntmps42;go_wp2_with (go_at_call 101;refine hv.mono ?_;clear hv;rintro e w' ⟨rfl,rfl⟩);refine hs.mono ?_;clear hs;rintro e w2 ⟨v,qs,rfl,h1,h2,h3,h4,h5⟩
 have HH:Aside (IsPlaces f qs/\qs.length<=nn/\PlsAt w2 v qs/\Below w.heap.size w w2/\∀g,v.ownBlock=some g->w.heap.size<=g):=⟨h1,h2,h3,hb1.trans (h4.mono zv),fun g hg=>by have:=h5 g hg;simp at this;omega⟩
 clear h1 h2 h3 h4 h5 hb1 hbox;go_wp2;go_ret;exact ⟨v,qs,rfl,HH.o⟩
end
section
open Go.RowKit Go.Lib Go.Sort
theorem Bn (h:RowsN R) :KnownN (aR R) id↔∃x,fL R id=some x/\kdO x=109/\aL x=id:=by
 constructor
 ·exact kr0
 exact kr3
theorem tj (h:RowsN R) {nd:Int} :LetterN (aR R) nd id↔∃x,fL R id=some x/\kdO x=105/\aL x=nd:=by
 constructor
 ·exact kr0
 exact kr3
theorem eB (w:World) (ao:Nat->Option Addr) (cap:Nat->Nat) (R:Rws) (id:Int) (z:Bool) (hz:z=true↔KnownN (aR R) id) (hE:Op4 ad w) (hK:KnownAt w ao R) (hR:RowsN R) (hl:∀i,i<4->(R i).length<=1000) (h2: -9223372036854775808<=id) (h3:id<=9223372036854775807):
  Calls prog 132 #[kV ao cap R,.int .i64 id] w fun e w'=>e= .returned (.bool z)/\Below w.heap.size w w':=by
 obtain ⟨U,hU⟩:=zc (w.alloc (.cells #[.slice (ao 0) (R 0).length (cap 0),.slice (ao 1) (R 1).length (cap 1),.slice (ao 2) (R 2).length (cap 2),.slice (ao 3) (R 3).length (cap 3)] 65));have hb:Below w.heap.size w U:=zW;have hcall:=pY U ao cap R id (hE.later hb) (hK.later hb) hR hl h2 h3;rw [Bn hR] at hz
 unfold kV at hcall |-
 have HB:Aside (Below w.heap.size w U):=hb;clear hb
 cases hf:fL R id with
 | none=>
  have hzf:z=false:=by
   cases z with
   | false=>rfl
   | true=>obtain ⟨x,e,_⟩:=hz.1 rfl;rw [hf] at e;cases e
  subst hzf;rw [hf] at hcall;unfold aD aV at hcall;clear hf hz;go_enter func132,ntmps132;exact kg9
 | some x=>
  obtain ⟨t,b,n,k,nd,o,s,v⟩:=x
  have HZ:Aside (z=(decide (k=109) &&decide (nd=id))):=by
   show z=(decide (k=109) &&decide (nd=id))
   rw [Yi,hz,uB,decide_eq_true_iff,decide_eq_true_iff];constructor
   ·exact kr1
   rintro ⟨k1,k2⟩;exact ⟨_,hf,k1,k2⟩
  rw [hf] at hcall;unfold aD at hcall;dsimp only [Option.getD_some] at hcall;clear hf hz;by_cases hk:k=109
  ·subst hk;go_enter func132,ntmps132;exact kf7
  have dk:((k:Int)==109)=false:=zr;go_enter func132,ntmps132;exact kg3
theorem kG (w:World) (ao:Nat->Option Addr) (cap:Nat->Nat) (R:Rws) (node id:Int) (z:Bool) (hz:z=true↔LetterN (aR R) node id) (hE:Op4 ad w) (hK:KnownAt w ao R) (hR:RowsN R) (hl:∀i,i<4->(R i).length<=1000) (h2: -9223372036854775808<=id) (h3:id<=9223372036854775807):
  Calls prog 184 #[kV ao cap R,.int .i64 node,.int .i64 id] w fun e w'=>e= .returned (.bool z)/\Below w.heap.size w w':=by
 obtain ⟨U,hU⟩:=zc (w.alloc (.cells #[.slice (ao 0) (R 0).length (cap 0),.slice (ao 1) (R 1).length (cap 1),.slice (ao 2) (R 2).length (cap 2),.slice (ao 3) (R 3).length (cap 3)] 65));have hb:Below w.heap.size w U:=zW;have hcall:=pY U ao cap R id (hE.later hb) (hK.later hb) hR hl h2 h3;rw [tj hR] at hz
 unfold kV at hcall |-
 have HB:Aside (Below w.heap.size w U):=hb;clear hb
 cases hf:fL R id with
 | none=>
  have hzf:z=false:=by
   cases z with
   | false=>rfl
   | true=>obtain ⟨x,e,_⟩:=hz.1 rfl;rw [hf] at e;cases e
  subst hzf;rw [hf] at hcall;unfold aD aV at hcall;clear hf hz;go_enter func184,ntmps184;exact kg9
 | some x=>
  obtain ⟨t,b,n,k,nd,o,s,v⟩:=x
  have HZ:Aside (z=(decide (k=105) &&decide (nd=node))):=by
   show z=(decide (k=105) &&decide (nd=node))
   rw [Yi,hz,uB,decide_eq_true_iff,decide_eq_true_iff];constructor
   ·exact kr1
   rintro ⟨k1,k2⟩;exact ⟨_,hf,k1,k2⟩
  rw [hf] at hcall;unfold aD at hcall;dsimp only [Option.getD_some] at hcall;clear hf hz;by_cases hk:k=105
  ·subst hk;go_enter func184,ntmps184;exact kf7
  have dk:((k:Int)==105)=false:=zr;go_enter func184,ntmps184;exact kg3
theorem gw (w:World) (ao:Nat->Option Addr) (cap:Nat->Nat) (R:Rws) (id:Int) (z:Bool) (hz:z=true↔id=0\/id=1\/KnownN (aR R) id) (hE:Op4 ad w) (hK:KnownAt w ao R) (hR:RowsN R) (hl:∀i,i<4->(R i).length<=1000) (h2: -9223372036854775808<=id) (h3:id<=9223372036854775807):
  Calls prog 104 #[kV ao cap R,.int .i64 id] w fun e w'=>e= .returned (.bool z)/\Below w.heap.size w w':=by
 obtain ⟨U,hU⟩:=zc (w.alloc (.cells #[.slice (ao 0) (R 0).length (cap 0),.slice (ao 1) (R 1).length (cap 1),.slice (ao 2) (R 2).length (cap 2),.slice (ao 3) (R 3).length (cap 3)] 65));have hb:Below w.heap.size w U:=zW;have HB:Aside (Below w.heap.size w U):=hb;by_cases h0:id=0
 ·obtain rfl:z=true:=hz.2 (.inl h0);subst h0;exact kl5
 by_cases h1:id=1
 ·obtain rfl:z=true:=hz.2 (.inr (.inl h1));subst h1;exact kl5
 have hz':z=true↔KnownN (aR R) id:=hz.trans ⟨fun q=>(q.resolve_left h0).resolve_left h1,fun q=>.inr (.inr q)⟩;have hcall:=eB U ao cap R id z hz' (hE.later hb) (hK.later hb) hR hl h2 h3;have d0:(id==0)=false:=xK
 have d1:(id==1)=false:=by simp [h1]
 unfold kV at hcall |-
 clear hb hz hz';go_enter func104,ntmps104;go_wp2_with fail;rw [<-hU];clear hU;refine hcall.mono ?_;clear hcall;rintro e w1 ⟨rfl,hb1⟩;have B1:Aside (Below w.heap.size w w1):=zj HB.o hb1;clear hb1 HB;go_wp2;go_ret;exact ⟨rfl,B1.o⟩
theorem Es {S:List OpX} {x:OpX} (hx:x∈S) (ho:0<=aJ x):RefOk S x↔KnownN S (aL x)/\(kdO x=109->aJ x=0\/aJ x=1\/KnownN S (aJ x))/\(kdO x=105->aJ x=0\/LetterN S (aL x) (aJ x))/\(kdO x=100->LetterN S (aL x) (aJ x)):=by
 constructor
 ·rintro ⟨h1,h2,h3⟩;refine ⟨?_,h2,fun k=> ?_,fun k=>h3 (.inr k)⟩
  ·rcases h1 with ⟨k,e⟩ | k
   ·exact ⟨x,hx,k,rfl,e⟩
   exact k
  by_cases e:aJ x=0
  ·exact .inl e
  exact .inr (h3 (.inl ⟨k,zo⟩))
 rintro ⟨h1,h2,h3,h4⟩;exact ⟨.inr h1,h2,fun k=>k.elim (fun k=>(h3 k.1).resolve_left zo) h4⟩
theorem DA (w:World) (ao:Nat->Option Addr) (cap:Nat->Nat) (R:Rws) (x:OpX) (hx:x∈aR R) (z:Bool) (hz:z=true↔RefOk (aR R) x) (hE:Op4 ad w) (hK:KnownAt w ao R) (hR:RowsN R) (hl:∀i,i<4->(R i).length<=1000):
  Calls prog 118 #[kV ao cap R,aD x] w fun e w'=>e= .returned (.bool z)/\Below w.heap.size w w':=by
 have hid:=ku (hR.num.ok x hx);have hrf:=dG (hR.num.ok x hx);rw [Es hx zo] at hz;obtain ⟨t,b,n,k,nd,o,s,v⟩:=x;have q1:nd<=idO (t,b,n,k,nd,o,s,v):=hrf.1.elim (fun q=>q.2) (fun q=>Int.le_of_lt q);have q2:o<idO (t,b,n,k,nd,o,s,v):=hrf.2.1;have q3:0<=nd:=hrf.2.2.1;have q4:0<=o:=hrf.2.2.2.1
 have hn0:0<=nd/\nd<=4294967300:=⟨q3,zo⟩
 have ho0:0<=o/\o<=4294967300:=⟨q4,zo⟩
 clear q1 q2 q3 q4;change z=true↔KnownN (aR R) nd/\(k=109->o=0\/o=1\/KnownN (aR R) o)/\(k=105->o=0\/LetterN (aR R) nd o)/\(k=100->LetterN (aR R) nd o) at hz;clear hid hrf;obtain ⟨U,hU⟩:=zc ((w.alloc (.cells #[.slice (ao 0) (R 0).length (cap 0),.slice (ao 1) (R 1).length (cap 1),.slice (ao 2) (R 2).length (cap 2),.slice (ao 3) (R 3).length (cap 3)] 65)).alloc (.cells #[.int .i64 t,.int .i64 b,.int .i64 n,.int .u8 (k:Int),.int .i64 nd,.int .i64 o,.string s,.string v] 38));obtain ⟨S,hS⟩:=zc w.heap.size;have hb:Below w.heap.size w U:=zP
 have hz1:OpBlk U (S+1) (t,b,n,k,nd,o,s,v):=by
  rw [hU,hS];have:=heap_alloc_new (w.alloc (.cells #[.slice (ao 0) (R 0).length (cap 0),.slice (ao 1) (R 1).length (cap 1),.slice (ao 2) (R 2).length (cap 2),.slice (ao 3) (R 3).length (cap 3)] 65)) (.cells #[.int .i64 t,.int .i64 b,.int .i64 n,.int .u8 (k:Int),.int .i64 nd,.int .i64 o,.string s,.string v] 38);exact ki3
 have hk:KBox U S ao cap R:=zY
 obtain ⟨zn,hzn⟩:∃zn:Bool,zn=true↔KnownN (aR R) nd:=by
  by_cases q:KnownN (aR R) nd
  ·exact ⟨true,by simp [q]⟩
  exact ⟨false,by simp [q]⟩
 have hcall:=eB U ao cap R nd zn hzn (hE.later hb) (hK.later hb) hR hl zo zo
 have HB:Aside (Below w.heap.size w U/\KBox U S ao cap R/\OpBlk U (S+1) (t,b,n,k,nd,o,s,v)):=⟨hb,hk,hz1⟩
 unfold kV at hcall |-
 unfold aD;clear hb hk hz1;go_enter func118,ntmps118;go_wp2_with fail;rw [<-hU,<-hS];clear hU hS;refine hcall.mono ?_;clear hcall;rintro e w1 ⟨rfl,hb1⟩
 have H1:Aside (Below w.heap.size w w1/\KBox w1 S ao cap R/\OpBlk w1 (S+1) (t,b,n,k,nd,o,s,v)):=⟨zj HB.o.1 hb1,HB.o.2.1.later hb1,HB.o.2.2.later hb1⟩
 obtain ⟨y0,y1,y2,y3,y4,y5,y6,y7,f8⟩:=H1.o.2.2.cells;dsimp only at y0 y1 y2 y3 y4 y5 y6 y7;have k0:=H1.o.2.1.at (i:=0) zo;have k1:=H1.o.2.1.at (i:=1) zo;have k2:=H1.o.2.1.at (i:=2) zo;have k3:=H1.o.2.1.at (i:=3) zo;have hE1:=hE.later H1.o.1;have hK1:=hK.later H1.o.1;clear hb1 HB
 cases zn with
 | false=>
  have hzf:z=false:=by
   cases z with
   | false=>rfl
   | true=>exact absurd (hzn.2 (hz.1 rfl).1) zu
  subst hzf;clear hz hzn;exact kr2
 | true=>
  have hkn:=hzn.1 rfl;clear hzn;by_cases hm:k=109
  ·subst hm;have hz':z=true↔o=0\/o=1\/KnownN (aR R) o:=hz.trans ⟨fun q=>q.2.1 rfl,fun q=>⟨hkn,fun _=>q,fun k=>absurd k zu,fun k=>absurd k zu⟩⟩;have hcall:=gw w1 ao cap R o z hz' hE1 hK1 hR hl zo zo;exact kc8
  have dm:((k:Int)==109)=false:=zr;by_cases hi:k=105
  ·subst hi;by_cases h0:o=0
   ·subst h0;obtain rfl:z=true:=hz.2 ⟨hkn,fun k=>absurd k zu,fun _=>.inl rfl,fun k=>absurd k zu⟩;clear hz;exact kr2
   have d0:(o==0)=false:=xK;have hz':z=true↔LetterN (aR R) nd o:=hz.trans ⟨fun q=>(q.2.2.1 rfl).resolve_left h0,fun q=>⟨hkn,fun k=>absurd k zu,fun _=>.inr q,fun k=>absurd k zu⟩⟩;have hcall:=kG w1 ao cap R nd o z hz' hE1 hK1 hR hl zo zo;exact kc8
  have di:((k:Int)==105)=false:=zr;by_cases hd:k=100
  ·subst hd;have hz':z=true↔LetterN (aR R) nd o:=hz.trans ⟨fun q=>q.2.2.2 rfl,fun q=>⟨hkn,fun k=>absurd k zu,fun k=>absurd k zu,fun _=>q⟩⟩;have hcall:=kG w1 ao cap R nd o z hz' hE1 hK1 hR hl zo zo;exact kc8
  have dd:((k:Int)==100)=false:=zr;obtain rfl:z=true:=hz.2 ⟨hkn,fun k=>absurd k hm,fun k=>absurd k hi,fun k=>absurd k hd⟩;clear hz;exact kr2
