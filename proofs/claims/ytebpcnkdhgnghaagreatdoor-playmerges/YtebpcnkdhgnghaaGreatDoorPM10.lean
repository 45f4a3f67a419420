import Derived.Test.YtebpcnkdhgnghaaGreatDoorPM05
import Derived.Test.YtebpcnkdhgnghaaGreatDoorPM06
import Derived.RangeFuncNested
import Derived.TacticsInMore
import Derived.LoopNIn
import Derived.LoopIn
import Derived.Sort.MapsRangeIn
set_option linter.unusedSimpArgs false
set_option linter.unusedVariables false
set_option maxRecDepth 100000
set_option maxHeartbeats 64000000
namespace Go.Proofs.YtebpcnkdhgnghaaGreatDoor
open Go.Proofs.Tryz
variable {D:DataW Unit} {x:Ent} {s:Int×Int} {L:List Ent} {ps:List Plc} {xs:List Value} {B N b base bm bt cap g h i k n:Nat} {p:Plc} {f:Sta} {u v:Value} {W W' w w':World}
section
open Go.RowKit Go.Shelf
attribute [local go_sem] Oper.semAt_some
def gE (x:Ent):List Value:=[.int .i64 x.1.1.1,.int .i64 x.1.1.2,.int .i64 x.1.2.1,.int .i64 x.1.2.2.1,.string x.1.2.2.2,.int .i64 x.2.1,.int .i64 x.2.2.1,.string x.2.2.2]
theorem ed (x:Ent):(gE x).length=8:=rfl
theorem wa (x:Ent):∀v∈gE x,v.oneCell'=true:=by
 intro v hv;simp only [gE,vJ,Zr,or_false] at hv;exact kk6
def Nd:Ent:=(((0,0),cU),cU)
def cE (L:List Ent) (r:Nat):Ent:=L.getD (L.length - 1 - r) Nd
def MR (L:List Ent) (r:Nat):Array Value:= #[.int .i64 ((L.length - 1 - r:Nat):Int),.agg #[.int .i64 (cE L r).1.1.1,.int .i64 (cE L r).1.1.2,.int .i64 (cE L r).1.2.1,.int .i64 (cE L r).1.2.2.1,.string (cE L r).1.2.2.2,.int .i64 (cE L r).2.1,.int .i64 (cE L r).2.2.1,.string (cE L r).2.2.2]]
def KeepTwo (g h:Nat) (W W':World):Prop:=W'.heap[g]? =W.heap[g]? /\W'.heap[h]? =W.heap[h]?
theorem KeepTwo.refl (g h:Nat) (W:World):KeepTwo g h W W:=⟨rfl,rfl⟩
theorem KeepTwo.trans {g h:Nat} {A B C:World} (x:KeepTwo g h A B) (y:KeepTwo g h B C):KeepTwo g h A C:=⟨y.1.trans x.1,y.2.trans x.2⟩
theorem KeepTwo.put (hg:g<N) (hh:h<N) (W:World) (l:Nat) (o':Obj) (hl:N<=l):KeepTwo g h W (W.putObj l o'):=
 ⟨World.putObj_heap_other zj,World.putObj_heap_other zj⟩
def RowAt (W:World) (g off:Nat) (L:List Ent):Prop:=∀j u,(aI gE L)[j]? =some u->W.cell? ⟨g,off+j,none⟩=some u
theorem RowAt.same {off:Nat} (h:RowAt W g off L) (e:W'.heap[g]? =W.heap[g]?):RowAt W' g off L:=fun j u hj=>by
 have:=h j u hj;rw [<-this];exact uc (a:=⟨g,off+j,none⟩) e
theorem RowAt.at {off:Nat} (h:RowAt W g off L) (hx:L[i]? =some x) (c:Nat) (hu:(gE x)[c]? =some u):W.cell? ⟨g,off+i*8+c,none⟩=some u:=by
 have hc:c<8:=by have:=(vA.1 hu).1;rwa [ed] at this
 rw [uT];exact h _ u (by rw [cX ed hx hc];exact hu)
theorem IP (F:Fence) (n:Nat) (h7:F.fn 308) (hro:F.round=none) (hn:1<=n) (l Bs g off cap:Nat) (ao:Option Addr) (L:List Ent) (hlen:L.length<=1000) (hao:L= []\/ao=some ⟨g,off,none⟩) (J Jx:List Nat->World->Prop)
  (hY:∀pre x W,J pre W->pre.length<L.length->YieldAt F (n - 1) prog l (MR L x) W fun e W'=>
   (e= .returned (.bool true)/\J (pre++ [x]) W'/\KeepTwo g Bs W W')\/(e= .returned (.bool false)/\Jx (pre++ [x]) W'))
  (W:World) (hBs:W.cell? ⟨Bs,0,none⟩=some (.slice ao L.length cap)) (hc:RowAt W g off L) (h0:J [] W):
  CallsIn F n prog 308 #[.func (.yield l) #[] #[],.pointer (some ⟨Bs,0,none⟩)] W fun e W'=>(∃v,e= .returned v)/\
   ((∃ys,ys=List.range L.length/\J ys W')\/(∃pre,(∃k,k<=L.length/\pre=List.range k)/\Jx pre W')):=by
 refine callsIn_of_wp func308 rfl h7 ?_ hro;simp only [ntmps308,uq,ud,uz,Nat.reduceAdd,Nat.reduceSub,uM,uN,uV,uO,uR,Zb];have hw0:IntKind.i64.wrap ((L.length:Int) - 1)=(L.length:Int) - 1:=zu;gi_wp2
 gi_loopw [3] (fun i wr=>∃k:Nat,k<=L.length/\i= .int .i64 ((L.length:Int) - 1 - k)/\J (List.range k) wr/\KeepTwo g Bs W wr)
  (fun i _=>(intOf i+1).toNat)
 case atStart=>exact ⟨0,vM _,zt,h0,KeepTwo.refl _ _ _⟩
 case round=>
  obtain ⟨k,hk,rfl,hJs,hnx⟩:=hrel;have hBs':wr.cell? ⟨Bs,0,none⟩=some (.slice ao L.length cap):=(uc (a:=⟨Bs,0,none⟩) hnx.2).trans hBs;by_cases hlt:k<L.length
  ·have hao':ao=some ⟨g,off,none⟩:=hao.resolve_left (fun e=>by rw [e] at hlt;simp at hlt);subst hao';obtain ⟨fn,tmps,assign,body,hy,hR⟩:=hY _ k wr hJs (by rw [List.length_range];exact hlt)
   have hix:L[L.length - 1 - k]? =some (cE L k):=by
    exact kh9
   have hrow:=hc.same hnx.1;obtain ⟨x,hx⟩:=zc (cE L k);rw [<-hx] at hix;obtain ⟨i,hi⟩:=zc (L.length - 1 - k);have hil:(L.length:Int) - 1 - k=(i:Int):=zj;have hilt:i<L.length:=zj;unfold MR at hy;rw [<-hx,<-hi] at hy;rw [<-hi] at hix;have c0:wr.cell? ⟨g,off+i*8,none⟩=some (.int .i64 x.1.1.1):=hrow.at hix 0 (u:=.int .i64 x.1.1.1) rfl;have c1:=hrow.at hix 1 (u:=.int .i64 x.1.1.2) rfl;have c2:=hrow.at hix 2 (u:=.int .i64 x.1.2.1) rfl;have c3:=hrow.at hix 3 (u:=.int .i64 x.1.2.2.1) rfl;have c4:=hrow.at hix 4 (u:=.string x.1.2.2.2) rfl;have c5:=hrow.at hix 5 (u:=.int .i64 x.2.1) rfl;have c6:=hrow.at hix 6 (u:=.int .i64 x.2.2.1) rfl;have c7:=hrow.at hix 7 (u:=.string x.2.2.2) rfl;rw [hil];have hw1:IntKind.i64.wrap ((i:Int) - 1)=(i:Int) - 1:=zu;have hi0:(0:Int)<=(i:Int):=zj;have hib:(i:Int)<(L.length:Int):=zj
   have HK:Aside (i=L.length - 1 - k/\k<L.length/\KeepTwo g Bs W wr):=⟨hi,hlt,hnx⟩
   have hR':Aside (RoundIn F (n - 1) prog l fn tmps assign body wr fun e W'=>(e= .returned (.bool true)/\J (List.range k++ [k]) W'/\KeepTwo g Bs wr W')\/(e= .returned (.bool false)/\Jx (List.range k++ [k]) W')):=hR;clear hi hil hlt hk hix hx hR hrow hnx hJs hY h0;gi_wp2;refine hR'.o.mono ?_;rintro e W3 (⟨rfl,hJ3,hk3⟩ | ⟨rfl,hJx3⟩)
   ·gi_wp2;go_roundw
    case rel=>exact ⟨k+1,by have:=HK.o;omega,by have:=HK.o;congr 1;omega,by rw [List.range_succ];exact hJ3,HK.o.2.2.trans hk3⟩
    case measure=>have:=HK.o;simp [intOf]
   gi_wp2;refine bodyPost_ret (results_none rfl _ _ _) rfl ?_;exact ⟨⟨_,rfl⟩,.inr ⟨_,⟨k+1,by have:=HK.o;omega,(List.range_succ).symm⟩,hJx3⟩⟩
  obtain rfl:k=L.length:=zj;gi_wp2;go_end0;exact ⟨⟨_,rfl⟩,.inl ⟨_,rfl,hJs⟩⟩
end
section
open Go.RowKit Go.Shelf
attribute [local go_sem] Oper.semAt_some
theorem Ow (a b c d:Int) (w:World):(Op.equalIn 10000 59 (.agg #[.int .i64 a,.int .i64 b]) (.agg #[.int .i64 c,.int .i64 d])).run prog w= .ok (decide ((a,b)=(c,d))) w:=by
 go_simp;by_cases h1:a=c<;>by_cases h2:b=d<;>simp [h1,h2]
theorem ru (a b:Int×Int):bM a.1 a.2 b.1 b.2=true↔SLt a b:=by
 unfold bM SLt;split<;>simp<;>omega
theorem Em (F:Fence) (n:Nat) (h5:F.fn 258) (hro:F.round=none) (a:Option Addr) (len cap:Nat) (w:World):
  CallsIn F n prog 258 #[.slice a len cap] w fun e w'=>e= .returned (.func (.func 308) #[] #[.pointer (some ⟨w.heap.size,0,none⟩)])/\w'=w.alloc (.cells #[.slice a len cap] 194):=by
 refine callsIn_of_wp func258 rfl h5 ?_ hro;simp only [ntmps258,uq,ud,uz,Nat.reduceAdd,Nat.reduceSub,uM,uN,uV,uO,uR,Zb];gi_wp2;go_ret;exact kl3
theorem nK (F:Fence) (n:Nat) (h7:F.fn 308) (hro:F.round=none) (hn:1<=n) (Bs g off cap:Nat) (ao:Option Addr) (L:List Ent) (hlen:L.length<=1000) (hao:L= []\/ao=some ⟨g,off,none⟩) (w:World) (hBs:Bs<w.heap.size) (hg:g<w.heap.size)
  (hc:w.cell? ⟨Bs,0,none⟩=some (.slice ao L.length cap)) (hI:RowAt w g off L):
  SeqStopsK F n prog 308 #[.pointer (some ⟨Bs,0,none⟩)] (MR L) (KeepTwo g Bs) (fun ys=>ys=List.range L.length) (fun pre=>∃k,k<=L.length/\pre=List.range k) L.length w:=fun l J Jx W hW _ _ hY h0=>by
 have hc':=(hW.cell (p:=⟨Bs,0,none⟩) hBs).trans hc;exact IP F n h7 hro hn l Bs g off cap ao L hlen hao J Jx hY W hc' (hI.same (hW.block g hg)) h0
def StAt (w:World) (b:Nat) (s:Int×Int):Prop:=w.heap[b]? =some (.cells #[.int .i64 s.1,.int .i64 s.2] 59 (0,0))
theorem StAt.c0 (h:StAt w b s):w.cell? ⟨b,0,none⟩=some (.int .i64 s.1):=by unfold StAt at h;simp [World.cell?,h]
theorem StAt.c1 (h:StAt w b s):w.cell? ⟨b,1,none⟩=some (.int .i64 s.2):=by unfold StAt at h;simp [World.cell?,h]
def EntAt (w:World) (b:Nat) (x:Ent):Prop:=w.heap[b]? =some (.cells #[.int .i64 x.1.1.1,.int .i64 x.1.1.2,.int .i64 x.1.2.1,.int .i64 x.1.2.2.1,.string x.1.2.2.2,.int .i64 x.2.1,.int .i64 x.2.2.1,.string x.2.2.2] 300 (0,0))
theorem EntAt.cell {w:World} {b:Nat} {x:Ent} (h:EntAt w b x) (c:Nat) {u:Value} (hu:(gE x)[c]? =some u):w.cell? ⟨b,c,none⟩=some u:=by
 unfold EntAt at h;simp only [World.cell?,h];rw [<-hu];simp [gE]
theorem bF {X Y:World} {row:Option Nat} {cs:Array Value} {t:TypeId} {fr:Nat×Nat} (h:X.heap[b]? =some (.cells cs t fr)) (hg:X.grownBy Y row) (hr:∀r,row=some r->∃o:Obj,X.heap[r]? =some o/\o.isCells=false):Y.heap[b]? =some (.cells cs t fr):=by
 refine (hg.block b (vD.1 h).1 (fun e=> ?_)).trans h;obtain ⟨o',ho',hc'⟩:=hr b e.symm;rw [h] at ho'
 cases ho'
 cases hc'
theorem NA (w:World) (o1 o2:Obj):((w.alloc o1).alloc o2).heap[w.heap.size]? =some o1/\((w.alloc o1).alloc o2).heap[w.heap.size+1]? =some o2:=by
 refine ⟨(vP _ _ _ zt).trans (heap_alloc_new w o1),?_⟩;have:=heap_alloc_new (w.alloc o1) o2;rwa [uD] at this
theorem NB (w:World) (o1 o2 o3 o4:Obj):((((w.alloc o1).alloc o2).alloc o3).alloc o4).heap[w.heap.size]? =some o1/\((((w.alloc o1).alloc o2).alloc o3).alloc o4).heap[w.heap.size+1]? =some o2/\((((w.alloc o1).alloc o2).alloc o3).alloc o4).heap[w.heap.size+1+1]? =some o3/\((((w.alloc o1).alloc o2).alloc o3).alloc o4).heap[w.heap.size+1+1+1]? =some o4:=by
 obtain ⟨a1,a2⟩:=NA w o1 o2;obtain ⟨a3,a4⟩:=NA ((w.alloc o1).alloc o2) o3 o4;simp only [uD] at a3 a4;exact ⟨(vP _ _ _ yT).trans ((vP _ _ _ yT).trans a1),(vP _ _ _ yT).trans ((vP _ _ _ yT).trans a2),a3,a4⟩
theorem sF {b1 b2:Nat} {t1 t2:TypeId} {v1 v2:Value} (u1 u2:Value) (h1:Boxed W b1 t1 v1) (h2:Boxed W b2 t2 v2) (hne:b1≠b2):
  Boxed ((W.setCell ⟨b1,0,none⟩ u1).setCell ⟨b2,0,none⟩ u2) b1 t1 u1/\Boxed ((W.setCell ⟨b1,0,none⟩ u1).setCell ⟨b2,0,none⟩ u2) b2 t2 u2:=
 ⟨(h1.set u1).kept (grownBy_setCell' _ _ _) (by simp [hne]),(h2.kept (grownBy_setCell' _ _ _) zq).set u2⟩
theorem fm (h:Below W.heap.size W W'):KeepsFrom N W W':=
 ⟨h.size,fun k _ _ hk _=>(h.block k (vD.1 hk).1).trans hk⟩
theorem pW (h:Below W.heap.size W W') (hg:g<W.heap.size) (hb:b<W.heap.size):KeepTwo g b W W':=⟨h.block g hg,h.block b hb⟩
theorem gQ {pre:List Nat} {x:Nat} (h:pre++ [x]=List.range (pre++ [x]).length):pre=List.range pre.length/\x=pre.length:=by
 rw [vN,Zc,List.range_succ] at h;have:=List.append_inj' h rfl;exact ⟨this.1,by simpa using this.2⟩
theorem oQ {r:Nat} (h:r<L.length):L[L.length - 1 - r]? =some (cE L r):=by
 exact kh9
theorem Ak (w:World) (bt g cap:Nat) (ao:Option Addr) (L:List Ent) (ms:List Mov) (s:Int×Int) (hm:L.map (·.1)=ms) (hby:bQ ms) (hlen:L.length<=1000) (hsl:w.cell? ⟨bt,1,none⟩=some (.slice ao L.length cap)) (hao:L= []\/ao=some ⟨g,0,none⟩) (hg:g<w.heap.size) (hrow:RowAt w g 0 L):
  Calls prog 199 #[.pointer (some ⟨bt,0,none⟩),.agg #[.int .i64 s.1,.int .i64 s.2]] w fun e w'=>(∃(i:Nat) (b:Bool),e= .returned (.tuple #[.int .i64 (i:Int),.bool b])/\sm ms s i b)/\Below w.heap.size w w':=by
 have hbt:bt<w.heap.size:=block_lt_of_cell hsl
 have hsl3:∀o1 o2 o3,(((w.alloc o1).alloc o2).alloc o3).cell? ⟨bt,1,none⟩=some (.slice ao L.length cap):=fun o1 o2 o3=>
  (((((vG w.heap.size w).alloc zg o1).alloc zt o2).alloc zq o3).cell (p:=⟨bt,1,none⟩) hbt).trans hsl
 refine (callsIn_wide (n:=4)).1 ?_;refine callsIn_of_wp_marks func199 rfl trivial ?_ rfl;simp only [ntmps199,uq,ud,uz,Nat.reduceAdd,Nat.reduceSub,uM,uN,uV,uO,uR,Zb];gi_wp2_with (refine ⟨trivial,?_⟩;gi_at_call 258;refine (Em Fence.wide (4 - 1) trivial rfl _ _ _ _).mono ?_;rintro e w' ⟨rfl,rfl⟩);obtain ⟨w4,hw4⟩:=zc ((((w.alloc (.cells #[.int .i64 s.1,.int .i64 s.2] 59)).alloc (.cells #[.int .i64 0] 3)).alloc (.cells #[.bool false] 4)).alloc (.cells #[.slice ao L.length cap] 194));rw [<-hw4]
 have hB0:Below w.heap.size w w4:=by rw [hw4];exact (((((vG w.heap.size w).alloc zg _).alloc zt _).alloc zq _).alloc zq _)
 have hs4:w4.heap.size=w.heap.size+4:=by rw [hw4];simp
 obtain ⟨B,hB⟩:=zc w.heap.size
 have e1:StAt w4 B s:=by rw [hw4,hB];exact (NB w _ _ _ _).1
 have e2:Boxed w4 (B+1) 3 (.int .i64 0):=by rw [hw4,hB];exact (NB w _ _ _ _).2.1
 have e3:Boxed w4 (B+1+1) 4 (.bool false):=by rw [hw4,hB];exact (NB w _ _ _ _).2.2.1
 have e4:Boxed w4 (B+1+1+1) 194 (.slice ao L.length cap):=by rw [hw4,hB];exact (NB w _ _ _ _).2.2.2
 rw [<-hB] at hB0 hs4 hg hbt |-
 have HB:Aside (B=w.heap.size):=hB;have hBw:B<=w.heap.size:=zj;clear hB;have hrow4:RowAt w4 g 0 L:=hrow.same (hB0.block g hg)
 have hms:ms.length=L.length:=by rw [<-hm];simp
 clear hw4 hsl3 hrow
 refine wpIn_rangeFunc_ownH rfl zj (gf:=308) (lb:= #[.pointer (some ⟨B+1+1+1,0,none⟩)]) rfl trivial (enters_of func308 zo rfl)
  (nK Fence.wide (4 - 1) trivial rfl zj (B+1+1+1) g 0 cap ao L hlen hao w4 zj zj e4.cell hrow4) KeepTwo.trans (fun W l o o' hl _ _ _=>KeepTwo.put (N:=w4.heap.size) zj zj W l o' hl) (vG _ _) (fun _=>rfl)
  (fun pre W=>((pre=List.range pre.length->Bc ms s (L.length - pre.length))/\StAt W B s/\Boxed W (B+1) 3 (.int .i64 0)/\Boxed W (B+1+1) 4 (.bool false)/\w4.heap.size<=W.heap.size)/\Below B w W)
  (fun c pre W=>(c= .ret/\(pre=List.range pre.length->∃(i:Nat) (b:Bool),sm ms s i b/\Boxed W (B+1) 3 (.int .i64 (i:Int))/\Boxed W (B+1+1) 4 (.bool b)))/\Below B w W)
  (OwnFrom.and (Own.from (fun _ X Y row hs hg hr=>⟨hs.1,bF hs.2.1 hg hr,bF hs.2.2.1 hg hr,bF hs.2.2.2.1 hg hr,vI hs.2.2.2.2 hg.size⟩) _) (ownFrom_below zj zj))
  (fun c=>OwnFrom.and (Own.from (fun _ X Y row hs hg hr=>⟨hs.1,fun hp=>by obtain ⟨i,b,f1,f2,f3⟩:=hs.2 hp;exact ⟨i,b,f1,bF f2 hg hr,bF f3 hg hr⟩⟩) _) (ownFrom_below zj zj))
  ⟨⟨fun _=>by rw [uz,Nat.sub_zero,<-hms];exact DI ms s,e1,e2,e3,vB _⟩,hB0⟩
  (fun x a' W=>∃Bx,w4.heap.size<=Bx/\EntAt W Bx (cE L x)/\a'= {tmps:= #[.pointer (some ⟨bt,0,none⟩),.agg #[.int .i64 s.1,.int .i64 s.2],undef,.pointer (some ⟨B,0,none⟩),.pointer (some ⟨B+1,0,none⟩),.pointer (some ⟨B+1+1,0,none⟩),.int .i64 ((L.length - 1 - x:Nat):Int),.pointer (some ⟨Bx,0,none⟩),.pointer (some ⟨bt,0,none⟩),.pointer (some ⟨bt,0,none⟩),.pointer (some ⟨bt,1,none⟩),.slice ao L.length cap,.func (.func 308) #[] #[.pointer (some ⟨B+1+1+1,0,none⟩)],.int .i64 ((L.length - 1 - x:Nat):Int),.agg #[.int .i64 (cE L x).1.1.1,.int .i64 (cE L x).1.1.2,.int .i64 (cE L x).1.2.1,.int .i64 (cE L x).1.2.2.1,.string (cE L x).1.2.2.2,.int .i64 (cE L x).2.1,.int .i64 (cE L x).2.2.1,.string (cE L x).2.2.2],undef,undef,undef,undef,undef,undef,undef,undef,undef,undef,undef],defers:=[]})
  (fun x a'=>Own.from (fun _ X Y row hs hg hr=>yg) _)
  ?assign ?body ?done ?stop
 case assign=>
  rintro l pre x W K ⟨⟨hlat,hst,hr1,hr2,hsz⟩,hBW⟩ hK;have hBs:B<=W.heap.size:=zj;have hK':Aside _:=hK
  have H1:Aside (StAt W B s/\Boxed W (B+1) 3 (.int .i64 0)/\Boxed W (B+1+1) 4 (.bool false)/\Below B w W):=⟨hst,hr1,hr2,hBW⟩
  clear hK hst hr1 hr2 hBW;unfold MR;gi_wp2;refine hK'.o _ _ ((KeepsOthers.alloc _ _).from _) ⟨vP _ _ _ zj,vP _ _ _ zj⟩ ⟨⟨hlat,?_,H1.o.2.1.alloc _,H1.o.2.2.1.alloc _,zq⟩,H1.o.2.2.2.alloc hBs _⟩ ⟨W.heap.size,zj,heap_alloc_new W _,rfl⟩;exact (vP _ _ _ zj).trans H1.o.1
 case body=>
  rintro l pre x a' W hl _ ⟨⟨hlat,hst,hr1,hr2,hsz⟩,hBW⟩ ⟨Bx,hBx,hE,rfl⟩ hlt;have k0:=hst.c0;have k1:=hst.c1;have f0:=hE.cell 0 (u:=.int .i64 (cE L x).1.1.1) rfl;have f1:=hE.cell 1 (u:=.int .i64 (cE L x).1.1.2) rfl;have g1:=hr1.cell;have g2:=hr1.frozen;have g3:=hr2.cell;have g4:=hr2.frozen;have hq:=Ow (cE L x).1.1.1 (cE L x).1.1.2 s.1 s.2;by_cases he:(cE L x).1.1=s
  ·have hd:decide (((cE L x).1.1.1,(cE L x).1.1.2)=(s.1,s.2))=true:=decide_eq_true he;rw [hd] at hq;gi_wp2;obtain ⟨q1,q2⟩:=sF (.int .i64 ((L.length - 1 - x:Nat):Int)) (.bool true) hr1 hr2 zj;refine ⟨((KeepsOthers.setCell _ _ _).trans (KeepsOthers.setCell _ _ _)).from _,⟨rfl,fun hp=> ?_⟩,(hBW.setCell (p:=⟨B+1,0,none⟩) jI _).setCell (p:=⟨B+1+1,0,none⟩) js _⟩;obtain ⟨hp1,hp2⟩:=gQ hp;have hix:=oQ (L:=L) (r:=x) zj;exact ⟨L.length - 1 - x,true,Cw (m:=(cE L x).1) (by rw [<-hm,uG,hix];rfl) he,q1,q2⟩
  have hd:decide (((cE L x).1.1.1,(cE L x).1.1.2)=(s.1,s.2))=false:=decide_eq_false he;rw [hd] at hq;by_cases hls:SLt (cE L x).1.1 s
  ·have hlb:=(ru (cE L x).1.1 s).2 hls;have hless:=pQ (cE L x).1.1.1 (cE L x).1.1.2 s.1 s.2 W;rw [hlb] at hless;have hw1:IntKind.i64.wrap (((L.length - 1 - x:Nat):Int)+1)=((L.length - 1 - x:Nat):Int)+1:=zu
   have G:Aside (Boxed W (B+1) 3 (.int .i64 0)/\Boxed W (B+1+1) 4 (.bool false)):=⟨hr1,hr2⟩
   gi_wp2_with (refine ⟨trivial,?_⟩;gi_at_call 128;refine (CallsIn.inRound l (callsIn_wide.2 hless)).mono ?_;rintro e w' ⟨rfl,hb'⟩;have G1:Aside (Boxed w' (B+1) 3 (.int .i64 0)/\Boxed w' (B+1+1) 4 (.bool false)):=⟨(hb'.block _ zj).trans G.o.1,(hb'.block _ zj).trans G.o.2⟩;have m1:=G1.o.1.cell;have m2:=G1.o.1.frozen;have m3:=G1.o.2.cell;have m4:=G1.o.2.frozen);obtain ⟨q1,q2⟩:=sF (.int .i64 (((L.length - 1 - x:Nat):Int)+1)) (.bool false) G1.o.1 G1.o.2 zj;refine ⟨(fm hb').trans (((KeepsOthers.setCell _ _ _).trans (KeepsOthers.setCell _ _ _)).from _),⟨rfl,fun hp=> ?_⟩,((hBW.trans (hb'.mono zj)).setCell (p:=⟨B+1,0,none⟩) jI _).setCell (p:=⟨B+1+1,0,none⟩) js _⟩;obtain ⟨hp1,hp2⟩:=gQ hp;have hix:=oQ (L:=L) (r:=x) zj;exact ⟨L.length - 1 - x+1,false,By (m:=(cE L x).1) hby (by have:=hlat hp1;rwa [show L.length - pre.length=L.length - 1 - x+1 by omega] at this) (by rw [<-hm,uG,hix];rfl) hls,q1,q2⟩
  have hlb:bM (cE L x).1.1.1 (cE L x).1.1.2 s.1 s.2=false:=by
   cases hh:bM (cE L x).1.1.1 (cE L x).1.1.2 s.1 s.2 with
   | false=>rfl
   | true=>exact absurd ((ru (cE L x).1.1 s).1 hh) hls
  have hless:=pQ (cE L x).1.1.1 (cE L x).1.1.2 s.1 s.2 W;rw [hlb] at hless;gi_wp2_with (refine ⟨trivial,?_⟩;gi_at_call 128;refine (CallsIn.inRound l (callsIn_wide.2 hless)).mono ?_;rintro e w' ⟨rfl,hb'⟩);refine ⟨fm hb',pW hb' zj zj,⟨⟨fun hp=> ?_,(hb'.block _ zj).trans hst,(hb'.block _ zj).trans hr1,(hb'.block _ zj).trans hr2,by have:=hb'.size;omega⟩,hBW.trans (hb'.mono zj)⟩⟩;obtain ⟨hp1,hp2⟩:=gQ hp;have hix:=oQ (L:=L) (r:=x) zj;have h1:=hlat hp1;rw [show L.length - pre.length=L.length - 1 - x+1 by omega] at h1;rw [vN,Zc,show L.length - (pre.length+1)=L.length - 1 - x by omega];exact Bf (m:=(cE L x).1) h1 (by rw [<-hm,uG,hix];rfl) he hls
 case done=>
  rintro D ys W hD rfl ⟨⟨hlat,hst,hr1,hr2,hsz⟩,hBW⟩ hK;have g1:=hr1.cell;have g2:=hr1.frozen;have g3:=hr2.cell;have g4:=hr2.frozen;gi_wp2;have hK':=((KeepsOthers.setCell W ⟨B+1,0,none⟩ (.int .i64 0)).trans (KeepsOthers.setCell _ ⟨B+1+1,0,none⟩ (.bool false))).same D _ hK rfl;refine ⟨zt,.inl ⟨_,_,rfl,run_takeDeferred hK',?_⟩⟩;obtain ⟨q1,q2⟩:=sF (.int .i64 0) (.bool false) hr1 hr2 zj;have q3:Boxed _ (B+1) 3 (.int .i64 0):=bF q1 (grownBy_putObj' _ D (.deferred none)) (fun r e=>by cases e;exact ⟨_,hK',rfl⟩);have q4:Boxed _ (B+1+1) 4 (.bool false):=bF q2 (grownBy_putObj' _ D (.deferred none)) (fun r e=>by cases e;exact ⟨_,hK',rfl⟩);have q5:=q3.cell;have q6:=q4.cell;refine ⟨.tuple #[.int .i64 0,.bool false],?_,⟨0,false,rfl,tP (by have:=hlat zt;simpa using this)⟩,?_⟩
  ·simp [results,f199,go_sem,q5,q6]
  rw [<-HB.o];exact ((hBW.setCell (p:=⟨B+1,0,none⟩) jI _).setCell (p:=⟨B+1+1,0,none⟩) js _).trans (belowK_b (w:=w) zj _ D _ _ yN hK' rfl rfl)
 case stop=>
  rintro D c pre W hD ⟨k,hk,rfl⟩ ⟨⟨rfl,hf⟩,hBW⟩ hK;obtain ⟨i,b,hF,hr1,hr2⟩:=hf zt;gi_wp2;refine ⟨zt,.inl ⟨_,_,rfl,run_takeDeferred hK,?_⟩⟩;have q3:Boxed _ (B+1) 3 (.int .i64 (i:Int)):=bF hr1 (grownBy_putObj' _ D (.deferred none)) (fun r e=>by cases e;exact ⟨_,hK,rfl⟩);have q4:Boxed _ (B+1+1) 4 (.bool b):=bF hr2 (grownBy_putObj' _ D (.deferred none)) (fun r e=>by cases e;exact ⟨_,hK,rfl⟩);have q5:=q3.cell;have q6:=q4.cell;refine ⟨.tuple #[.int .i64 (i:Int),.bool b],?_,⟨i,b,rfl,hF⟩,?_⟩
  ·simp [results,f199,go_sem,q5,q6]
  exact ke8
end
section
open Go.RowKit Go.Shelf Go.Maps
open scoped Classical
attribute [local go_sem] Oper.semAt_some
def AllP (f:Sta) (ps:List Plc):Prop:=(ps.map (·.1)).Nodup/\∀p,p∈ps↔f p.1=some p
theorem AllP.places {qs:List Plc} (h:AllP f ps) (hp:qs.Perm ps) (hs:qs.Pairwise (fun a b=>¬b.1<a.1)):IsPlaces f qs:=by
 refine ⟨?_,fun p=>(hp.mem_iff).trans (h.2 p)⟩;have hn:(qs.map (·.1)).Nodup:=(hp.map _).nodup_iff.2 h.1;have hn':qs.Pairwise (fun a b=>a.1≠b.1):=Zp.1 hn;exact (hs.and hn').imp (fun {a b} h=>by have h1:=h.1;have h2:=h.2;omega)
def CollP (D:DataW Unit) (f:Sta) (left:Lit->Bool) (ps:List Plc):Prop:=
 (ps.map (·.1)).Nodup/\(∀p∈ps,f p.1=some p/\left (.int .i64 p.1)=false)/\∀k,Wf k->has D (.int .i64 k)=true->left (.int .i64 k)=false->k∈ps.map (·.1)
theorem sd (D:DataW Unit) (f:Sta):CollP D f (has D) []:=⟨ZI,fun p hp=>by simp at hp,fun k _ h1 h2=>by rw [h1] at h2;cases h2⟩
theorem kj (a b:Int):Lit.sameKey (.int .i64 a) (.int .i64 b)=decide (a=b):=by
 by_cases h:a=b
 ·subst h;rw [WideAt.sameKey_self (show WideAt.IsKeyLit (.int .i64 a) from trivial)];simp
 rw [sameKey_ne (lf h)];simp [h]
theorem CollP.step {left:Lit->Bool} (h:CollP D f left ps) {x:Int} {c:Plc} (hl:left (.int .i64 x)=true) (hf:f x=some c) (hk:c.1=x):CollP D f (fun z=>left z && !z.sameKey (.int .i64 x)) (ps++ [c]):=by
 obtain ⟨h1,h2,h3⟩:=h;refine ⟨?_,fun p hp=> ?_,fun k hw hh hlk=> ?_⟩
 ·rw [un,uH];refine ⟨h1,zt,fun a ha b hb=> ?_⟩;simp only [ut,ZF,vR] at hb;subst hb;intro e;obtain ⟨p,hp,rfl⟩:=uh.1 ha;have:=(h2 p hp).2;rw [e,hk,hl] at this
  cases this
 ·rcases vL.1 hp with hp | hp
  ·have:=h2 p hp;exact ⟨this.1,by show (left (.int .i64 p.1) &&_)=false;rw [this.2];rfl⟩
  simp only [vR] at hp;subst hp;refine ⟨by rw [hk];exact hf,?_⟩
  show (left (.int .i64 p.1) && !Lit.sameKey (.int .i64 p.1) (.int .i64 x))=false
  rw [hk,kj];simp
 have hlk:(left (.int .i64 k) && !Lit.sameKey (.int .i64 k) (.int .i64 x))=false:=hlk;rw [kj] at hlk;rw [un];by_cases e:k=x
 ·subst e;simp [hk]
 refine uk _ (h3 k hw hh ?_);simpa [e] using hlk
theorem CollP.all {left:Lit->Bool} (h:CollP D f left ps) (hr:ReadsAs D f) (G:gj f) (hl:∀kl,left kl=false):AllP f ps:=by
 refine ⟨h.1,fun p=>⟨fun hp=>(h.2.1 p hp).1,fun hp=> ?_⟩⟩;have hw:=NF G hp;have hm:=h.2.2 p.1 hw (by rw [hr.has hw,hp];rfl) (hl _);obtain ⟨q,hq,e⟩:=uh.1 hm;have:=(h.2.1 q hq).1;rw [e,hp] at this
 cases this
 exact hq
theorem Ld (hr:ReadsAs D f) (G:gj f) {x:Int} {c:Plc} (hw:Wf x) (hat:∀zd,D.atKey (.int .i64 x) zd=dat c):f x=some c/\c.1=x:=by
 have hh:=hr.has hw;rw [has_true_of_atKey hat] at hh
 cases hf:f x with
 | none=>rw [hf] at hh;cases hh
 | some p=>
  have:=hr.some hw hf .nil;rw [hat] at this;rw [wB this];exact ⟨rfl,G.key x p hf⟩
theorem CH (F:Fence) (n:Nat) (h8:F.fn 170) (hro:F.round=none) (hn:1<=n) (l Bm b nn:Nat) (D0:DataW Unit) (f:Sta) (hr:ReadsAs D0 f) (G:gj f) (J Jx:List Plc->World->Prop)
  (hY:∀pre x W,J pre W->pre.length<nn->YieldAt F (n - 1) prog l #[kC x] W fun e W'=>
   (e= .returned (.bool true)/\J (pre++ [x]) W'/\KeepsWalks W W')\/(e= .returned (.bool false)/\Jx (pre++ [x]) W'))
  (W:World) (hJ:AbidesFrom W.heap.size J) (hm:W.cell? ⟨Bm,0,none⟩=some (.map (some b))) (hown:W.ownsMap prog 3 Ji b nn D0) (h0:J [] W):
  CallsIn F n prog 170 #[.func (.yield l) #[] #[],.pointer (some ⟨Bm,0,none⟩)] W fun e W'=>(∃v,e= .returned v)/\
   ((∃xs,AllP f xs/\J xs W')\/(∃pre,True/\Jx pre W')):=by
 refine callsIn_of_wp func170 rfl h8 ?_ hro;simp only [ntmps170,uq,ud,uz,Nat.reduceAdd,Nat.reduceSub,uM,uN,uV,uO,uR,Zb];have hsn:=hown.size_le
 gi_wp2_with (first
  | (gi_at_range;refine wpListIn_range_own _ rfl _ 193 rfl 3 119 (int_keyed underlying3) underlying193 _ b nn _ rfl hown ?_;intro w0 hrg0 hg0 hs0)
  | gi_in)
 go_frame
 gi_loopw [4] (fun _ wr=>∃(left:Lit->Bool) (cnt:Nat) (ps:List Plc),wr.ranges prog 3 Ji b W.heap.size nn D0 left cnt/\ps.length+cnt<=nn/\CollP D0 f left ps/\J ps wr)
  (fun _ wr=>wr.rangeLeft b W.heap.size)
 case atStart=>
  exact ⟨_,_,[],hrg0,by simpa using hsn,sd D0 f,hJ [] W w0 none h0 hg0 (fun r e=>yE)⟩
 case round=>
  obtain ⟨left,cnt,ps,hrg,hcs,hC,hJs⟩:=hrel
  gi_wp2_with (first
   | (gi_at_next;refine wpListIn_next_ranges _ rfl _ rfl 3 (int_keyed underlying3) Ji (Value.int .i64) kC (fun key kl hk=>qM) (fun v y hv=>by obtain ⟨c,rfl,_⟩:=lY hv;exact ⟨c,rfl⟩) b W.heap.size nn _ _ _ rfl hrg ?_ ?_)
   | gi_in)
  ·exact km6
  intro x c1 c2 c3 kl yd yp w2 cnt2 hkey hlk hv hat hrg2 hlt hg2 hs2 hen;obtain ⟨x',ex,rfl,hwx⟩:=Maps.keyOf_int_inv underlying3 hkey
  obtain rfl:x=x':=by simpa using ex
  obtain ⟨c',ec,ez⟩:=lY hv;obtain rfl:(c1,c2,c3)=c':=Gg ec;obtain rfl:yd=dat (c1,c2,c3):=(Prod.mk.inj ez).1;obtain ⟨hfx,hcx⟩:=Ld hr G hwx hat;have hcx:c1=x:=hcx;subst hcx;have hJ2:J ps w2:=hJ ps wr w2 (some W.heap.size) hJs hg2 (fun r e=>jp);have hJ3:J ps (w2.alloc (.cells #[.int .i64 c1,.int .i64 c2,.string c3] 119)):=hJ ps w2 _ none hJ2 (World.grownBy_alloc w2 _ none) (fun r e=>yE);obtain ⟨fn,tmps,assign,body,hy,hR⟩:=hY ps (c1,c2,c3) _ hJ3 zj;unfold kC at hy hen;dsimp only at hy hen;have hrg3:=hrg2.alloc (.cells #[.int .i64 c1,.int .i64 c2,.string c3] 119);have hC2:=hC.step hlk hfx rfl;have H3:Aside (RoundIn F (n - 1) prog l fn tmps assign body _ _):=hR;clear hs2 hR hJ2 hJ3;unfold kC;dsimp only;gi_wp2;refine RoundIn.mono H3.o ?_;rintro e W3 (⟨rfl,hJ4,hk4⟩ | ⟨rfl,hJx4⟩)
  ·gi_wp2;have hrg4:=hrg3.of_walks hk4;go_roundw
   case rel=>exact ⟨_,cnt2,ps++ [(c1,c2,c3)],hrg4,zq,hC2,hJ4⟩
   case measure=>rw [hrg4.left_eq,hrg.left_eq];exact hlt
  gi_wp2;refine bodyPost_ret (results_none rfl _ _ _) rfl ?_;exact ⟨⟨_,rfl⟩,.inr ⟨ps++ [(c1,c2,c3)],trivial,hJx4⟩⟩
theorem DC (F:Fence) (n:Nat) (hf:F.fn 97) (hro:F.round=none) (mb:Option Nat) (w:World):
  CallsIn F n prog 97 #[.map mb] w fun e w'=>e= .returned (.func (.func 170) #[] #[.pointer (some ⟨w.heap.size,0,none⟩)])/\w'=w.alloc (.cells #[.map mb] 193):=by
 refine callsIn_of_wp func97 rfl hf ?_ hro;simp only [ntmps97,uq,ud,uz,Nat.reduceAdd,Nat.reduceSub,uM,uN,uV,uO,uR,Zb];gi_wp2;go_ret;exact kl3
theorem rr (F:Fence) (n:Nat) (h8:F.fn 170) (hro:F.round=none) (hn:1<=n) (Bm b nn:Nat) (f:Sta) (G:gj f) (w:World) (hBm:Bm<w.heap.size) (hm:w.cell? ⟨Bm,0,none⟩=some (.map (some b))) (hM:MapAt prog 3 w b nn f):
  SeqStopsK F n prog 170 #[.pointer (some ⟨Bm,0,none⟩)] (fun x:Plc=> #[kC x]) KeepsWalks (fun xs=>AllP f xs) (fun _=>True) nn w:=fun l J Jx W hW hJ _ hY h0=>by
 have hbl:=hM.lt;obtain ⟨D,hown,hr⟩:=hM.same (hW.block b hbl);exact CH F n h8 hro hn l Bm b nn D f hr G J Jx hY W hJ ((hW.cell (p:=⟨Bm,0,none⟩) hBm).trans hm) hown h0
end
section
open Go.RowKit Go.Maps
def PlcAt (w:World) (b:Nat) (p:Plc):Prop:=w.heap[b]? =some (.cells #[.int .i64 p.1,.int .i64 p.2.1,.string p.2.2] 119 (0,0))
theorem PlcAt.lt (h:PlcAt w b p):b<w.heap.size:=(vD.1 h).1
theorem PlcAt.c0 (h:PlcAt w b p):w.cell? ⟨b,0,none⟩=some (.int .i64 p.1):=qI
theorem PlcAt.c1 (h:PlcAt w b p):w.cell? ⟨b,1,none⟩=some (.int .i64 p.2.1):=qI
theorem PlcAt.c2 (h:PlcAt w b p):w.cell? ⟨b,2,none⟩=some (.string p.2.2):=qI
theorem PlcAt.fz (h:PlcAt w b p) (o:Nat):w.frozen? ⟨b,o,none⟩=false:=by unfold PlcAt at h;simp [World.frozen?,h]
theorem PlcAt.same (h:PlcAt w b p) (e:w'.heap[b]? =w.heap[b]?):PlcAt w' b p:=e.trans h
theorem PlcAt.stored (h:PlcAt w b p) (q:Plc):PlcAt (((w.setCell ⟨b,0,none⟩ (.int .i64 q.1)).setCell ⟨b,1,none⟩ (.int .i64 q.2.1)).setCell ⟨b,2,none⟩ (.string q.2.2)) b q:=by
 have h0:=heap_setCell_same w b 0 _ _ (.int .i64 q.1) h;have h1:=heap_setCell_same _ b 1 _ _ (.int .i64 q.2.1) h0;exact heap_setCell_same _ b 2 _ _ (.string q.2.2) h1
theorem PlcAt.storedBelow (q:Plc) (h:Below B w w') (hb:B<=b):Below B w (((w'.setCell ⟨b,0,none⟩ (.int .i64 q.1)).setCell ⟨b,1,none⟩ (.int .i64 q.2.1)).setCell ⟨b,2,none⟩ (.string q.2.2)):=
 ((h.setCell (p:=⟨b,0,none⟩) hb _).setCell (p:=⟨b,1,none⟩) hb _).setCell (p:=⟨b,2,none⟩) hb _
theorem MapAt.below (h:MapAt prog 3 w b n f) (hb:Below B w w') (hB:b<B):MapAt prog 3 w' b n f:=h.same (hb.block b hB)
theorem pg (w:World) (bt bm n:Nat) (f:Sta) (node of:Int) (z:Bool) (hz:z=true↔Ins f node of) (ht:w.cell? ⟨bt,0,none⟩=some (.map (some bm))) (hm:MapAt prog 3 w bm n f) (G:gj f) (hk:Wf node):
  Calls prog 261 #[.pointer (some ⟨bt,0,none⟩),.int .i64 node,.int .i64 of] w fun e w'=>e= .returned (.bool z)/\Below w.heap.size w w':=by
 have hbt:bt<w.heap.size:=block_lt_of_cell ht;obtain ⟨d,hd⟩:=G.rank;have hl:=hm.looks hk;unfold kC at hl;go_enter func261,ntmps261;go_wp2;obtain ⟨w0,hw0⟩:=zc (w.alloc (.cells #[.int .i64 ((f node).getD cU).1,.int .i64 ((f node).getD cU).2.1,.string ((f node).getD cU).2.2] 119))
 have hp0:PlcAt w0 w.heap.size ((f node).getD cU):=by rw [hw0];exact heap_alloc_new w _
 have hb0:Below w.heap.size w w0:=by rw [hw0];exact zh w _
 rw [<-hw0];clear hw0 hl;go_loopg [7,8] (d node+1) (fun kx s7 s8 wr=>∃(b7:Nat) (cur:Int),s7= .pointer (some ⟨b7,0,none⟩)/\s8= .bool (f cur).isSome/\w.heap.size<=b7/\PlcAt wr b7 ((f cur).getD cU)/\Wf cur/\(Ins f cur of↔Ins f node of)/\Below w.heap.size w wr/\(∀p,f cur=some p->d cur<kx))
 case atStart=>exact ⟨w.heap.size,node,rfl,rfl,vB _,hp0,hk,Iff.rfl,hb0,fun _ _=>Nat.lt_succ_self _⟩
 case round=>
  obtain ⟨b7,cur,rfl,rfl,hb7,hp,hkc,hi,hb,hkx⟩:=hrel;clear hp0 hb0 w0;have ht1:=(hb.cell (p:=⟨bt,0,none⟩) hbt).trans ht;have hm1:=hm.below hb hm.lt
  cases hf:f cur with
  | none=>
   have hno:z=false:=by
    cases z with
    | false=>rfl
    | true=>exact absurd (hi.2 (hz.1 rfl)) (AZ hf)
   subst hno;rw [hf] at hp;simp only [Option.isSome_none];go_wp2;go_ret;exact ⟨rfl,hb⟩
  | some p=>
   rw [hf] at hp;simp only [Option.isSome_some];have hc1:wr.cell? ⟨b7,1,none⟩=some (.int .i64 p.2.1):=hp.c1;by_cases he:p.2.1=of
   ·have hyes:z=true:=hz.2 (hi.1 ((oR hf).2 (.inl he)));subst hyes;have q0:decide (p.2.1=of)=true:=decide_eq_true he;go_wp2;go_ret;exact ⟨rfl,hb⟩
   have q0:decide (p.2.1=of)=false:=decide_eq_false he;have hkn:Wf p.2.1:=(ib (G.fine cur p hf)).2;have hc0:=hp.c0;have hc2:=hp.c2;go_wp2;obtain ⟨w1,hw1⟩:=zc (wr.alloc (.cells #[.int .i64 p.1,.int .i64 p.2.1,.string p.2.2] 119))
   have hp1:PlcAt w1 wr.heap.size p:=by rw [hw1];exact heap_alloc_new wr _
   have hb1:Below w.heap.size w w1:=by rw [hw1];exact hb.alloc hb.size _
   have hs1:w.heap.size<=wr.heap.size:=hb.size;rw [<-hw1];obtain ⟨b8,hb8⟩:=zc wr.heap.size
   rw [<-hb8] at hp1 hs1 |-
   have ht2:=(hb1.cell (p:=⟨bt,0,none⟩) hbt).trans ht;have hm2:=hm.below hb1 hm.lt;have hl2:=hm2.looks hkn;have hl3:=(show MapAt prog 3 w1.drew bm n f from hm2).looks hkn;unfold kC at hl2 hl3;have d0:=hp1.c0;have d1:=hp1.c1;have d2:=hp1.c2;have z0:=hp1.fz 0;have z1:=hp1.fz 1;have z2:=hp1.fz 2
   have F:Aside (PlcAt w1 b8 p/\Below w.heap.size w w1/\w.heap.size<=b8/\Wf p.2.1):=⟨hp1,hb1,hs1,hkn⟩
   clear hp hc0 hc1 hc2 hp1 hb1 hm2 hm1 ht1 hw1 hb8 hs1 hkn;go_region;go_wp2;go_roundg (d cur)
   case measure=>exact hkx p hf
   case rel=>exact ⟨b8,p.2.1,rfl,rfl,F.o.2.2.1,F.o.1.stored _,F.o.2.2.2,(by rw [<-hi,oR hf];exact ⟨.inr,fun h=>h.resolve_left he⟩),(PlcAt.storedBelow _ F.o.2.1 F.o.2.2.1).drew,fun _ _=>hd cur p hf⟩
end
section
open Go.RowKit Go.Maps
open scoped Classical
def LV (x:Ent):List Value:=[.int .i64 x.1.1.1,.int .i64 x.1.1.2,.int .i64 x.1.2.1,.int .i64 x.1.2.2.1,.string x.1.2.2.2]
theorem nF (m:Mov) (fr:Plc):gE (m,fr)=LV (m,fr)++aP fr:=rfl
theorem Fw (hx:L[i]? =some x) (fr:Plc):∃A C,A.length=i*8+5/\aI gE L=A++aP x.2++C/\aI gE (L.set i (x.1,fr))=A++aP fr++C:=by
 obtain ⟨hl,he⟩:=vA.1 hx;have h1:=dV (enc:=gE) (k:=8) ed L i hl (x.1,fr);have h2:=dV (enc:=gE) (k:=8) ed L i hl (x.1,x.2)
 have hs:L.set i (x.1,x.2)=L:=by
  rw [show ((x.1,x.2):Ent)=x from rfl,<-he];exact ZZ hl
 rw [hs] at h2;refine ⟨(aI gE L).take (i*8)++LV x,(aI gE L).drop ((i+1)*8),?_,?_,?_⟩
 ·rw [vN,vW,bX ed];have:(LV x).length=5:=rfl;omega
 ·conv=>lhs;rw [h2]
  rw [nF];simp only [uj]
 rw [h1,nF];simp only [uj];rfl
theorem Ea {o:Nat} {A C:List Value} {q:Plc} (p:Plc) (h:w.ownsRow base 300 8 (.slice (some ⟨g,0,none⟩) n cap) n (A++aP q++C)) (ho:A.length=o):
  (((w.setCell ⟨g,o,none⟩ (.int .i64 p.1)).setCell ⟨g,o+1,none⟩ (.int .i64 p.2.1)).setCell ⟨g,o+2,none⟩ (.string p.2.2)).ownsRow base 300 8 (.slice (some ⟨g,0,none⟩) n cap) n (A++aP p++C):=by
 subst ho;exact fg (vs:=aP p) h rfl
theorem lh (w:World) (g o1 o2 o3:Nat) (v1 v2 v3:Value):Keeps (fun k=>k=g) w (((w.setCell ⟨g,o1,none⟩ v1).setCell ⟨g,o2,none⟩ v2).setCell ⟨g,o3,none⟩ v3):=
 ((aZ g [v1] o1 w).trans (aZ g [v2] o2 _)).trans (aZ g [v3] o3 _)
def TreeCell (w:World) (bt bm:Nat) (v:Value):Prop:=w.heap[bt]? =some (.cells #[.map (some bm),v] 196 (0,0))
theorem TreeCell.c0 (h:TreeCell w bt bm v):w.cell? ⟨bt,0,none⟩=some (.map (some bm)):=jR
theorem TreeCell.c1 (h:TreeCell w bt bm v):w.cell? ⟨bt,1,none⟩=some v:=jR
theorem TreeCell.fz (h:TreeCell w bt bm v) (o:Nat):w.frozen? ⟨bt,o,none⟩=false:=by unfold TreeCell at h;simp [World.frozen?,h]
theorem TreeCell.lt (h:TreeCell w bt bm v):bt<w.heap.size:=(vD.1 h).1
theorem TreeCell.ne_map (h:TreeCell w bt bm v) (hM:MapAt prog 3 w bm n f):bt≠bm:=by
 intro e;obtain ⟨es,ck,hb⟩:=hM.block;unfold TreeCell at h;rw [e,hb] at h
 cases h
theorem iX (h:w.ownsRow base 300 8 (.slice (some ⟨g,0,none⟩) n cap) k xs):∃cur,w.heap[g]? =some (.cells cur 300 (0,0)):=by
 rcases h.2 with ⟨hc,_⟩ | ⟨g',cap',cur,hc,_,hg,_⟩
 ·cases hc
 cases hc;exact ⟨cur,hg⟩
theorem eu {nn:Nat} (h:w.ownsRow base 300 8 (.slice (some ⟨g,0,none⟩) n cap) k xs) (hM:MapAt prog 3 w bm nn f):g≠bm:=by
 intro e;obtain ⟨cur,hc⟩:=iX h;obtain ⟨es,ck,hb⟩:=hM.block;rw [e,hb] at hc
 cases hc
theorem gC (h:w.ownsRow base 300 8 (.slice (some ⟨g,0,none⟩) n cap) k xs) (hT:TreeCell w bt bm v):g≠bt:=by
 intro e;obtain ⟨cur,hc⟩:=iX h;unfold TreeCell at hT;rw [e,hT] at hc;simp at hc
theorem AY (h:w.ownsRow base 300 8 (.slice (some ⟨g,0,none⟩) n cap) n (aI gE L)):RowAt w g 0 L:=fun j u hj=>by
 have:=h.cells (g:=g) rfl j u hj;rw [Addr.add_lit] at this;exact this
theorem DY (h:w.ownsRow base 300 8 (.slice (some ⟨g,0,none⟩) n cap) k xs) (j:Nat):w.frozen? ⟨g,j,none⟩=false:=by
 obtain ⟨cur,hc⟩:=iX h;simp [World.frozen?,hc]
theorem iz (h:w.ownsRow base 300 8 (.slice (some ⟨g,0,none⟩) n cap) k xs) (e:w'.heap[g]? =w.heap[g]?):w'.ownsRow base 300 8 (.slice (some ⟨g,0,none⟩) n cap) k xs:=by
 refine ⟨h.1,?_⟩
 rcases h.2 with ⟨hc,_⟩ | ⟨g',cap',cur,hc,h1,hg,h2⟩
 ·cases hc
 cases hc;exact .inr ⟨g,cap,cur,rfl,h1,e.trans hg,h2⟩
theorem My (w:World) (bt bm base g cap at_ n:Nat) (L:List Ent) (ms:List Mov) (hT:TreeCell w bt bm (.slice (some ⟨g,0,none⟩) ms.length cap)) (hown:w.ownsRow base 300 8 (.slice (some ⟨g,0,none⟩) ms.length cap) ms.length (aI gE L)) (hL:LogTo ms at_ L)
  (hM:MapAt prog 3 w bm n (aO (ms.take at_))) (hfine:∀m∈ms,FineP m.2) (hat:at_<=ms.length) (hlen:ms.length<=1000) (hn:n<=1000000):
  Calls prog 202 #[.pointer (some ⟨bt,0,none⟩),.int .i64 (at_:Int)] w fun e w'=>(∃u,e= .returned u)/\∃L' n',LogTo ms ms.length L'/\w'.ownsRow base 300 8 (.slice (some ⟨g,0,none⟩) ms.length cap) ms.length (aI gE L')/\MapAt prog 3 w' bm n' (aO ms)/\n'<=n+ms.length/\Keeps (fun k=>k=bm\/k=g) w w':=by
 have htm:=hT.ne_map hM;have hgm:=eu hown hM;have hgt:=gC hown hT;have hbt:=hT.lt;have hgw:g<w.heap.size:=(vD.1 (iX hown).choose_spec).1;have hbm:=hM.lt;go_enter func202,ntmps202;go_wp2;go_loopg [4] (ms.length - at_) (fun kx s4 wr=>∃(i:Nat) (L:List Ent) (n':Nat),s4= .int .i64 (i:Int)/\i<=ms.length/\ms.length - i<=kx/\LogTo ms i L/\wr.ownsRow base 300 8 (.slice (some ⟨g,0,none⟩) ms.length cap) ms.length (aI gE L)/\MapAt prog 3 wr bm n' (aO (ms.take i))/\n'<=n+i/\Keeps (fun k=>k=bm\/k=g) w wr)
 case atStart=>exact ⟨at_,L,n,rfl,hat,vB _,hL,hown,hM,Nat.le_add_right _ _,Keeps.refl _ _⟩
 case round=>
  obtain ⟨i,L,n',rfl,hi,hkx,hL,hown,hM,hn',hk⟩:=hrel;have hT1:TreeCell wr bt bm (.slice (some ⟨g,0,none⟩) ms.length cap):=(hk.block bt hbt zj).trans ‹TreeCell w bt bm _›;have t0:=hT1.c0;have t1:=hT1.c1;have hsz:=hk.size;by_cases hlt:i<ms.length
  ·have hltz:decide ((i:Int)<(ms.length:Int))=true:=by simp;omega
   obtain ⟨x,hx⟩:∃x,L[i]? =some x:=⟨_,vF (by rw [hL.len];exact hlt)⟩
   have hmx:=hL.mov hx;have hf:FineP x.1.2:=hfine _ (vH hmx);have hrow:=AY hown
   have c2:wr.cell? ⟨g,i*8+2,none⟩=some (.int .i64 x.1.2.1):=by have:=hrow.at hx 2 (u:=.int .i64 x.1.2.1) rfl;rwa [vQ] at this
   have c3:wr.cell? ⟨g,i*8+3,none⟩=some (.int .i64 x.1.2.2.1):=by have:=hrow.at hx 3 (u:=.int .i64 x.1.2.2.1) rfl;rwa [vQ] at this
   have c4:wr.cell? ⟨g,i*8+4,none⟩=some (.string x.1.2.2.2):=by have:=hrow.at hx 4 (u:=.string x.1.2.2.2) rfl;rwa [vQ] at this
   have ex:((i:Int)).toNat=i:=zj;have px:(0:Int)<=(i:Int):=zj;have bx:(i:Int)<(ms.length:Int):=zj
   have HH:Aside (LogTo ms i L/\wr.ownsRow base 300 8 (.slice (some ⟨g,0,none⟩) ms.length cap) ms.length (aI gE L)/\MapAt prog 3 wr bm n' (aO (ms.take i))/\Keeps (fun k=>k=bm\/k=g) w wr/\TreeCell wr bt bm (.slice (some ⟨g,0,none⟩) ms.length cap)/\RowAt wr g 0 L/\L[i]? =some x/\ms[i]? =some x.1):=⟨hL,hown,hM,hk,hT1,hrow,hx,hmx⟩
   clear hL hown hM hk hT1 hrow hx hmx;go_wp2;obtain ⟨w1,hw1⟩:=zc (wr.alloc (.cells #[.int .i64 x.1.2.1,.int .i64 x.1.2.2.1,.string x.1.2.2.2] 119))
   have hp1:PlcAt w1 wr.heap.size x.1.2:=by rw [hw1];exact heap_alloc_new wr _
   have hold:∀k,k<wr.heap.size->w1.heap[k]? =wr.heap[k]? :=fun k hk=>by rw [hw1];exact vP wr _ k hk
   have hs1:w1.heap.size=wr.heap.size+1:=xP
   have hk1:Keeps (fun k=>k=bm\/k=g) w w1:=by rw [hw1];exact HH.o.2.2.2.1.alloc _
   have hown1:=iz HH.o.2.1 (hold g zj);have hT1:TreeCell w1 bt bm (.slice (some ⟨g,0,none⟩) ms.length cap):=(hold bt zj).trans HH.o.2.2.2.2.1;have hM1:=HH.o.2.2.1.same (hold bm zj);obtain ⟨b5,hb5⟩:=zc wr.heap.size;rw [<-hw1]
   rw [<-hb5] at hp1 hs1 |-
   have hg5:g<b5:=zj;have hb5w:w.heap.size<=b5:=zj;have hm5:bm<b5:=zj;have ht5:bt<b5:=zj;clear hw1 hold hb5 t0 t1 c2 c3 c4;have hrow1:=AY hown1;have t0:=hT1.c0;have t1:=hT1.c1;have p0:=hp1.c0;have p1:=hp1.c1;have p2:=hp1.c2;have hwn:Wf x.1.2.1:=(ib hf).1;have l0:=hM1.looks1 hwn;have l1:=(show MapAt prog 3 w1.drew bm n' (aO (ms.take i)) from hM1).looks1 hwn;unfold kC at l0 l1
   have c5:w1.cell? ⟨g,i*8+5,none⟩=some (.int .i64 x.2.1):=by have:=hrow1.at HH.o.2.2.2.2.2.2.1 5 (u:=.int .i64 x.2.1) rfl;rwa [vQ] at this
   have c6:w1.cell? ⟨g,i*8+6,none⟩=some (.int .i64 x.2.2.1):=by have:=hrow1.at HH.o.2.2.2.2.2.2.1 6 (u:=.int .i64 x.2.2.1) rfl;rwa [vQ] at this
   have c7:w1.cell? ⟨g,i*8+7,none⟩=some (.string x.2.2.2):=by have:=hrow1.at HH.o.2.2.2.2.2.2.1 7 (u:=.string x.2.2.2) rfl;rwa [vQ] at this
   have z5:=DY hown1 (i*8+5);have z6:=DY hown1 (i*8+6);have z7:=DY hown1 (i*8+7);obtain ⟨fr,hfr⟩:=zc ((aO (ms.take i) x.1.2.1).getD cU);rw [<-hfr] at l0 l1
   have H1:Aside (w1.ownsRow base 300 8 (.slice (some ⟨g,0,none⟩) ms.length cap) ms.length (aI gE L)/\MapAt prog 3 w1 bm n' (aO (ms.take i))/\Keeps (fun k=>k=bm\/k=g) w w1/\TreeCell w1 bt bm (.slice (some ⟨g,0,none⟩) ms.length cap)/\PlcAt w1 b5 x.1.2/\fr=kL ms i):=⟨hown1,hM1,hk1,hT1,hp1,by rw [hfr,mM HH.o.2.2.2.2.2.2.2]⟩
   clear hown1 hM1 hk1 hT1 hp1 hrow1 hfr;go_region;obtain ⟨w2,hw2⟩:=zc ((((w1.setCell ⟨g,i*8+5,none⟩ (.int .i64 fr.1)).setCell ⟨g,i*8+5+1,none⟩ (.int .i64 fr.2.1)).setCell ⟨g,i*8+5+2,none⟩ (.string fr.2.2)).drew);rw [<-hw2]
   have hk12:Keeps (fun k=>k=g) w1 w2:=by rw [hw2];exact (lh w1 g _ _ _ _ _ _).drew
   obtain ⟨A,C,hA,hf1,hf2⟩:=Fw HH.o.2.2.2.2.2.2.1 fr
   have hown2:w2.ownsRow base 300 8 (.slice (some ⟨g,0,none⟩) ms.length cap) ms.length (aI gE (L.set i (x.1,fr))):=by
    have:=H1.o.1;rw [hf1] at this;rw [hw2,hf2];exact Ea fr this hA
   have hM2:=H1.o.2.1.same (hk12.block bm zj zj);have hT2:TreeCell w2 bt bm (.slice (some ⟨g,0,none⟩) ms.length cap):=(hk12.block bt zj zj).trans H1.o.2.2.2.1;have hp2:PlcAt w2 b5 x.1.2:=H1.o.2.2.2.2.1.same (hk12.block b5 zj zj)
   have hk2:Keeps (fun k=>k=bm\/k=g) w w2:=H1.o.2.2.1.then hk12 (fun _ _ e=>.inr e)
   have hs2:=hk12.size
   have hL2:LogTo ms (i+1) (L.set i (x.1,fr)):=by rw [H1.o.2.2.2.2.2];exact Mf HH.o.1 HH.o.2.2.2.2.2.2.1
   have hmade:=rE HH.o.2.2.2.2.2.2.2;have hgood:gj (aO (ms.take i)):=fl (fun m hm=>hfine m (Zg hm))
   have H2:Aside (w2.ownsRow base 300 8 (.slice (some ⟨g,0,none⟩) ms.length cap) ms.length (aI gE (L.set i (x.1,fr)))/\MapAt prog 3 w2 bm n' (aO (ms.take i))/\Keeps (fun k=>k=bm\/k=g) w w2/\TreeCell w2 bt bm (.slice (some ⟨g,0,none⟩) ms.length cap)/\PlcAt w2 b5 x.1.2/\LogTo ms (i+1) (L.set i (x.1,fr))/\aO (ms.take (i+1))=step (aO (ms.take i)) x.1/\w2.heap.size≥w1.heap.size):=⟨hown2,hM2,hk2,hT2,hp2,hL2,hmade,hs2⟩
   clear hw2 hk12 hA hf1 hf2 hown2 hM2 hT2 hk2 hL2 hmade t0 t1 p0 p1 p2 l0 l1 c5 c6 c7 z5 z6 z7 H1 HH;have p0:=hp2.c0;have p1:=hp2.c1;have p2:=hp2.c2;have t0:=H2.o.2.2.2.1.c0;clear hp2;by_cases he:x.1.2.1=x.1.2.2.1
   ·have d0:(x.1.2.1 !=x.1.2.2.1)=false:=by simp [he]
    have hidle:wo (aO (ms.take i)) x.1.2:=.inl he;have HI:Aside (aO (ms.take (i+1))=aO (ms.take i)):=H2.o.2.2.2.2.2.2.1.trans (dA hidle);clear he hidle;go_wp2;go_roundg (ms.length - (i+1))
    case measure=>omega
    case rel=>exact ⟨i+1,L.set i (x.1,fr),n',zw,zj,vB _,H2.o.2.2.2.2.2.1,H2.o.1,by rw [HI.o];exact H2.o.2.1,zj,H2.o.2.2.1⟩
   have d0:(x.1.2.1 !=x.1.2.2.1)=true:=by simp [he]
   have hwo:Wf x.1.2.2.1:=(ib hf).2;by_cases hin:Ins (aO (ms.take i)) x.1.2.2.1 x.1.2.1
   ·have hidle:wo (aO (ms.take i)) x.1.2:=.inr hin;have HI:Aside (aO (ms.take (i+1))=aO (ms.take i)):=H2.o.2.2.2.2.2.2.1.trans (dA hidle);have hcall:=pg w2 bt bm n' (aO (ms.take i)) x.1.2.2.1 x.1.2.1 true (by simp [hin]) t0 H2.o.2.1 hgood hwo;clear he hidle hin hgood;go_wp2_with (go_at_call 261;refine hcall.mono ?_;clear hcall;rintro e w3 ⟨rfl,hb3⟩)
    have hk3:Keeps (fun k=>k=bm\/k=g) w w3:=H2.o.2.2.1.then (aX hb3) (fun i hi e=>by have:=H2.o.2.2.1.size;omega)
    have hown3:=iz H2.o.1 (hb3.block g (by have:=H2.o.2.2.2.2.2.2.2;omega));have hM3:=H2.o.2.1.same (hb3.block bm (by have:=H2.o.2.2.2.2.2.2.2;omega));go_roundg (ms.length - (i+1))
    case measure=>omega
    case rel=>exact ⟨i+1,L.set i (x.1,fr),n',zw,zj,vB _,H2.o.2.2.2.2.2.1,hown3,by rw [HI.o];exact hM3,zj,hk3⟩
   have hidle:¬wo (aO (ms.take i)) x.1.2:=fun h=>h.elim he hin
   have HI:Aside (aO (ms.take (i+1))=upd (aO (ms.take i)) x.1.2.1 (some x.1.2)):=H2.o.2.2.2.2.2.2.1.trans (dy hidle);have hcall:=pg w2 bt bm n' (aO (ms.take i)) x.1.2.2.1 x.1.2.1 false (by simp [hin]) t0 H2.o.2.1 hgood hwo;clear he hidle hin hgood;go_wp2_with (go_at_call 261;refine hcall.mono ?_;clear hcall;rintro e w3 ⟨rfl,hb3⟩);have hs3:=H2.o.2.2.2.2.2.2.2
   have hk3:Keeps (fun k=>k=bm\/k=g) w w3:=H2.o.2.2.1.then (aX hb3) (fun i hi e=>by have:=H2.o.2.2.1.size;omega)
   have hown3:=iz H2.o.1 (hb3.block g zj);have hM3:=H2.o.2.1.same (hb3.block bm zj);have hT3:TreeCell w3 bt bm (.slice (some ⟨g,0,none⟩) ms.length cap):=(hb3.block bt zj).trans H2.o.2.2.2.1;have hp3:PlcAt w3 b5 x.1.2:=H2.o.2.2.2.2.1.same (hb3.block b5 zj);obtain ⟨w4,hrun,hM4,ht4⟩:=(show MapAt prog 3 w3.drew bm n' (aO (ms.take i)) from hM3).store (T:=193) (E:=119) underlying3 underlying193 zA hwn x.1.2;unfold kC at hrun;have hg4:=ht4.grown
   have hg4':w3.grownBy w4 (some bm):=⟨hg4.os,hg4.tape,hg4.output,hg4.size,hg4.block⟩
   have hk4:Keeps (fun k=>k=bm\/k=g) w w4:=hk3.then (aV hg4') (fun i _ e=>.inl yu)
   have hown4:=iz hown3 (hg4'.block g (by have:=hb3.size;omega) (by simpa using hgm))
   have H4:Aside (Keeps (fun k=>k=bm\/k=g) w w4/\w4.ownsRow base 300 8 (.slice (some ⟨g,0,none⟩) ms.length cap) ms.length (aI gE (L.set i (x.1,fr)))/\MapAt prog 3 w4 bm (n'+1) (aO (ms.take (i+1)))):=⟨hk4,hown4,by rw [HI.o];exact hM4⟩
   have q0:=hp3.c0;have q1:=hp3.c1;have q2:=hp3.c2;have u0:=hT3.c0;clear p0 p1 p2 t0 hb3 hk3 hown3 hM3 hT3 hp3 hM4 ht4 hg4 hg4' hk4 hown4;go_region
   all_goals go_wp2
   go_roundg (ms.length - (i+1))
   case measure=>omega
   case rel=>exact ⟨i+1,L.set i (x.1,fr),n'+1,zw,zj,vB _,H2.o.2.2.2.2.2.1,H4.o.2.1,H4.o.2.2,zj,H4.o.1⟩
  have hltz:decide ((i:Int)<(ms.length:Int))=false:=zq;have hie:i=ms.length:=zj;subst hie;rw [uU] at hM;go_wp2;go_end0;exact ⟨⟨_,rfl⟩,L,n',hL,hown,hM,hn',hk⟩
