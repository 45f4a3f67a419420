import Derived.Test.YtpdbnnimdkfajaaGreatDoorVS05
import Derived.Test.YtpdbnnimdkfajaaGreatDoorVS07
import Derived.Test.YtpdbnnimdkfajaaGreatDoorVS08
import Derived.Sort.MapsRangeIn
import Derived.Shelf.SlSortCmp.NoneTotal
import Derived.Laws.Cover1
set_option linter.unusedSimpArgs false
set_option linter.unusedVariables false
set_option maxRecDepth 100000
set_option maxHeartbeats 64000000
namespace Go.Proofs.YtpdbnnimdkfajaaGreatDoor
open Go.Proofs.Tryz
variable {D:DataW Unit} {x:Ent} {s:Int×Int} {L:List Ent} {ps:List Plc} {xs:List Value} {bm bt cap g k n:Nat} {c:Plc} {f:Sta} {v:Value} {W W' w:World}
section
open Go.RowKit Go.Shelf
attribute [local go_sem] Oper.semAt_some
theorem eqSt (a b c d:Int) (w:World):(Op.equalIn 10000 36 (.agg #[.int .i64 a,.int .i64 b]) (.agg #[.int .i64 c,.int .i64 d])).run prog w= .ok (decide ((a,b)=(c,d))) w:=by
 go_simp
 by_cases h1:a=c<;>by_cases h2:b=d<;>simp [h1,h2]
theorem lessB_iff (a b:Int×Int):lessB a.1 a.2 b.1 b.2=true↔SLt a b:=by
 unfold lessB SLt
 split<;>simp<;>omega
theorem back_in (F:Fence) (n:Nat) (h5:F.fn 227) (hro:F.round=none) (a:Option Addr) (len cap:Nat) (w:World):
  CallsIn F n prog 227 #[.slice a len cap] w fun e w'=>e= .returned (.func (.func 282) #[] #[.pointer (some ⟨w.heap.size,0,none⟩)])/\w'=w.alloc (.cells #[.slice a len cap] 185):=by
 refine callsIn_of_wp func227 rfl h5 ?_ hro
 simp only [ntmps227,jN,jK,vy,Nat.reduceAdd,Nat.reduceSub,vd,ve,vr,vj,vn,vp]
 gi_wp2
 go_ret
 exact ⟨rfl,rfl⟩
theorem back_stops (F:Fence) (n:Nat) (h7:F.fn 282) (hro:F.round=none) (hn:1<=n) (Bs g off cap:Nat) (ao:Option Addr) (L:List Ent) (hlen:L.length<=1000) (hao:L= []\/ao=some ⟨g,off,none⟩) (w:World) (hBs:Bs<w.heap.size) (hg:g<w.heap.size)
  (hc:w.cell? ⟨Bs,0,none⟩=some (.slice ao L.length cap)) (hI:RowAt w g off L):
  SeqStopsK F n prog 282 #[.pointer (some ⟨Bs,0,none⟩)] (encR L) (KeepTwo g Bs) (fun ys=>ys=List.range L.length) (fun pre=>∃k,k<=L.length/\pre=List.range k) L.length w:=fun l J Jx W hW _ _ hY h0=>by
 have hc':=(hW.cell (p:=⟨Bs,0,none⟩) hBs).trans hc
 exact back1_in F n h7 hro hn l Bs g off cap ao L hlen hao J Jx hY W hc' (hI.same (hW.block g hg)) h0
def StAt (w:World) (b:Nat) (s:Int×Int):Prop:=w.heap[b]? =some (.cells #[.int .i64 s.1,.int .i64 s.2] 36 (0,0))
theorem StAt.c0 {b:Nat} (h:StAt w b s):w.cell? ⟨b,0,none⟩=some (.int .i64 s.1):=by unfold StAt at h;simp [World.cell?,h]
theorem StAt.c1 {b:Nat} (h:StAt w b s):w.cell? ⟨b,1,none⟩=some (.int .i64 s.2):=by unfold StAt at h;simp [World.cell?,h]
def EntAt (w:World) (b:Nat) (x:Ent):Prop:=w.heap[b]? =some (.cells #[.int .i64 x.1.1.1,.int .i64 x.1.1.2,.int .i64 x.1.2.1,.int .i64 x.1.2.2.1,.string x.1.2.2.2,.int .i64 x.2.1,.int .i64 x.2.2.1,.string x.2.2.2] 284 (0,0))
theorem EntAt.cell {w:World} {b:Nat} {x:Ent} (h:EntAt w b x) (c:Nat) {u:Value} (hu:(encE x)[c]? =some u):w.cell? ⟨b,c,none⟩=some u:=by
 unfold EntAt at h
 simp only [World.cell?,h]
 rw [<-hu]
 simp [encE]
theorem kept_cells {X Y:World} {row:Option Nat} {b:Nat} {cs:Array Value} {t:TypeId} {fr:Nat×Nat} (h:X.heap[b]? =some (.cells cs t fr)) (hg:X.grownBy Y row) (hr:∀r,row=some r->∃o:Obj,X.heap[r]? =some o/\o.isCells=false):Y.heap[b]? =some (.cells cs t fr):=by
 refine (hg.block b (jk.1 h).1 (fun e=> ?_)).trans h
 obtain ⟨o',ho',hc'⟩:=hr b e.symm
 rw [h] at ho'
 cases ho'
 cases hc'
theorem blk2 (w:World) (o1 o2:Obj):((w.alloc o1).alloc o2).heap[w.heap.size]? =some o1/\((w.alloc o1).alloc o2).heap[w.heap.size+1]? =some o2:=by
 refine ⟨(jp _ _ _ zm).trans (heap_alloc_new w o1),?_⟩
 have:=heap_alloc_new (w.alloc o1) o2
 rwa [jI] at this
theorem blk4 (w:World) (o1 o2 o3 o4:Obj):((((w.alloc o1).alloc o2).alloc o3).alloc o4).heap[w.heap.size]? =some o1/\((((w.alloc o1).alloc o2).alloc o3).alloc o4).heap[w.heap.size+1]? =some o2/\((((w.alloc o1).alloc o2).alloc o3).alloc o4).heap[w.heap.size+1+1]? =some o3/\((((w.alloc o1).alloc o2).alloc o3).alloc o4).heap[w.heap.size+1+1+1]? =some o4:=by
 obtain ⟨a1,a2⟩:=blk2 w o1 o2
 obtain ⟨a3,a4⟩:=blk2 ((w.alloc o1).alloc o2) o3 o4
 simp only [jI] at a3 a4
 exact ⟨(jp _ _ _ yt).trans ((jp _ _ _ yt).trans a1),(jp _ _ _ yt).trans ((jp _ _ _ yt).trans a2),a3,a4⟩
theorem two_set {b1 b2:Nat} {t1 t2:TypeId} {v1 v2:Value} (u1 u2:Value) (h1:Boxed W b1 t1 v1) (h2:Boxed W b2 t2 v2) (hne:b1≠b2):
  Boxed ((W.setCell ⟨b1,0,none⟩ u1).setCell ⟨b2,0,none⟩ u2) b1 t1 u1/\Boxed ((W.setCell ⟨b1,0,none⟩ u1).setCell ⟨b2,0,none⟩ u2) b2 t2 u2:=
 ⟨(h1.set u1).kept (grownBy_setCell' _ _ _) (by simp [hne]),(h2.kept (grownBy_setCell' _ _ _) zk).set u2⟩
theorem keepsFrom_below {N:Nat} (h:Below W.heap.size W W'):KeepsFrom N W W':=
 ⟨h.size,fun k _ _ hk _=>(h.block k (jk.1 hk).1).trans hk⟩
theorem keepTwo_below {b:Nat} (h:Below W.heap.size W W') (hg:g<W.heap.size) (hb:b<W.heap.size):KeepTwo g b W W':=⟨h.block g hg,h.block b hb⟩
theorem range_snoc {pre:List Nat} {x:Nat} (h:pre++ [x]=List.range (pre++ [x]).length):pre=List.range pre.length/\x=pre.length:=by
 rw [jA,vX,uu] at h
 have:=uD h rfl
 exact ⟨this.1,by simpa using this.2⟩
theorem entR_at {r:Nat} (h:r<L.length):L[L.length - 1 - r]? =some (entR L r):=by
 unfold entR
 rw [vq,ji zi]
 rfl
theorem find_any (w:World) (bt g cap:Nat) (ao:Option Addr) (L:List Ent) (ms:List Mov) (s:Int×Int) (hm:L.map (·.1)=ms) (hby:ByStamp ms) (hlen:L.length<=1000) (hsl:w.cell? ⟨bt,1,none⟩=some (.slice ao L.length cap)) (hao:L= []\/ao=some ⟨g,0,none⟩) (hg:g<w.heap.size) (hrow:RowAt w g 0 L):
  Calls prog 187 #[.pointer (some ⟨bt,0,none⟩),.agg #[.int .i64 s.1,.int .i64 s.2]] w fun e w'=>(∃(i:Nat) (b:Bool),e= .returned (.tuple #[.int .i64 (i:Int),.bool b])/\Found ms s i b)/\Below w.heap.size w w':=by
 have hbt:bt<w.heap.size:=block_lt_of_cell hsl
 have hsl3:∀o1 o2 o3,(((w.alloc o1).alloc o2).alloc o3).cell? ⟨bt,1,none⟩=some (.slice ao L.length cap):=fun o1 o2 o3=>
  (((((jo w.heap.size w).alloc ze o1).alloc zm o2).alloc zk o3).cell (p:=⟨bt,1,none⟩) hbt).trans hsl
 refine (callsIn_wide (n:=4)).1 ?_
 refine callsIn_of_wp_marks func187 rfl trivial ?_ rfl
 simp only [ntmps187,jN,jK,vy,Nat.reduceAdd,Nat.reduceSub,vd,ve,vr,vj,vn,vp]
 gi_wp2_with (refine ⟨trivial,?_⟩;gi_at_call 227;refine (back_in Fence.wide (4 - 1) trivial rfl _ _ _ _).mono ?_;rintro e w' ⟨rfl,rfl⟩)
 obtain ⟨w4,hw4⟩:=za ((((w.alloc (.cells #[.int .i64 s.1,.int .i64 s.2] 36)).alloc (.cells #[.int .i64 0] 3)).alloc (.cells #[.bool false] 4)).alloc (.cells #[.slice ao L.length cap] 185))
 rw [<-hw4]
 have hB0:Below w.heap.size w w4:=by rw [hw4];exact (((((jo w.heap.size w).alloc ze _).alloc zm _).alloc zk _).alloc zk _)
 have hs4:w4.heap.size=w.heap.size+4:=by rw [hw4];simp
 obtain ⟨B,hB⟩:=za w.heap.size
 have e1:StAt w4 B s:=by rw [hw4,hB];exact (blk4 w _ _ _ _).1
 have e2:Boxed w4 (B+1) 3 (.int .i64 0):=by rw [hw4,hB];exact (blk4 w _ _ _ _).2.1
 have e3:Boxed w4 (B+1+1) 4 (.bool false):=by rw [hw4,hB];exact (blk4 w _ _ _ _).2.2.1
 have e4:Boxed w4 (B+1+1+1) 185 (.slice ao L.length cap):=by rw [hw4,hB];exact (blk4 w _ _ _ _).2.2.2
 rw [<-hB] at hB0 hs4 hg hbt |-
 have HB:Aside (B=w.heap.size):=hB
 have hBw:B<=w.heap.size:=zi
 clear hB
 have hrow4:RowAt w4 g 0 L:=hrow.same (hB0.block g hg)
 have hms:ms.length=L.length:=by rw [<-hm];simp
 clear hw4 hsl3 hrow
 refine wpIn_rangeFunc_ownH rfl zi (gf:=282) (lb:= #[.pointer (some ⟨B+1+1+1,0,none⟩)]) rfl trivial (enters_of func282 zj rfl)
  (back_stops Fence.wide (4 - 1) trivial rfl zi (B+1+1+1) g 0 cap ao L hlen hao w4 zi zi e4.cell hrow4) KeepTwo.trans (fun W l o o' hl _ _ _=>KeepTwo.put (N:=w4.heap.size) zi zi W l o' hl) (jo _ _) (fun _=>rfl)
  (fun pre W=>((pre=List.range pre.length->Later ms s (L.length - pre.length))/\StAt W B s/\Boxed W (B+1) 3 (.int .i64 0)/\Boxed W (B+1+1) 4 (.bool false)/\w4.heap.size<=W.heap.size)/\Below B w W)
  (fun c pre W=>(c= .ret/\(pre=List.range pre.length->∃(i:Nat) (b:Bool),Found ms s i b/\Boxed W (B+1) 3 (.int .i64 (i:Int))/\Boxed W (B+1+1) 4 (.bool b)))/\Below B w W)
  (OwnFrom.and (Own.from (fun _ X Y row hs hg hr=>⟨hs.1,kept_cells hs.2.1 hg hr,kept_cells hs.2.2.1 hg hr,kept_cells hs.2.2.2.1 hg hr,jw hs.2.2.2.2 hg.size⟩) _) (ownFrom_below zi zi))
  (fun c=>OwnFrom.and (Own.from (fun _ X Y row hs hg hr=>⟨hs.1,fun hp=>by obtain ⟨i,b,f1,f2,f3⟩:=hs.2 hp;exact ⟨i,b,f1,kept_cells f2 hg hr,kept_cells f3 hg hr⟩⟩) _) (ownFrom_below zi zi))
  ⟨⟨fun _=>by rw [vy,Nat.sub_zero,<-hms];exact later_end ms s,e1,e2,e3,jj _⟩,hB0⟩
  (fun x a' W=>∃Bx,w4.heap.size<=Bx/\EntAt W Bx (entR L x)/\a'= {tmps:= #[.pointer (some ⟨bt,0,none⟩),.agg #[.int .i64 s.1,.int .i64 s.2],undef,.pointer (some ⟨B,0,none⟩),.pointer (some ⟨B+1,0,none⟩),.pointer (some ⟨B+1+1,0,none⟩),.int .i64 ((L.length - 1 - x:Nat):Int),.pointer (some ⟨Bx,0,none⟩),.pointer (some ⟨bt,0,none⟩),.pointer (some ⟨bt,0,none⟩),.pointer (some ⟨bt,1,none⟩),.slice ao L.length cap,.func (.func 282) #[] #[.pointer (some ⟨B+1+1+1,0,none⟩)],.int .i64 ((L.length - 1 - x:Nat):Int),.agg #[.int .i64 (entR L x).1.1.1,.int .i64 (entR L x).1.1.2,.int .i64 (entR L x).1.2.1,.int .i64 (entR L x).1.2.2.1,.string (entR L x).1.2.2.2,.int .i64 (entR L x).2.1,.int .i64 (entR L x).2.2.1,.string (entR L x).2.2.2],undef,undef,undef,undef,undef,undef,undef,undef,undef,undef,undef],defers:=[]})
  (fun x a'=>Own.from (fun _ X Y row hs hg hr=>zK) _)
  ?assign ?body ?done ?stop
 case assign=>
  rintro l pre x W K ⟨⟨hlat,hst,hr1,hr2,hsz⟩,hBW⟩ hK
  have hBs:B<=W.heap.size:=zi
  have hK':Aside _:=hK
  have H1:Aside (StAt W B s/\Boxed W (B+1) 3 (.int .i64 0)/\Boxed W (B+1+1) 4 (.bool false)/\Below B w W):=⟨hst,hr1,hr2,hBW⟩
  clear hK hst hr1 hr2 hBW
  unfold encR
  gi_wp2
  refine hK'.o _ _ ((KeepsOthers.alloc _ _).from _) ⟨jp _ _ _ zi,jp _ _ _ zi⟩ ⟨⟨hlat,?_,H1.o.2.1.alloc _,H1.o.2.2.1.alloc _,zk⟩,H1.o.2.2.2.alloc hBs _⟩ ⟨W.heap.size,zi,heap_alloc_new W _,rfl⟩
  exact (jp _ _ _ zi).trans H1.o.1
 case body=>
  rintro l pre x a' W hl _ ⟨⟨hlat,hst,hr1,hr2,hsz⟩,hBW⟩ ⟨Bx,hBx,hE,rfl⟩ hlt
  have k0:=hst.c0
  have k1:=hst.c1
  have f0:=hE.cell 0 (u:=.int .i64 (entR L x).1.1.1) rfl
  have f1:=hE.cell 1 (u:=.int .i64 (entR L x).1.1.2) rfl
  have g1:=hr1.cell
  have g2:=hr1.frozen
  have g3:=hr2.cell
  have g4:=hr2.frozen
  have hq:=eqSt (entR L x).1.1.1 (entR L x).1.1.2 s.1 s.2
  by_cases he:(entR L x).1.1=s
  ·have hd:decide (((entR L x).1.1.1,(entR L x).1.1.2)=(s.1,s.2))=true:=decide_eq_true he
   rw [hd] at hq
   gi_wp2
   obtain ⟨q1,q2⟩:=two_set (.int .i64 ((L.length - 1 - x:Nat):Int)) (.bool true) hr1 hr2 zi
   refine ⟨((KeepsOthers.setCell _ _ _).trans (KeepsOthers.setCell _ _ _)).from _,⟨rfl,fun hp=> ?_⟩,(hBW.setCell (p:=⟨B+1,0,none⟩) xK _).setCell (p:=⟨B+1+1,0,none⟩) xz _⟩
   obtain ⟨hp1,hp2⟩:=range_snoc hp
   have hix:=entR_at (L:=L) (r:=x) zi
   exact ⟨L.length - 1 - x,true,found_same (m:=(entR L x).1) (by rw [<-hm,jS,hix];rfl) he,q1,q2⟩
  have hd:decide (((entR L x).1.1.1,(entR L x).1.1.2)=(s.1,s.2))=false:=decide_eq_false he
  rw [hd] at hq
  by_cases hls:SLt (entR L x).1.1 s
  ·have hlb:=(lessB_iff (entR L x).1.1 s).2 hls
   have hless:=less_any (entR L x).1.1.1 (entR L x).1.1.2 s.1 s.2 W
   rw [hlb] at hless
   have hw1:IntKind.i64.wrap (((L.length - 1 - x:Nat):Int)+1)=((L.length - 1 - x:Nat):Int)+1:=zq
   have G:Aside (Boxed W (B+1) 3 (.int .i64 0)/\Boxed W (B+1+1) 4 (.bool false)):=⟨hr1,hr2⟩
   gi_wp2_with (refine ⟨trivial,?_⟩;gi_at_call 115;refine (CallsIn.inRound l (callsIn_wide.2 hless)).mono ?_;rintro e w' ⟨rfl,hb'⟩;have G1:Aside (Boxed w' (B+1) 3 (.int .i64 0)/\Boxed w' (B+1+1) 4 (.bool false)):=⟨(hb'.block _ zi).trans G.o.1,(hb'.block _ zi).trans G.o.2⟩;have m1:=G1.o.1.cell;have m2:=G1.o.1.frozen;have m3:=G1.o.2.cell;have m4:=G1.o.2.frozen)
   obtain ⟨q1,q2⟩:=two_set (.int .i64 (((L.length - 1 - x:Nat):Int)+1)) (.bool false) G1.o.1 G1.o.2 zi
   refine ⟨(keepsFrom_below hb').trans (((KeepsOthers.setCell _ _ _).trans (KeepsOthers.setCell _ _ _)).from _),⟨rfl,fun hp=> ?_⟩,((hBW.trans (hb'.mono zi)).setCell (p:=⟨B+1,0,none⟩) xK _).setCell (p:=⟨B+1+1,0,none⟩) xz _⟩
   obtain ⟨hp1,hp2⟩:=range_snoc hp
   have hix:=entR_at (L:=L) (r:=x) zi
   exact ⟨L.length - 1 - x+1,false,found_less (m:=(entR L x).1) hby (by have:=hlat hp1;rwa [show L.length - pre.length=L.length - 1 - x+1 by omega] at this) (by rw [<-hm,jS,hix];rfl) hls,q1,q2⟩
  have hlb:lessB (entR L x).1.1.1 (entR L x).1.1.2 s.1 s.2=false:=by
   cases hh:lessB (entR L x).1.1.1 (entR L x).1.1.2 s.1 s.2 with
   | false=>rfl
   | true=>exact absurd ((lessB_iff (entR L x).1.1 s).1 hh) hls
  have hless:=less_any (entR L x).1.1.1 (entR L x).1.1.2 s.1 s.2 W
  rw [hlb] at hless
  gi_wp2_with (refine ⟨trivial,?_⟩;gi_at_call 115;refine (CallsIn.inRound l (callsIn_wide.2 hless)).mono ?_;rintro e w' ⟨rfl,hb'⟩)
  refine ⟨keepsFrom_below hb',keepTwo_below hb' zi zi,⟨⟨fun hp=> ?_,(hb'.block _ zi).trans hst,(hb'.block _ zi).trans hr1,(hb'.block _ zi).trans hr2,by have:=hb'.size;omega⟩,hBW.trans (hb'.mono zi)⟩⟩
  obtain ⟨hp1,hp2⟩:=range_snoc hp
  have hix:=entR_at (L:=L) (r:=x) zi
  have h1:=hlat hp1
  rw [show L.length - pre.length=L.length - 1 - x+1 by omega] at h1
  rw [jA,vX,show L.length - (pre.length+1)=L.length - 1 - x by omega]
  exact later_step (m:=(entR L x).1) h1 (by rw [<-hm,jS,hix];rfl) he hls
 case done=>
  rintro D ys W hD rfl ⟨⟨hlat,hst,hr1,hr2,hsz⟩,hBW⟩ hK
  have g1:=hr1.cell
  have g2:=hr1.frozen
  have g3:=hr2.cell
  have g4:=hr2.frozen
  gi_wp2
  have hK':=((KeepsOthers.setCell W ⟨B+1,0,none⟩ (.int .i64 0)).trans (KeepsOthers.setCell _ ⟨B+1+1,0,none⟩ (.bool false))).same D _ hK rfl
  refine ⟨zm,.inl ⟨_,_,rfl,run_takeDeferred hK',?_⟩⟩
  obtain ⟨q1,q2⟩:=two_set (.int .i64 0) (.bool false) hr1 hr2 zi
  have q3:Boxed _ (B+1) 3 (.int .i64 0):=kept_cells q1 (grownBy_putObj' _ D (.deferred none)) (fun r e=>by cases e;exact ⟨_,hK',rfl⟩)
  have q4:Boxed _ (B+1+1) 4 (.bool false):=kept_cells q2 (grownBy_putObj' _ D (.deferred none)) (fun r e=>by cases e;exact ⟨_,hK',rfl⟩)
  have q5:=q3.cell
  have q6:=q4.cell
  refine ⟨.tuple #[.int .i64 0,.bool false],?_,⟨0,false,rfl,found_first (by have:=hlat zm;simpa using this)⟩,?_⟩
  ·simp [results,f187,go_sem,q5,q6]
  rw [<-HB.o]
  exact ((hBW.setCell (p:=⟨B+1,0,none⟩) xK _).setCell (p:=⟨B+1+1,0,none⟩) xz _).trans (belowK_b (w:=w) zi _ D _ _ yO hK' rfl rfl)
 case stop=>
  rintro D c pre W hD ⟨k,hk,rfl⟩ ⟨⟨rfl,hf⟩,hBW⟩ hK
  obtain ⟨i,b,hF,hr1,hr2⟩:=hf zm
  gi_wp2
  refine ⟨zm,.inl ⟨_,_,rfl,run_takeDeferred hK,?_⟩⟩
  have q3:Boxed _ (B+1) 3 (.int .i64 (i:Int)):=kept_cells hr1 (grownBy_putObj' _ D (.deferred none)) (fun r e=>by cases e;exact ⟨_,hK,rfl⟩)
  have q4:Boxed _ (B+1+1) 4 (.bool b):=kept_cells hr2 (grownBy_putObj' _ D (.deferred none)) (fun r e=>by cases e;exact ⟨_,hK,rfl⟩)
  have q5:=q3.cell
  have q6:=q4.cell
  refine ⟨.tuple #[.int .i64 (i:Int),.bool b],?_,⟨i,b,rfl,hF⟩,?_⟩
  ·simp [results,f187,go_sem,q5,q6]
  rw [<-HB.o]
  exact hBW.trans (belowK_b (w:=w) zi W D _ _ yO hK rfl rfl)
end
section
open Go.RowKit Go.Maps
open scoped Classical
def headE (x:Ent):List Value:=[.int .i64 x.1.1.1,.int .i64 x.1.1.2,.int .i64 x.1.2.1,.int .i64 x.1.2.2.1,.string x.1.2.2.2]
theorem encE_split (m:Mov) (fr:Plc):encE (m,fr)=headE (m,fr)++cellsP fr:=rfl
theorem row_split {i:Nat} (hx:L[i]? =some x) (fr:Plc):∃A C,A.length=i*8+5/\flat encE L=A++cellsP x.2++C/\flat encE (L.set i (x.1,fr))=A++cellsP fr++C:=by
 obtain ⟨hl,he⟩:=jh.1 hx
 have h1:=flat_set (enc:=encE) (k:=8) encE_len L i hl (x.1,fr)
 have h2:=flat_set (enc:=encE) (k:=8) encE_len L i hl (x.1,x.2)
 have hs:L.set i (x.1,x.2)=L:=by
  rw [show ((x.1,x.2):Ent)=x from rfl,<-he]
  exact List.set_getElem_self hl
 rw [hs] at h2
 refine ⟨(flat encE L).take (i*8)++headE x,(flat encE L).drop ((i+1)*8),?_,?_,?_⟩
 ·rw [jA,jz,flat_len encE_len]
  have:(headE x).length=5:=rfl
  omega
 ·conv=>lhs;rw [h2]
  rw [encE_split]
  simp only [jR]
 rw [h1,encE_split]
 simp only [jR]
 rfl
theorem three_set {base o:Nat} {A C:List Value} {q:Plc} (p:Plc) (h:w.ownsRow base 284 8 (.slice (some ⟨g,0,none⟩) n cap) n (A++cellsP q++C)) (ho:A.length=o):
  (((w.setCell ⟨g,o,none⟩ (.int .i64 p.1)).setCell ⟨g,o+1,none⟩ (.int .i64 p.2.1)).setCell ⟨g,o+2,none⟩ (.string p.2.2)).ownsRow base 284 8 (.slice (some ⟨g,0,none⟩) n cap) n (A++cellsP p++C):=by
 subst ho
 exact owns_over (vs:=cellsP p) h rfl
theorem three_keeps (w:World) (g o1 o2 o3:Nat) (v1 v2 v3:Value):Keeps (fun k=>k=g) w (((w.setCell ⟨g,o1,none⟩ v1).setCell ⟨g,o2,none⟩ v2).setCell ⟨g,o3,none⟩ v3):=
 ((setCells_keeps g [v1] o1 w).trans (setCells_keeps g [v2] o2 _)).trans (setCells_keeps g [v3] o3 _)
def TreeCell (w:World) (bt bm:Nat) (v:Value):Prop:=w.heap[bt]? =some (.cells #[.map (some bm),v] 187 (0,0))
theorem TreeCell.c0 (h:TreeCell w bt bm v):w.cell? ⟨bt,0,none⟩=some (.map (some bm)):=xR
theorem TreeCell.c1 (h:TreeCell w bt bm v):w.cell? ⟨bt,1,none⟩=some v:=xR
theorem TreeCell.fz (h:TreeCell w bt bm v) (o:Nat):w.frozen? ⟨bt,o,none⟩=false:=by unfold TreeCell at h;simp [World.frozen?,h]
theorem TreeCell.lt (h:TreeCell w bt bm v):bt<w.heap.size:=(jk.1 h).1
theorem TreeCell.ne_map (h:TreeCell w bt bm v) (hM:MapAt prog 3 w bm n f):bt≠bm:=by
 intro e
 obtain ⟨es,ck,hb⟩:=hM.block
 unfold TreeCell at h
 rw [e,hb] at h
 cases h
theorem row_block {base:Nat} (h:w.ownsRow base 284 8 (.slice (some ⟨g,0,none⟩) n cap) k xs):∃cur,w.heap[g]? =some (.cells cur 284 (0,0)):=by
 rcases h.2 with ⟨hc,_⟩ | ⟨g',cap',cur,hc,_,hg,_⟩
 ·cases hc
 cases hc;exact ⟨cur,hg⟩
theorem row_ne_map {base nn:Nat} (h:w.ownsRow base 284 8 (.slice (some ⟨g,0,none⟩) n cap) k xs) (hM:MapAt prog 3 w bm nn f):g≠bm:=by
 intro e
 obtain ⟨cur,hc⟩:=row_block h
 obtain ⟨es,ck,hb⟩:=hM.block
 rw [e,hb] at hc
 cases hc
theorem row_ne_tree {base:Nat} (h:w.ownsRow base 284 8 (.slice (some ⟨g,0,none⟩) n cap) k xs) (hT:TreeCell w bt bm v):g≠bt:=by
 intro e
 obtain ⟨cur,hc⟩:=row_block h
 unfold TreeCell at hT
 rw [e,hT] at hc
 simp at hc
theorem row_at {base:Nat} (h:w.ownsRow base 284 8 (.slice (some ⟨g,0,none⟩) n cap) n (flat encE L)):RowAt w g 0 L:=fun j u hj=>by
 have:=h.cells (g:=g) rfl j u hj
 rw [Addr.add_lit] at this
 exact this
theorem row_fz {base:Nat} (h:w.ownsRow base 284 8 (.slice (some ⟨g,0,none⟩) n cap) k xs) (j:Nat):w.frozen? ⟨g,j,none⟩=false:=by
 obtain ⟨cur,hc⟩:=row_block h
 simp [World.frozen?,hc]
theorem row_same {w':World} {base:Nat} (h:w.ownsRow base 284 8 (.slice (some ⟨g,0,none⟩) n cap) k xs) (e:w'.heap[g]? =w.heap[g]?):w'.ownsRow base 284 8 (.slice (some ⟨g,0,none⟩) n cap) k xs:=by
 refine ⟨h.1,?_⟩
 rcases h.2 with ⟨hc,_⟩ | ⟨g',cap',cur,hc,h1,hg,h2⟩
 ·cases hc
 cases hc;exact .inr ⟨g,cap,cur,rfl,h1,e.trans hg,h2⟩
theorem do_any (w:World) (bt bm base g cap at_ n:Nat) (L:List Ent) (ms:List Mov) (hT:TreeCell w bt bm (.slice (some ⟨g,0,none⟩) ms.length cap)) (hown:w.ownsRow base 284 8 (.slice (some ⟨g,0,none⟩) ms.length cap) ms.length (flat encE L)) (hL:LogTo ms at_ L)
  (hM:MapAt prog 3 w bm n (madeBy (ms.take at_))) (hfine:∀m∈ms,FineP m.2) (hat:at_<=ms.length) (hlen:ms.length<=1000) (hn:n<=1000000):
  Calls prog 190 #[.pointer (some ⟨bt,0,none⟩),.int .i64 (at_:Int)] w fun e w'=>(∃u,e= .returned u)/\∃L' n',LogTo ms ms.length L'/\w'.ownsRow base 284 8 (.slice (some ⟨g,0,none⟩) ms.length cap) ms.length (flat encE L')/\MapAt prog 3 w' bm n' (madeBy ms)/\n'<=n+ms.length/\Keeps (fun k=>k=bm\/k=g) w w':=by
 have htm:=hT.ne_map hM
 have hgm:=row_ne_map hown hM
 have hgt:=row_ne_tree hown hT
 have hbt:=hT.lt
 have hgw:g<w.heap.size:=(jk.1 (row_block hown).choose_spec).1
 have hbm:=hM.lt
 go_enter func190,ntmps190
 go_wp2
 go_loopg [4] (ms.length - at_) (fun kx s4 wr=>∃(i:Nat) (L:List Ent) (n':Nat),s4= .int .i64 (i:Int)/\i<=ms.length/\ms.length - i<=kx/\LogTo ms i L/\wr.ownsRow base 284 8 (.slice (some ⟨g,0,none⟩) ms.length cap) ms.length (flat encE L)/\MapAt prog 3 wr bm n' (madeBy (ms.take i))/\n'<=n+i/\Keeps (fun k=>k=bm\/k=g) w wr)
 case atStart=>exact ⟨at_,L,n,rfl,hat,jj _,hL,hown,hM,Nat.le_add_right _ _,Keeps.refl _ _⟩
 case round=>
  obtain ⟨i,L,n',rfl,hi,hkx,hL,hown,hM,hn',hk⟩:=hrel
  have hT1:TreeCell wr bt bm (.slice (some ⟨g,0,none⟩) ms.length cap):=(hk.block bt hbt zi).trans ‹TreeCell w bt bm _›
  have t0:=hT1.c0
  have t1:=hT1.c1
  have hsz:=hk.size
  by_cases hlt:i<ms.length
  ·have hltz:decide ((i:Int)<(ms.length:Int))=true:=by simp;omega
   obtain ⟨x,hx⟩:∃x,L[i]? =some x:=⟨_,ji (by rw [hL.len];exact hlt)⟩
   have hmx:=hL.mov hx
   have hf:FineP x.1.2:=hfine _ (jm hmx)
   have hrow:=row_at hown
   have c2:wr.cell? ⟨g,i*8+2,none⟩=some (.int .i64 x.1.2.1):=by have:=hrow.at hx 2 (u:=.int .i64 x.1.2.1) rfl;rwa [jt] at this
   have c3:wr.cell? ⟨g,i*8+3,none⟩=some (.int .i64 x.1.2.2.1):=by have:=hrow.at hx 3 (u:=.int .i64 x.1.2.2.1) rfl;rwa [jt] at this
   have c4:wr.cell? ⟨g,i*8+4,none⟩=some (.string x.1.2.2.2):=by have:=hrow.at hx 4 (u:=.string x.1.2.2.2) rfl;rwa [jt] at this
   have ex:((i:Int)).toNat=i:=zi
   have px:(0:Int)<=(i:Int):=zi
   have bx:(i:Int)<(ms.length:Int):=zi
   have HH:Aside (LogTo ms i L/\wr.ownsRow base 284 8 (.slice (some ⟨g,0,none⟩) ms.length cap) ms.length (flat encE L)/\MapAt prog 3 wr bm n' (madeBy (ms.take i))/\Keeps (fun k=>k=bm\/k=g) w wr/\TreeCell wr bt bm (.slice (some ⟨g,0,none⟩) ms.length cap)/\RowAt wr g 0 L/\L[i]? =some x/\ms[i]? =some x.1):=⟨hL,hown,hM,hk,hT1,hrow,hx,hmx⟩
   clear hL hown hM hk hT1 hrow hx hmx
   go_wp2
   obtain ⟨w1,hw1⟩:=za (wr.alloc (.cells #[.int .i64 x.1.2.1,.int .i64 x.1.2.2.1,.string x.1.2.2.2] 106))
   have hp1:PlcAt w1 wr.heap.size x.1.2:=by rw [hw1];exact heap_alloc_new wr _
   have hold:∀k,k<wr.heap.size->w1.heap[k]? =wr.heap[k]? :=fun k hk=>by rw [hw1];exact jp wr _ k hk
   have hs1:w1.heap.size=wr.heap.size+1:=xP
   have hk1:Keeps (fun k=>k=bm\/k=g) w w1:=by rw [hw1];exact HH.o.2.2.2.1.alloc _
   have hown1:=row_same HH.o.2.1 (hold g zi)
   have hT1:TreeCell w1 bt bm (.slice (some ⟨g,0,none⟩) ms.length cap):=(hold bt zi).trans HH.o.2.2.2.2.1
   have hM1:=HH.o.2.2.1.same (hold bm zi)
   obtain ⟨b5,hb5⟩:=za wr.heap.size
   rw [<-hw1]
   rw [<-hb5] at hp1 hs1 |-
   have hg5:g<b5:=zi
   have hb5w:w.heap.size<=b5:=zi
   have hm5:bm<b5:=zi
   have ht5:bt<b5:=zi
   clear hw1 hold hb5 t0 t1 c2 c3 c4
   have hrow1:=row_at hown1
   have t0:=hT1.c0
   have t1:=hT1.c1
   have p0:=hp1.c0
   have p1:=hp1.c1
   have p2:=hp1.c2
   have hwn:Wf x.1.2.1:=(wf_fine hf).1
   have l0:=hM1.looks1 hwn
   have l1:=(show MapAt prog 3 w1.drew bm n' (madeBy (ms.take i)) from hM1).looks1 hwn
   unfold encP at l0 l1
   have c5:w1.cell? ⟨g,i*8+5,none⟩=some (.int .i64 x.2.1):=by have:=hrow1.at HH.o.2.2.2.2.2.2.1 5 (u:=.int .i64 x.2.1) rfl;rwa [jt] at this
   have c6:w1.cell? ⟨g,i*8+6,none⟩=some (.int .i64 x.2.2.1):=by have:=hrow1.at HH.o.2.2.2.2.2.2.1 6 (u:=.int .i64 x.2.2.1) rfl;rwa [jt] at this
   have c7:w1.cell? ⟨g,i*8+7,none⟩=some (.string x.2.2.2):=by have:=hrow1.at HH.o.2.2.2.2.2.2.1 7 (u:=.string x.2.2.2) rfl;rwa [jt] at this
   have z5:=row_fz hown1 (i*8+5)
   have z6:=row_fz hown1 (i*8+6)
   have z7:=row_fz hown1 (i*8+7)
   obtain ⟨fr,hfr⟩:=za ((madeBy (ms.take i) x.1.2.1).getD zeroP)
   rw [<-hfr] at l0 l1
   have H1:Aside (w1.ownsRow base 284 8 (.slice (some ⟨g,0,none⟩) ms.length cap) ms.length (flat encE L)/\MapAt prog 3 w1 bm n' (madeBy (ms.take i))/\Keeps (fun k=>k=bm\/k=g) w w1/\TreeCell w1 bt bm (.slice (some ⟨g,0,none⟩) ms.length cap)/\PlcAt w1 b5 x.1.2/\fr=fromAt ms i):=⟨hown1,hM1,hk1,hT1,hp1,by rw [hfr,fromAt_some HH.o.2.2.2.2.2.2.2]⟩
   clear hown1 hM1 hk1 hT1 hp1 hrow1 hfr
   go_region
   obtain ⟨w2,hw2⟩:=za ((((w1.setCell ⟨g,i*8+5,none⟩ (.int .i64 fr.1)).setCell ⟨g,i*8+5+1,none⟩ (.int .i64 fr.2.1)).setCell ⟨g,i*8+5+2,none⟩ (.string fr.2.2)).drew)
   rw [<-hw2]
   have hk12:Keeps (fun k=>k=g) w1 w2:=by rw [hw2];exact (three_keeps w1 g _ _ _ _ _ _).drew
   obtain ⟨A,C,hA,hf1,hf2⟩:=row_split HH.o.2.2.2.2.2.2.1 fr
   have hown2:w2.ownsRow base 284 8 (.slice (some ⟨g,0,none⟩) ms.length cap) ms.length (flat encE (L.set i (x.1,fr))):=by
    have:=H1.o.1
    rw [hf1] at this
    rw [hw2,hf2]
    exact three_set fr this hA
   have hM2:=H1.o.2.1.same (hk12.block bm zi zi)
   have hT2:TreeCell w2 bt bm (.slice (some ⟨g,0,none⟩) ms.length cap):=(hk12.block bt zi zi).trans H1.o.2.2.2.1
   have hp2:PlcAt w2 b5 x.1.2:=H1.o.2.2.2.2.1.same (hk12.block b5 zi zi)
   have hk2:Keeps (fun k=>k=bm\/k=g) w w2:=H1.o.2.2.1.then hk12 (fun _ _ e=>.inr e)
   have hs2:=hk12.size
   have hL2:LogTo ms (i+1) (L.set i (x.1,fr)):=by rw [H1.o.2.2.2.2.2];exact set_to HH.o.1 HH.o.2.2.2.2.2.2.1
   have hmade:=made_take HH.o.2.2.2.2.2.2.2
   have hgood:Good (madeBy (ms.take i)):=good_made (fun m hm=>hfine m (uf hm))
   have H2:Aside (w2.ownsRow base 284 8 (.slice (some ⟨g,0,none⟩) ms.length cap) ms.length (flat encE (L.set i (x.1,fr)))/\MapAt prog 3 w2 bm n' (madeBy (ms.take i))/\Keeps (fun k=>k=bm\/k=g) w w2/\TreeCell w2 bt bm (.slice (some ⟨g,0,none⟩) ms.length cap)/\PlcAt w2 b5 x.1.2/\LogTo ms (i+1) (L.set i (x.1,fr))/\madeBy (ms.take (i+1))=step (madeBy (ms.take i)) x.1/\w2.heap.size≥w1.heap.size):=⟨hown2,hM2,hk2,hT2,hp2,hL2,hmade,hs2⟩
   clear hw2 hk12 hA hf1 hf2 hown2 hM2 hT2 hk2 hL2 hmade t0 t1 p0 p1 p2 l0 l1 c5 c6 c7 z5 z6 z7 H1 HH
   have p0:=hp2.c0
   have p1:=hp2.c1
   have p2:=hp2.c2
   have t0:=H2.o.2.2.2.1.c0
   clear hp2
   by_cases he:x.1.2.1=x.1.2.2.1
   ·have d0:(x.1.2.1 !=x.1.2.2.1)=false:=by simp [he]
    have hidle:Idle (madeBy (ms.take i)) x.1.2:=.inl he
    have HI:Aside (madeBy (ms.take (i+1))=madeBy (ms.take i)):=H2.o.2.2.2.2.2.2.1.trans (step_idle hidle)
    clear he hidle
    go_wp2
    go_roundg (ms.length - (i+1))
    case measure=>omega
    case rel=>exact ⟨i+1,L.set i (x.1,fr),n',zw,zi,jj _,H2.o.2.2.2.2.2.1,H2.o.1,by rw [HI.o];exact H2.o.2.1,zi,H2.o.2.2.1⟩
   have d0:(x.1.2.1 !=x.1.2.2.1)=true:=by simp [he]
   have hwo:Wf x.1.2.2.1:=(wf_fine hf).2
   by_cases hin:Ins (madeBy (ms.take i)) x.1.2.2.1 x.1.2.1
   ·have hidle:Idle (madeBy (ms.take i)) x.1.2:=.inr hin
    have HI:Aside (madeBy (ms.take (i+1))=madeBy (ms.take i)):=H2.o.2.2.2.2.2.2.1.trans (step_idle hidle)
    have hcall:=inside_is w2 bt bm n' (madeBy (ms.take i)) x.1.2.2.1 x.1.2.1 true (by simp [hin]) t0 H2.o.2.1 hgood hwo
    clear he hidle hin hgood
    go_wp2_with (go_at_call 96;refine hcall.mono ?_;clear hcall;rintro e w3 ⟨rfl,hb3⟩)
    have hk3:Keeps (fun k=>k=bm\/k=g) w w3:=H2.o.2.2.1.then (keeps_of_below hb3) (fun i hi e=>by have:=H2.o.2.2.1.size;omega)
    have hown3:=row_same H2.o.1 (hb3.block g (by have:=H2.o.2.2.2.2.2.2.2;omega))
    have hM3:=H2.o.2.1.same (hb3.block bm (by have:=H2.o.2.2.2.2.2.2.2;omega))
    go_roundg (ms.length - (i+1))
    case measure=>omega
    case rel=>exact ⟨i+1,L.set i (x.1,fr),n',zw,zi,jj _,H2.o.2.2.2.2.2.1,hown3,by rw [HI.o];exact hM3,zi,hk3⟩
   have hidle:¬Idle (madeBy (ms.take i)) x.1.2:=fun h=>h.elim he hin
   have HI:Aside (madeBy (ms.take (i+1))=upd (madeBy (ms.take i)) x.1.2.1 (some x.1.2)):=H2.o.2.2.2.2.2.2.1.trans (step_goes hidle)
   have hcall:=inside_is w2 bt bm n' (madeBy (ms.take i)) x.1.2.2.1 x.1.2.1 false (by simp [hin]) t0 H2.o.2.1 hgood hwo
   clear he hidle hin hgood
   go_wp2_with (go_at_call 96;refine hcall.mono ?_;clear hcall;rintro e w3 ⟨rfl,hb3⟩)
   have hs3:=H2.o.2.2.2.2.2.2.2
   have hk3:Keeps (fun k=>k=bm\/k=g) w w3:=H2.o.2.2.1.then (keeps_of_below hb3) (fun i hi e=>by have:=H2.o.2.2.1.size;omega)
   have hown3:=row_same H2.o.1 (hb3.block g zi)
   have hM3:=H2.o.2.1.same (hb3.block bm zi)
   have hT3:TreeCell w3 bt bm (.slice (some ⟨g,0,none⟩) ms.length cap):=(hb3.block bt zi).trans H2.o.2.2.2.1
   have hp3:PlcAt w3 b5 x.1.2:=H2.o.2.2.2.2.1.same (hb3.block b5 zi)
   obtain ⟨w4,hrun,hM4,ht4⟩:=(show MapAt prog 3 w3.drew bm n' (madeBy (ms.take i)) from hM3).store (T:=184) (E:=106) underlying3 underlying184 zD hwn x.1.2
   unfold encP at hrun
   have hg4:=ht4.grown
   have hg4':w3.grownBy w4 (some bm):=⟨hg4.os,hg4.tape,hg4.output,hg4.size,hg4.block⟩
   have hk4:Keeps (fun k=>k=bm\/k=g) w w4:=hk3.then (keeps_of_grown hg4') (fun i _ e=>.inl zZ)
   have hown4:=row_same hown3 (hg4'.block g (by have:=hb3.size;omega) (by simpa using hgm))
   have H4:Aside (Keeps (fun k=>k=bm\/k=g) w w4/\w4.ownsRow base 284 8 (.slice (some ⟨g,0,none⟩) ms.length cap) ms.length (flat encE (L.set i (x.1,fr)))/\MapAt prog 3 w4 bm (n'+1) (madeBy (ms.take (i+1)))):=⟨hk4,hown4,by rw [HI.o];exact hM4⟩
   have q0:=hp3.c0
   have q1:=hp3.c1
   have q2:=hp3.c2
   have u0:=hT3.c0
   clear p0 p1 p2 t0 hb3 hk3 hown3 hM3 hT3 hp3 hM4 ht4 hg4 hg4' hk4 hown4
   go_region
   all_goals go_wp2
   go_roundg (ms.length - (i+1))
   case measure=>omega
   case rel=>exact ⟨i+1,L.set i (x.1,fr),n'+1,zw,zi,jj _,H2.o.2.2.2.2.2.1,H4.o.2.1,H4.o.2.2,zi,H4.o.1⟩
  have hltz:decide ((i:Int)<(ms.length:Int))=false:=zk
  have hie:i=ms.length:=zi
  subst hie
  rw [jX] at hM
  go_wp2
  go_end0
  exact ⟨⟨_,rfl⟩,L,n',hL,hown,hM,hn',hk⟩
end
section
open Go.RowKit Go.Shelf Go.Maps
open scoped Classical
attribute [local go_sem] Oper.semAt_some
def AllP (f:Sta) (ps:List Plc):Prop:=(ps.map (·.1)).Nodup/\∀p,p∈ps↔f p.1=some p
theorem AllP.places {qs:List Plc} (h:AllP f ps) (hp:qs.Perm ps) (hs:qs.Pairwise (fun a b=>¬b.1<a.1)):IsPlaces f qs:=by
 refine ⟨?_,fun p=>(hp.mem_iff).trans (h.2 p)⟩
 have hn:(qs.map (·.1)).Nodup:=(hp.map _).nodup_iff.2 h.1
 have hn':qs.Pairwise (fun a b=>a.1≠b.1):=ub.1 hn
 exact (hs.and hn').imp (fun {a b} h=>by have h1:=h.1;have h2:=h.2;omega)
def CollP (D:DataW Unit) (f:Sta) (left:Lit->Bool) (ps:List Plc):Prop:=
 (ps.map (·.1)).Nodup/\(∀p∈ps,f p.1=some p/\left (.int .i64 p.1)=false)/\∀k,Wf k->has D (.int .i64 k)=true->left (.int .i64 k)=false->k∈ps.map (·.1)
theorem collP_start (D:DataW Unit) (f:Sta):CollP D f (has D) []:=⟨List.nodup_nil,fun p hp=>by simp at hp,fun k _ h1 h2=>by rw [h1] at h2;cases h2⟩
theorem same_int (a b:Int):Lit.sameKey (.int .i64 a) (.int .i64 b)=decide (a=b):=by
 by_cases h:a=b
 ·subst h
  rw [WideAt.sameKey_self (show WideAt.IsKeyLit (.int .i64 a) from trivial)]
  simp
 rw [sameKey_ne (lit_ne h)]
 simp [h]
theorem CollP.step {left:Lit->Bool} (h:CollP D f left ps) {x:Int} (hl:left (.int .i64 x)=true) (hf:f x=some c) (hk:c.1=x):CollP D f (fun z=>left z && !z.sameKey (.int .i64 x)) (ps++ [c]):=by
 obtain ⟨h1,h2,h3⟩:=h
 refine ⟨?_,fun p hp=> ?_,fun k hw hh hlk=> ?_⟩
 ·rw [jY,vz]
  refine ⟨h1,zm,fun a ha b hb=> ?_⟩
  simp only [vA,List.map_nil,jD] at hb
  subst hb
  intro e
  obtain ⟨p,hp,rfl⟩:=jO.1 ha
  have:=(h2 p hp).2
  rw [e,hk,hl] at this
  cases this
 ·rcases ju.1 hp with hp | hp
  ·have:=h2 p hp
   exact ⟨this.1,by show (left (.int .i64 p.1) &&_)=false;rw [this.2];rfl⟩
  simp only [jD] at hp
  subst hp
  refine ⟨by rw [hk];exact hf,?_⟩
  show (left (.int .i64 p.1) && !Lit.sameKey (.int .i64 p.1) (.int .i64 x))=false
  rw [hk,same_int]
  simp
 have hlk:(left (.int .i64 k) && !Lit.sameKey (.int .i64 k) (.int .i64 x))=false:=hlk
 rw [same_int] at hlk
 rw [jY]
 by_cases e:k=x
 ·subst e
  simp [hk]
 refine jP _ (h3 k hw hh ?_)
 simpa [e] using hlk
theorem CollP.all {left:Lit->Bool} (h:CollP D f left ps) (hr:ReadsAs D f) (G:Good f) (hl:∀kl,left kl=false):AllP f ps:=by
 refine ⟨h.1,fun p=>⟨fun hp=>(h.2.1 p hp).1,fun hp=> ?_⟩⟩
 have hw:=wf_key G hp
 have hm:=h.2.2 p.1 hw (by rw [hr.has hw,hp];rfl) (hl _)
 obtain ⟨q,hq,e⟩:=jO.1 hm
 have:=(h.2.1 q hq).1
 rw [e,hp] at this
 cases this
 exact hq
theorem at_some (hr:ReadsAs D f) (G:Good f) {x:Int} (hw:Wf x) (hat:∀zd,D.atKey (.int .i64 x) zd=dat c):f x=some c/\c.1=x:=by
 have hh:=hr.has hw
 rw [has_true_of_atKey hat] at hh
 cases hf:f x with
 | none=>rw [hf] at hh;cases hh
 | some p=>
  have:=hr.some hw hf .nil
  rw [hat] at this
  rw [dat_inj this]
  exact ⟨rfl,G.key x p hf⟩
theorem values1_in (F:Fence) (n:Nat) (h8:F.fn 167) (hro:F.round=none) (hn:1<=n) (l Bm b nn:Nat) (D0:DataW Unit) (f:Sta) (hr:ReadsAs D0 f) (G:Good f) (J Jx:List Plc->World->Prop)
  (hY:∀pre x W,J pre W->pre.length<nn->YieldAt F (n - 1) prog l #[encP x] W fun e W'=>
   (e= .returned (.bool true)/\J (pre++ [x]) W'/\KeepsWalks W W')\/(e= .returned (.bool false)/\Jx (pre++ [x]) W'))
  (W:World) (hJ:AbidesFrom W.heap.size J) (hm:W.cell? ⟨Bm,0,none⟩=some (.map (some b))) (hown:W.ownsMap prog 3 plcR b nn D0) (h0:J [] W):
  CallsIn F n prog 167 #[.func (.yield l) #[] #[],.pointer (some ⟨Bm,0,none⟩)] W fun e W'=>(∃v,e= .returned v)/\
   ((∃xs,AllP f xs/\J xs W')\/(∃pre,True/\Jx pre W')):=by
 refine callsIn_of_wp func167 rfl h8 ?_ hro
 simp only [ntmps167,jN,jK,vy,Nat.reduceAdd,Nat.reduceSub,vd,ve,vr,vj,vn,vp]
 have hsn:=hown.size_le
 gi_wp2_with (first
  | (gi_at_range;refine wpListIn_range_own _ rfl _ 184 rfl 3 106 (int_keyed underlying3) underlying184 _ b nn _ rfl hown ?_;intro w0 hrg0 hg0 hs0)
  | gi_in)
 go_frame
 gi_loopw [4] (fun _ wr=>∃(left:Lit->Bool) (cnt:Nat) (ps:List Plc),wr.ranges prog 3 plcR b W.heap.size nn D0 left cnt/\ps.length+cnt<=nn/\CollP D0 f left ps/\J ps wr)
  (fun _ wr=>wr.rangeLeft b W.heap.size)
 case atStart=>
  exact ⟨_,_,[],hrg0,by simpa using hsn,collP_start D0 f,hJ [] W w0 none h0 hg0 (fun r e=>yJ)⟩
 case round=>
  obtain ⟨left,cnt,ps,hrg,hcs,hC,hJs⟩:=hrel
  gi_wp2_with (first
   | (gi_at_next;refine wpListIn_next_ranges _ rfl _ rfl 3 (int_keyed underlying3) plcR (Value.int .i64) encP (fun key kl hk=>by obtain ⟨x,hx,_⟩:=Maps.keyOf_int_inv underlying3 hk;exact ⟨x,hx⟩) (fun v y hv=>by obtain ⟨c,rfl,_⟩:=plcR_inv hv;exact ⟨c,rfl⟩) b W.heap.size nn _ _ _ rfl hrg ?_ ?_)
   | gi_in)
  ·intro hc0 hl0
   gi_wp2
   go_end0
   exact ⟨⟨_,rfl⟩,.inl ⟨ps,hC.all hr G hl0,hJs⟩⟩
  intro x c1 c2 c3 kl yd yp w2 cnt2 hkey hlk hv hat hrg2 hlt hg2 hs2 hen
  obtain ⟨x',ex,rfl,hwx⟩:=Maps.keyOf_int_inv underlying3 hkey
  obtain rfl:x=x':=by simpa using ex
  obtain ⟨c',ec,ez⟩:=plcR_inv hv
  obtain rfl:(c1,c2,c3)=c':=encP_inj ec
  obtain rfl:yd=dat (c1,c2,c3):=(Prod.mk.inj ez).1
  obtain ⟨hfx,hcx⟩:=at_some hr G hwx hat
  have hcx:c1=x:=hcx
  subst hcx
  have hJ2:J ps w2:=hJ ps wr w2 (some W.heap.size) hJs hg2 (fun r e=>by cases e;exact ⟨jj _,hrg.iter_walk⟩)
  have hJ3:J ps (w2.alloc (.cells #[.int .i64 c1,.int .i64 c2,.string c3] 106)):=hJ ps w2 _ none hJ2 (World.grownBy_alloc w2 _ none) (fun r e=>yJ)
  obtain ⟨fn,tmps,assign,body,hy,hR⟩:=hY ps (c1,c2,c3) _ hJ3 zi
  unfold encP at hy hen
  dsimp only at hy hen
  have hrg3:=hrg2.alloc (.cells #[.int .i64 c1,.int .i64 c2,.string c3] 106)
  have hC2:=hC.step hlk hfx rfl
  have H3:Aside (RoundIn F (n - 1) prog l fn tmps assign body _ _):=hR
  clear hs2 hR hJ2 hJ3
  unfold encP
  dsimp only
  gi_wp2
  refine RoundIn.mono H3.o ?_
  rintro e W3 (⟨rfl,hJ4,hk4⟩ | ⟨rfl,hJx4⟩)
  ·gi_wp2
   have hrg4:=hrg3.of_walks hk4
   go_roundw
   case rel=>exact ⟨_,cnt2,ps++ [(c1,c2,c3)],hrg4,zk,hC2,hJ4⟩
   case measure=>rw [hrg4.left_eq,hrg.left_eq];exact hlt
  gi_wp2
  refine bodyPost_ret (results_none rfl _ _ _) rfl ?_
  exact ⟨⟨_,rfl⟩,.inr ⟨ps++ [(c1,c2,c3)],trivial,hJx4⟩⟩
theorem values_in (F:Fence) (n:Nat) (hf:F.fn 101) (hro:F.round=none) (mb:Option Nat) (w:World):
  CallsIn F n prog 101 #[.map mb] w fun e w'=>e= .returned (.func (.func 167) #[] #[.pointer (some ⟨w.heap.size,0,none⟩)])/\w'=w.alloc (.cells #[.map mb] 184):=by
 refine callsIn_of_wp func101 rfl hf ?_ hro
 simp only [ntmps101,jN,jK,vy,Nat.reduceAdd,Nat.reduceSub,vd,ve,vr,vj,vn,vp]
 gi_wp2
 go_ret
 exact ⟨rfl,rfl⟩
theorem values_stops (F:Fence) (n:Nat) (h8:F.fn 167) (hro:F.round=none) (hn:1<=n) (Bm b nn:Nat) (f:Sta) (G:Good f) (w:World) (hBm:Bm<w.heap.size) (hm:w.cell? ⟨Bm,0,none⟩=some (.map (some b))) (hM:MapAt prog 3 w b nn f):
  SeqStopsK F n prog 167 #[.pointer (some ⟨Bm,0,none⟩)] (fun x:Plc=> #[encP x]) KeepsWalks (fun xs=>AllP f xs) (fun _=>True) nn w:=fun l J Jx W hW hJ _ hY h0=>by
 have hbl:=hM.lt
 obtain ⟨D,hown,hr⟩:=hM.same (hW.block b hbl)
 exact values1_in F n h8 hro hn l Bm b nn D f hr G J Jx hY W hJ ((hW.cell (p:=⟨Bm,0,none⟩) hBm).trans hm) hown h0
end
section
open Go.Shelf Go.RowKit Go.Lib Go.Sort
def cmpT (a b:List UInt8):Int:=if a<b then -1 else if b<a then 1 else 0
def orZ (a b:Int):Int:=if a=0 then b else a
theorem or_any (w:World) (g:Nat) (a b:Int) (h0:w.cell? ⟨g,0,none⟩=some (.int .i64 a)) (h1:w.cell? ⟨g,1,none⟩=some (.int .i64 b)):
  Calls prog 147 #[.slice (some ⟨g,0,none⟩) 2 2] w fun e w'=>e= .returned (.int .i64 (orZ a b))/\w'=w:=by
 unfold orZ
 by_cases ha:a=0
 ·rw [if_pos ha]
  have da:(a !=0)=false:=by simp [ha]
  clear ha
  by_cases hb:b=0
  ·have db:(b !=0)=false:=by simp [hb]
   have HB:=Lib.hid hb
   clear hb
   go_enter func147,ntmps147
   go_wp2
   refine wp_loop_rounds 3 ?_
   rw [rounds_succ]
   go_wp2
   rw [rounds_succ]
   go_wp2
   rw [rounds_succ]
   go_wp2
   go_ret
   exact ⟨by rw [HB.o];rfl,rfl⟩
  have db:(b !=0)=true:=by simp [hb]
  clear hb
  go_enter func147,ntmps147
  go_wp2
  refine wp_loop_rounds 2 ?_
  rw [rounds_succ]
  go_wp2
  rw [rounds_succ]
  go_wp2
  go_ret
  exact ⟨rfl,rfl⟩
 rw [if_neg ha]
 have da:(a !=0)=true:=by simp [ha]
 clear ha
 go_enter func147,ntmps147
 go_wp2
 refine wp_loop_rounds 1 ?_
 rw [rounds_succ]
 go_wp2
 go_ret
 exact ⟨rfl,rfl⟩
