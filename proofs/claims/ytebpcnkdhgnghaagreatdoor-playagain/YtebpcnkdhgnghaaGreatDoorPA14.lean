import Derived.Test.YtebpcnkdhgnghaaGreatDoorPA07
import Derived.Test.YtebpcnkdhgnghaaGreatDoorPA10
import Derived.Test.YtebpcnkdhgnghaaGreatDoorPA11
import Derived.Sort.MapsRangeIn
set_option linter.unusedSimpArgs false
set_option linter.unusedVariables false
set_option maxRecDepth 100000
set_option maxHeartbeats 64000000
namespace Go.Proofs.YtebpcnkdhgnghaaGreatDoor
open Go.Proofs.Tryz
variable {D:DataW Unit} {x:Ent} {s:Int×Int} {L:List Ent} {ps qs:List Plc} {xs:List Value} {b bm bt cap g k n:Nat} {f:Sta} {v:Value} {W W' w:World}
section
open Go.RowKit Go.Shelf
attribute [local go_sem] Oper.semAt_some
theorem PW (a b c d:Int) (w:World):(Op.equalIn 10000 59 (.agg #[.int .i64 a,.int .i64 b]) (.agg #[.int .i64 c,.int .i64 d])).run prog w= .ok (decide ((a,b)=(c,d))) w:=by
 go_simp
 by_cases h1:a=c<;>by_cases h2:b=d<;>simp [h1,h2]
theorem pw (a b:Int×Int):dO a.1 a.2 b.1 b.2=true↔SLt a b:=by
 unfold dO SLt
 split<;>simp<;>omega
theorem Fq (F:Fence) (n:Nat) (h5:F.fn 258) (hro:F.round=none) (a:Option Addr) (len cap:Nat) (w:World):
  CallsIn F n prog 258 #[.slice a len cap] w fun e w'=>e= .returned (.func (.func 308) #[] #[.pointer (some ⟨w.heap.size,0,none⟩)])/\w'=w.alloc (.cells #[.slice a len cap] 194):=by
 refine callsIn_of_wp func258 rfl h5 ?_ hro
 simp only [ntmps258,vu,jY,vw,Nat.reduceAdd,Nat.reduceSub,vQ,vR,vY,vT,ua,vX]
 gi_wp2
 go_ret
 exact ki0
theorem nj (F:Fence) (n:Nat) (h7:F.fn 308) (hro:F.round=none) (hn:1<=n) (Bs g off cap:Nat) (ao:Option Addr) (L:List Ent) (hlen:L.length<=1000) (hao:L= []\/ao=some ⟨g,off,none⟩) (w:World) (hBs:Bs<w.heap.size) (hg:g<w.heap.size)
  (hc:w.cell? ⟨Bs,0,none⟩=some (.slice ao L.length cap)) (hI:RowAt w g off L):
  SeqStopsK F n prog 308 #[.pointer (some ⟨Bs,0,none⟩)] (MA L) (KeepTwo g Bs) (fun ys=>ys=List.range L.length) (fun pre=>∃k,k<=L.length/\pre=List.range k) L.length w:=fun l J Jx W hW _ _ hY h0=>by
 have hc':=(hW.cell (p:=⟨Bs,0,none⟩) hBs).trans hc
 exact Hk F n h7 hro hn l Bs g off cap ao L hlen hao J Jx hY W hc' (hI.same (hW.block g hg)) h0
def StAt (w:World) (b:Nat) (s:Int×Int):Prop:=w.heap[b]? =some (.cells #[.int .i64 s.1,.int .i64 s.2] 59 (0,0))
theorem StAt.c0 (h:StAt w b s):w.cell? ⟨b,0,none⟩=some (.int .i64 s.1):=by unfold StAt at h;simp [World.cell?,h]
theorem StAt.c1 (h:StAt w b s):w.cell? ⟨b,1,none⟩=some (.int .i64 s.2):=by unfold StAt at h;simp [World.cell?,h]
def EntAt (w:World) (b:Nat) (x:Ent):Prop:=w.heap[b]? =some (.cells #[.int .i64 x.1.1.1,.int .i64 x.1.1.2,.int .i64 x.1.2.1,.int .i64 x.1.2.2.1,.string x.1.2.2.2,.int .i64 x.2.1,.int .i64 x.2.2.1,.string x.2.2.2] 300 (0,0))
theorem EntAt.cell {w:World} {b:Nat} {x:Ent} (h:EntAt w b x) (c:Nat) {u:Value} (hu:(gW x)[c]? =some u):w.cell? ⟨b,c,none⟩=some u:=by
 unfold EntAt at h
 simp only [World.cell?,h]
 rw [<-hu]
 simp [gW]
theorem bM {X Y:World} {row:Option Nat} {cs:Array Value} {t:TypeId} {fr:Nat×Nat} (h:X.heap[b]? =some (.cells cs t fr)) (hg:X.grownBy Y row) (hr:∀r,row=some r->∃o:Obj,X.heap[r]? =some o/\o.isCells=false):Y.heap[b]? =some (.cells cs t fr):=by
 refine (hg.block b (jJ.1 h).1 (fun e=> ?_)).trans h
 obtain ⟨o',ho',hc'⟩:=hr b e.symm
 rw [h] at ho'
 cases ho'
 cases hc'
theorem OZ (w:World) (o1 o2:Obj):((w.alloc o1).alloc o2).heap[w.heap.size]? =some o1/\((w.alloc o1).alloc o2).heap[w.heap.size+1]? =some o2:=by
 refine ⟨(jV _ _ _ zq).trans (heap_alloc_new w o1),?_⟩
 have:=heap_alloc_new (w.alloc o1) o2
 rwa [vL] at this
theorem Ni (w:World) (o1 o2 o3 o4:Obj):((((w.alloc o1).alloc o2).alloc o3).alloc o4).heap[w.heap.size]? =some o1/\((((w.alloc o1).alloc o2).alloc o3).alloc o4).heap[w.heap.size+1]? =some o2/\((((w.alloc o1).alloc o2).alloc o3).alloc o4).heap[w.heap.size+1+1]? =some o3/\((((w.alloc o1).alloc o2).alloc o3).alloc o4).heap[w.heap.size+1+1+1]? =some o4:=by
 obtain ⟨a1,a2⟩:=OZ w o1 o2
 obtain ⟨a3,a4⟩:=OZ ((w.alloc o1).alloc o2) o3 o4
 simp only [vL] at a3 a4
 exact ⟨(jV _ _ _ yw).trans ((jV _ _ _ yw).trans a1),(jV _ _ _ yw).trans ((jV _ _ _ yw).trans a2),a3,a4⟩
theorem tq {b1 b2:Nat} {t1 t2:TypeId} {v1 v2:Value} (u1 u2:Value) (h1:Boxed W b1 t1 v1) (h2:Boxed W b2 t2 v2) (hne:b1≠b2):
  Boxed ((W.setCell ⟨b1,0,none⟩ u1).setCell ⟨b2,0,none⟩ u2) b1 t1 u1/\Boxed ((W.setCell ⟨b1,0,none⟩ u1).setCell ⟨b2,0,none⟩ u2) b2 t2 u2:=
 ⟨(h1.set u1).kept (grownBy_setCell' _ _ _) (by simp [hne]),(h2.kept (grownBy_setCell' _ _ _) zl).set u2⟩
theorem fN {N:Nat} (h:Below W.heap.size W W'):KeepsFrom N W W':=
 ⟨h.size,fun k _ _ hk _=>(h.block k (jJ.1 hk).1).trans hk⟩
theorem oO (h:Below W.heap.size W W') (hg:g<W.heap.size) (hb:b<W.heap.size):KeepTwo g b W W':=⟨h.block g hg,h.block b hb⟩
theorem fb {pre:List Nat} {x:Nat} (h:pre++ [x]=List.range (pre++ [x]).length):pre=List.range pre.length/\x=pre.length:=by
 rw [jP,ub,uH] at h
 have:=List.append_inj' h rfl
 exact ⟨this.1,by simpa using this.2⟩
theorem pZ {r:Nat} (h:r<L.length):L[L.length - 1 - r]? =some (cL L r):=by
 exact kh1
theorem wd (w:World) (bt g cap:Nat) (ao:Option Addr) (L:List Ent) (ms:List Mov) (s:Int×Int) (hm:L.map (·.1)=ms) (hby:bL ms) (hlen:L.length<=1000) (hsl:w.cell? ⟨bt,1,none⟩=some (.slice ao L.length cap)) (hao:L= []\/ao=some ⟨g,0,none⟩) (hg:g<w.heap.size) (hrow:RowAt w g 0 L):
  Calls prog 199 #[.pointer (some ⟨bt,0,none⟩),.agg #[.int .i64 s.1,.int .i64 s.2]] w fun e w'=>(∃(i:Nat) (b:Bool),e= .returned (.tuple #[.int .i64 (i:Int),.bool b])/\sI ms s i b)/\Below w.heap.size w w':=by
 have hbt:bt<w.heap.size:=block_lt_of_cell hsl
 have hsl3:∀o1 o2 o3,(((w.alloc o1).alloc o2).alloc o3).cell? ⟨bt,1,none⟩=some (.slice ao L.length cap):=fun o1 o2 o3=>
  (((((jN w.heap.size w).alloc zg o1).alloc zq o2).alloc zl o3).cell (p:=⟨bt,1,none⟩) hbt).trans hsl
 refine (callsIn_wide (n:=4)).1 ?_
 refine callsIn_of_wp_marks func199 rfl trivial ?_ rfl
 simp only [ntmps199,vu,jY,vw,Nat.reduceAdd,Nat.reduceSub,vQ,vR,vY,vT,ua,vX]
 gi_wp2_with (refine ⟨trivial,?_⟩;gi_at_call 258;refine (Fq Fence.wide (4 - 1) trivial rfl _ _ _ _).mono ?_;rintro e w' ⟨rfl,rfl⟩)
 obtain ⟨w4,hw4⟩:=za ((((w.alloc (.cells #[.int .i64 s.1,.int .i64 s.2] 59)).alloc (.cells #[.int .i64 0] 3)).alloc (.cells #[.bool false] 4)).alloc (.cells #[.slice ao L.length cap] 194))
 rw [<-hw4]
 have hB0:Below w.heap.size w w4:=by rw [hw4];exact (((((jN w.heap.size w).alloc zg _).alloc zq _).alloc zl _).alloc zl _)
 have hs4:w4.heap.size=w.heap.size+4:=by rw [hw4];simp
 obtain ⟨B,hB⟩:=za w.heap.size
 have e1:StAt w4 B s:=by rw [hw4,hB];exact (Ni w _ _ _ _).1
 have e2:Boxed w4 (B+1) 3 (.int .i64 0):=by rw [hw4,hB];exact (Ni w _ _ _ _).2.1
 have e3:Boxed w4 (B+1+1) 4 (.bool false):=by rw [hw4,hB];exact (Ni w _ _ _ _).2.2.1
 have e4:Boxed w4 (B+1+1+1) 194 (.slice ao L.length cap):=by rw [hw4,hB];exact (Ni w _ _ _ _).2.2.2
 rw [<-hB] at hB0 hs4 hg hbt |-
 have HB:Aside (B=w.heap.size):=hB
 have hBw:B<=w.heap.size:=zj
 clear hB
 have hrow4:RowAt w4 g 0 L:=hrow.same (hB0.block g hg)
 have hms:ms.length=L.length:=by rw [<-hm];simp
 clear hw4 hsl3 hrow
 refine wpIn_rangeFunc_ownH rfl zj (gf:=308) (lb:= #[.pointer (some ⟨B+1+1+1,0,none⟩)]) rfl trivial (enters_of func308 zk rfl)
  (nj Fence.wide (4 - 1) trivial rfl zj (B+1+1+1) g 0 cap ao L hlen hao w4 zj zj e4.cell hrow4) KeepTwo.trans (fun W l o o' hl _ _ _=>KeepTwo.put (N:=w4.heap.size) zj zj W l o' hl) (jN _ _) (fun _=>rfl)
  (fun pre W=>((pre=List.range pre.length->CO ms s (L.length - pre.length))/\StAt W B s/\Boxed W (B+1) 3 (.int .i64 0)/\Boxed W (B+1+1) 4 (.bool false)/\w4.heap.size<=W.heap.size)/\Below B w W)
  (fun c pre W=>(c= .ret/\(pre=List.range pre.length->∃(i:Nat) (b:Bool),sI ms s i b/\Boxed W (B+1) 3 (.int .i64 (i:Int))/\Boxed W (B+1+1) 4 (.bool b)))/\Below B w W)
  (OwnFrom.and (Own.from (fun _ X Y row hs hg hr=>⟨hs.1,bM hs.2.1 hg hr,bM hs.2.2.1 hg hr,bM hs.2.2.2.1 hg hr,jM hs.2.2.2.2 hg.size⟩) _) (ownFrom_below zj zj))
  (fun c=>OwnFrom.and (Own.from (fun _ X Y row hs hg hr=>⟨hs.1,fun hp=>by obtain ⟨i,b,f1,f2,f3⟩:=hs.2 hp;exact ⟨i,b,f1,bM f2 hg hr,bM f3 hg hr⟩⟩) _) (ownFrom_below zj zj))
  ⟨⟨fun _=>by rw [vw,Nat.sub_zero,<-hms];exact Dm ms s,e1,e2,e3,jL _⟩,hB0⟩
  (fun x a' W=>∃Bx,w4.heap.size<=Bx/\EntAt W Bx (cL L x)/\a'= {tmps:= #[.pointer (some ⟨bt,0,none⟩),.agg #[.int .i64 s.1,.int .i64 s.2],undef,.pointer (some ⟨B,0,none⟩),.pointer (some ⟨B+1,0,none⟩),.pointer (some ⟨B+1+1,0,none⟩),.int .i64 ((L.length - 1 - x:Nat):Int),.pointer (some ⟨Bx,0,none⟩),.pointer (some ⟨bt,0,none⟩),.pointer (some ⟨bt,0,none⟩),.pointer (some ⟨bt,1,none⟩),.slice ao L.length cap,.func (.func 308) #[] #[.pointer (some ⟨B+1+1+1,0,none⟩)],.int .i64 ((L.length - 1 - x:Nat):Int),.agg #[.int .i64 (cL L x).1.1.1,.int .i64 (cL L x).1.1.2,.int .i64 (cL L x).1.2.1,.int .i64 (cL L x).1.2.2.1,.string (cL L x).1.2.2.2,.int .i64 (cL L x).2.1,.int .i64 (cL L x).2.2.1,.string (cL L x).2.2.2],undef,undef,undef,undef,undef,undef,undef,undef,undef,undef,undef],defers:=[]})
  (fun x a'=>Own.from (fun _ X Y row hs hg hr=>zW) _)
  ?assign ?body ?done ?stop
 case assign=>
  rintro l pre x W K ⟨⟨hlat,hst,hr1,hr2,hsz⟩,hBW⟩ hK
  have hBs:B<=W.heap.size:=zj
  have hK':Aside _:=hK
  have H1:Aside (StAt W B s/\Boxed W (B+1) 3 (.int .i64 0)/\Boxed W (B+1+1) 4 (.bool false)/\Below B w W):=⟨hst,hr1,hr2,hBW⟩
  clear hK hst hr1 hr2 hBW
  unfold MA
  gi_wp2
  refine hK'.o _ _ ((KeepsOthers.alloc _ _).from _) ⟨jV _ _ _ zj,jV _ _ _ zj⟩ ⟨⟨hlat,?_,H1.o.2.1.alloc _,H1.o.2.2.1.alloc _,zl⟩,H1.o.2.2.2.alloc hBs _⟩ ⟨W.heap.size,zj,heap_alloc_new W _,rfl⟩
  exact (jV _ _ _ zj).trans H1.o.1
 case body=>
  rintro l pre x a' W hl _ ⟨⟨hlat,hst,hr1,hr2,hsz⟩,hBW⟩ ⟨Bx,hBx,hE,rfl⟩ hlt
  have k0:=hst.c0
  have k1:=hst.c1
  have f0:=hE.cell 0 (u:=.int .i64 (cL L x).1.1.1) rfl
  have f1:=hE.cell 1 (u:=.int .i64 (cL L x).1.1.2) rfl
  have g1:=hr1.cell
  have g2:=hr1.frozen
  have g3:=hr2.cell
  have g4:=hr2.frozen
  have hq:=PW (cL L x).1.1.1 (cL L x).1.1.2 s.1 s.2
  by_cases he:(cL L x).1.1=s
  ·have hd:decide (((cL L x).1.1.1,(cL L x).1.1.2)=(s.1,s.2))=true:=decide_eq_true he
   rw [hd] at hq
   gi_wp2
   obtain ⟨q1,q2⟩:=tq (.int .i64 ((L.length - 1 - x:Nat):Int)) (.bool true) hr1 hr2 zj
   refine ⟨((KeepsOthers.setCell _ _ _).trans (KeepsOthers.setCell _ _ _)).from _,⟨rfl,fun hp=> ?_⟩,(hBW.setCell (p:=⟨B+1,0,none⟩) jg _).setCell (p:=⟨B+1+1,0,none⟩) xI _⟩
   obtain ⟨hp1,hp2⟩:=fb hp
   have hix:=pZ (L:=L) (r:=x) zj
   exact ⟨L.length - 1 - x,true,Bn (m:=(cL L x).1) (by rw [<-hm,vP,hix];rfl) he,q1,q2⟩
  have hd:decide (((cL L x).1.1.1,(cL L x).1.1.2)=(s.1,s.2))=false:=decide_eq_false he
  rw [hd] at hq
  by_cases hls:SLt (cL L x).1.1 s
  ·have hlb:=(pw (cL L x).1.1 s).2 hls
   have hless:=oA (cL L x).1.1.1 (cL L x).1.1.2 s.1 s.2 W
   rw [hlb] at hless
   have hw1:IntKind.i64.wrap (((L.length - 1 - x:Nat):Int)+1)=((L.length - 1 - x:Nat):Int)+1:=zr
   have G:Aside (Boxed W (B+1) 3 (.int .i64 0)/\Boxed W (B+1+1) 4 (.bool false)):=⟨hr1,hr2⟩
   gi_wp2_with (refine ⟨trivial,?_⟩;gi_at_call 128;refine (CallsIn.inRound l (callsIn_wide.2 hless)).mono ?_;rintro e w' ⟨rfl,hb'⟩;have G1:Aside (Boxed w' (B+1) 3 (.int .i64 0)/\Boxed w' (B+1+1) 4 (.bool false)):=⟨(hb'.block _ zj).trans G.o.1,(hb'.block _ zj).trans G.o.2⟩;have m1:=G1.o.1.cell;have m2:=G1.o.1.frozen;have m3:=G1.o.2.cell;have m4:=G1.o.2.frozen)
   obtain ⟨q1,q2⟩:=tq (.int .i64 (((L.length - 1 - x:Nat):Int)+1)) (.bool false) G1.o.1 G1.o.2 zj
   refine ⟨(fN hb').trans (((KeepsOthers.setCell _ _ _).trans (KeepsOthers.setCell _ _ _)).from _),⟨rfl,fun hp=> ?_⟩,((hBW.trans (hb'.mono zj)).setCell (p:=⟨B+1,0,none⟩) jg _).setCell (p:=⟨B+1+1,0,none⟩) xI _⟩
   obtain ⟨hp1,hp2⟩:=fb hp
   have hix:=pZ (L:=L) (r:=x) zj
   exact ⟨L.length - 1 - x+1,false,Ac (m:=(cL L x).1) hby (by have:=hlat hp1;rwa [show L.length - pre.length=L.length - 1 - x+1 by omega] at this) (by rw [<-hm,vP,hix];rfl) hls,q1,q2⟩
  have hlb:dO (cL L x).1.1.1 (cL L x).1.1.2 s.1 s.2=false:=by
   cases hh:dO (cL L x).1.1.1 (cL L x).1.1.2 s.1 s.2 with
   | false=>rfl
   | true=>exact absurd ((pw (cL L x).1.1 s).1 hh) hls
  have hless:=oA (cL L x).1.1.1 (cL L x).1.1.2 s.1 s.2 W
  rw [hlb] at hless
  gi_wp2_with (refine ⟨trivial,?_⟩;gi_at_call 128;refine (CallsIn.inRound l (callsIn_wide.2 hless)).mono ?_;rintro e w' ⟨rfl,hb'⟩)
  refine ⟨fN hb',oO hb' zj zj,⟨⟨fun hp=> ?_,(hb'.block _ zj).trans hst,(hb'.block _ zj).trans hr1,(hb'.block _ zj).trans hr2,by have:=hb'.size;omega⟩,hBW.trans (hb'.mono zj)⟩⟩
  obtain ⟨hp1,hp2⟩:=fb hp
  have hix:=pZ (L:=L) (r:=x) zj
  have h1:=hlat hp1
  rw [show L.length - pre.length=L.length - 1 - x+1 by omega] at h1
  rw [jP,ub,show L.length - (pre.length+1)=L.length - 1 - x by omega]
  exact Cm (m:=(cL L x).1) h1 (by rw [<-hm,vP,hix];rfl) he hls
 case done=>
  rintro D ys W hD rfl ⟨⟨hlat,hst,hr1,hr2,hsz⟩,hBW⟩ hK
  have g1:=hr1.cell
  have g2:=hr1.frozen
  have g3:=hr2.cell
  have g4:=hr2.frozen
  gi_wp2
  have hK':=((KeepsOthers.setCell W ⟨B+1,0,none⟩ (.int .i64 0)).trans (KeepsOthers.setCell _ ⟨B+1+1,0,none⟩ (.bool false))).same D _ hK rfl
  refine ⟨zq,.inl ⟨_,_,rfl,run_takeDeferred hK',?_⟩⟩
  obtain ⟨q1,q2⟩:=tq (.int .i64 0) (.bool false) hr1 hr2 zj
  have q3:Boxed _ (B+1) 3 (.int .i64 0):=bM q1 (grownBy_putObj' _ D (.deferred none)) (fun r e=>by cases e;exact ⟨_,hK',rfl⟩)
  have q4:Boxed _ (B+1+1) 4 (.bool false):=bM q2 (grownBy_putObj' _ D (.deferred none)) (fun r e=>by cases e;exact ⟨_,hK',rfl⟩)
  have q5:=q3.cell
  have q6:=q4.cell
  refine ⟨.tuple #[.int .i64 0,.bool false],?_,⟨0,false,rfl,wY (by have:=hlat zq;simpa using this)⟩,?_⟩
  ·simp [results,f199,go_sem,q5,q6]
  rw [<-HB.o]
  exact ((hBW.setCell (p:=⟨B+1,0,none⟩) jg _).setCell (p:=⟨B+1+1,0,none⟩) xI _).trans (belowK_b (w:=w) zj _ D _ _ yr hK' rfl rfl)
 case stop=>
  rintro D c pre W hD ⟨k,hk,rfl⟩ ⟨⟨rfl,hf⟩,hBW⟩ hK
  obtain ⟨i,b,hF,hr1,hr2⟩:=hf zq
  gi_wp2
  refine ⟨zq,.inl ⟨_,_,rfl,run_takeDeferred hK,?_⟩⟩
  have q3:Boxed _ (B+1) 3 (.int .i64 (i:Int)):=bM hr1 (grownBy_putObj' _ D (.deferred none)) (fun r e=>by cases e;exact ⟨_,hK,rfl⟩)
  have q4:Boxed _ (B+1+1) 4 (.bool b):=bM hr2 (grownBy_putObj' _ D (.deferred none)) (fun r e=>by cases e;exact ⟨_,hK,rfl⟩)
  have q5:=q3.cell
  have q6:=q4.cell
  refine ⟨.tuple #[.int .i64 (i:Int),.bool b],?_,⟨i,b,rfl,hF⟩,?_⟩
  ·simp [results,f199,go_sem,q5,q6]
  exact ke1
end
section
open Go.RowKit Go.Maps
open scoped Classical
def MY (x:Ent):List Value:=[.int .i64 x.1.1.1,.int .i64 x.1.1.2,.int .i64 x.1.2.1,.int .i64 x.1.2.2.1,.string x.1.2.2.2]
theorem nM (m:Mov) (fr:Plc):gW (m,fr)=MY (m,fr)++ai fr:=rfl
theorem EH {i:Nat} (hx:L[i]? =some x) (fr:Plc):∃A C,A.length=i*8+5/\aB gW L=A++ai x.2++C/\aB gW (L.set i (x.1,fr))=A++ai fr++C:=by
 obtain ⟨hl,he⟩:=jI.1 hx
 have h1:=lZ (enc:=gW) (k:=8) eA L i hl (x.1,fr)
 have h2:=lZ (enc:=gW) (k:=8) eA L i hl (x.1,x.2)
 have hs:L.set i (x.1,x.2)=L:=by
  rw [show ((x.1,x.2):Ent)=x from rfl,<-he]
  exact List.set_getElem_self hl
 rw [hs] at h2
 refine ⟨(aB gW L).take (i*8)++MY x,(aB gW L).drop ((i+1)*8),?_,?_,?_⟩
 ·rw [jP,vj,aa eA]
  have:(MY x).length=5:=rfl
  omega
 ·conv=>lhs;rw [h2]
  rw [nM]
  simp only [vn]
 rw [h1,nM]
 simp only [vn]
 rfl
theorem Dw {base o:Nat} {A C:List Value} {q:Plc} (p:Plc) (h:w.ownsRow base 300 8 (.slice (some ⟨g,0,none⟩) n cap) n (A++ai q++C)) (ho:A.length=o):
  (((w.setCell ⟨g,o,none⟩ (.int .i64 p.1)).setCell ⟨g,o+1,none⟩ (.int .i64 p.2.1)).setCell ⟨g,o+2,none⟩ (.string p.2.2)).ownsRow base 300 8 (.slice (some ⟨g,0,none⟩) n cap) n (A++ai p++C):=by
 subst ho
 exact pz (vs:=ai p) h rfl
theorem sG (w:World) (g o1 o2 o3:Nat) (v1 v2 v3:Value):Keeps (fun k=>k=g) w (((w.setCell ⟨g,o1,none⟩ v1).setCell ⟨g,o2,none⟩ v2).setCell ⟨g,o3,none⟩ v3):=
 ((aY g [v1] o1 w).trans (aY g [v2] o2 _)).trans (aY g [v3] o3 _)
def TreeCell (w:World) (bt bm:Nat) (v:Value):Prop:=w.heap[bt]? =some (.cells #[.map (some bm),v] 196 (0,0))
theorem TreeCell.c0 (h:TreeCell w bt bm v):w.cell? ⟨bt,0,none⟩=some (.map (some bm)):=jr
theorem TreeCell.c1 (h:TreeCell w bt bm v):w.cell? ⟨bt,1,none⟩=some v:=jr
theorem TreeCell.fz (h:TreeCell w bt bm v) (o:Nat):w.frozen? ⟨bt,o,none⟩=false:=by unfold TreeCell at h;simp [World.frozen?,h]
theorem TreeCell.lt (h:TreeCell w bt bm v):bt<w.heap.size:=(jJ.1 h).1
theorem TreeCell.ne_map (h:TreeCell w bt bm v) (hM:MapAt prog 3 w bm n f):bt≠bm:=by
 intro e
 obtain ⟨es,ck,hb⟩:=hM.block
 unfold TreeCell at h
 rw [e,hb] at h
 cases h
theorem iZ {base:Nat} (h:w.ownsRow base 300 8 (.slice (some ⟨g,0,none⟩) n cap) k xs):∃cur,w.heap[g]? =some (.cells cur 300 (0,0)):=by
 rcases h.2 with ⟨hc,_⟩ | ⟨g',cap',cur,hc,_,hg,_⟩
 ·cases hc
 cases hc;exact ⟨cur,hg⟩
theorem eF {base nn:Nat} (h:w.ownsRow base 300 8 (.slice (some ⟨g,0,none⟩) n cap) k xs) (hM:MapAt prog 3 w bm nn f):g≠bm:=by
 intro e
 obtain ⟨cur,hc⟩:=iZ h
 obtain ⟨es,ck,hb⟩:=hM.block
 rw [e,hb] at hc
 cases hc
theorem gJ {base:Nat} (h:w.ownsRow base 300 8 (.slice (some ⟨g,0,none⟩) n cap) k xs) (hT:TreeCell w bt bm v):g≠bt:=by
 intro e
 obtain ⟨cur,hc⟩:=iZ h
 unfold TreeCell at hT
 rw [e,hT] at hc
 simp at hc
theorem wl {base:Nat} (h:w.ownsRow base 300 8 (.slice (some ⟨g,0,none⟩) n cap) n (aB gW L)):RowAt w g 0 L:=fun j u hj=>by
 have:=h.cells (g:=g) rfl j u hj
 rw [Addr.add_lit] at this
 exact this
theorem Ew {base:Nat} (h:w.ownsRow base 300 8 (.slice (some ⟨g,0,none⟩) n cap) k xs) (j:Nat):w.frozen? ⟨g,j,none⟩=false:=by
 obtain ⟨cur,hc⟩:=iZ h
 simp [World.frozen?,hc]
theorem iE {w':World} {base:Nat} (h:w.ownsRow base 300 8 (.slice (some ⟨g,0,none⟩) n cap) k xs) (e:w'.heap[g]? =w.heap[g]?):w'.ownsRow base 300 8 (.slice (some ⟨g,0,none⟩) n cap) k xs:=by
 refine ⟨h.1,?_⟩
 rcases h.2 with ⟨hc,_⟩ | ⟨g',cap',cur,hc,h1,hg,h2⟩
 ·cases hc
 cases hc;exact .inr ⟨g,cap,cur,rfl,h1,e.trans hg,h2⟩
theorem Mc (w:World) (bt bm base g cap at_ n:Nat) (L:List Ent) (ms:List Mov) (hT:TreeCell w bt bm (.slice (some ⟨g,0,none⟩) ms.length cap)) (hown:w.ownsRow base 300 8 (.slice (some ⟨g,0,none⟩) ms.length cap) ms.length (aB gW L)) (hL:LogTo ms at_ L)
  (hM:MapAt prog 3 w bm n (aH (ms.take at_))) (hfine:∀m∈ms,FineP m.2) (hat:at_<=ms.length) (hlen:ms.length<=1000) (hn:n<=1000000):
  Calls prog 202 #[.pointer (some ⟨bt,0,none⟩),.int .i64 (at_:Int)] w fun e w'=>(∃u,e= .returned u)/\∃L' n',LogTo ms ms.length L'/\w'.ownsRow base 300 8 (.slice (some ⟨g,0,none⟩) ms.length cap) ms.length (aB gW L')/\MapAt prog 3 w' bm n' (aH ms)/\n'<=n+ms.length/\Keeps (fun k=>k=bm\/k=g) w w':=by
 have htm:=hT.ne_map hM
 have hgm:=eF hown hM
 have hgt:=gJ hown hT
 have hbt:=hT.lt
 have hgw:g<w.heap.size:=(jJ.1 (iZ hown).choose_spec).1
 have hbm:=hM.lt
 go_enter func202,ntmps202
 go_wp2
 go_loopg [4] (ms.length - at_) (fun kx s4 wr=>∃(i:Nat) (L:List Ent) (n':Nat),s4= .int .i64 (i:Int)/\i<=ms.length/\ms.length - i<=kx/\LogTo ms i L/\wr.ownsRow base 300 8 (.slice (some ⟨g,0,none⟩) ms.length cap) ms.length (aB gW L)/\MapAt prog 3 wr bm n' (aH (ms.take i))/\n'<=n+i/\Keeps (fun k=>k=bm\/k=g) w wr)
 case atStart=>exact ⟨at_,L,n,rfl,hat,jL _,hL,hown,hM,Nat.le_add_right _ _,Keeps.refl _ _⟩
 case round=>
  obtain ⟨i,L,n',rfl,hi,hkx,hL,hown,hM,hn',hk⟩:=hrel
  have hT1:TreeCell wr bt bm (.slice (some ⟨g,0,none⟩) ms.length cap):=(hk.block bt hbt zj).trans ‹TreeCell w bt bm _›
  have t0:=hT1.c0
  have t1:=hT1.c1
  have hsz:=hk.size
  by_cases hlt:i<ms.length
  ·have hltz:decide ((i:Int)<(ms.length:Int))=true:=by simp;omega
   obtain ⟨x,hx⟩:∃x,L[i]? =some x:=⟨_,jK (by rw [hL.len];exact hlt)⟩
   have hmx:=hL.mov hx
   have hf:FineP x.1.2:=hfine _ (jT hmx)
   have hrow:=wl hown
   have c2:wr.cell? ⟨g,i*8+2,none⟩=some (.int .i64 x.1.2.1):=by have:=hrow.at hx 2 (u:=.int .i64 x.1.2.1) rfl;rwa [vh] at this
   have c3:wr.cell? ⟨g,i*8+3,none⟩=some (.int .i64 x.1.2.2.1):=by have:=hrow.at hx 3 (u:=.int .i64 x.1.2.2.1) rfl;rwa [vh] at this
   have c4:wr.cell? ⟨g,i*8+4,none⟩=some (.string x.1.2.2.2):=by have:=hrow.at hx 4 (u:=.string x.1.2.2.2) rfl;rwa [vh] at this
   have ex:((i:Int)).toNat=i:=zj
   have px:(0:Int)<=(i:Int):=zj
   have bx:(i:Int)<(ms.length:Int):=zj
   have HH:Aside (LogTo ms i L/\wr.ownsRow base 300 8 (.slice (some ⟨g,0,none⟩) ms.length cap) ms.length (aB gW L)/\MapAt prog 3 wr bm n' (aH (ms.take i))/\Keeps (fun k=>k=bm\/k=g) w wr/\TreeCell wr bt bm (.slice (some ⟨g,0,none⟩) ms.length cap)/\RowAt wr g 0 L/\L[i]? =some x/\ms[i]? =some x.1):=⟨hL,hown,hM,hk,hT1,hrow,hx,hmx⟩
   clear hL hown hM hk hT1 hrow hx hmx
   go_wp2
   obtain ⟨w1,hw1⟩:=za (wr.alloc (.cells #[.int .i64 x.1.2.1,.int .i64 x.1.2.2.1,.string x.1.2.2.2] 119))
   have hp1:PlcAt w1 wr.heap.size x.1.2:=by rw [hw1];exact heap_alloc_new wr _
   have hold:∀k,k<wr.heap.size->w1.heap[k]? =wr.heap[k]? :=fun k hk=>by rw [hw1];exact jV wr _ k hk
   have hs1:w1.heap.size=wr.heap.size+1:=xf
   have hk1:Keeps (fun k=>k=bm\/k=g) w w1:=by rw [hw1];exact HH.o.2.2.2.1.alloc _
   have hown1:=iE HH.o.2.1 (hold g zj)
   have hT1:TreeCell w1 bt bm (.slice (some ⟨g,0,none⟩) ms.length cap):=(hold bt zj).trans HH.o.2.2.2.2.1
   have hM1:=HH.o.2.2.1.same (hold bm zj)
   obtain ⟨b5,hb5⟩:=za wr.heap.size
   rw [<-hw1]
   rw [<-hb5] at hp1 hs1 |-
   have hg5:g<b5:=zj
   have hb5w:w.heap.size<=b5:=zj
   have hm5:bm<b5:=zj
   have ht5:bt<b5:=zj
   clear hw1 hold hb5 t0 t1 c2 c3 c4
   have hrow1:=wl hown1
   have t0:=hT1.c0
   have t1:=hT1.c1
   have p0:=hp1.c0
   have p1:=hp1.c1
   have p2:=hp1.c2
   have hwn:Wf x.1.2.1:=(il hf).1
   have l0:=hM1.looks1 hwn
   have l1:=(show MapAt prog 3 w1.drew bm n' (aH (ms.take i)) from hM1).looks1 hwn
   unfold kA at l0 l1
   have c5:w1.cell? ⟨g,i*8+5,none⟩=some (.int .i64 x.2.1):=by have:=hrow1.at HH.o.2.2.2.2.2.2.1 5 (u:=.int .i64 x.2.1) rfl;rwa [vh] at this
   have c6:w1.cell? ⟨g,i*8+6,none⟩=some (.int .i64 x.2.2.1):=by have:=hrow1.at HH.o.2.2.2.2.2.2.1 6 (u:=.int .i64 x.2.2.1) rfl;rwa [vh] at this
   have c7:w1.cell? ⟨g,i*8+7,none⟩=some (.string x.2.2.2):=by have:=hrow1.at HH.o.2.2.2.2.2.2.1 7 (u:=.string x.2.2.2) rfl;rwa [vh] at this
   have z5:=Ew hown1 (i*8+5)
   have z6:=Ew hown1 (i*8+6)
   have z7:=Ew hown1 (i*8+7)
   obtain ⟨fr,hfr⟩:=za ((aH (ms.take i) x.1.2.1).getD cZ)
   rw [<-hfr] at l0 l1
   have H1:Aside (w1.ownsRow base 300 8 (.slice (some ⟨g,0,none⟩) ms.length cap) ms.length (aB gW L)/\MapAt prog 3 w1 bm n' (aH (ms.take i))/\Keeps (fun k=>k=bm\/k=g) w w1/\TreeCell w1 bt bm (.slice (some ⟨g,0,none⟩) ms.length cap)/\PlcAt w1 b5 x.1.2/\fr=kI ms i):=⟨hown1,hM1,hk1,hT1,hp1,by rw [hfr,lK HH.o.2.2.2.2.2.2.2]⟩
   clear hown1 hM1 hk1 hT1 hp1 hrow1 hfr
   go_region
   obtain ⟨w2,hw2⟩:=za ((((w1.setCell ⟨g,i*8+5,none⟩ (.int .i64 fr.1)).setCell ⟨g,i*8+5+1,none⟩ (.int .i64 fr.2.1)).setCell ⟨g,i*8+5+2,none⟩ (.string fr.2.2)).drew)
   rw [<-hw2]
   have hk12:Keeps (fun k=>k=g) w1 w2:=by rw [hw2];exact (sG w1 g _ _ _ _ _ _).drew
   obtain ⟨A,C,hA,hf1,hf2⟩:=EH HH.o.2.2.2.2.2.2.1 fr
   have hown2:w2.ownsRow base 300 8 (.slice (some ⟨g,0,none⟩) ms.length cap) ms.length (aB gW (L.set i (x.1,fr))):=by
    have:=H1.o.1
    rw [hf1] at this
    rw [hw2,hf2]
    exact Dw fr this hA
   have hM2:=H1.o.2.1.same (hk12.block bm zj zj)
   have hT2:TreeCell w2 bt bm (.slice (some ⟨g,0,none⟩) ms.length cap):=(hk12.block bt zj zj).trans H1.o.2.2.2.1
   have hp2:PlcAt w2 b5 x.1.2:=H1.o.2.2.2.2.1.same (hk12.block b5 zj zj)
   have hk2:Keeps (fun k=>k=bm\/k=g) w w2:=H1.o.2.2.1.then hk12 (fun _ _ e=>.inr e)
   have hs2:=hk12.size
   have hL2:LogTo ms (i+1) (L.set i (x.1,fr)):=by rw [H1.o.2.2.2.2.2];exact NT HH.o.1 HH.o.2.2.2.2.2.2.1
   have hmade:=rV HH.o.2.2.2.2.2.2.2
   have hgood:ko (aH (ms.take i)):=lw (fun m hm=>hfine m (uc hm))
   have H2:Aside (w2.ownsRow base 300 8 (.slice (some ⟨g,0,none⟩) ms.length cap) ms.length (aB gW (L.set i (x.1,fr)))/\MapAt prog 3 w2 bm n' (aH (ms.take i))/\Keeps (fun k=>k=bm\/k=g) w w2/\TreeCell w2 bt bm (.slice (some ⟨g,0,none⟩) ms.length cap)/\PlcAt w2 b5 x.1.2/\LogTo ms (i+1) (L.set i (x.1,fr))/\aH (ms.take (i+1))=step (aH (ms.take i)) x.1/\w2.heap.size≥w1.heap.size):=⟨hown2,hM2,hk2,hT2,hp2,hL2,hmade,hs2⟩
   clear hw2 hk12 hA hf1 hf2 hown2 hM2 hT2 hk2 hL2 hmade t0 t1 p0 p1 p2 l0 l1 c5 c6 c7 z5 z6 z7 H1 HH
   have p0:=hp2.c0
   have p1:=hp2.c1
   have p2:=hp2.c2
   have t0:=H2.o.2.2.2.1.c0
   clear hp2
   by_cases he:x.1.2.1=x.1.2.2.1
   ·have d0:(x.1.2.1 !=x.1.2.2.1)=false:=by simp [he]
    have hidle:Cx (aH (ms.take i)) x.1.2:=.inl he
    have HI:Aside (aH (ms.take (i+1))=aH (ms.take i)):=H2.o.2.2.2.2.2.2.1.trans (eG hidle)
    clear he hidle
    go_wp2
    go_roundg (ms.length - (i+1))
    case measure=>omega
    case rel=>exact ⟨i+1,L.set i (x.1,fr),n',zI,zj,jL _,H2.o.2.2.2.2.2.1,H2.o.1,by rw [HI.o];exact H2.o.2.1,zj,H2.o.2.2.1⟩
   have d0:(x.1.2.1 !=x.1.2.2.1)=true:=by simp [he]
   have hwo:Wf x.1.2.2.1:=(il hf).2
   by_cases hin:Ins (aH (ms.take i)) x.1.2.2.1 x.1.2.1
   ·have hidle:Cx (aH (ms.take i)) x.1.2:=.inr hin
    have HI:Aside (aH (ms.take (i+1))=aH (ms.take i)):=H2.o.2.2.2.2.2.2.1.trans (eG hidle)
    have hcall:=lB w2 bt bm n' (aH (ms.take i)) x.1.2.2.1 x.1.2.1 true (by simp [hin]) t0 H2.o.2.1 hgood hwo
    clear he hidle hin hgood
    go_wp2_with (go_at_call 261;refine hcall.mono ?_;clear hcall;rintro e w3 ⟨rfl,hb3⟩)
    have hk3:Keeps (fun k=>k=bm\/k=g) w w3:=H2.o.2.2.1.then (aV hb3) (fun i hi e=>by have:=H2.o.2.2.1.size;omega)
    have hown3:=iE H2.o.1 (hb3.block g (by have:=H2.o.2.2.2.2.2.2.2;omega))
    have hM3:=H2.o.2.1.same (hb3.block bm (by have:=H2.o.2.2.2.2.2.2.2;omega))
    go_roundg (ms.length - (i+1))
    case measure=>omega
    case rel=>exact ⟨i+1,L.set i (x.1,fr),n',zI,zj,jL _,H2.o.2.2.2.2.2.1,hown3,by rw [HI.o];exact hM3,zj,hk3⟩
   have hidle:¬Cx (aH (ms.take i)) x.1.2:=fun h=>h.elim he hin
   have HI:Aside (aH (ms.take (i+1))=upd (aH (ms.take i)) x.1.2.1 (some x.1.2)):=H2.o.2.2.2.2.2.2.1.trans (eQ hidle)
   have hcall:=lB w2 bt bm n' (aH (ms.take i)) x.1.2.2.1 x.1.2.1 false (by simp [hin]) t0 H2.o.2.1 hgood hwo
   clear he hidle hin hgood
   go_wp2_with (go_at_call 261;refine hcall.mono ?_;clear hcall;rintro e w3 ⟨rfl,hb3⟩)
   have hs3:=H2.o.2.2.2.2.2.2.2
   have hk3:Keeps (fun k=>k=bm\/k=g) w w3:=H2.o.2.2.1.then (aV hb3) (fun i hi e=>by have:=H2.o.2.2.1.size;omega)
   have hown3:=iE H2.o.1 (hb3.block g zj)
   have hM3:=H2.o.2.1.same (hb3.block bm zj)
   have hT3:TreeCell w3 bt bm (.slice (some ⟨g,0,none⟩) ms.length cap):=(hb3.block bt zj).trans H2.o.2.2.2.1
   have hp3:PlcAt w3 b5 x.1.2:=H2.o.2.2.2.2.1.same (hb3.block b5 zj)
   obtain ⟨w4,hrun,hM4,ht4⟩:=(show MapAt prog 3 w3.drew bm n' (aH (ms.take i)) from hM3).store (T:=193) (E:=119) underlying3 underlying193 zu hwn x.1.2
   unfold kA at hrun
   have hg4:=ht4.grown
   have hg4':w3.grownBy w4 (some bm):=⟨hg4.os,hg4.tape,hg4.output,hg4.size,hg4.block⟩
   have hk4:Keeps (fun k=>k=bm\/k=g) w w4:=hk3.then (aP hg4') (fun i _ e=>.inl ym)
   have hown4:=iE hown3 (hg4'.block g (by have:=hb3.size;omega) (by simpa using hgm))
   have H4:Aside (Keeps (fun k=>k=bm\/k=g) w w4/\w4.ownsRow base 300 8 (.slice (some ⟨g,0,none⟩) ms.length cap) ms.length (aB gW (L.set i (x.1,fr)))/\MapAt prog 3 w4 bm (n'+1) (aH (ms.take (i+1)))):=⟨hk4,hown4,by rw [HI.o];exact hM4⟩
   have q0:=hp3.c0
   have q1:=hp3.c1
   have q2:=hp3.c2
   have u0:=hT3.c0
   clear p0 p1 p2 t0 hb3 hk3 hown3 hM3 hT3 hp3 hM4 ht4 hg4 hg4' hk4 hown4
   go_region
   all_goals go_wp2
   go_roundg (ms.length - (i+1))
   case measure=>omega
   case rel=>exact ⟨i+1,L.set i (x.1,fr),n'+1,zI,zj,jL _,H2.o.2.2.2.2.2.1,H4.o.2.1,H4.o.2.2,zj,H4.o.1⟩
  have hltz:decide ((i:Int)<(ms.length:Int))=false:=zl
  have hie:i=ms.length:=zj
  subst hie
  rw [ul] at hM
  go_wp2
  go_end0
  exact ⟨⟨_,rfl⟩,L,n',hL,hown,hM,hn',hk⟩
end
section
open Go.RowKit Go.Shelf Go.Maps
open scoped Classical
attribute [local go_sem] Oper.semAt_some
def AllP (f:Sta) (ps:List Plc):Prop:=(ps.map (·.1)).Nodup/\∀p,p∈ps↔f p.1=some p
theorem AllP.places (h:AllP f ps) (hp:qs.Perm ps) (hs:qs.Pairwise (fun a b=>¬b.1<a.1)):IsPlaces f qs:=by
 refine ⟨?_,fun p=>(hp.mem_iff).trans (h.2 p)⟩
 have hn:(qs.map (·.1)).Nodup:=(hp.map _).nodup_iff.2 h.1
 have hn':qs.Pairwise (fun a b=>a.1≠b.1):=List.pairwise_map.1 hn
 exact (hs.and hn').imp (fun {a b} h=>by have h1:=h.1;have h2:=h.2;omega)
def CollP (D:DataW Unit) (f:Sta) (left:Lit->Bool) (ps:List Plc):Prop:=
 (ps.map (·.1)).Nodup/\(∀p∈ps,f p.1=some p/\left (.int .i64 p.1)=false)/\∀k,Wf k->has D (.int .i64 k)=true->left (.int .i64 k)=false->k∈ps.map (·.1)
theorem sN (D:DataW Unit) (f:Sta):CollP D f (has D) []:=⟨uS,fun p hp=>by simp at hp,fun k _ h1 h2=>by rw [h1] at h2;cases h2⟩
theorem kk (a b:Int):Lit.sameKey (.int .i64 a) (.int .i64 b)=decide (a=b):=by
 by_cases h:a=b
 ·subst h
  rw [WideAt.sameKey_self (show WideAt.IsKeyLit (.int .i64 a) from trivial)]
  simp
 rw [sameKey_ne (mO h)]
 simp [h]
theorem CollP.step {left:Lit->Bool} (h:CollP D f left ps) {x:Int} {c:Plc} (hl:left (.int .i64 x)=true) (hf:f x=some c) (hk:c.1=x):CollP D f (fun z=>left z && !z.sameKey (.int .i64 x)) (ps++ [c]):=by
 obtain ⟨h1,h2,h3⟩:=h
 refine ⟨?_,fun p hp=> ?_,fun k hw hh hlk=> ?_⟩
 ·rw [vz,vM]
  refine ⟨h1,zq,fun a ha b hb=> ?_⟩
  simp only [vJ,uB,jS] at hb
  subst hb
  intro e
  obtain ⟨p,hp,rfl⟩:=vp.1 ha
  have:=(h2 p hp).2
  rw [e,hk,hl] at this
  cases this
 ·rcases jO.1 hp with hp | hp
  ·have:=h2 p hp
   exact ⟨this.1,by show (left (.int .i64 p.1) &&_)=false;rw [this.2];rfl⟩
  simp only [jS] at hp
  subst hp
  refine ⟨by rw [hk];exact hf,?_⟩
  show (left (.int .i64 p.1) && !Lit.sameKey (.int .i64 p.1) (.int .i64 x))=false
  rw [hk,kk]
  simp
 have hlk:(left (.int .i64 k) && !Lit.sameKey (.int .i64 k) (.int .i64 x))=false:=hlk
 rw [kk] at hlk
 rw [vz]
 by_cases e:k=x
 ·subst e
  simp [hk]
 refine vg _ (h3 k hw hh ?_)
 simpa [e] using hlk
theorem CollP.all {left:Lit->Bool} (h:CollP D f left ps) (hr:ReadsAs D f) (G:ko f) (hl:∀kl,left kl=false):AllP f ps:=by
 refine ⟨h.1,fun p=>⟨fun hp=>(h.2.1 p hp).1,fun hp=> ?_⟩⟩
 have hw:=Mm G hp
 have hm:=h.2.2 p.1 hw (by rw [hr.has hw,hp];rfl) (hl _)
 obtain ⟨q,hq,e⟩:=vp.1 hm
 have:=(h.2.1 q hq).1
 rw [e,hp] at this
 cases this
 exact hq
theorem Lc (hr:ReadsAs D f) (G:ko f) {x:Int} {c:Plc} (hw:Wf x) (hat:∀zd,D.atKey (.int .i64 x) zd=dat c):f x=some c/\c.1=x:=by
 have hh:=hr.has hw
 rw [has_true_of_atKey hat] at hh
 cases hf:f x with
 | none=>rw [hf] at hh;cases hh
 | some p=>
  have:=hr.some hw hf .nil
  rw [hat] at this
  rw [tR this]
  exact ⟨rfl,G.key x p hf⟩
theorem Al (F:Fence) (n:Nat) (h8:F.fn 170) (hro:F.round=none) (hn:1<=n) (l Bm b nn:Nat) (D0:DataW Unit) (f:Sta) (hr:ReadsAs D0 f) (G:ko f) (J Jx:List Plc->World->Prop)
  (hY:∀pre x W,J pre W->pre.length<nn->YieldAt F (n - 1) prog l #[kA x] W fun e W'=>
   (e= .returned (.bool true)/\J (pre++ [x]) W'/\KeepsWalks W W')\/(e= .returned (.bool false)/\Jx (pre++ [x]) W'))
  (W:World) (hJ:AbidesFrom W.heap.size J) (hm:W.cell? ⟨Bm,0,none⟩=some (.map (some b))) (hown:W.ownsMap prog 3 Ja b nn D0) (h0:J [] W):
  CallsIn F n prog 170 #[.func (.yield l) #[] #[],.pointer (some ⟨Bm,0,none⟩)] W fun e W'=>(∃v,e= .returned v)/\
   ((∃xs,AllP f xs/\J xs W')\/(∃pre,True/\Jx pre W')):=by
 refine callsIn_of_wp func170 rfl h8 ?_ hro
 simp only [ntmps170,vu,jY,vw,Nat.reduceAdd,Nat.reduceSub,vQ,vR,vY,vT,ua,vX]
 have hsn:=hown.size_le
 gi_wp2_with (first
  | (gi_at_range;refine wpListIn_range_own _ rfl _ 193 rfl 3 119 (int_keyed underlying3) underlying193 _ b nn _ rfl hown ?_;intro w0 hrg0 hg0 hs0)
  | gi_in)
 go_frame
 gi_loopw [4] (fun _ wr=>∃(left:Lit->Bool) (cnt:Nat) (ps:List Plc),wr.ranges prog 3 Ja b W.heap.size nn D0 left cnt/\ps.length+cnt<=nn/\CollP D0 f left ps/\J ps wr)
  (fun _ wr=>wr.rangeLeft b W.heap.size)
 case atStart=>
  exact ⟨_,_,[],hrg0,by simpa using hsn,sN D0 f,hJ [] W w0 none h0 hg0 (fun r e=>qu)⟩
 case round=>
  obtain ⟨left,cnt,ps,hrg,hcs,hC,hJs⟩:=hrel
  gi_wp2_with (first
   | (gi_at_next;refine wpListIn_next_ranges _ rfl _ rfl 3 (int_keyed underlying3) Ja (Value.int .i64) kA (fun key kl hk=>qe) (fun v y hv=>by obtain ⟨c,rfl,_⟩:=lP hv;exact ⟨c,rfl⟩) b W.heap.size nn _ _ _ rfl hrg ?_ ?_)
   | gi_in)
  ·exact kk5
  intro x c1 c2 c3 kl yd yp w2 cnt2 hkey hlk hv hat hrg2 hlt hg2 hs2 hen
  obtain ⟨x',ex,rfl,hwx⟩:=Maps.keyOf_int_inv underlying3 hkey
  obtain rfl:x=x':=by simpa using ex
  obtain ⟨c',ec,ez⟩:=lP hv
  obtain rfl:(c1,c2,c3)=c':=GF ec
  obtain rfl:yd=dat (c1,c2,c3):=(Prod.mk.inj ez).1
  obtain ⟨hfx,hcx⟩:=Lc hr G hwx hat
  have hcx:c1=x:=hcx
  subst hcx
  have hJ2:J ps w2:=hJ ps wr w2 (some W.heap.size) hJs hg2 (fun r e=>xF)
  have hJ3:J ps (w2.alloc (.cells #[.int .i64 c1,.int .i64 c2,.string c3] 119)):=hJ ps w2 _ none hJ2 (World.grownBy_alloc w2 _ none) (fun r e=>qu)
  obtain ⟨fn,tmps,assign,body,hy,hR⟩:=hY ps (c1,c2,c3) _ hJ3 zj
  unfold kA at hy hen
  dsimp only at hy hen
  have hrg3:=hrg2.alloc (.cells #[.int .i64 c1,.int .i64 c2,.string c3] 119)
  have hC2:=hC.step hlk hfx rfl
  have H3:Aside (RoundIn F (n - 1) prog l fn tmps assign body _ _):=hR
  clear hs2 hR hJ2 hJ3
  unfold kA
  dsimp only
  gi_wp2
  refine RoundIn.mono H3.o ?_
  rintro e W3 (⟨rfl,hJ4,hk4⟩ | ⟨rfl,hJx4⟩)
  ·gi_wp2
   have hrg4:=hrg3.of_walks hk4
   go_roundw
   case rel=>exact ⟨_,cnt2,ps++ [(c1,c2,c3)],hrg4,zl,hC2,hJ4⟩
   case measure=>rw [hrg4.left_eq,hrg.left_eq];exact hlt
  gi_wp2
  refine bodyPost_ret (results_none rfl _ _ _) rfl ?_
  exact ⟨⟨_,rfl⟩,.inr ⟨ps++ [(c1,c2,c3)],trivial,hJx4⟩⟩
theorem Dq (F:Fence) (n:Nat) (hf:F.fn 97) (hro:F.round=none) (mb:Option Nat) (w:World):
  CallsIn F n prog 97 #[.map mb] w fun e w'=>e= .returned (.func (.func 170) #[] #[.pointer (some ⟨w.heap.size,0,none⟩)])/\w'=w.alloc (.cells #[.map mb] 193):=by
 refine callsIn_of_wp func97 rfl hf ?_ hro
 simp only [ntmps97,vu,jY,vw,Nat.reduceAdd,Nat.reduceSub,vQ,vR,vY,vT,ua,vX]
 gi_wp2
 go_ret
 exact ki0
theorem rG (F:Fence) (n:Nat) (h8:F.fn 170) (hro:F.round=none) (hn:1<=n) (Bm b nn:Nat) (f:Sta) (G:ko f) (w:World) (hBm:Bm<w.heap.size) (hm:w.cell? ⟨Bm,0,none⟩=some (.map (some b))) (hM:MapAt prog 3 w b nn f):
  SeqStopsK F n prog 170 #[.pointer (some ⟨Bm,0,none⟩)] (fun x:Plc=> #[kA x]) KeepsWalks (fun xs=>AllP f xs) (fun _=>True) nn w:=fun l J Jx W hW hJ _ hY h0=>by
 have hbl:=hM.lt
 obtain ⟨D,hown,hr⟩:=hM.same (hW.block b hbl)
 exact Al F n h8 hro hn l Bm b nn D f hr G J Jx hY W hJ ((hW.cell (p:=⟨Bm,0,none⟩) hBm).trans hm) hown h0
end
section
open Go.RowKit Go.Shelf Go.Maps
attribute [local go_sem] Oper.semAt_some
theorem Nn:(prog.info? 119).map (fun i=>(i.zero,i.size,i.bytes))=some (some (.agg #[.int .i64 0,.int .i64 0,.string ⟨#[]⟩]),3,32):=zk
theorem CI (w:World) (p:Plc) (j:Nat) (u:Value) (hj:(ai p)[j]? =some u):(w.alloc (.cells #[.int .i64 p.1,.int .i64 p.2.1,.string p.2.2] 119)).cell? ((⟨w.heap.size,0,none⟩:Addr).add j)=some u:=by
 rw [Addr.add_lit,vh]
 have h:=heap_alloc_new w (.cells #[.int .i64 p.1,.int .i64 p.2.1,.string p.2.2] 119)
 simp only [World.cell?,h]
 rw [<-hj]
 simp [ai]
theorem pQ (w:World) (Bm b nn:Nat) (f:Sta) (G:ko f) (hBm:Bm<w.heap.size) (hm:w.cell? ⟨Bm,0,none⟩=some (.map (some b))) (hM:MapAt prog 3 w b nn f) (hnn:nn<=2000000):
  Calls prog 224 #[.slice none 0 0,.func (.func 170) #[] #[.pointer (some ⟨Bm,0,none⟩)]] w fun e w'=>∃v ps,e= .returned v/\AllP f ps/\ps.length<=nn/\w'.ownsRow w.heap.size 119 3 v ps.length (aB ai ps)/\Below w.heap.size w w':=by
 obtain ⟨i0,hi,hz0,hz1,hz2⟩:=info_parts Nn
 refine (callsIn_wide (n:=4)).1 ?_
 refine callsIn_of_wp_marks func224 rfl trivial ?_ rfl
 simp only [ntmps224,vu,jY,vw,Nat.reduceAdd,Nat.reduceSub,vQ,vR,vY,vT,ua,vX]
 gi_wp2
 obtain ⟨w1,hw1⟩:=za (w.alloc (.cells #[.slice none 0 0] 105))
 rw [<-hw1]
 have hB0:Below w.heap.size w w1:=yH
 have hs1:w1.heap.size=w.heap.size+1:=xf
 obtain ⟨B,hB⟩:=za w.heap.size
 have e1:Boxed w1 B 105 (.slice none 0 0):=qo
 rw [<-hB] at hB0 hs1 hBm |-
 have HB:Aside (B=w.heap.size):=hB
 have hBw:B<=w.heap.size:=zj
 clear hB
 have hm1:=(hB0.cell (p:=⟨Bm,0,none⟩) hBm).trans hm
 have hM1:=hM.same (hB0.block b (by have:=HB.o;have:=hM.lt;omega))
 clear hw1 hm hM
 refine wpIn_rangeFunc_ownH rfl zj (gf:=170) (lb:= #[.pointer (some ⟨Bm,0,none⟩)]) rfl trivial (enters_of func170 zk rfl)
  (rG Fence.wide (4 - 1) trivial rfl zj Bm b nn f G w1 zj hm1 hM1) walksK_t (walksK_b (w:=w1)) (jN _ _) (fun _=>rfl)
  (fun pre W=>((∃v,Boxed W B 105 v/\W.ownsRow B 119 3 v pre.length (aB ai pre)/\pre.length<=nn))/\(w1.heap.size<=W.heap.size/\Below B w W))
  (fun _ _ _=>False)
  (OwnFrom.and (Own.from (holdsRow_own B B 105 119 3 (fun pre=>pre.length) (fun pre=>aB ai pre) (fun pre _=>pre.length<=nn)) _) (OwnFrom.and (fun _ X Y row hs hg _=>jM hs hg.size) (ownFrom_below zj zj)))
  (fun _ _ _ _ _ hs _ _=>hs)
  ⟨⟨_,e1,vD w1 B _ _,jX _⟩,jL _,hB0⟩
  (fun x a' W=>∃Bx,w1.heap.size<=Bx/\PlcAt W Bx x/\a'= {tmps:= #[.slice none 0 0,.func (.func 170) #[] #[.pointer (some ⟨Bm,0,none⟩)],.pointer (some ⟨B,0,none⟩),undef,.slice none 0 0,.pointer (some ⟨Bx,0,none⟩),.func (.func 170) #[] #[.pointer (some ⟨Bm,0,none⟩)],.agg #[.int .i64 x.1,.int .i64 x.2.1,.string x.2.2],undef,undef,undef,undef,undef],defers:=[]})
  (fun x a'=>Own.from (fun _ X Y row hs hg hr=>zW) _)
  ?assign ?body ?done ?stop
 case assign=>
  rintro l pre x W K ⟨⟨v,hv,hrow,hpl⟩,hsz,hBW⟩ hK
  have hK':Aside _:=hK
  have hBs:B<=W.heap.size:=zj
  clear hK
  unfold kA
  gi_wp2
  refine hK'.o _ _ ((KeepsOthers.alloc _ _).from _) (KeepsOthers.alloc _ _).walks ⟨⟨v,hv.alloc _,hrow.alloc _,hpl⟩,zl,hBW.alloc hBs _⟩ ⟨W.heap.size,zj,heap_alloc_new W _,rfl⟩
 case body=>
  rintro l pre x a' W hl _ ⟨⟨v,hv,hrow,hpl⟩,hsz,hBW⟩ ⟨Bx,hBx,hE,rfl⟩ hlt
  have g1:=hv.cell
  have f0:=hE.c0
  have f1:=hE.c1
  have f2:=hE.c2
  have hBs:B<=W.heap.size:=zj
  gi_wp2_with (gi_at_builtin;refine wpListIn_append_own _ rfl _ _ 105 rfl B 119 i0 _ 3 32 underlying105 hi hz0 hz1 hz2 rfl zj _ _ _ rfl (hrow.alloc _) ⟨W.heap.size,0,none⟩ 1 1 (ai x) rfl rfl (CI W x) (nD x) zu zj zl ?_;intro v' w2 hown' hgrow _;obtain ⟨g',cap',rfl⟩:=ownsRow_succ hown';obtain ⟨hv1,hv2,hr2,hk2,hb2⟩:=hv.appended zo hrow hBs zg hown' hgrow;have hc1:=hv1.cell;have hf1:=hv1.frozen)
  exact ⟨hk2.from _,hk2.walks,⟨⟨_,hv2,by rw [jP,ub,bu];simpa [aB] using hr2,zl⟩,jw,hBW.trans hb2⟩⟩
 case done=>
  rintro D ys W hD hall ⟨⟨v,hv,hrow,hpl⟩,hsz,hBW⟩ hK
  have g1:=hv.cell
  gi_wp2
  refine ⟨zq,.inl ⟨_,_,rfl,run_takeDeferred hK,?_⟩⟩
  refine ⟨v,by simp [results,f224,go_sem],v,ys,rfl,hall,hpl,?_,?_⟩
  ·exact kl1
  exact ke1
 case stop=>
  exact kk8
def PlsAt (w:World) (v:Value) (qs:List Plc):Prop:=(v= .slice none 0 0/\qs= [])\/∃g cap,v= .slice (some ⟨g,0,none⟩) qs.length cap/\g<w.heap.size/\∀j u,(aB ai qs)[j]? =some u->w.cell? ⟨g,j,none⟩=some u
theorem wI (w:World) (Bm b nn:Nat) (f:Sta) (G:ko f) (hBm:Bm<w.heap.size) (hm:w.cell? ⟨Bm,0,none⟩=some (.map (some b))) (hM:MapAt prog 3 w b nn f) (hnn:nn<=2000000):
  Calls prog 168 #[.func (.func 170) #[] #[.pointer (some ⟨Bm,0,none⟩)]] w fun e w'=>∃v ps,e= .returned v/\AllP f ps/\ps.length<=nn/\w'.ownsRow w.heap.size 119 3 v ps.length (aB ai ps)/\Below w.heap.size w w':=by
 have hc:=pQ w Bm b nn f G hBm hm hM hnn
 go_enter func168,ntmps168
 go_wp2_with fail
 refine hc.mono ?_
 clear hc
 rintro e w' ⟨v,ps,rfl,H⟩
 have HH:Aside (AllP f ps/\ps.length<=nn/\w'.ownsRow w.heap.size 119 3 v ps.length (aB ai ps)/\Below w.heap.size w w'):=H
 clear H
 go_wp2
 go_ret
 exact ⟨v,ps,rfl,HH.o⟩
theorem Ai (w:World) (Bm b nn:Nat) (f:Sta) (G:ko f) (hBm:Bm<w.heap.size) (hm:w.cell? ⟨Bm,0,none⟩=some (.map (some b))) (hM:MapAt prog 3 w b nn f) (hnn:nn<=200000):
  Calls prog 96 #[.func (.func 170) #[] #[.pointer (some ⟨Bm,0,none⟩)],.func (.func 98) #[] #[]] w fun e w'=>∃v qs,e= .returned v/\IsPlaces f qs/\qs.length<=nn/\PlsAt w' v qs/\Below w.heap.size w w'/\∀g,v.ownBlock=some g->w.heap.size<=g:=by
 have hc:=wI w Bm b nn f G hBm hm hM zj
 go_enter func96,ntmps96
 go_wp2_with fail
 refine hc.mono ?_
 clear hc
 rintro e w1 ⟨v,ps,rfl,hall,hpl,hown,hb⟩
 rcases hown.2 with ⟨rfl,h0⟩ | ⟨g,cap,cur,rfl,hbg,-⟩
 ·have hps:ps= []:=ve.1 h0
  have HH:Aside (IsPlaces f []/\Below w.heap.size w w1):=⟨by subst hps;exact hall.places (List.Perm.refl _) List.Pairwise.nil,hb⟩
  clear hall hown hb hps h0
  go_wp2_with (go_at_call 169;refine (sK none 0 _ _).mono ?_;rintro e w' ⟨rfl,rfl⟩)
  go_ret
  exact ⟨_,[],rfl,HH.o.1,jX _,.inl ⟨rfl,rfl⟩,HH.o.2,fun g e=>qu⟩
 have hs:=MH w1 w.heap.size g cap ps hown zj
 have hgl:=(hown.lt g rfl).2
 have HH:Aside (AllP f ps/\ps.length<=nn/\Below w.heap.size w w1/\w.heap.size<=g/\g<w1.heap.size):=⟨hall,hpl,hb,hbg,hgl⟩
 clear hall hown hb hpl hbg hgl
 go_wp2_with fail
 refine hs.mono ?_
 clear hs
 rintro e w2 ⟨rfl,qs,hp,hpw,hcells,hk⟩
 have H2:Aside (IsPlaces f qs/\qs.length=ps.length/\qs.length<=nn/\(∀j u,(aB ai qs)[j]? =some u->w2.cell? ⟨g,j,none⟩=some u)/\Below w.heap.size w w2/\g<w2.heap.size/\w.heap.size<=g):=
  ⟨HH.o.1.places hp (List.Pairwise.imp (fun {a b} h=>zj) hpw),hp.length_eq,js,hcells,HH.o.2.2.1.trans (hk.below (HH.o.2.2.1.size) (fun k e=>by have:=HH.o.2.2.2.1;omega)),jW HH.o.2.2.2.2 hk.size,HH.o.2.2.2.1⟩
 clear hp hpw hcells hk HH
 go_wp2
 go_ret
 exact ⟨_,qs,rfl,H2.o.1,H2.o.2.2.1,.inr ⟨g,cap,by rw [H2.o.2.1];rfl,H2.o.2.2.2.2.2.1,H2.o.2.2.2.1⟩,H2.o.2.2.2.2.1,fun k e=>by cases e;exact H2.o.2.2.2.2.2.2⟩
theorem nB (w:World) (bt bm nn:Nat) (v0:Value) (f:Sta) (G:ko f) (hT:TreeCell w bt bm v0) (hM:MapAt prog 3 w bm nn f) (hnn:nn<=200000):
  Calls prog 51 #[.pointer (some ⟨bt,0,none⟩)] w fun e w'=>∃v qs,e= .returned v/\IsPlaces f qs/\qs.length<=nn/\PlsAt w' v qs/\Below w.heap.size w w'/\∀g,v.ownBlock=some g->w.heap.size<=g:=by
 have t0:=hT.c0
 have hv:=callsIn_wide.1 (Dq Fence.wide 3 trivial rfl (some bm) w)
 have hb1:Below w.heap.size w (w.alloc (.cells #[.map (some bm)] 193)):=zh w _
 have hbox:Boxed (w.alloc (.cells #[.map (some bm)] 193)) w.heap.size 193 (.map (some bm)):=heap_alloc_new w _
 have hs:=Ai (w.alloc (.cells #[.map (some bm)] 193)) w.heap.size bm nn f G zq hbox.cell (hM.same (hb1.block bm hM.lt)) hnn
 go_enter func51,ntmps51
 go_wp2_with (go_at_call 97;refine hv.mono ?_;clear hv;rintro e w' ⟨rfl,rfl⟩)
 refine hs.mono ?_
 clear hs
 rintro e w2 ⟨v,qs,rfl,h1,h2,h3,h4,h5⟩
 have HH:Aside (IsPlaces f qs/\qs.length<=nn/\PlsAt w2 v qs/\Below w.heap.size w w2/\∀g,v.ownBlock=some g->w.heap.size<=g):=⟨h1,h2,h3,hb1.trans (h4.mono zq),fun g hg=>by have:=h5 g hg;simp at this;omega⟩
 clear h1 h2 h3 h4 h5 hb1 hbox
 go_wp2
 go_ret
 exact ⟨v,qs,rfl,HH.o⟩
end
section
open Go.RowKit Go.Lib Go.Sort
def PlsIn (w:World) (ao:Option Addr) (qs:List Plc):Prop:=qs= []\/∃g off,ao=some ⟨g,off,none⟩/\∀j u,(aB ai qs)[j]? =some u->w.cell? ⟨g,off+j,none⟩=some u
theorem PlsAt.isIn (h:PlsAt w v qs):∃ao cap,v= .slice ao qs.length cap/\PlsIn w ao qs:=by
 rcases h with ⟨h,e⟩ | ⟨g,cap,h,_,hc⟩
 ·exact ⟨none,0,by rw [h,e];rfl,.inl e⟩
 exact ⟨some ⟨g,0,none⟩,cap,h,.inr ⟨g,0,rfl,fun j u hj=>qC⟩⟩
theorem PlsIn.get {ao:Option Addr} (h:PlsIn w ao qs) {p:Plc} (hk:qs[k]? =some p):∃g off,ao=some ⟨g,off,none⟩/\w.cell? ⟨g,off+k*3,none⟩=some (.int .i64 p.1)/\w.cell? ⟨g,off+k*3+1,none⟩=some (.int .i64 p.2.1)/\w.cell? ⟨g,off+k*3+2,none⟩=some (.string p.2.2):=by
 rcases h with h | ⟨g,off,h1,h2⟩
 ·rw [h] at hk;simp at hk
 refine ⟨g,off,h1,?_,?_,?_⟩
 ·exact h2 (k*3) _ (by have:=bd cF hk (c:=0) zj;rw [vI] at this;rw [this];rfl)
 ·rw [uj];exact h2 (k*3+1) _ xN
 rw [uj];exact h2 (k*3+2) _ xN
