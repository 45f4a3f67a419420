import Derived.Test.YtpdbnnimdkfajaaGreatDoorVS10
import Derived.Test.YtpdbnnimdkfajaaGreatDoorVS11
import Derived.Test.YtpdbnnimdkfajaaGreatDoorVS12
import Derived.Maps.OwnIn
set_option linter.unusedSimpArgs false
set_option linter.unusedVariables false
set_option maxRecDepth 100000
set_option maxHeartbeats 64000000
namespace Go.Proofs.YtpdbnnimdkfajaaGreatDoor
open Go.Proofs.Tryz
variable {A B:List OpX} {s t:List UInt8} {a:List UInt8×Int} {g:Nat} {w:World}
section
open Go.RowKit Go.Shelf Go.Maps
attribute [local go_sem] Oper.semAt_some
theorem eqPl (p q:Plc) (w:World):(Op.equalIn 10000 106 (.agg #[.int .i64 p.1,.int .i64 p.2.1,.string p.2.2]) (.agg #[.int .i64 q.1,.int .i64 q.2.1,.string q.2.2])).run prog w= .ok (decide (p=q)) w:=by
 obtain ⟨a,b,s⟩:=p
 obtain ⟨a',b',s'⟩:=q
 have hs:∀x y:ByteArray,x.toList=y.toList↔x=y:=fun x y=>⟨fun h=>by rw [jV,jV] at h;exact WideShapes.bytes_inj h,fun h=>by rw [h]⟩
 go_simp
 by_cases h1:a=a'<;>by_cases h2:b=b'<;>by_cases h3:s=s'<;>simp [h1,h2,h3]
theorem Keeps.grownFrom {S:Nat->Prop} {X Y:World} {row:Option Nat} (h:Keeps S w X) (hg:X.grownBy Y row) (hr:∀r,row=some r->w.heap.size<=r):Keeps S w Y:=
 h.then (keeps_of_grown hg) (fun i hi e=>by have:=hr i e.symm;omega)
theorem undo_core (w:World) (bt bm g off cap at_ len n:Nat) (ao bo:Option Addr) (L:List Ent) (F:Nat->Sta) (hat:at_<=len) (hll:len - at_=L.length) (hlen:len<=1000) (hn:n<=1000000) (hm0:w.cell? ⟨bt,0,none⟩=some (.map (some bm))) (hsl:w.cell? ⟨bt,1,none⟩=some (.slice ao len cap))
  (hbo:(if cap=at_ then ao else Option.map (fun x=>x.add (at_*8)) ao)=bo) (hao:L= []\/bo=some ⟨g,off,none⟩) (hg:g<w.heap.size) (hgm:g≠bm) (hrow:RowAt w g off L) (hM:MapAt prog 3 w bm n (F 0))
  (hF:∀r,r<L.length->undo (F r) (entR L r).1.2.1 (entR L r).2=F (r+1)) (hwf:∀r,Wf (entR L r).1.2.1):
  Calls prog 188 #[.pointer (some ⟨bt,0,none⟩),.int .i64 (at_:Int)] w fun e w'=>(∃v,e= .returned v)/\MapAt prog 3 w' bm (n+L.length) (F L.length)/\Keeps (fun k=>k=bm) w w':=by
 have hbt:bt<w.heap.size:=block_lt_of_cell hsl
 have hbm:bm<w.heap.size:=hM.lt
 have htm:bt≠bm:=by
  intro e
  obtain ⟨es,ck,hb⟩:=hM.block
  rw [<-e] at hb
  simp [World.cell?,hb] at hm0
 have hsl3:∀o1,(w.alloc o1).cell? ⟨bt,1,none⟩=some (.slice ao len cap):=fun o1=>
  (((jo w.heap.size w).alloc ze o1).cell (p:=⟨bt,1,none⟩) hbt).trans hsl
 refine (callsIn_wide (n:=4)).1 ?_
 refine callsIn_of_wp_marks func188 rfl trivial ?_ rfl
 simp only [ntmps188,jN,jK,vy,Nat.reduceAdd,Nat.reduceSub,vd,ve,vr,vj,vn,vp]
 gi_wp2_with (refine ⟨trivial,?_⟩;gi_at_call 227;refine (back_in Fence.wide (4 - 1) trivial rfl _ _ _ _).mono ?_;rintro e w' ⟨rfl,rfl⟩)
 obtain ⟨w2,hw2⟩:=za ((w.alloc (.cells #[.pointer (some ⟨bt,0,none⟩)] 66)).alloc (.cells #[.slice bo L.length (cap - at_)] 185))
 rw [<-hw2]
 have hB0:Below w.heap.size w w2:=by rw [hw2];exact ((jo w.heap.size w).alloc ze _).alloc zm _
 have hs2:w2.heap.size=w.heap.size+2:=by rw [hw2];simp
 obtain ⟨B,hB⟩:=za w.heap.size
 have e1:Boxed w2 B 66 (.pointer (some ⟨bt,0,none⟩)):=by rw [hw2,hB];exact (blk2 w _ _).1
 have e2:Boxed w2 (B+1) 185 (.slice bo L.length (cap - at_)):=by rw [hw2,hB];exact (blk2 w _ _).2
 rw [<-hB] at hB0 hs2 hg hbt hbm |-
 have HB:Aside (B=w.heap.size):=hB
 have hBw:B<=w.heap.size:=zi
 clear hB
 have hrow2:RowAt w2 g off L:=hrow.same (hB0.block g hg)
 have hM2:=hM.same (hB0.block bm hbm)
 have hk2:Keeps (fun k=>k=bm) w w2:=(keeps_of_below hB0).mono (fun k hk e=>yO)
 clear hw2 hsl3 hrow hM hbo
 refine wpIn_rangeFunc_ownH rfl zi (gf:=282) (lb:= #[.pointer (some ⟨B+1,0,none⟩)]) rfl trivial (enters_of func282 zj rfl)
  (back_stops Fence.wide (4 - 1) trivial rfl zi (B+1) g off (cap - at_) bo L zi hao w2 zi zi e2.cell hrow2) KeepTwo.trans (fun W l o o' hl _ _ _=>KeepTwo.put (N:=w2.heap.size) zi zi W l o' hl) (jo _ _) (fun _=>rfl)
  (fun pre W=>((∃f,MapAt prog 3 W bm (n+pre.length) f/\(pre=List.range pre.length->f=F pre.length))/\Boxed W B 66 (.pointer (some ⟨bt,0,none⟩))/\w2.heap.size<=W.heap.size)/\Keeps (fun k=>k=bm) w W)
  (fun _ _ _=>False)
  (fun pre X Y row hs hg hr=>by
   obtain ⟨⟨⟨f,q1,q2⟩,q3,q4⟩,q5⟩:=hs
   have hne:some bm≠row:=fun e=>by have:=(hr bm e.symm).1;omega
   exact ⟨⟨⟨f,q1.same (hg.block bm q1.lt hne),q2⟩,kept_cells q3 hg (fun r e=>(hr r e).2),jw q4 hg.size⟩,q5.grownFrom hg (fun r e=>by have:=(hr r e).1;have:=HB.o;omega)⟩)
  (fun _ _ _ _ _ hs _ _=>hs)
  ⟨⟨⟨F 0,hM2,fun _=>rfl⟩,e1,jj _⟩,hk2⟩
  (fun x a' W=>∃Bx,w2.heap.size<=Bx/\EntAt W Bx (entR L x)/\a'= {tmps:= #[.pointer (some ⟨bt,0,none⟩),.int .i64 (at_:Int),.pointer (some ⟨B,0,none⟩),undef,undef,.pointer (some ⟨Bx,0,none⟩),.pointer (some ⟨bt,0,none⟩),.pointer (some ⟨bt,0,none⟩),.pointer (some ⟨bt,1,none⟩),.slice ao len cap,.int .i64 (at_:Int),.slice bo L.length (cap - at_),.func (.func 282) #[] #[.pointer (some ⟨B+1,0,none⟩)],.int .i64 ((L.length - 1 - x:Nat):Int),.agg #[.int .i64 (entR L x).1.1.1,.int .i64 (entR L x).1.1.2,.int .i64 (entR L x).1.2.1,.int .i64 (entR L x).1.2.2.1,.string (entR L x).1.2.2.2,.int .i64 (entR L x).2.1,.int .i64 (entR L x).2.2.1,.string (entR L x).2.2.2],undef,undef,undef,undef,undef,undef,undef,undef,undef,undef,undef,undef,undef,undef,undef,undef,undef,undef,undef,undef],defers:=[]})
  (fun x a'=>Own.from (fun _ X Y row hs hg hr=>zK) _)
  ?assign ?body ?done ?stop
 case assign=>
  rintro l pre x W K ⟨⟨⟨f,hf,hfp⟩,hr1,hsz⟩,hkW⟩ hK
  have hK':Aside _:=hK
  have hBs:B<=W.heap.size:=zi
  clear hK
  unfold encR
  gi_wp2
  refine hK'.o _ _ ((KeepsOthers.alloc _ _).from _) ⟨jp _ _ _ zi,jp _ _ _ zi⟩ ⟨⟨⟨f,hf.same (jp _ _ _ hf.lt),hfp⟩,hr1.alloc _,zk⟩,hkW.alloc _⟩ ⟨W.heap.size,zi,heap_alloc_new W _,rfl⟩
 case body=>
  rintro l pre x a' W hl _ ⟨⟨⟨f,hf,hfp⟩,hr1,hsz⟩,hkW⟩ ⟨Bx,hBx,hE,rfl⟩ hlt
  have hwx:=hwf x
  obtain ⟨y,hy⟩:=za (entR L x)
  rw [<-hy] at hE hwx |-
  have hFx:x=pre.length->undo (F pre.length) y.1.2.1 y.2=F (pre.length+1):=fun e=>by rw [hy,e];exact hF pre.length hlt
  clear hF hwf hy
  obtain ⟨⟨⟨y1,y2⟩,y3,y4,y5⟩,y6,y7,y8⟩:=y
  dsimp only at hwx hFx |-
  have g1:=hr1.cell
  have f2:=hE.cell 2 (u:=.int .i64 y3) rfl
  have f5:=hE.cell 5 (u:=.int .i64 y6) rfl
  have f6:=hE.cell 6 (u:=.int .i64 y7) rfl
  have f7:=hE.cell 7 (u:=.string y8) rfl
  have htc:W.cell? ⟨bt,0,none⟩=some (.map (some bm)):=(hkW.cell (a:=⟨bt,0,none⟩) (by show bt<_;omega) htm).trans hm0
  have fin:∀(w1:World) (f':Sta),W.drew.grownBy w1 (some bm)->MapAt prog 3 w1 bm (n+pre.length+1) f'->f'=undo f y3 (y6,y7,y8)->
    Aside (KeepsFrom w2.heap.size W w1/\KeepTwo g (B+1) W w1/\((∃f,MapAt prog 3 w1 bm (n+(pre++ [x]).length) f/\(pre++ [x]=List.range (pre++ [x]).length->f=F (pre++ [x]).length))/\Boxed w1 B 66 (.pointer (some ⟨bt,0,none⟩))/\w2.heap.size<=w1.heap.size)/\Keeps (fun k=>k=bm) w w1):=fun w1 f' hg1 hM1 hf1=>by
   have hg1':W.grownBy w1 (some bm):=⟨hg1.os,hg1.tape,hg1.output,hg1.size,hg1.block⟩
   have hsz1:=hg1'.size
   refine ⟨KeepsFrom.of_grownBy hg1' (fun j e=>by cases e;omega),⟨hg1'.block g zi (by simpa using hgm),hg1'.block (B+1) zi zk⟩,⟨⟨f',by rw [jA,vX,<-vG];exact hM1,fun hp=> ?_⟩,hr1.kept hg1' zk,zi⟩,hkW.then (keeps_of_grown hg1') (fun i _ e=>zZ)⟩
   obtain ⟨hp1,hp2⟩:=range_snoc hp
   rw [hf1,hfp hp1,jA,vX,hFx hp2]
  have hBxm:Bx≠bm:=zi
  have hBxW:Bx<W.heap.size:=(jk.1 hE).1
  have cells1:∀w1:World,W.drew.grownBy w1 (some bm)->Aside (w1.cell? ⟨B,0,none⟩=some (.pointer (some ⟨bt,0,none⟩))/\w1.cell? ⟨bt,0,none⟩=some (.map (some bm))/\w1.cell? ⟨Bx,2,none⟩=some (.int .i64 y3)/\w1.cell? ⟨Bx,5,none⟩=some (.int .i64 y6)/\w1.cell? ⟨Bx,6,none⟩=some (.int .i64 y7)/\w1.cell? ⟨Bx,7,none⟩=some (.string y8)):=fun w1 hg1=>by
   have hb:∀k,k<W.heap.size->k≠bm->∀o,w1.cell? ⟨k,o,none⟩=W.cell? ⟨k,o,none⟩:=fun k hk hne o=>jr (a:=⟨k,o,none⟩) (hg1.block k hk (by simpa using hne))
   exact ⟨(hb B zi zi 0).trans g1,(hb bt zi htm 0).trans htc,(hb Bx hBxW hBxm 2).trans f2,(hb Bx hBxW hBxm 5).trans f5,(hb Bx hBxW hBxm 6).trans f6,(hb Bx hBxW hBxm 7).trans f7⟩
  by_cases he:((y6,y7,y8):Plc)=zeroP
  ·have hq:∀w',(Op.equalIn 10000 106 (.agg #[.int .i64 y6,.int .i64 y7,.string y8]) (.agg #[.int .i64 0,.int .i64 0,.string ⟨#[]⟩])).run prog w'= .ok true w':=fun w'=>by
    have:=eqPl (y6,y7,y8) zeroP w'
    rw [decide_eq_true he] at this
    exact this
   obtain ⟨w1,hrun,hM1,ht1⟩:=(show MapAt prog 3 W.drew bm (n+pre.length) f from hf).drop (T:=184) (E:=106) underlying3 underlying184 hwx 0
   have X1:=cells1 w1 ht1.grown
   have FIN:=fin w1 (upd f y3 none) ht1.grown (hM1.mono (Nat.le_succ _)) (by rw [he];unfold undo;rw [if_pos rfl])
   clear he fin hM1 ht1 hf hfp hkW hM2 hk2 hrow2 e1 e2 hB0 hE hr1 hao hsl hm0 hll hat hlen hn hsz hBx hl hs2 hbm hbt hg htm hgm hBw HB hwx hlt hFx cells1 hBxm hBxW
   gi_wp2
   refine region_in_round (S:=(fun w'=>w'.cell? ⟨B,0,none⟩=some (.pointer (some ⟨bt,0,none⟩))/\w'.cell? ⟨bt,0,none⟩=some (.map (some bm))/\w'.cell? ⟨Bx,2,none⟩=some (.int .i64 y3))) zj zj qQ ⟨g1,htc,f2⟩ (fun hHeld=> ?_)
   refine tk 0 hHeld ?_ (hy:=Or.inl ⟨zu,zv⟩)
   refine tk 1 hHeld ?_ (hy:=Or.inl ⟨zu,zv⟩)
   refine tk 2 hHeld ?_ (hy:=Or.inl ⟨zu,zv⟩)
   refine tk 3 hHeld ?_ (hy:=Or.inl ⟨zu,zv⟩)
   refine tk 4 hHeld ?_ (hy:=Or.inl ⟨zu,zv⟩)
   refine tk 5 hHeld ?_ (hy:=Or.inl ⟨zu,zv⟩)
   refine tk 6 hHeld ?_ (hy:=Or.inl ⟨zu,zv⟩)
   refine wpAnyH_one (i:=7) zj rfl (fun K hK=> ?_)
   go_simp
   refine hK _ _ ⟨X1.o.1,X1.o.2.1,X1.o.2.2.1⟩ ?_
   clear hK K
   refine wpAnyH_done zj ?_ _
   exact FIN.o
  have hq:∀w',(Op.equalIn 10000 106 (.agg #[.int .i64 y6,.int .i64 y7,.string y8]) (.agg #[.int .i64 0,.int .i64 0,.string ⟨#[]⟩])).run prog w'= .ok false w':=fun w'=>by
   have:=eqPl (y6,y7,y8) zeroP w'
   rw [decide_eq_false he] at this
   exact this
  obtain ⟨w1,hrun,hM1,ht1⟩:=(show MapAt prog 3 W.drew bm (n+pre.length) f from hf).store (T:=184) (E:=106) underlying3 underlying184 zD hwx (y6,y7,y8)
  unfold encP at hrun
  dsimp only at hrun
  have X1:=cells1 w1 ht1.grown
  have FIN:=fin w1 (upd f y3 (some (y6,y7,y8))) ht1.grown hM1 (by unfold undo;rw [if_neg he])
  clear he fin hM1 ht1 hf hfp hkW hM2 hk2 hrow2 e1 e2 hB0 hE hr1 hao hsl hm0 hll hat hlen hn hsz hBx hl hs2 hbm hbt hg htm hgm hBw HB hwx hlt hFx cells1 hBxm hBxW
  gi_wp2
  refine region_in_round (S:=(fun w'=>w'.cell? ⟨B,0,none⟩=some (.pointer (some ⟨bt,0,none⟩))/\w'.cell? ⟨bt,0,none⟩=some (.map (some bm))/\w'.cell? ⟨Bx,2,none⟩=some (.int .i64 y3)/\w'.cell? ⟨Bx,5,none⟩=some (.int .i64 y6)/\w'.cell? ⟨Bx,6,none⟩=some (.int .i64 y7)/\w'.cell? ⟨Bx,7,none⟩=some (.string y8))) zj zj qQ ⟨g1,htc,f2,f5,f6,f7⟩ (fun hHeld=> ?_)
  refine tk 0 hHeld ?_ (hy:=Or.inl ⟨zu,zr⟩)
  refine tk 1 hHeld ?_ (hy:=Or.inl ⟨zu,zr⟩)
  refine tk 2 hHeld ?_ (hy:=Or.inl ⟨zu,zr⟩)
  refine tk 3 hHeld ?_ (hy:=Or.inl ⟨zu,zr⟩)
  refine tk 4 hHeld ?_ (hy:=Or.inl ⟨zu,zr⟩)
  refine tk 5 hHeld ?_ (hy:=Or.inl ⟨zu,zr⟩)
  refine tk 6 hHeld ?_ (hy:=Or.inl ⟨zu,zr⟩)
  refine tk 7 hHeld ?_ (hy:=Or.inl ⟨zu,zr⟩)
  refine tk 8 hHeld ?_ (hy:=Or.inl ⟨zu,zr⟩)
  refine wpAnyH_one (i:=9) zj rfl (fun K hK=> ?_)
  go_simp
  refine hK _ _ ⟨X1.o.1,X1.o.2.1,X1.o.2.2.1,X1.o.2.2.2.1,X1.o.2.2.2.2.1,X1.o.2.2.2.2.2⟩ ?_
  clear hK K
  refine wpAnyH_done zj ?_ _
  exact FIN.o
 case done=>
  rintro D ys W hD rfl ⟨⟨⟨f,hf,hfp⟩,hr1,hsz⟩,hkW⟩ hK
  have hfF:=hfp zm
  subst hfF
  gi_wp2
  refine ⟨zm,.inl ⟨_,_,rfl,run_takeDeferred hK,?_⟩⟩
  have hgp:=grownBy_putObj' W D (.deferred none)
  refine ⟨.tuple #[],by simp [results,f188,go_sem],⟨_,rfl⟩,?_,hkW.grownFrom hgp (fun r e=>by cases e;have:=HB.o;omega)⟩
  have:=hf.same (hgp.block bm hf.lt zk)
  simpa using this
 case stop=>
  rintro D c pre W _ _ h _
  exact h.elim
end
section
open Go.Shelf Go.RowKit Go.Lib Go.Sort
def cmpN (x y:OpX):Int:=cmpZ x.2.2.1 y.2.2.1
theorem ltOf_cmpN (x y:OpX):ltOf cmpN x y=decide (x.2.2.1<y.2.2.1):=by
 unfold ltOf cmpN cmpZ
 by_cases h1:x.2.2.1<y.2.2.1
 ·simp [h1]
 rw [if_neg h1]
 by_cases h2:y.2.2.1<x.2.2.1<;>simp [h1,h2]
theorem swo_cmpN:SWO (ltOf cmpN) where
 irrefl x:=by rw [ltOf_cmpN];exact decide_eq_false zi
 trans x y z h1 h2:=by
  rw [ltOf_cmpN] at*
  have:=of_decide_eq_true h1
  have:=of_decide_eq_true h2
  exact decide_eq_true zi
 ntrans x y z h1 h2:=by
  rw [ltOf_cmpN] at*
  have:=of_decide_eq_false h1
  have:=of_decide_eq_false h2
  exact decide_eq_false zi
theorem closureN (x y:OpX) (w:World):Calls prog 114 (#[.agg (encX x).toArray,.agg (encX y).toArray]++ #[]) w fun e w'=>e= .returned (.int .i64 (cmpN x y))/\∃q os',w'=grow (w.drewN q) os':=by
 obtain ⟨t,b,n,k,nd,o,s,v⟩:=x
 obtain ⟨t',b',n',k',nd',o',s',v'⟩:=y
 unfold encX cmpN
 show Calls prog 114 #[.agg #[.int .i64 t,.int .i64 b,.int .i64 n,.int .u8 (k:Int),.int .i64 nd,.int .i64 o,.string s,.string v],.agg #[.int .i64 t',.int .i64 b',.int .i64 n',.int .u8 (k':Int),.int .i64 nd',.int .i64 o',.string s',.string v']] w _
 go_enter func114,ntmps114
 go_wp2_with (go_at_call 103;refine (cmpZ_any _ _ _).mono ?_;rintro e w' ⟨rfl,rfl⟩)
 go_ret
 exact ⟨rfl,0,#[.cells #[.int .i64 t,.int .i64 b,.int .i64 n,.int .u8 (k:Int),.int .i64 nd,.int .i64 o,.string s,.string v] 38]++ #[.cells #[.int .i64 t',.int .i64 b',.int .i64 n',.int .u8 (k':Int),.int .i64 nd',.int .i64 o',.string s',.string v'] 38],zH⟩
theorem cmp_laysN (blk off size:Nat) (w:World):CmpLays prog 114 #[] encX 8 cmpN blk off size w:=fun _ _ _ _ x y=>closureN x y _
theorem eg_cmpN:∀args w,(callFunc 114 args).run prog w= .ok (.enter 114 args) w:=enters_of func114 zj rfl
theorem sortWorld_keepsN (w:World) (g n:Nat) (d:Array OpX) (os:Array Obj):Keeps (fun k=>k=g) w (sortWorldK encX 8 w g 0 n d os):=by
 refine ⟨rfl,rfl,rfl,?_,fun k hk hs=> ?_⟩
 ·simp [sortWorldK,putRowK,putRow,mapBlock,Sort.ahead,grow]
 have hgk:g≠k:=fun e=>hs e.symm
 simp only [sortWorldK,putRowK,putRow,mapBlock,Sort.ahead,grow]
 rw [Array.getElem?_append_left (by simpa using hk)]
 simp [Array.getElem?_modify,hgk]
theorem holdsN {base cap n:Nat} {ps:List OpX} (h:w.ownsRow base 38 8 (.slice (some ⟨g,0,none⟩) n cap) n (cellsOf ps)) (hn:n=ps.length):HoldsK encX 8 w g 0 ps.toArray:=fun j hj=>by
 rw [size_flatK] at hj
 simp only [jN] at hj
 have h1:j / 8<ps.length:=zi
 have h2:j / 8*8+j % 8=j:=zi
 refine ⟨?_,qe⟩
 rw [jt,h.cellAt j zi,get_flatK _ _ _ _ yg]
 have:=cellsOf_get ps (j / 8) (j % 8) h1 zi
 rw [h2] at this
 rw [this,getElem!_pos ps.toArray (j / 8) qD,vv,getElem!_pos ps (j / 8) h1]
 rfl
theorem holds_cellsN {d:Array OpX} (h:HoldsK encX 8 w g 0 d) (j:Nat) (u:Value) (hj:(cellsOf d.toList)[j]? =some u):w.cell? ⟨g,j,none⟩=some u:=by
 have hl:=(jh.1 hj).1
 rw [cellsOf_len,vE] at hl
 have h1:j / 8<d.size:=zi
 have h2:j / 8*8+j % 8=j:=zi
 have H:=(h j xq).1
 rw [jt,get_flatK _ _ _ _ zi] at H
 have:=cellsOf_get d.toList (j / 8) (j % 8) (by rw [vE];exact h1) zi
 rw [h2,hj,getElem!_pos d.toList (j / 8) (by rw [vE];exact h1)] at this
 rw [H,getElem!_pos d (j / 8) h1,this]
 simp
theorem sortNm (w:World) (base g cap:Nat) (ps:List OpX) (hown:w.ownsRow base 38 8 (.slice (some ⟨g,0,none⟩) ps.length cap) ps.length (cellsOf ps)) (hl:ps.length<=100000):
  Calls prog 182 #[.slice (some ⟨g,0,none⟩) ps.length cap,.func (.func 114) #[] #[]] w fun e w'=>e= .returned (.tuple #[])/\∃qs:List OpX,qs.Perm ps/\qs.Pairwise (fun a b=>a.2.2.1<=b.2.2.1)/\(∀j u,(cellsOf qs)[j]? =some u->w'.cell? ⟨g,j,none⟩=some u)/\Keeps (fun k=>k=g) w w':=by
 have hH:=holdsN hown rfl
 have hblk:g<w.heap.size:=(hown.lt g rfl).2
 have h:=AnyQ.slices_SortFunc sortNums 8 isAgg38 sizeOf38 encX encX_len encX_one cmpN swo_cmpN 114 #[] g 0 cap ps.toArray w eg_cmpN (cmp_laysN g 0 ps.toArray.size w) hH hblk zk
 refine Calls.mono h ?_
 rintro e w' ⟨rfl,d',n,os,hp,hs,rfl⟩
 simp only [jN] at hp hs
 have hsz:d'.size=ps.length:=qY
 have hperm:d'.toList.Perm ps:=by
  have:=hp.2.2
  simp only [Array.toList_extract] at this
  rw [vY,vY,uA,uA,Nat.sub_zero,jJ (by simp [hsz]),jJ zm] at this
  exact this
 refine ⟨rfl,d'.toList,hperm,?_,?_,sortWorld_keepsN w g n d' os⟩
 ·rw [jF]
  intro i j hi hj hij
  have hi':i<d'.size:=qL
  have hj':j<d'.size:=yg
  have:=hs i j (js _) hij zi
  rw [ltOf_cmpN,getElem!_pos d' i hi',getElem!_pos d' j hj'] at this
  have:=of_decide_eq_false this
  simp only [Array.getElem_toList]
  omega
 exact holds_cellsN ((show SWK encX 8 w g 0 d' _ from ⟨n,os,rfl⟩).holds hblk hH (by rw [hsz];simp))
theorem sortNm_none (p:Option Addr) (cap:Nat) (fv:Value) (w:World):Calls prog 182 #[.slice p 0 cap,fv] w fun e w'=>e= .returned (.tuple #[])/\w'=w:=
 AnyF.slices_SortFunc_none sortNums p cap fv w
end
section
open Go.RowKit
def Heard (pb:Nat) (T t:Int) (w w':World):Prop:=(T<t/\∃W,Below w.heap.size w W/\w'.heap=(W.setCell ⟨pb,0,none⟩ (.int .i64 t)).heap/\Keeps (fun k=>k=pb) W w')\/(¬T<t/\Below w.heap.size w w')
theorem hear_at (pb:Nat) (T c t b:Int) (w:World) (hC:Clk pb T c w) (h1:1<=t) (h2:t<=1073741824) (h3:0<=b) (h4:b<4):
  Calls prog 186 #[.pointer (some ⟨pb,0,none⟩),.agg #[.int .i64 t,.int .i64 b]] w fun e w'=>e= .returned .nilIface/\Heard pb T t w w':=by
 have C0:=hC.later ((jo _ _).alloc ze (.cells #[.int .i64 t,.int .i64 b] 36))
 have hlt:=hC.lt
 clear hC
 by_cases hgt:T<t
 ·have HT:Aside (T<t):=hgt
  go_enter func186,ntmps186
  go_wp2_with fail
  refine (check_ok t b _ h1 h2 h3 h4).mono ?_
  rintro e w1 ⟨rfl,hb⟩
  have s0:w1.cell? ⟨w.heap.size,0,none⟩=some (.int .i64 t):=cell_later hb yn
  have B1:Below w.heap.size w w1:=(zg _ _).trans (hb.mono zm)
  have C1:=C0.later hb
  obtain ⟨k0,k1,kf⟩:=C1
  clear C0 hb
  go_wp2
  go_quiet (fail)
  go_wp2
  go_ret
  exact ⟨rfl,.inl ⟨HT.o,_,Go.below_drewN B1 _,rfl,setCells_keeps pb [_] 0 _⟩⟩
 have HT:Aside (¬T<t):=hgt
 go_enter func186,ntmps186
 go_wp2_with fail
 refine (check_ok t b _ h1 h2 h3 h4).mono ?_
 rintro e w1 ⟨rfl,hb⟩
 have s0:w1.cell? ⟨w.heap.size,0,none⟩=some (.int .i64 t):=cell_later hb yn
 have B1:Below w.heap.size w w1:=(zg _ _).trans (hb.mono zm)
 have C1:=C0.later hb
 obtain ⟨k0,k1,kf⟩:=C1
 clear C0 hb
 go_wp2
 go_quiet (fail)
 go_wp2
 go_ret
 exact ⟨rfl,.inr ⟨by have:=HT.o;omega,Go.below_drewN B1 _⟩⟩
theorem chear_any (pb:Nat) (T c t b:Int) (w:World) (hC:Clk pb T c w) (h1:1<=t) (h2:t<=1073741824) (h3:0<=b) (h4:b<4):
  Calls prog 122 #[.pointer (some ⟨pb,0,none⟩),.agg #[.int .i64 t,.int .i64 b]] w fun e w'=>(∃u,e= .returned u)/\∃W,Below w.heap.size w W/\Heard pb T t W w':=by
 obtain ⟨S,hS⟩:=za w.heap.size
 obtain ⟨U,hU⟩:=za (w.alloc (.cells #[.int .i64 t,.int .i64 b] 36))
 have hb:Below w.heap.size w U:=zJ
 have hs:U.heap[S]? =some (.cells #[.int .i64 t,.int .i64 b] 36 (0,0)):=by rw [hU,hS];exact heap_alloc_new w _
 have s0:U.cell? ⟨S,0,none⟩=some (.int .i64 t):=by simp [World.cell?,hs]
 have s1:U.cell? ⟨S,1,none⟩=some (.int .i64 b):=by simp [World.cell?,hs]
 have hcall:∀W,Below U.heap.size U W->Calls prog 186 #[.pointer (some ⟨pb,0,none⟩),.agg #[.int .i64 t,.int .i64 b]] W fun e w'=>e= .returned .nilIface/\Heard pb T t W w':=fun W hW=>hear_at pb T c t b W ((hC.later hb).later hW) h1 h2 h3 h4
 have HB:Aside (Below w.heap.size w U):=hb
 clear hb hs hC
 go_enter func122,ntmps122
 go_wp2_with fail
 rw [<-hU,<-hS]
 clear hU hS
 refine wp_region_Z (S:=(fun w'=>Below U.heap.size U w')) (z:=4) zj (jo _ U).drew (fun hHeld=> ?_)
 refine wpAnyZ_free (i:=0) (v:= ?va0) zo rfl zj zj zj (fun _ _ _ h=>h) (Or.inl ⟨zu,?hy0⟩) hHeld ?rest0
 case hy0=>(intro w' _;go_simp;try with_reducible rfl)
 refine qn ?_
 refine wpAnyZ_free (i:=1) (v:= ?va1) zo rfl zj zj zj (fun _ _ _ h=>h) (Or.inl ⟨zu,?hy1⟩) hHeld ?rest1
 case hy1=>(intro w' _;go_simp;try with_reducible rfl)
 refine qn ?_
 refine wpAnyZ_free (i:=2) (v:= ?va2) zo rfl zj zj zj (fun _ _ _ h=>h) (Or.inl ⟨zu,?hy2⟩) hHeld ?rest2
 case hy2=>(intro w' _;go_simp;try with_reducible rfl)
 refine qn ?_
 refine wpAnyZ_take (i:=3) (v:= ?va3) zo zj rfl zj zj zj zj (fun _ _ _ h=>h) (Or.inl ⟨zu,?hy3⟩) hHeld ?rest3
 case hy3=>(intro w' hSw;have j0:=cell_later hSw s0;have j1:=cell_later hSw s1;go_simp;try with_reducible rfl)
 refine qn ?_
 refine wpAnyZ_one (i:=4) zj rfl (fun K hK=> ?_)
 go_simp
 refine (hcall U.drew (jo _ U).drew).mono ?_
 clear hcall
 rintro e w' ⟨rfl,hh⟩
 have HH:Aside (Heard pb T t U.drew w'):=hh
 clear hh
 refine hK _ _ (.inr ⟨rfl,zo⟩) ?_
 clear hK K
 refine wpAnyZ_done zj ?_ _
 go_wp2
 go_end0
 exact ⟨⟨_,rfl⟩,U.drew,HB.o.drew,HH.o⟩
end
section
open Go.Shelf Go.RowKit Go.Lib Go.Sort
theorem compare_cmpT:∀a b:List UInt8,Lib.compareBytes a b=cmpT a b
 | [],[]=>qU
 | [],b::bs=>qU
 | a::r,[]=>qU
 | a::r,b::t=>by
  unfold Lib.compareBytes cmpT
  rw [compare_cmpT r t]
  unfold cmpT
  simp only [List.cons_lt_cons_iff]
  by_cases h1:a<b
  ·simp [h1]
  by_cases h2:b<a
  ·have h3:¬a=b:=fun e=>by rw [e] at h2;exact absurd h2 (UInt8.lt_irrefl _)
   simp [h1,h2,h3]
  have h3:a=b:=UInt8.toNat_inj.1 (by rw [UInt8.lt_iff_toNat_lt] at h1 h2;omega)
  subst h3
  simp [UInt8.lt_irrefl]
theorem cmpS_any (a b:ByteArray) (w:World):Calls prog 159 #[.string a,.string b] w fun e w'=>e= .returned (.int .i64 (cmpT a.data.toList b.data.toList))/\w'=w:=by
 have h:=Tryz.strings_Compare a b w
 rw [compare_cmpT] at h
 exact h
def cmpE (x y:Plc):Int:=orZ (cmpT x.2.2.data.toList y.2.2.data.toList) (cmpZ x.1 y.1)
def NLt (a b:List UInt8×Int):Prop:=a.1<b.1\/(a.1=b.1/\a.2<b.2)
def keyE (p:Plc):List UInt8×Int:=(p.2.2.data.toList,p.1)
theorem nlt_irrefl :¬NLt a a:=fun h=>h.elim (fun q=>ue _ q) (fun q=>by have:=q.2;omega)
theorem nlt_trans {b c:List UInt8×Int} (h:NLt a b) (k:NLt b c):NLt a c:=by
 rcases h with h | ⟨h,h'⟩<;>rcases k with k | ⟨k,k'⟩
 ·exact .inl (List.lt_trans h k)
 ·exact .inl (by rw [<-k];exact h)
 ·exact .inl (by rw [h];exact k)
 exact .inr ⟨h.trans k,zi⟩
theorem nlt_total {b:List UInt8×Int} (h:a≠b):NLt a b\/NLt b a:=by
 obtain ⟨x,m⟩:=a
 obtain ⟨y,n⟩:=b
 by_cases e:x=y
 ·subst e
  rcases Int.lt_trichotomy m n with q | q | q
  ·exact .inl (.inr ⟨rfl,q⟩)
  ·exact absurd (by rw [q]) h
  exact .inr (.inr ⟨rfl,q⟩)
 rcases bytesTotal e with q | q
 ·exact .inl (.inl q)
 exact .inr (.inl q)
theorem ltOf_cmpE (x y:Plc) [Decidable (NLt (keyE x) (keyE y))]:ltOf cmpE x y=decide (NLt (keyE x) (keyE y)):=by
 unfold ltOf cmpE orZ cmpT cmpZ
 rw [uk]
 simp only [decide_eq_true_eq]
 unfold NLt keyE
 dsimp only
 by_cases h1:x.2.2.data.toList<y.2.2.data.toList
 ·simp [h1]
 by_cases h2:y.2.2.data.toList<x.2.2.data.toList
 ·have h3:x.2.2.data.toList≠y.2.2.data.toList:=fun e=>by rw [e] at h2;exact ue _ h2
  simp [h1,h2,h3]
 have h3:x.2.2.data.toList=y.2.2.data.toList:=by
  by_cases e:x.2.2.data.toList=y.2.2.data.toList
  ·exact e
  rcases bytesTotal e with q | q
  ·exact absurd q h1
  exact absurd q h2
 rw [if_neg h1,if_neg h2,if_pos rfl]
 by_cases h4:x.1<y.1
 ·simp [h3,h4]
 rw [if_neg h4]
 by_cases h5:y.1<x.1<;>simp [h3,h4,h5]
open scoped Classical in
theorem swo_cmpE:SWO (ltOf cmpE) where
 irrefl x:=by rw [ltOf_cmpE];exact decide_eq_false nlt_irrefl
 trans x y z h1 h2:=by
  rw [ltOf_cmpE] at*
  exact decide_eq_true (nlt_trans (of_decide_eq_true h1) (of_decide_eq_true h2))
 ntrans x y z h1 h2:=by
  rw [ltOf_cmpE] at*
  have k1:=of_decide_eq_false h1
  have k2:=of_decide_eq_false h2
  refine decide_eq_false fun h=> ?_
  by_cases e:keyE x=keyE y
  ·rw [e] at h;exact k2 h
  rcases nlt_total e with q | q
  ·exact k1 q
  exact k2 (nlt_trans q h)
theorem closureE (x y:Plc) (w:World):Calls prog 158 (#[.agg (cellsP x).toArray,.agg (cellsP y).toArray]++ #[]) w fun e w'=>e= .returned (.int .i64 (cmpE x y))/\∃q os',w'=grow (w.drewN q) os':=by
 obtain ⟨a,c,s⟩:=x
 obtain ⟨a',c',s'⟩:=y
 unfold cellsP
 dsimp only
 obtain ⟨S,hS⟩:=za w.heap.size
 obtain ⟨U,hU⟩:=za ((w.alloc (.cells #[.int .i64 a,.int .i64 c,.string s] 106)).alloc (.cells #[.int .i64 a',.int .i64 c',.string s'] 106))
 have hu1:U.heap[S+1]? =some (.cells #[.int .i64 a',.int .i64 c',.string s'] 106 (0,0)):=by
  have:=heap_alloc_new (w.alloc (.cells #[.int .i64 a,.int .i64 c,.string s] 106)) (.cells #[.int .i64 a',.int .i64 c',.string s'] 106)
  rw [jI] at this
  rw [hU,hS]
  exact this
 have hu0:U.heap[S]? =some (.cells #[.int .i64 a,.int .i64 c,.string s] 106 (0,0)):=by
  rw [hU,hS,jp _ _ _ zm]
  exact heap_alloc_new w _
 have x0:U.drew.cell? ⟨S,0,none⟩=some (.int .i64 a):=jd
 have x1:U.drew.cell? ⟨S,2,none⟩=some (.string s):=jd
 have y0:U.drew.cell? ⟨S+1,0,none⟩=some (.int .i64 a'):=jb
 have y1:U.drew.cell? ⟨S+1,2,none⟩=some (.string s'):=jb
 have HX:Aside (U.drew.cell? ⟨S,0,none⟩=some (.int .i64 a)/\U.drew.cell? ⟨S,2,none⟩=some (.string s)/\U.drew.cell? ⟨S+1,0,none⟩=some (.int .i64 a')/\U.drew.cell? ⟨S+1,2,none⟩=some (.string s')):=⟨x0,x1,y0,y1⟩
 have HU:Aside (∃os,U=grow w os):=⟨_,by rw [hU,alloc_eq_grow,alloc_eq_grow,grow_grow]⟩
 clear hu0 hu1 x0 x1 y0 y1
 go_enter func158,ntmps158
 go_wp2_with fail
 rw [<-hU,<-hS]
 clear hU hS
 refine wp_region_H (S:=fun w'=>w'.cell? ⟨S,0,none⟩=some (.int .i64 a)/\w'.cell? ⟨S,2,none⟩=some (.string s)/\w'.cell? ⟨S+1,0,none⟩=some (.int .i64 a')/\w'.cell? ⟨S+1,2,none⟩=some (.string s')) zj HX.o (fun hHeld=> ?_)
 refine tk 0 hHeld ?_ (hy:=Or.inl ⟨zu,zB⟩)
 refine tk 1 hHeld ?_ (hy:=Or.inl ⟨zu,zB⟩)
 refine tk 2 hHeld ?_ (hy:=Or.inl ⟨zu,zB⟩)
 refine tk 3 hHeld ?_ (hy:=Or.inl ⟨zu,zB⟩)
 refine tk 5 hHeld ?_ (hy:=Or.inl ⟨zu,zB⟩)
 refine tk 6 hHeld ?_ (hy:=Or.inl ⟨zu,zB⟩)
 refine tk 7 hHeld ?_ (hy:=Or.inl ⟨zu,zB⟩)
 refine tk 8 hHeld ?_ (hy:=Or.inl ⟨zu,zB⟩)
 refine wpAnyH_one (i:=4) zj rfl (fun K hK=> ?_)
 go_simp
 refine (cmpS_any _ _ _).mono ?_
 rintro e w1 ⟨rfl,rfl⟩
 refine hK _ _ HX.o ?_
 clear hK K
 refine qn ?_
 refine wpAnyH_one (i:=9) zj rfl (fun K hK=> ?_)
 go_simp
 refine (cmpZ_any _ _ _).mono ?_
 rintro e w1 ⟨rfl,rfl⟩
 refine hK _ _ HX.o ?_
 clear hK K
 refine qn ?_
 refine wpAnyH_one (i:=10) zj rfl (fun K hK=> ?_)
 go_simp
 obtain ⟨V,hV⟩:=za ((U.alloc (.cells #[.int .i64 (cmpT s.data.toList s'.data.toList),.int .i64 (cmpZ a a')] 3)).drew)
 have hbV:Below U.drew.heap.size U.drew V:=by rw [hV];exact ⟨rfl,rfl,rfl,((jo U.heap.size U).alloc ze _).size,((jo U.heap.size U).alloc ze (.cells #[.int .i64 (cmpT s.data.toList s'.data.toList),.int .i64 (cmpZ a a')] 3)).block⟩
 have hVn:V.heap[U.heap.size]? =some (.cells #[.int .i64 (cmpT s.data.toList s'.data.toList),.int .i64 (cmpZ a a')] 3 (0,0)):=by rw [hV];exact heap_alloc_new U _
 have HV:Aside (∃q os',V=grow (w.drewN q) os'):=by
  obtain ⟨os,rfl⟩:=HU.o
  exact ⟨1,_,by rw [hV,alloc_eq_grow,grow_grow];rfl⟩
 have g0:V.cell? ⟨U.heap.size,0,none⟩=some (.int .i64 (cmpT s.data.toList s'.data.toList)):=by simp [World.cell?,hVn]
 have g1:V.cell? ⟨U.heap.size,1,none⟩=some (.int .i64 (cmpZ a a')):=by simp [World.cell?,hVn]
 rw [<-hV]
 have HY:Aside (V.cell? ⟨S,0,none⟩=some (.int .i64 a)/\V.cell? ⟨S,2,none⟩=some (.string s)/\V.cell? ⟨S+1,0,none⟩=some (.int .i64 a')/\V.cell? ⟨S+1,2,none⟩=some (.string s')):=⟨cellHeld hbV HX.o.1,cellHeld hbV HX.o.2.1,cellHeld hbV HX.o.2.2.1,cellHeld hbV HX.o.2.2.2⟩
 refine hK _ _ HY.o ?_
 clear hK K hV hbV hVn
 refine qn ?_
 refine wpAnyH_one (i:=11) zj rfl (fun K hK=> ?_)
 go_simp
 refine (or_any V _ _ _ g0 g1).mono ?_
 rintro e w1 ⟨rfl,rfl⟩
 refine hK _ _ HY.o ?_
 clear hK K
 refine qn ?_
 refine wpAnyH_one (i:=12) zj rfl (fun K hK=> ?_)
 go_simp
 refine hK _ _ HY.o ?_
 clear hK K
 refine wpAnyH_done zj ?_ _
 clear hHeld
 go_wp2
 go_ret
 exact ⟨rfl,HV.o⟩
theorem cmp_laysE (blk off size:Nat) (w:World):CmpLays prog 158 #[] cellsP 3 cmpE blk off size w:=fun _ _ _ _ x y=>closureE x y _
theorem eg_cmpE:∀args w,(callFunc 158 args).run prog w= .ok (.enter 158 args) w:=enters_of func158 zj rfl
end
section
open scoped Classical
def lineB (nd:Int) (ws:List (List UInt8)):List UInt8:=Lib.itoa nd++ [32]++Lib.join ws [32]
def placeB (p:Plc):List UInt8:=lineB p.1 [[105,110],Lib.itoa p.2.1,p.2.2.data.toList]
def textB (t:Int×List UInt8):List UInt8:=lineB t.1 [[116,101,120,116],t.2]
def markB (m:Mrk):List UInt8:=lineB m.1 [[109,97,114,107],m.2.1.data.toList,m.2.2.data.toList]
def fullT (t:Int×List UInt8):Bool:=decide (t.2≠ [])
def linesB (qs:List Plc) (ts:List (Int×List UInt8)) (ms:List Mrk):List (List UInt8):=qs.map placeB++(ts.filter fullT).map textB++ms.map markB
structure IsTexts (A:List OpX) (ts:List (Int×List UInt8)):Prop where
 rise:ts.Pairwise (fun a b=>a.1<b.1)
 mem:∀nd,nd∈ts.map (·.1)↔KnownN A nd
 line:∀t∈ts,∃L,LineIs A t.1 L/\t.2=textL L
theorem IsTexts.perm {A B:List OpX} {ts:List (Int×List UInt8)} (h:IsTexts A ts) (e:A.Perm B):IsTexts B ts:=by
 refine ⟨h.rise,fun nd=>(h.mem nd).trans ⟨fun q=>q.mono (fun x hx=>e.mem_iff.1 hx),fun q=>q.mono (fun x hx=>e.mem_iff.2 hx)⟩,fun t ht=> ?_⟩
 obtain ⟨L,h1,h2⟩:=h.line t ht
 exact ⟨L,h1.perm e,h2⟩
theorem IsTexts.unique {A:List OpX} {ts us:List (Int×List UInt8)} (h:IsTexts A ts) (k:IsTexts A us):ts=us:=by
 have one:∀ {xs ys:List (Int×List UInt8)},IsTexts A xs->IsTexts A ys->∀p,p∈xs->p∈ys:=fun {xs ys} hx hy p hp=>by
  have:p.1∈ys.map (·.1):=(hy.mem _).2 ((hx.mem _).1 (jO.2 ⟨p,hp,rfl⟩))
  obtain ⟨q,hq,e⟩:=jO.1 this
  obtain ⟨L,l1,l2⟩:=hx.line p hp
  obtain ⟨M,m1,m2⟩:=hy.line q hq
  have e':q.1=p.1:=e
  rw [e'] at m1
  obtain rfl:=l1.unique m1
  have:q=p:=Prod.ext e' (m2.trans l2.symm)
  rwa [this] at hq
 exact rise_unique (R:=fun a b:Int×List UInt8=>a.1<b.1) (fun a=>Int.lt_irrefl _) (fun a b c=>Int.lt_trans) h.rise k.rise (fun p=>⟨one h k p,one k h p⟩)
def StateIs (A:List OpX) (s:List UInt8):Prop:=∃ms qs ts A' mm,ms.Perm (movsO A)/\ByStamp ms/\IsPlaces (madeBy ms) qs/\IsTexts A ts/\A'.Perm A/\IsMarks (madeO A') mm/\s=Lib.join (linesB qs ts mm) [10]
theorem StateIs.perm {A B:List OpX} {s:List UInt8} (h:StateIs A s) (e:A.Perm B):StateIs B s:=by
 obtain ⟨ms,qs,ts,A',mm,h1,h2,h3,h4,h5,h6,h7⟩:=h
 exact ⟨ms,qs,ts,A',mm,h1.trans (e.filterMap _),h2,h3,h4.perm e,h5.trans e,h6,h7⟩
theorem WellK.oneO (h:WellK A):OneO A:=fun x hx y hy e1 e2=>h.stamp hx hy (by unfold stO;rw [e1,e2])
theorem OneO.mono (h:OneO A) (e:∀x,x∈B->x∈A):OneO B:=fun x hx y hy=>h x (e x hx) y (e y hy)
theorem madeO_perm (h:OneO A) (e:A.Perm B):madeO A=madeO B:=
 foldC_turned (fun m=>(e.filterMap _).mem_iff) h.marks
theorem StateIs.unique {A:List OpX} {s t:List UInt8} (hA:WellK A) (h:StateIs A s) (k:StateIs A t):s=t:=by
 obtain ⟨ms,qs,ts,A',mm,h1,h2,h3,h4,h5,h6,rfl⟩:=h
 obtain ⟨ms',qs',ts',A'',mm',k1,k2,k3,k4,k5,k6,rfl⟩:=k
 obtain rfl:=byStamp_unique (h1.trans k1.symm) h2 k2
 obtain rfl:=h3.unique k3
 obtain rfl:=h4.unique k4
 have e:madeO A'=madeO A'':=madeO_perm (hA.oneO.mono (fun x hx=>h5.mem_iff.1 hx)) (h5.trans k5.symm)
 rw [e] at h6
 obtain rfl:=h6.unique k6
 rfl
theorem StateIs.same (hA:WellK A) (e:A.Perm B) (h:StateIs A s) (k:StateIs B t):s=t:=h.unique hA (k.perm e.symm)
