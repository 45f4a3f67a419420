import Derived.Test.YtebpcnkdhgnghaaGreatDoorPA12
import Derived.Test.YtebpcnkdhgnghaaGreatDoorPA14
import Derived.Test.YtebpcnkdhgnghaaGreatDoorPA15
import Derived.Sort.OwnSortedInts
set_option linter.unusedSimpArgs false
set_option linter.unusedVariables false
set_option maxRecDepth 100000
set_option maxHeartbeats 64000000
namespace Go.Proofs.YtebpcnkdhgnghaaGreatDoor
open Go.Proofs.Tryz
variable {waits:Bool} {D:DataW Unit} {ks:List Int} {B:List UInt8} {d:Nat} {ad:Nat→Addr} {f:kw} {v:Value} {W W' w w':World}
section
open Go.RowKit Go.Shelf Go.Maps
open scoped Classical
attribute [local go_sem] Oper.semAt_some
def MJ (f:kw) (ks:List Int):Prop:=ks.Nodup/\∀k,k∈ks↔(f k).isSome=true
def CollT (D:DataW Unit) (f:kw) (left:Lit->Bool) (ks:List Int):Prop:=
 ks.Nodup/\(∀k∈ks,(f k).isSome=true/\left (.int .i64 k)=false)/\∀k,Wf k->has D (.int .i64 k)=true->left (.int .i64 k)=false->k∈ks
theorem se (D:DataW Unit) (f:kw):CollT D f (has D) []:=⟨uS,fun p hp=>by simp at hp,fun k _ h1 h2=>by rw [h1] at h2;cases h2⟩
theorem CollT.step {left:Lit->Bool} (h:CollT D f left ks) {x:Int} (hl:left (.int .i64 x)=true) (hf:(f x).isSome=true):CollT D f (fun z=>left z && !z.sameKey (.int .i64 x)) (ks++ [x]):=by
 obtain ⟨h1,h2,h3⟩:=h
 refine ⟨?_,fun p hp=> ?_,fun k hw hh hlk=> ?_⟩
 ·rw [vM]
  refine ⟨h1,zq,fun a ha b hb=> ?_⟩
  simp only [jS] at hb
  subst hb
  intro e
  subst e
  have:=(h2 _ ha).2
  rw [hl] at this
  cases this
 ·rcases jO.1 hp with hp | hp
  ·have:=h2 p hp
   exact ⟨this.1,by show (left (.int .i64 p) &&_)=false;rw [this.2];rfl⟩
  simp only [jS] at hp
  subst hp
  refine ⟨hf,?_⟩
  show (left (.int .i64 p) && !Lit.sameKey (.int .i64 p) (.int .i64 p))=false
  rw [kk]
  simp
 have hlk:(left (.int .i64 k) && !Lit.sameKey (.int .i64 k) (.int .i64 x))=false:=hlk
 rw [kk] at hlk
 by_cases e:k=x
 ·subst e
  simp
 refine vg _ (h3 k hw hh ?_)
 simpa [e] using hlk
theorem CollT.all {left:Lit->Bool} (h:CollT D f left ks) (hr:ReadsT D f) (G:Ln f) (hl:∀kl,left kl=false):MJ f ks:=by
 refine ⟨h.1,fun p=>⟨fun hp=>(h.2.1 p hp).1,fun hp=> ?_⟩⟩
 obtain ⟨q,hq⟩:=uG.1 hp
 have hw:=G p q hq
 exact h.2.2 p hw (by rw [hr.has hw,hp]) (hl _)
theorem II (F:Fence) (n:Nat) (h8:F.fn 102) (hro:F.round=none) (hn:1<=n) (l Bm b nn:Nat) (D0:DataW Unit) (f:kw) (hr:ReadsT D0 f) (G:Ln f) (J Jx:List Int->World->Prop)
  (hY:∀pre x W,J pre W->pre.length<nn->YieldAt F (n - 1) prog l #[.int .i64 x] W fun e W'=>
   (e= .returned (.bool true)/\J (pre++ [x]) W'/\KeepsWalks W W')\/(e= .returned (.bool false)/\Jx (pre++ [x]) W'))
  (W:World) (hJ:AbidesFrom W.heap.size J) (hm:W.cell? ⟨Bm,0,none⟩=some (.map (some b))) (hown:W.ownsMap prog 3 Je b nn D0) (h0:J [] W):
  CallsIn F n prog 102 #[.func (.yield l) #[] #[],.pointer (some ⟨Bm,0,none⟩)] W fun e W'=>(∃v,e= .returned v)/\
   ((∃xs,MJ f xs/\J xs W')\/(∃pre,True/\Jx pre W')):=by
 refine callsIn_of_wp func102 rfl h8 ?_ hro
 simp only [ntmps102,vu,jY,vw,Nat.reduceAdd,Nat.reduceSub,vQ,vR,vY,vT,ua,vX]
 have hsn:=hown.size_le
 gi_wp2_with (first
  | (gi_at_range;refine wpListIn_range_own _ rfl _ 114 rfl 3 124 (int_keyed underlying3) underlying114 _ b nn _ rfl hown ?_;intro w0 hrg0 hg0 hs0)
  | gi_in)
 go_frame
 gi_loopw [3] (fun _ wr=>∃(left:Lit->Bool) (cnt:Nat) (ps:List Int),wr.ranges prog 3 Je b W.heap.size nn D0 left cnt/\ps.length+cnt<=nn/\CollT D0 f left ps/\J ps wr)
  (fun _ wr=>wr.rangeLeft b W.heap.size)
 case atStart=>
  exact ⟨_,_,[],hrg0,by simpa using hsn,se D0 f,hJ [] W w0 none h0 hg0 (fun r e=>qu)⟩
 case round=>
  obtain ⟨left,cnt,ps,hrg,hcs,hC,hJs⟩:=hrel
  gi_wp2_with (first
   | (gi_at_next;refine wpListIn_next_ranges _ rfl _ rfl 3 (int_keyed underlying3) Je (Value.int .i64) kZ (fun key kl hk=>qe) (fun v y hv=>by obtain ⟨c,rfl,_⟩:=pN hv;exact ⟨c,rfl⟩) b W.heap.size nn _ _ _ rfl hrg ?_ ?_)
   | gi_in)
  ·exact kk5
  intro x c1 kl yd yp w2 cnt2 hkey hlk hv hat hrg2 hlt hg2 hs2 hen
  obtain ⟨x',ex,rfl,hwx⟩:=Maps.keyOf_int_inv underlying3 hkey
  obtain rfl:x=x':=by simpa using ex
  have hfx:(f x).isSome=true:=by rw [<-hr.has hwx];exact has_true_of_atKey hat
  have hJ2:J ps w2:=hJ ps wr w2 (some W.heap.size) hJs hg2 (fun r e=>xF)
  obtain ⟨fn,tmps,assign,body,hy,hR⟩:=hY ps x _ hJ2 zj
  have hC2:=hC.step hlk hfx
  have H3:Aside (RoundIn F (n - 1) prog l fn tmps assign body _ _):=hR
  clear hs2 hR hJ2
  gi_wp2
  refine RoundIn.mono H3.o ?_
  rintro e W3 (⟨rfl,hJ4,hk4⟩ | ⟨rfl,hJx4⟩)
  ·gi_wp2
   have hrg4:=hrg2.of_walks hk4
   go_roundw
   case rel=>exact ⟨_,cnt2,ps++ [x],hrg4,zl,hC2,hJ4⟩
   case measure=>rw [hrg4.left_eq,hrg.left_eq];exact hlt
  gi_wp2
  refine bodyPost_ret (results_none rfl _ _ _) rfl ?_
  exact ⟨⟨_,rfl⟩,.inr ⟨ps++ [x],trivial,hJx4⟩⟩
theorem IX (F:Fence) (n:Nat) (hf:F.fn 53) (hro:F.round=none) (mb:Option Nat) (w:World):
  CallsIn F n prog 53 #[.map mb] w fun e w'=>e= .returned (.func (.func 102) #[] #[.pointer (some ⟨w.heap.size,0,none⟩)])/\w'=w.alloc (.cells #[.map mb] 114):=by
 refine callsIn_of_wp func53 rfl hf ?_ hro
 simp only [ntmps53,vu,jY,vw,Nat.reduceAdd,Nat.reduceSub,vQ,vR,vY,vT,ua,vX]
 gi_wp2
 go_ret
 exact ki0
theorem Cz (F:Fence) (n:Nat) (h8:F.fn 102) (hro:F.round=none) (hn:1<=n) (Bm b nn:Nat) (f:kw) (w:World) (hBm:Bm<w.heap.size) (hm:w.cell? ⟨Bm,0,none⟩=some (.map (some b))) (hM:TMapAt w b nn f):
  SeqStopsK F n prog 102 #[.pointer (some ⟨Bm,0,none⟩)] (fun x:Int=> #[.int .i64 x]) KeepsWalks (fun xs=>MJ f xs) (fun _=>True) nn w:=fun l J Jx W hW hJ _ hY h0=>by
 have hbl:=hM.lt
 obtain ⟨⟨D,hown,hr⟩,G⟩:=hM.same (hW.block b hbl)
 exact II F n h8 hro hn l Bm b nn D f hr G J Jx hY W hJ ((hW.cell (p:=⟨Bm,0,none⟩) hBm).trans hm) hown h0
theorem OP:(prog.info? 3).map (fun i=>(i.zero,i.size,i.bytes))=some (some (.int .i64 0),1,8):=zk
theorem KW (w:World) (x:Int) (j:Nat) (u:Value) (hj:([Value.int .i64 x]:List Value)[j]? =some u):(w.alloc (.cells #[.int .i64 x] 3)).cell? ((⟨w.heap.size,0,none⟩:Addr).add j)=some u:=by
 rw [Addr.add_lit,vh]
 have h:=heap_alloc_new w (.cells #[.int .i64 x] 3)
 simp only [World.cell?,h]
 rw [<-hj]
 simp
theorem Lr (x:Int):∀u∈([Value.int .i64 x]:List Value),u.oneCell'=true:=qt
def oS (ks:List Int):List Value:=ks.map fun k=>.int .i64 k
theorem ma (w:World) (Bm b nn:Nat) (f:kw) (hBm:Bm<w.heap.size) (hm:w.cell? ⟨Bm,0,none⟩=some (.map (some b))) (hM:TMapAt w b nn f) (hnn:nn<=2000000):
  Calls prog 172 #[.slice none 0 0,.func (.func 102) #[] #[.pointer (some ⟨Bm,0,none⟩)]] w fun e w'=>∃v ps,e= .returned v/\MJ f ps/\ps.length<=nn/\w'.ownsRow w.heap.size 3 1 v ps.length (oS ps)/\Below w.heap.size w w':=by
 obtain ⟨i0,hi,hz0,hz1,hz2⟩:=info_parts OP
 refine (callsIn_wide (n:=4)).1 ?_
 refine callsIn_of_wp_marks func172 rfl trivial ?_ rfl
 simp only [ntmps172,vu,jY,vw,Nat.reduceAdd,Nat.reduceSub,vQ,vR,vY,vT,ua,vX]
 gi_wp2
 obtain ⟨w1,hw1⟩:=za (w.alloc (.cells #[.slice none 0 0] 42))
 rw [<-hw1]
 have hB0:Below w.heap.size w w1:=yH
 have hs1:w1.heap.size=w.heap.size+1:=xf
 obtain ⟨B,hB⟩:=za w.heap.size
 have e1:Boxed w1 B 42 (.slice none 0 0):=qo
 rw [<-hB] at hB0 hs1 hBm |-
 have HB:Aside (B=w.heap.size):=hB
 have hBw:B<=w.heap.size:=zj
 clear hB
 have hm1:=(hB0.cell (p:=⟨Bm,0,none⟩) hBm).trans hm
 have hM1:=hM.same (hB0.block b (by have:=HB.o;have:=hM.lt;omega))
 clear hw1 hm hM
 refine wpIn_rangeFunc_ownH rfl zj (gf:=102) (lb:= #[.pointer (some ⟨Bm,0,none⟩)]) rfl trivial (enters_of func102 zk rfl)
  (Cz Fence.wide (4 - 1) trivial rfl zj Bm b nn f w1 zj hm1 hM1) walksK_t (walksK_b (w:=w1)) (jN _ _) (fun _=>rfl)
  (fun pre W=>((∃v,Boxed W B 42 v/\W.ownsRow B 3 1 v pre.length (oS pre)/\pre.length<=nn))/\(w1.heap.size<=W.heap.size/\Below B w W))
  (fun _ _ _=>False)
  (OwnFrom.and (Own.from (holdsRow_own B B 42 3 1 (fun pre=>pre.length) (fun pre=>oS pre) (fun pre _=>pre.length<=nn)) _) (OwnFrom.and (fun _ X Y row hs hg _=>jM hs hg.size) (ownFrom_below zj zj)))
  (fun _ _ _ _ _ hs _ _=>hs)
  ⟨⟨_,e1,vD w1 B _ _,jX _⟩,jL _,hB0⟩
  (fun x a' W=>a'= {tmps:= #[.slice none 0 0,.func (.func 102) #[] #[.pointer (some ⟨Bm,0,none⟩)],.pointer (some ⟨B,0,none⟩),undef,.slice none 0 0,.int .i64 x,.func (.func 102) #[] #[.pointer (some ⟨Bm,0,none⟩)],.int .i64 x,undef,undef,undef,undef,undef],defers:=[]})
  (fun x a'=>Own.from (fun _ X Y row hs hg hr=>hs) _)
  ?assign ?body ?done ?stop
 case assign=>
  rintro l pre x W K ⟨⟨v,hv,hrow,hpl⟩,hsz,hBW⟩ hK
  have hK':Aside _:=hK
  have hBs:B<=W.heap.size:=zj
  clear hK
  gi_wp2
  refine hK'.o _ _ ((KeepsOthers.refl _).from _) (KeepsOthers.refl _).walks ⟨⟨v,hv,hrow,hpl⟩,hsz,hBW⟩ rfl
 case body=>
  rintro l pre x a' W hl _ ⟨⟨v,hv,hrow,hpl⟩,hsz,hBW⟩ rfl hlt
  have g1:=hv.cell
  have hBs:B<=W.heap.size:=zj
  gi_wp2_with (gi_at_builtin;refine wpListIn_append_own _ rfl _ _ 42 rfl B 3 i0 _ 1 8 underlying42 hi hz0 hz1 hz2 rfl zj _ _ _ rfl (hrow.alloc _) ⟨W.heap.size,0,none⟩ 1 1 [.int .i64 x] rfl rfl (KW W x) (Lr x) zu zj zl ?_;intro v' w2 hown' hgrow _;obtain ⟨g',cap',rfl⟩:=ownsRow_succ hown';obtain ⟨hv1,hv2,hr2,hk2,hb2⟩:=hv.appended zo hrow hBs zg hown' hgrow;have hc1:=hv1.cell;have hf1:=hv1.frozen)
  exact ⟨hk2.from _,hk2.walks,⟨⟨_,hv2,by rw [jP,ub];unfold oS at*;rw [vz];simpa using hr2,zl⟩,jw,hBW.trans hb2⟩⟩
 case done=>
  rintro D ys W hD hall ⟨⟨v,hv,hrow,hpl⟩,hsz,hBW⟩ hK
  have g1:=hv.cell
  gi_wp2
  refine ⟨zq,.inl ⟨_,_,rfl,run_takeDeferred hK,?_⟩⟩
  refine ⟨v,by simp [results,f172,go_sem],v,ys,rfl,hall,hpl,?_,?_⟩
  ·exact kl1
  exact ke1
 case stop=>
  exact kk8
theorem mJ (w:World) (Bm b nn:Nat) (f:kw) (hBm:Bm<w.heap.size) (hm:w.cell? ⟨Bm,0,none⟩=some (.map (some b))) (hM:TMapAt w b nn f) (hnn:nn<=2000000):
  Calls prog 100 #[.func (.func 102) #[] #[.pointer (some ⟨Bm,0,none⟩)]] w fun e w'=>∃v ps,e= .returned v/\MJ f ps/\ps.length<=nn/\w'.ownsRow w.heap.size 3 1 v ps.length (oS ps)/\Below w.heap.size w w':=by
 have ha:=ma w Bm b nn f hBm hm hM hnn
 go_enter func100,ntmps100
 go_wp2_with fail
 refine ha.mono ?_
 clear ha
 rintro e w1 ⟨v,ps,rfl,h⟩
 have HH:Aside _:=h
 clear h
 go_wp2
 go_ret
 exact ⟨v,ps,rfl,HH.o⟩
theorem wG (hn:ks.Nodup):(ks.mergeSort fun x y=>decide (x<=y)).Pairwise (· < ·):=by
 have h1:=List.pairwise_mergeSort (le:=fun x y:Int=>decide (x<=y)) (fun a b c h1 h2=>by simp only [decide_eq_true_eq] at*;omega) (fun a b=>by simp only [Bool.or_eq_true,decide_eq_true_eq];omega) ks
 have h2:(ks.mergeSort fun x y=>decide (x<=y)).Nodup:=(List.mergeSort_perm ks _).nodup_iff.2 hn
 exact (h1.and h2).imp (fun {a b} h=>by have h1:=h.1;have h2:=h.2;simp only [decide_eq_true_eq] at h1;omega)
theorem mh (w:World) (Bm b nn:Nat) (f:kw) (hBm:Bm<w.heap.size) (hm:w.cell? ⟨Bm,0,none⟩=some (.map (some b))) (hM:TMapAt w b nn f) (hnn:nn<=100000):
  Calls prog 52 #[.func (.func 102) #[] #[.pointer (some ⟨Bm,0,none⟩)]] w fun e w'=>∃v ks,e= .returned v/\ks.Pairwise (· < ·)/\(∀k,k∈ks↔(f k).isSome=true)/\ks.length<=nn/\w'.ownsRow w.heap.size 3 1 v ks.length (oS ks)/\Below w.heap.size w w':=by
 have hc:=mJ w Bm b nn f hBm hm hM zj
 go_enter func52,ntmps52
 go_wp2_with fail
 refine hc.mono ?_
 clear hc
 rintro e w1 ⟨v,ps,rfl,hall,hpl,hown,hb⟩
 rcases hown.2 with ⟨rfl,h0⟩ | ⟨g,cap,cur,rfl,hbg,hgb,r1,r2,r3,r4⟩
 ·have hps:ps= []:=ve.1 h0
  subst hps
  have HH:Aside ((∀k,k∈([]:List Int)↔(f k).isSome=true)/\Below w.heap.size w w1):=⟨hall.2,hb⟩
  have hs:=Tryz.slices_Sort_int_none none 0 w1
  clear hall hown hb h0
  go_wp2_with fail
  refine hs.mono ?_
  clear hs
  rintro e w' ⟨rfl,rfl⟩
  go_wp2
  go_ret
  exact ⟨_,[],rfl,List.Pairwise.nil,HH.o.1,jX _,vD _ _ _ _,HH.o.2⟩
 have hH:Sort.Holds (Value.int .i64) w1 g 0 ps.toArray:=holds_of_blockI hgb (by simpa [oS] using r4)
 have hgl:g<w1.heap.size:=(jJ.1 hgb).1
 have hs:=Tryz.slices_Sort_int g 0 cap ps w1 hH hgl zj
 have hlen:(ps.mergeSort fun x y=>decide (x<=y)).length=ps.length:=List.length_mergeSort _
 have H1:Aside (∀n os,(Sort.grow (Sort.putRow (Value.int .i64) (Sort.ahead w1 n) g 0 (ps.mergeSort fun x y=>decide (x<=y)).toArray) os).ownsRow w.heap.size 3 1 (.slice (some ⟨g,0,none⟩) ps.length cap) ps.length (oS (ps.mergeSort fun x y=>decide (x<=y)))/\Below w.heap.size w (Sort.grow (Sort.putRow (Value.int .i64) (Sort.ahead w1 n) g 0 (ps.mergeSort fun x y=>decide (x<=y)).toArray) os)):=fun n os=>
  ⟨ownsRow_sortedI hlen hbg hgb r1 r2 r3,hb.grown (grownBy_sortedI _) hb.size (fun j hj=>by cases hj;exact hbg)⟩
 have HH:Aside (MJ f ps/\ps.length<=nn):=⟨hall,hpl⟩
 have HL:Aside ((ps.mergeSort fun x y=>decide (x<=y)).length=ps.length):=hlen
 clear hall hown hb hpl hbg hgl hgb r1 r2 r3 r4 hH hlen
 go_wp2_with fail
 refine hs.mono ?_
 clear hs
 rintro e w2 ⟨rfl,n,os,rfl⟩
 have H2:=H1.o n os
 generalize Sort.grow (Sort.putRow (Value.int .i64) (Sort.ahead w1 n) g 0 (ps.mergeSort fun x y=>decide (x<=y)).toArray) os=w2 at H2 |-
 have H3:Aside _:=H2
 clear H1 H2
 go_wp2
 go_ret
 exact ⟨_,ps.mergeSort fun x y=>decide (x<=y),rfl,wG HH.o.1.1,fun k=>((List.mergeSort_perm ps _).mem_iff).trans (HH.o.1.2 k),by rw [HL.o];exact HH.o.2,by rw [HL.o];exact H3.o.1,H3.o.2⟩
end
section
open Go Go.RowKit Go.Lib Go.Sort
abbrev DSt:=List UInt8×Bool×Bool×Int
structure DiskAt (w:World) (d:Nat) (v:Value) (st:DSt):Prop where
 cell:w.heap[d]? =some (.cells #[v,.bool st.2.1,.bool st.2.2.1,.int .i64 st.2.2.2] 260 (0,0))
 row:RowB w v st.1
 ne:v.ownBlock≠some d
 left:0<=st.2.2.2/\st.2.2.2<=9223372036854775807
def nP (d:Nat) (v:Value) (k:Nat):Prop:=k=d\/v.ownBlock=some k
theorem DiskAt.lt {st:DSt} (h:DiskAt w d v st):d<w.heap.size:=(jJ.1 h.cell).1
theorem DiskAt.own_lt {st:DSt} (h:DiskAt w d v st) {k:Nat} (hk:nP d v k):k<w.heap.size:=by
 rcases hk with rfl | hk
 ·exact h.lt
 exact h.row.lt hk
theorem DiskAt.same {w w':World} {d:Nat} {v:Value} {st:DSt} (h:DiskAt w d v st) (e:∀k,nP d v k->w'.heap[k]? =w.heap[k]?):DiskAt w' d v st:=
 ⟨(e d (.inl rfl)).trans h.cell,h.row.same (fun g hg=>e g (.inr hg)),h.ne,h.left⟩
theorem DiskAt.later {st:DSt} (h:DiskAt w d v st) (hb:Below w.heap.size w w'):DiskAt w' d v st:=h.same (fun k hk=>hb.block k (h.own_lt hk))
theorem DiskAt.c {st:DSt} (h:DiskAt w d v st):w.cell? ⟨d,0,none⟩=some v/\w.cell? ⟨d,1,none⟩=some (.bool st.2.1)/\w.cell? ⟨d,2,none⟩=some (.bool st.2.2.1)/\w.cell? ⟨d,3,none⟩=some (.int .i64 st.2.2.2)/\∀o,w.frozen? ⟨d,o,none⟩=false:=by
 have hc:=h.cell
 refine ⟨?_,?_,?_,?_,fun o=> ?_⟩
 ·simp [World.cell?,hc]
 ·simp [World.cell?,hc]
 ·simp [World.cell?,hc]
 ·simp [World.cell?,hc]
 simp [World.frozen?,hc]
theorem DiskAt.set1 {off:Bool} {left:Int} (h:DiskAt w d v (B,off,waits,left)) (z:Bool):DiskAt (w.setCell ⟨d,1,none⟩ (.bool z)) d v (B,z,waits,left)/\Keeps (fun k=>k=d) w (w.setCell ⟨d,1,none⟩ (.bool z)):=by
 have hk:=aY d [.bool z] 1 w
 refine ⟨⟨heap_setCell_same w d 1 _ _ _ h.cell,h.row.same (fun g hg=>hk.block g (h.row.lt hg) (fun e=>h.ne qJ)),h.ne,h.left⟩,hk⟩
theorem DiskAt.set2 {off:Bool} {left:Int} (h:DiskAt w d v (B,off,waits,left)) (z:Bool):DiskAt (w.setCell ⟨d,2,none⟩ (.bool z)) d v (B,off,z,left)/\Keeps (fun k=>k=d) w (w.setCell ⟨d,2,none⟩ (.bool z)):=by
 have hk:=aY d [.bool z] 2 w
 refine ⟨⟨heap_setCell_same w d 2 _ _ _ h.cell,h.row.same (fun g hg=>hk.block g (h.row.lt hg) (fun e=>h.ne qJ)),h.ne,h.left⟩,hk⟩
theorem DiskAt.set3 {off:Bool} {left:Int} (h:DiskAt w d v (B,off,waits,left)) (z:Int) (hz:0<=z/\z<=9223372036854775807):DiskAt (w.setCell ⟨d,3,none⟩ (.int .i64 z)) d v (B,off,waits,z)/\Keeps (fun k=>k=d) w (w.setCell ⟨d,3,none⟩ (.int .i64 z)):=by
 have hk:=aY d [.int .i64 z] 3 w
 refine ⟨⟨heap_setCell_same w d 3 _ _ _ h.cell,h.row.same (fun g hg=>hk.block g (h.row.lt hg) (fun e=>h.ne qJ)),h.ne,hz⟩,hk⟩
theorem DiskAt.set0 {v':Value} {B':List UInt8} {off:Bool} {left:Int} (h:w.heap[d]? =some (.cells #[v,.bool off,.bool waits,.int .i64 left] 260 (0,0))) (hr:RowB w v' B') (hn:v'.ownBlock≠some d) (hl:0<=left/\left<=9223372036854775807):DiskAt (w.setCell ⟨d,0,none⟩ v') d v' (B',off,waits,left)/\Keeps (fun k=>k=d) w (w.setCell ⟨d,0,none⟩ v'):=by
 have hk:=aY d [v'] 0 w
 refine ⟨⟨heap_setCell_same w d 0 _ _ _ h,hr.same (fun g hg=>hk.block g (hr.lt hg) (fun e=>hn qJ)),hn,hl⟩,hk⟩
theorem sD (s:ByteArray) (w:World) (hs:s.size<=65536):
  Calls prog 82 #[.string s] w fun e w'=>∃d v,e= .returned (.tuple #[.pointer (some ⟨d,0,none⟩),.nilIface])/\Aside (DiskAt w' d v (s.data.toList,false,false,0)/\Below w.heap.size w w'/\∀k,nP d v k->w.heap.size<=k):=by
 obtain ⟨v,w1,hcv,hrow,hb,hv⟩:=IJ w s zj
 have d1:decide ((65536:Int)<(s.size:Int))=false:=zl
 have d1n:decide (65536<s.size)=false:=zl
 have H:Aside (RowB w1 v s.data.toList/\Below w.heap.size w w1/\∀g,v.ownBlock=some g->w.heap.size<=g):=⟨hrow,hb,hv⟩
 obtain ⟨g,cap,hvs⟩:=hrow.shape
 subst hvs
 clear hrow hb hv
 go_enter func82,ntmps82
 go_wp2
 go_ret2
 have hb2:Below w1.heap.size w1 (w1.alloc (.cells #[.slice (some ⟨g,0,none⟩) s.data.toList.length cap,.bool false,.bool false,.int .i64 0] 260)):=zh w1 _
 refine ⟨w1.heap.size,_,rfl,⟨heap_alloc_new w1 _,H.o.1.same (fun g hg=>hb2.block g (H.o.1.lt hg)),fun e=> ?_,⟨by show (0:Int)<=0;omega,by show (0:Int)<=9223372036854775807;omega⟩⟩,zi H.o.2.1 hb2,fun k hk=> ?_⟩
 ·have:=H.o.1.lt e;omega
 rcases hk with rfl | hk
 ·exact H.o.2.1.size
 exact H.o.2.2 k hk
theorem Da {st:DSt} (w:World) (h:DiskAt w d v st):
  Calls prog 267 #[.pointer (some ⟨d,0,none⟩)] w fun e w'=>e= .returned (.bool (!st.2.1))/\w'=w:=by
 obtain ⟨c0,c1,c2,c3,cf⟩:=h.c
 clear h
 go_enter func267,ntmps267
 exact ka9
theorem Fo {st:DSt} (w:World) (h:DiskAt w d v st):
  Calls prog 314 #[.pointer (some ⟨d,0,none⟩)] w fun e w'=>e= .returned (.string ⟨st.1.toArray⟩)/\w'=w:=by
 obtain ⟨c0,c1,c2,c3,cf⟩:=h.c
 have hcv:=h.row.text
 obtain ⟨g,cap,hv⟩:=h.row.shape
 subst hv
 clear h
 go_enter func314,ntmps314
 exact ka9
theorem Mt {off:Bool} {left:Int} (w:World) (h:DiskAt w d v (B,off,waits,left)):
  Calls prog 312 #[.pointer (some ⟨d,0,none⟩)] w fun e w'=>(∃u,e= .returned u)/\Aside (DiskAt w' d v (B,false,false,left)/\Keeps (fun k=>k=d) w w'):=by
 obtain ⟨c0,c1,c2,c3,cf⟩:=h.c
 dsimp only at c1 c2 c3
 have H:Aside (DiskAt w d v (B,off,waits,left)):=h
 clear h
 go_enter func312,ntmps312
 go_wp2
 go_end0
 have h1:=H.o.set1 false
 have h2:=h1.1.set2 false
 exact ⟨⟨_,rfl⟩,h2.1,h1.2.trans h2.2⟩
structure Oe (ad:Nat->Addr) (w:World):Prop where
 c1:w.cell? ⟨0,0,none⟩=some (.iface 450 (.pointer (some (ad 1))))
 c2:w.cell? ⟨4,0,none⟩=some (.iface 450 (.pointer (some (ad 2))))
 c7:w.cell? ⟨2,0,none⟩=some (.iface 450 (.pointer (some (ad 7))))
 c10:w.cell? ⟨10,0,none⟩=some (.iface 450 (.pointer (some (ad 10))))
def AU (off:Bool) (n:Int):Nat:=if n<0 then 2 else if off then 11 else 0
def kt (st:DSt) (n:Int):DSt:=if AU st.2.1 n=0 then (st.1,st.2.1,true,n) else st
theorem KM {off:Bool} {left:Int} (w:World) (n:Int) (h:DiskAt w d v (B,off,waits,left)) (hE:Oe ad w) (hn:n<=9223372036854775807):
  Calls prog 210 #[.pointer (some ⟨d,0,none⟩),.int .i64 n] w fun e w'=>e= .returned (eV ad (AU off n))/\Aside (DiskAt w' d v (kt (B,off,waits,left) n)/\Keeps (fun k=>k=d) w w'):=by
 obtain ⟨c0,c1,c2,c3,cf⟩:=h.c
 dsimp only at c1 c2 c3
 have H:Aside (DiskAt w d v (B,off,waits,left)):=h
 have hp:=Da w h
 dsimp only at hp
 have e1:=hE.c1
 have e10:=hE.c10
 clear h hE
 by_cases h0:n<0
 ·have d0:decide (n<0)=true:=by simp;omega
  have ec:AU off n=2:=if_pos h0
  have HC:Aside (AU off n=2):=ec
  rw [ec]
  clear ec hp
  go_enter func210,ntmps210
  exact kk6
 have d0:decide (n<0)=false:=zl
 cases off with
 | true=>
  have HC:Aside (AU true n=11):=by unfold AU;rw [if_neg h0];rfl
  rw [HC.o]
  go_enter func210,ntmps210
  go_wp2_with fail
  refine hp.mono ?_
  clear hp
  rintro e w1 ⟨rfl,rfl⟩
  exact kk6
 | false=>
  have HC:Aside (AU false n=0):=by unfold AU;rw [if_neg h0];rfl
  rw [HC.o]
  go_enter func210,ntmps210
  go_wp2_with fail
  refine hp.mono ?_
  clear hp
  rintro e w1 ⟨rfl,rfl⟩
  go_wp2
  go_ret
  have h1:=H.o.set2 true
  have h2:=h1.1.set3 n ⟨zj,hn⟩
  refine ⟨rfl,?_,h1.2.trans h2.2⟩
  unfold kt
  rw [HC.o]
  exact h2.1
def wr1 (st:DSt) (c:UInt8):Bool×DSt:=if st.2.2.1=true/\st.2.2.2=0 then (false,(st.1,true,false,st.2.2.2)) else if st.2.1=true then (false,st) else (true,(st.1++ [c],st.2.1,st.2.2.1,if st.2.2.1=true then st.2.2.2 - 1 else st.2.2.2))
def WroteD (d:Nat) (v:Value) (w:World) (st':DSt) (w':World):Prop:=∃v',DiskAt w' d v' st'/\Keeps (nP d v) w w'/\∀g,v'.ownBlock=some g->v.ownBlock=some g\/w.heap.size<=g
theorem Df {w2:World} {v2:Value} {off:Bool} {left:Int} {c:UInt8} {o:Obj} (h:DiskAt w d v (B,off,waits,left)) (hr:RowB w2 v2 (B++ [c])) (hg:(w.alloc o).grownBy w2 v.ownBlock) (hv:∀g,v2.ownBlock=some g->v.ownBlock=some g\/(w.alloc o).heap.size<=g):DiskAt (w2.setCell ⟨d,0,none⟩ v2) d v2 (B++ [c],off,waits,left)/\Keeps (nP d v) w (w2.setCell ⟨d,0,none⟩ v2)/\∀g,v2.ownBlock=some g->v.ownBlock=some g\/w.heap.size<=g:=by
 have hd:w2.heap[d]? =some (.cells #[v,.bool off,.bool waits,.int .i64 left] 260 (0,0)):=by
  have h1:(w.alloc o).heap[d]? =w.heap[d]? :=jV w o d h.lt
  rw [(aP hg).block d (by simp;have:=h.lt;omega) (fun e=>h.ne e.symm),h1]
  exact h.cell
 have hn:v2.ownBlock≠some d:=fun e=>by
  rcases hv d e with q | q
  ·exact h.ne q
  have:=h.lt;simp at q;omega
 have h1:=DiskAt.set0 hd hr hn h.left
 refine ⟨h1.1,?_,fun g e=>(hv g e).imp id (fun q=>by simp at q;omega)⟩
 have k1:Keeps (nP d v) w w2:=((Keeps.refl _ w).alloc o).trans ((aP hg).mono (fun k _ e=>.inr e.symm))
 exact k1.then h1.2 (fun i _ e=>.inl e)
theorem CW {off:Bool} {left:Int} (w:World) (c:UInt8) (h:DiskAt w d v (B,off,waits,left)) (hB:B.length<1000000):
  Calls prog 217 #[.pointer (some ⟨d,0,none⟩),.int .u8 (c.toNat:Int)] w fun e w'=>e= .returned (.bool (wr1 (B,off,waits,left) c).1)/\Aside (WroteD d v w (wr1 (B,off,waits,left) c).2 w'):=by
 obtain ⟨c0,c1,c2,c3,cf⟩:=h.c
 dsimp only at c1 c2 c3
 have hleft:=h.left
 dsimp only at hleft
 have H:Aside (DiskAt w d v (B,off,waits,left)):=h
 obtain ⟨g,cap,hvs⟩:=h.row.shape
 dsimp only at hvs
 obtain ⟨o,ho⟩:∃o:Obj,Aside (o= .cells #[.int .u8 (c.toNat:Int)] 5):=⟨_,rfl⟩
 have hrA:RowB (w.alloc o) v B:=h.row.same (fun k hk=>jV w o k (h.row.lt hk))
 have hcl:(w.alloc o).cell? ⟨w.heap.size,0,none⟩=some (.int .u8 (c.toNat:Int)):=by
  have:=heap_alloc_new w o
  unfold World.cell?
  dsimp only
  rw [this,ho.o]
  rfl
 obtain ⟨v2,w2,hrun,hr2,hg2,hv2⟩:=Bd hrA ⟨w.heap.size,0,none⟩ 184 c hcl hB
 have HL:Aside (DiskAt (w2.setCell ⟨d,0,none⟩ v2) d v2 (B++ [c],off,waits,left)/\Keeps (nP d v) w (w2.setCell ⟨d,0,none⟩ v2)/\∀g,v2.ownBlock=some g->v.ownBlock=some g\/w.heap.size<=g):=Df h hr2 hg2 hv2
 have hd2:w2.heap[d]? =some (.cells #[v,.bool off,.bool waits,.int .i64 left] 260 (0,0)):=by
  have h1:(w.alloc o).heap[d]? =w.heap[d]? :=jV w o d h.lt
  rw [(aP hg2).block d (by simp;have:=h.lt;omega) (fun e=>h.ne e.symm),h1]
  exact h.cell
 obtain ⟨g2,cap2,hvs2⟩:=hr2.shape
 rw [show (B++ [c]).length=B.length+1 by simp] at hvs2
 have y0:w2.cell? ⟨d,0,none⟩=some v:=xO
 have y2:w2.cell? ⟨d,2,none⟩=some (.bool waits):=xO
 have y3:w2.cell? ⟨d,3,none⟩=some (.int .i64 left):=xO
 have yf:∀o,w2.frozen? ⟨d,o,none⟩=false:=fun o=>by simp [World.frozen?,hd2]
 rw [ho.o] at hrun
 clear h hrA hcl hr2 hg2 hv2 hd2
 subst hvs
 subst hvs2
 cases waits with
 | true=>
  by_cases h0:left=0
  ·subst h0
   have HW:Aside (wr1 (B,off,true,0) c=(false,(B,true,false,0))):=by unfold wr1;rfl
   rw [HW.o]
   clear hrun HL y0 y2 y3 yf
   go_enter func217,ntmps217
   go_wp2
   go_ret
   have h1:=H.o.set1 true
   have h2:=h1.1.set2 false
   exact ⟨rfl,_,h2.1,(h1.2.trans h2.2).mono (fun k _ e=>.inl e),fun g hg=>.inl hg⟩
  have d0:(left==0)=false:=xC
  cases off with
  | true=>
   have HW:Aside (wr1 (B,true,true,left) c=(false,(B,true,true,left))):=by
    show wr1 (B,true,true,left) c=_
    unfold wr1
    simp [h0]
   exact kh2
  | false=>
   have HW:Aside (wr1 (B,false,true,left) c=(true,(B++ [c],false,true,left - 1))):=by
    show wr1 (B,false,true,left) c=_
    unfold wr1
    simp [h0]
   rw [HW.o]
   have hw1:IntKind.i64.wrap (left - 1)=left - 1:=zr
   go_enter func217,ntmps217
   go_wp2_with (at_builtin;refine Lib.wpList_append_run _ rfl _ _ _ _ rfl _ _ rfl rfl _ _ hrun ?_)
   go_ret
   have h1:=HL.o.1.set3 (left - 1) zj
   exact ⟨rfl,_,h1.1,HL.o.2.1.then h1.2 (fun k _ e=>.inl e),HL.o.2.2⟩
 | false=>
  cases off with
  | true=>
   have HW:Aside (wr1 (B,true,false,left) c=(false,(B,true,false,left))):=by
    show wr1 (B,true,false,left) c=_
    unfold wr1
    simp
   exact kh2
  | false=>
   have HW:Aside (wr1 (B,false,false,left) c=(true,(B++ [c],false,false,left))):=by
    show wr1 (B,false,false,left) c=_
    unfold wr1
    simp
   rw [HW.o]
   go_enter func217,ntmps217
   go_wp2_with (at_builtin;refine Lib.wpList_append_run _ rfl _ _ _ _ rfl _ _ rfl rfl _ _ hrun ?_)
   go_ret
   exact ⟨rfl,_,HL.o.1,HL.o.2.1,HL.o.2.2⟩
end
section
open Go Go.RowKit Go.Lib Go.Sort
def tg (x:OpX):Value:=.agg #[.int .i64 x.1,.int .i64 x.2.1,.int .i64 x.2.2.1,.int .u8 (x.2.2.2.1:Int),.int .i64 x.2.2.2.2.1,.int .i64 x.2.2.2.2.2.1,.string x.2.2.2.2.2.2.1,.string x.2.2.2.2.2.2.2]
structure FactJ (ad:Nat->Addr) (w:World):Prop where
 txt:TxtE ad w
 errd:Oe ad w
 deb:DeB w
 et:w.cell? ⟨3,0,none⟩=some (.iface 450 (.pointer (some (ad 0))))
 mx:∃m:Int,w.cell? ⟨14,0,none⟩=some (.int .i64 m)
structure EnvJ (B:Nat) (ad:Nat->Addr) (w:World):Prop where
 size:B<=w.heap.size
 all:∀w',Below B w w'->FactJ ad w'
theorem EnvJ.mono {B:Nat} (h:EnvJ B ad w) (hb:Below B w w'):EnvJ B ad w':=⟨jM h.size hb.size,fun w'' h'=>h.all w'' (hb.trans h')⟩
theorem EnvJ.later {B:Nat} (h:EnvJ B ad w) (hb:Below w.heap.size w w'):EnvJ B ad w':=h.mono (hb.mono h.size)
theorem EnvJ.here {B:Nat} (h:EnvJ B ad w):FactJ ad w:=h.all w (jN _ _)
theorem EnvJ.up {B B':Nat} (h:EnvJ B ad w) (hB:B<=B') (hs:B'<=w.heap.size):EnvJ B' ad w:=⟨hs,fun w' h'=>h.all w' (h'.mono hB)⟩
def dQ:DSt->List UInt8->Bool×DSt
 | st,[]=>(true,st)
 | st,c::l=>if (wr1 st c).1=true then dQ (wr1 st c).2 l else (false,(wr1 st c).2)
def dW (st:DSt) (x:OpX):Nat×DSt:=if iN x≠0 then (iN x,st) else if 65536<st.1.length+(bs (aA x)).length then (8,st) else if (dQ st (bs (aA x))).1=true then (0,(dQ st (bs (aA x))).2) else (11,(dQ st (bs (aA x))).2)
theorem LZ (st:DSt) (c:UInt8):(wr1 st c).2.1.length<=st.1.length+1:=by
 unfold wr1
 split
 ·simp
 split
 ·simp
 simp
theorem WroteD.start {st:DSt} (h:DiskAt w d v st):WroteD d v w st w:=⟨v,h,Keeps.refl _ _,fun g hg=>.inl hg⟩
theorem WroteD.later {d:Nat} {v:Value} {w W W':World} {st:DSt} (h:WroteD d v w st W) (hb:Below W.heap.size W W'):WroteD d v w st W':=by
 obtain ⟨v',h1,h2,h3⟩:=h
 exact ⟨v',h1.later hb,h2.then (aV hb) (fun i hi q=>by have:=h2.size;omega),h3⟩
theorem WroteD.from {st:DSt} (hb:Below w.heap.size w W) (hd:DiskAt w d v st) {st':DSt} (h:WroteD d v W st' W'):WroteD d v w st' W':=by
 obtain ⟨v',h1,h2,h3⟩:=h
 refine ⟨v',h1,?_,fun g hg=>(h3 g hg).imp id (fun q=>jM hb.size q)⟩
 exact ((aV hb).mono (fun k hk q=>zj)).then h2 (fun i _ q=>q)
theorem WroteD.next {st st':DSt} (h:WroteD d v w st W) (k:∀v',DiskAt W d v' st->WroteD d v' W st' W'):WroteD d v w st' W':=by
 obtain ⟨v',h1,h2,h3⟩:=h
 obtain ⟨v2,k1,k2,k3⟩:=k v' h1
 refine ⟨v2,k1,h2.then k2 (fun i hi q=> ?_),fun g hg=> ?_⟩
 ·rcases q with rfl | q
  ·exact .inl rfl
  rcases h3 i q with e | e
  ·exact .inr e
  omega
 rcases k3 g hg with e | e
 ·exact h3 g e
 exact .inr (jM h2.size e)
theorem WroteD.below {d:Nat} {v:Value} {w W:World} {st:DSt} {B:Nat} (h:WroteD d v w st W) (hB:B<=w.heap.size) (hO:∀k,nP d v k->B<=k):Below B w W:=by
 obtain ⟨v',h1,h2,h3⟩:=h
 exact h2.below hB hO
theorem WroteD.own {st:DSt} {B:Nat} (h:WroteD d v w st W) (hB:B<=w.heap.size) (hO:∀k,nP d v k->B<=k):∃v',DiskAt W d v' st/\(∀k,nP d v' k->B<=k)/\Keeps (nP d v) w W:=by
 obtain ⟨v',h1,h2,h3⟩:=h
 refine ⟨v',h1,fun k hk=> ?_,h2⟩
 rcases hk with rfl | hk
 ·exact hO k (.inl rfl)
 rcases h3 k hk with e | e
 ·exact hO k (.inr e)
 omega
theorem nJ {B:Nat} {st:DSt} (w:World) (x:OpX) (hD:DiskAt w d v st) (hE:EnvJ B ad w) (hO:∀k,nP d v k->B<=k) (hs1:x.2.2.2.2.2.2.1.size<=1000000) (hs2:x.2.2.2.2.2.2.2.size<=1000000) (hB:st.1.length<=65536):
  Calls prog 161 #[.pointer (some ⟨d,0,none⟩),tg x] w fun e w'=>e= .returned (eV ad (dW st x).1)/\Aside (WroteD d v w (dW st x).2 w'):=by
 obtain ⟨t,b,n,kd,nd,o,s,vl⟩:=x
 dsimp only at hs1 hs2
 obtain ⟨x,hx⟩:∃x:OpX,Aside (x=(t,b,n,kd,nd,o,s,vl)):=⟨_,rfl⟩
 have ex:(t,b,n,kd,nd,o,s,vl)=x:=hx.o.symm
 obtain ⟨U,hU⟩:=ze (w.alloc (.cells #[.int .i64 t,.int .i64 b,.int .i64 n,.int .u8 (kd:Int),.int .i64 nd,.int .i64 o,.string s,.string vl] 61))
 have hbU:Below w.heap.size w U:=yg
 have HD:Aside (DiskAt w d v st/\DiskAt U d v st/\EnvJ B ad w/\EnvJ B ad U/\(∀k,nP d v k->B<=k)/\Below w.heap.size w U):=⟨hD,hD.later hbU,hE,hE.later hbU,hO,hbU⟩
 clear hD hE hO hbU
 by_cases herr:iN x=0
 case neg=>
  have htx:=Fb t b n kd nd o s vl U HD.o.2.2.2.1.here.txt hs1 hs2 (by rw [hx.o] at herr;exact herr)
  have HA:Aside (dW st x=(iN x,st)/\eV ad (iN x)= .iface 450 (.pointer (some (ad (iN x - 1))))):=⟨by unfold dW;rw [if_pos herr],if_neg herr⟩
  have e0:opE t b n kd nd o s.data.toList vl.data.toList=iN x:=by rw [hx.o];rfl
  rw [e0] at htx
  obtain ⟨ea,hea⟩:=ze (ad (iN x - 1))
  rw [<-hea.o] at htx HA
  rw [ex]
  rw [HA.o.1]
  dsimp only
  rw [HA.o.2,hx.o]
  unfold tg
  dsimp only
  clear e0 ex herr
  go_enter func161,ntmps161
  go_wp2_with fail
  rw [<-hU.o]
  refine htx.mono ?_
  clear htx
  rintro e w1 ⟨rfl,hb1⟩
  have HW:Aside (WroteD d v w st w1):=((WroteD.start HD.o.2.1).later hb1).from HD.o.2.2.2.2.2 HD.o.1
  clear hb1
  go_wp2
  go_ret
  exact ⟨rfl,HW.o⟩
 have htx:=DX t b n kd nd o s vl U HD.o.2.2.2.1.here.txt (by rw [hx.o] at herr;exact herr)
 have e0:dX t b n kd nd o s.data.toList vl.data.toList=aA x:=by rw [hx.o];rfl
 rw [e0] at htx
 obtain ⟨tx,htx2⟩:∃tx:ByteArray,Aside (tx=⟨(aA x).toArray⟩):=⟨_,rfl⟩
 rw [<-htx2.o] at htx
 have htl:tx.data.toList=aA x:=by rw [htx2.o]
 have hts:tx.size<=1000:=by
  have:=fG herr
  rw [<-htl] at this
  exact kn3
 obtain ⟨g,cap,hvs⟩:=HD.o.1.row.shape
 have HX:Aside (iN x=0):=herr
 rw [ex]
 obtain ⟨cd,sx,hcs⟩:∃cd sx,Aside (dW st x=(cd,sx)):=⟨(dW st x).1,(dW st x).2,rfl⟩
 rw [hcs.o]
 unfold tg
 rw [hx.o]
 dsimp only
 clear e0 ex herr
 go_enter func161,ntmps161
 go_wp2_with fail
 rw [<-hU.o]
 refine htx.mono ?_
 clear htx
 rintro e w1 ⟨rfl,hb1⟩
 have hD1:=HD.o.2.1.later hb1
 have hE1:=HD.o.2.2.2.1.later hb1
 have hrc:=nR tx w1 zj hE1.here.deb
 go_wp2_with fail
 refine hrc.mono ?_
 clear hrc
 rintro e w2 ⟨r,hr,rfl,hb2⟩
 have hD2:=hD1.later hb2
 have hbw:Below w.heap.size w w2:=HD.o.2.2.2.2.2.trans ((zi hb1 hb2).mono HD.o.2.2.2.2.2.size)
 rw [htl] at hr
 have H2:Aside (DiskAt w2 d v st/\EnvJ B ad w2/\Below w.heap.size w w2/\r.data.toList=bs (aA x)):=⟨hD2,hE1.later hb2,hbw,hr⟩
 have hrs:r.size=(bs (aA x)).length:=by rw [<-hr];simp
 have hr1:r.size<=1010:=by
  rw [hrs,bB]
  have:=fG HX.o
  omega
 obtain ⟨c0,c1,c2,c3,cf⟩:=hD2.c
 rw [hvs] at c0
 have e7:=(hE1.later hb2).here.errd.c7
 have HRS:Aside (r.size=(bs (aA x)).length):=hrs
 clear hb1 hb2 hD1 hD2 hE1 hbw hr c1 c2 c3 cf hrs htl hvs
 obtain ⟨tot,htot⟩:∃tot:Nat,Aside (tot=st.1.length+r.size):=⟨_,rfl⟩
 have hwr:IntKind.i64.wrap ((st.1.length:Int)+(r.size:Int))=(tot:Int):=by rw [IntKind.wrap_i64,htot.o];omega
 by_cases hfull:65536<st.1.length+r.size
 ·have d1:decide ((65536:Int)<(tot:Int))=true:=by have:=htot.o;simp;omega
  have d1n:decide (65536<tot)=true:=xv
  have HA:Aside (eV ad cd= .iface 450 (.pointer (some (ad 7)))/\WroteD d v w sx w2):=by
   have ha:dW st x=(8,st):=by
    unfold dW
    rw [if_neg (fun q=>q HX.o),if_pos (by rw [<-HRS.o];exact hfull)]
   rw [hcs.o] at ha
   cases ha
   exact ⟨rfl,(WroteD.start H2.o.1).from H2.o.2.2.1 HD.o.1⟩
  clear hfull
  go_wp2
  go_ret
  exact ⟨by rw [HA.o.1];rfl,HA.o.2⟩
 have d1:decide ((65536:Int)<(tot:Int))=false:=xv
 have d1n:decide (65536<tot)=false:=xv
 have HA:Aside (∀z st',dQ st (bs (aA x))=(z,st')->(z=true->cd=0/\sx=st')/\(z=false->cd=11/\sx=st')):=fun z st' hz=>by
  have ha:dW st x=if (dQ st (bs (aA x))).1=true then (0,(dQ st (bs (aA x))).2) else (11,(dQ st (bs (aA x))).2):=by
   unfold dW
   rw [if_neg (fun q=>q HX.o),if_neg (by rw [<-HRS.o];exact hfull)]
  rw [hcs.o,hz] at ha
  refine ⟨fun q=> ?_,fun q=> ?_⟩
  ·subst q;cases ha;exact ⟨rfl,rfl⟩
  subst q;cases ha;exact ⟨rfl,rfl⟩
 go_wp2
 clear c0 e7 d1 d1n hwr
 go_loopg [34] r.size (fun kx s34 W=>∃(k:Nat) (sk:DSt),s34= .int .i64 (k:Int)/\k<=r.size/\r.size - k<=kx/\Aside (WroteD d v w2 sk W/\dQ st (bs (aA x))=dQ sk ((bs (aA x)).drop k)/\sk.1.length<=st.1.length+k))
 case atStart=>exact ⟨0,st,rfl,jX _,jL _,WroteD.start H2.o.1,rfl,jL _⟩
 case round=>
  obtain ⟨k,sk,rfl,hk,hkx,A⟩:=hrel
  by_cases hlt:k<r.size
  ·have d2:decide ((k:Int)<(r.size:Int))=true:=by simp;omega
   have d2n:decide (k<r.size)=true:=zl
   obtain ⟨vk,hDk,-,-⟩:=A.o.1.own H2.o.2.1.size HD.o.2.2.2.2.1
   obtain ⟨Bk,ofk,wtk,lfk⟩:=sk
   obtain ⟨ch,hch⟩:∃ch:UInt8,Aside (ch=r[k]):=⟨r[k],rfl⟩
   obtain ⟨z,sn,hzn⟩:∃z sn,Aside (wr1 (Bk,ofk,wtk,lfk) ch=(z,sn)):=⟨_,_,rfl⟩
   have hwb:Calls prog 217 #[.pointer (some ⟨d,0,none⟩),.int .u8 (r[k].toNat:Int)] wr fun e w'=>e= .returned (.bool z)/\Aside (WroteD d v w2 sn w'):=by
    obtain ⟨vk,hDk,h2,h3⟩:=A.o.1
    refine (CW wr r[k] hDk (by have:=A.o.2.2;show Bk.length<1000000;dsimp only at this;omega)).mono ?_
    rintro e w' ⟨he,H⟩
    rw [<-hch.o,hzn.o] at he H
    refine ⟨he,WroteD.next ⟨vk,hDk,h2,h3⟩ (fun v'' hv''=> ?_)⟩
    have:v''=vk:=by
     have e1:=hDk.cell
     rw [hv''.cell] at e1
     simpa using e1
    rw [this]
    exact H.o
   have hdr:(bs (aA x)).drop k=ch::(bs (aA x)).drop (k+1):=by
    have:=fI r k hlt
    rw [H2.o.2.2.2] at this
    rw [hch.o]
    exact this
   have HW:Aside (dQ st (bs (aA x))=if z=true then dQ sn ((bs (aA x)).drop (k+1)) else (false,sn)):=by
    show _=_
    rw [A.o.2.1,hdr,dQ,hzn.o]
   have HL:Aside (sn.1.length<=st.1.length+(k+1)):=by
    have:=LZ (Bk,ofk,wtk,lfk) ch
    rw [hzn.o] at this
    have h3:=A.o.2.2
    show sn.1.length<=_
    dsimp only at this h3
    omega
   clear hDk hdr
   go_wp2_with fail
   refine hwb.mono ?_
   clear hwb
   rintro e w3 ⟨rfl,H3⟩
   cases z with
   | true=>
    have HR:Aside (WroteD d v w2 sn w3/\dQ st (bs (aA x))=dQ sn ((bs (aA x)).drop (k+1))/\sn.1.length<=st.1.length+(k+1)):=⟨H3.o,HW.o,HL.o⟩
    clear A HW HL H3
    go_wp2
    go_roundg (r.size - (k+1))
    case measure=>omega
    case rel=>exact ⟨k+1,sn,zI,zj,jL _,HR.o⟩
   | false=>
    have hc:=(HA.o false sn HW.o).2 rfl
    have e10:=(H2.o.2.1.mono (H3.o.below H2.o.2.1.size HD.o.2.2.2.2.1)).here.errd.c10
    have HF:Aside (eV ad cd= .iface 450 (.pointer (some (ad 10)))/\WroteD d v w sx w3):=by
     refine ⟨by rw [hc.1];rfl,?_⟩
     rw [hc.2]
     exact WroteD.from H2.o.2.2.1 HD.o.1 H3.o
    clear A HW HL H3 hc
    go_wp2
    go_ret
    exact ⟨by rw [HF.o.1];rfl,HF.o.2⟩
  have d2:decide ((k:Int)<(r.size:Int))=false:=zl
  have d2n:decide (k<r.size)=false:=zl
  have HF:Aside (eV ad cd= .nilIface/\WroteD d v w sx wr):=by
   have hd:(bs (aA x)).drop k= []:=by
    rw [List.drop_eq_nil_iff,<-HRS.o]
    omega
   have hw:=A.o.2.1
   rw [hd] at hw
   have hc:=(HA.o true sk hw).1 rfl
   refine ⟨by rw [hc.1];rfl,?_⟩
   rw [hc.2]
   exact WroteD.from H2.o.2.2.1 HD.o.1 A.o.1
  clear A
  go_wp2
  go_ret
  exact ⟨by rw [HF.o.1];rfl,HF.o.2⟩
end
section
open Go.ChangeShapes Go.WideShapes Go.ChangeAt Go.RowKit Go.Joins
def DO:List Int:=[0,1,56,2,57,49,28,3,61,58,42,50,38,29,17,4,62,47,59,36,45,43,51,22,53,39,33,30,24,18,12,5,63,55,48,27,60,41,37,16,46,35,44,21,52,32,23,11,54,26,40,15,34,20,31,10,25,14,19,9,13,8,7,6]
theorem gDeb:prog.globalNamed "math/bits.deBruijn64tab" =some 16:=zk
theorem tDeb:(prog.globals[16]?).map (·.type)=some 421:=zk
theorem IN:prog.cellsOf 421=64:=zk
theorem KU:prog.cellsOf 5=1:=zk
theorem KH (h:Lib.VarReads prog W "math/bits.deBruijn64tab" (Lib.tabData .u8 DO)):Lib.TabIs prog W "math/bits.deBruijn64tab" .u8 DO:=by
 obtain ⟨g,t,cs,fuel,p,hg,ht,hvar,hd⟩:=h
 obtain rfl:=Option.some.inj (gDeb.symm.trans hg)
 obtain rfl:=Option.some.inj (tDeb.symm.trans ht)
 unfold Lib.TabIs
 rw [hvar,<-Lib.cells_of_tab underlying421 underlying5 KU IN hd]
theorem MC (h:Lib.VarReads prog W "math/bits.deBruijn64tab" Rows.laid_math_bits_deBruijn64tab):DeB W:=by
 have h':Lib.VarReads prog W "math/bits.deBruijn64tab" (Lib.tabData .u8 DO):=h
 have ht:=KH h'
 unfold Lib.TabIs at ht
 exact (World.var?_cell gDeb ht 15).trans (show _=some (Value.int .u8 4) by kernel_rfl)
theorem FactJ.later {ad:Nat->Addr} {w w':World} (h:FactJ ad w) (hb:Below w.heap.size w w'):FactJ ad w':=by
 obtain ⟨m,hm⟩:=h.mx
 exact ⟨h.txt.later hb,⟨aQ hb h.errd.c1,aQ hb h.errd.c2,aQ hb h.errd.c7,aQ hb h.errd.c10⟩,h.deb.later hb,aQ hb h.et,m,aQ hb hm⟩
theorem LG (h:FactJ ad w):EnvJ w.heap.size ad w:=⟨jL _,fun _ hb=>h.later hb⟩
end
section
open Go.RowKit Go.Lib Go.Sort Go.Maps
open scoped Classical
def Ce (p:Plc):List Plc->List Plc
 | []=>[p]
 | q::r=>if q.1<p.1 then q::Ce p r else if q.1=p.1 then p::r else p::q::r
theorem pL {p:Plc} :∀ {L:List Plc},L.Pairwise (fun a b=>a.1<b.1)->∀x,x∈Ce p L↔x=p\/(x∈L/\x.1≠p.1)
 | [],_,x=>by simp [Ce]
 | q::r,h,x=>by
  have hr:=vF.1 h
  unfold Ce
  split
  ·rename_i k
   rw [jQ,pL hr.2 x,jQ]
   constructor
   ·rintro (e | e | ⟨e,e'⟩)
    ·exact .inr ⟨.inl e,by rw [e];omega⟩
    ·exact .inl e
    exact .inr ⟨.inr e,e'⟩
   rintro (e | ⟨e | e,e'⟩)
   ·exact .inr (.inl e)
   ·exact .inl e
   exact .inr (.inr ⟨e,e'⟩)
  rename_i k
  split
  ·rename_i k'
   rw [jQ,jQ]
   constructor
   ·rintro (e | e)
    ·exact .inl e
    exact .inr ⟨.inr e,by have:=hr.1 x e;omega⟩
   rintro (e | ⟨e | e,e'⟩)
   ·exact .inl e
   ·exact absurd (by rw [e];exact k') e'
   exact .inr e
  rename_i k'
  rw [jQ,jQ]
  constructor
  ·rintro (e | e | e)
   ·exact .inl e
   ·exact .inr ⟨.inl e,by rw [e];omega⟩
   exact .inr ⟨.inr e,by have:=hr.1 x e;omega⟩
  rintro (e | ⟨e | e,e'⟩)
  ·exact .inl e
  ·exact .inr (.inl e)
  exact .inr (.inr e)
theorem rL {p:Plc} :∀ {L:List Plc},L.Pairwise (fun a b=>a.1<b.1)->(Ce p L).Pairwise (fun a b=>a.1<b.1)
 | [],_=>by simp [Ce]
 | q::r,h=>by
  have hr:=vF.1 h
  unfold Ce
  split
  ·rename_i k
   refine vF.2 ⟨fun x hx=> ?_,rL hr.2⟩
   rcases (pL hr.2 x).1 hx with e | ⟨e,_⟩
   ·rw [e];exact k
   exact hr.1 x e
  rename_i k
  split
  ·rename_i k'
   exact vF.2 ⟨fun x hx=>by have:=hr.1 x hx;omega,hr.2⟩
  rename_i k'
  refine vF.2 ⟨fun x hx=> ?_,h⟩
  rcases jQ.1 hx with e | e
  ·rw [e];omega
  have:=hr.1 x e;omega
theorem ww (p:Plc):∀L:List Plc,(Ce p L).length<=L.length+1
 | []=>by simp [Ce]
 | q::r=>by
  have:=ww p r
  unfold Ce
  split
  ·simp;omega
  split<;>simp
theorem gG:∀(ms:List Mov) (f:Sta) (L:List Plc),IsPlaces f L->(∀k p,f k=some p->p.1=k)->∃L',IsPlaces (CZ f ms) L'/\L'.length<=L.length+ms.length
 | [],f,L,h,_=>⟨L,h,zq⟩
 | m::ms,f,L,h,hk=>by
  by_cases hi:Cx f m.2
  ·obtain ⟨L',h1,h2⟩:=gG ms (step f m) L (by rw [eG hi];exact h) (by rw [eG hi];exact hk)
   exact ⟨L',h1,by simp only [jY];omega⟩
  have hs:IsPlaces (step f m) (Ce m.2 L):=by
   rw [eQ hi]
   refine ⟨rL h.rise,fun x=> ?_⟩
   rw [pL h.rise x]
   unfold upd
   by_cases e:x.1=m.2.1
   ·rw [if_pos e]
    constructor
    ·rintro (q | ⟨_,q⟩)
     ·rw [q]
     exact absurd e q
    intro q
    exact .inl (Option.some.inj q).symm
   rw [if_neg e,<-h.mem x]
   constructor
   ·rintro (q | ⟨q,_⟩)
    ·exact absurd (by rw [q]) e
    exact q
   exact fun q=>.inr ⟨q,e⟩
  obtain ⟨L',h1,h2⟩:=gG ms (step f m) (Ce m.2 L) hs (fun k p q=>by
   rw [eQ hi] at q
   unfold upd at q
   split at q
   ·rename_i e
    rw [<-Option.some.inj q];exact e.symm
   ·exact hk k p q)
  refine ⟨L',h1,?_⟩
  have:=ww m.2 L
  simp only [jY]
  omega
theorem pr (ms:List Mov):∃L,IsPlaces (aH ms) L/\L.length<=ms.length:=by
 obtain ⟨L,h1,h2⟩:=gG ms pU [] ⟨List.Pairwise.nil,fun p=>by simp [pU]⟩ (fun k p h=>xr)
 exact ⟨L,h1,by simpa using h2⟩
