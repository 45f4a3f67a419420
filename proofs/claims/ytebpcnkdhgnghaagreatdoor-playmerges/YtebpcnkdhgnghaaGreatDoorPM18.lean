import Derived.Test.YtebpcnkdhgnghaaGreatDoorPM08
import Derived.Test.YtebpcnkdhgnghaaGreatDoorPM13
import Derived.Test.YtebpcnkdhgnghaaGreatDoorPM16
import Derived.Sort.OwnSortedInts
import Derived.Shelf.Strings.Cut
import Derived.Shelf.Strings.Repeat
import Derived.Test.YtebpcnkdhgnghaaGreatDoorRows
set_option linter.unusedSimpArgs false
set_option linter.unusedVariables false
set_option maxRecDepth 100000
set_option maxHeartbeats 64000000
section
namespace Go.Proofs.YtebpcnkdhgnghaaGreatDoor
open Go.Proofs.Tryz
open Go.RowKit Go.Shelf Go.Maps
open scoped Classical
variable {D:DataW Unit} {ks:List Int} {f:kr}
attribute [local go_sem] Oper.semAt_some
def MY (f:kr) (ks:List Int):Prop:=ks.Nodup/\∀k,k∈ks↔(f k).isSome=true
def CollT (D:DataW Unit) (f:kr) (left:Lit->Bool) (ks:List Int):Prop:=
 ks.Nodup/\(∀k∈ks,(f k).isSome=true/\left (.int .i64 k)=false)/\∀k,Wf k->has D (.int .i64 k)=true->left (.int .i64 k)=false->k∈ks
theorem wS (D:DataW Unit) (f:kr):CollT D f (has D) []:=⟨ZI,fun p hp=>by simp at hp,fun k _ h1 h2=>by rw [h1] at h2;cases h2⟩
theorem CollT.step {left:Lit->Bool} (h:CollT D f left ks) {x:Int} (hl:left (.int .i64 x)=true) (hf:(f x).isSome=true):CollT D f (fun z=>left z && !z.sameKey (.int .i64 x)) (ks++ [x]):=by
 obtain ⟨h1,h2,h3⟩:=h;refine ⟨?_,fun p hp=> ?_,fun k hw hh hlk=> ?_⟩
 ·rw [uH];refine ⟨h1,zt,fun a ha b hb=> ?_⟩;simp only [vR] at hb;subst hb;intro e;subst e;have:=(h2 _ ha).2;rw [hl] at this
  cases this
 ·rcases vL.1 hp with hp | hp
  ·have:=h2 p hp;exact ⟨this.1,by show (left (.int .i64 p) &&_)=false;rw [this.2];rfl⟩
  simp only [vR] at hp;subst hp;refine ⟨hf,?_⟩
  show (left (.int .i64 p) && !Lit.sameKey (.int .i64 p) (.int .i64 p))=false
  rw [kj];simp
 have hlk:(left (.int .i64 k) && !Lit.sameKey (.int .i64 k) (.int .i64 x))=false:=hlk;rw [kj] at hlk;by_cases e:k=x
 ·subst e;simp
 refine uk _ (h3 k hw hh ?_);simpa [e] using hlk
theorem CollT.all {left:Lit->Bool} (h:CollT D f left ks) (hr:ReadsT D f) (G:Ka f) (hl:∀kl,left kl=false):MY f ks:=by
 refine ⟨h.1,fun p=>⟨fun hp=>(h.2.1 p hp).1,fun hp=> ?_⟩⟩;obtain ⟨q,hq⟩:=ZN.1 hp;have hw:=G p q hq;exact h.2.2 p hw (by rw [hr.has hw,hp]) (hl _)
theorem Hm (F:Fence) (n:Nat) (h8:F.fn 102) (hro:F.round=none) (hn:1<=n) (l Bm b nn:Nat) (D0:DataW Unit) (f:kr) (hr:ReadsT D0 f) (G:Ka f) (J Jx:List Int->World->Prop)
  (hY:∀pre x W,J pre W->pre.length<nn->YieldAt F (n - 1) prog l #[.int .i64 x] W fun e W'=>
   (e= .returned (.bool true)/\J (pre++ [x]) W'/\KeepsWalks W W')\/(e= .returned (.bool false)/\Jx (pre++ [x]) W'))
  (W:World) (hJ:AbidesFrom W.heap.size J) (hm:W.cell? ⟨Bm,0,none⟩=some (.map (some b))) (hown:W.ownsMap prog 3 JB b nn D0) (h0:J [] W):
  CallsIn F n prog 102 #[.func (.yield l) #[] #[],.pointer (some ⟨Bm,0,none⟩)] W fun e W'=>(∃v,e= .returned v)/\
   ((∃xs,MY f xs/\J xs W')\/(∃pre,True/\Jx pre W')):=by
 refine callsIn_of_wp func102 rfl h8 ?_ hro;simp only [ntmps102,uq,ud,uz,Nat.reduceAdd,Nat.reduceSub,uM,uN,uV,uO,uR,Zb];have hsn:=hown.size_le
 gi_wp2_with (first
  | (gi_at_range;refine wpListIn_range_own _ rfl _ 114 rfl 3 124 (int_keyed underlying3) underlying114 _ b nn _ rfl hown ?_;intro w0 hrg0 hg0 hs0)
  | gi_in)
 go_frame
 gi_loopw [3] (fun _ wr=>∃(left:Lit->Bool) (cnt:Nat) (ps:List Int),wr.ranges prog 3 JB b W.heap.size nn D0 left cnt/\ps.length+cnt<=nn/\CollT D0 f left ps/\J ps wr)
  (fun _ wr=>wr.rangeLeft b W.heap.size)
 case atStart=>
  exact ⟨_,_,[],hrg0,by simpa using hsn,wS D0 f,hJ [] W w0 none h0 hg0 (fun r e=>yE)⟩
 case round=>
  obtain ⟨left,cnt,ps,hrg,hcs,hC,hJs⟩:=hrel
  gi_wp2_with (first
   | (gi_at_next;refine wpListIn_next_ranges _ rfl _ rfl 3 (int_keyed underlying3) JB (Value.int .i64) mZ (fun key kl hk=>qM) (fun v y hv=>by obtain ⟨c,rfl,_⟩:=nk hv;exact ⟨c,rfl⟩) b W.heap.size nn _ _ _ rfl hrg ?_ ?_)
   | gi_in)
  ·exact km6
  intro x c1 kl yd yp w2 cnt2 hkey hlk hv hat hrg2 hlt hg2 hs2 hen;obtain ⟨x',ex,rfl,hwx⟩:=Maps.keyOf_int_inv underlying3 hkey
  obtain rfl:x=x':=by simpa using ex
  have hfx:(f x).isSome=true:=by rw [<-hr.has hwx];exact has_true_of_atKey hat
  have hJ2:J ps w2:=hJ ps wr w2 (some W.heap.size) hJs hg2 (fun r e=>jp);obtain ⟨fn,tmps,assign,body,hy,hR⟩:=hY ps x _ hJ2 zj;have hC2:=hC.step hlk hfx;have H3:Aside (RoundIn F (n - 1) prog l fn tmps assign body _ _):=hR;clear hs2 hR hJ2;gi_wp2;refine RoundIn.mono H3.o ?_;rintro e W3 (⟨rfl,hJ4,hk4⟩ | ⟨rfl,hJx4⟩)
  ·gi_wp2;have hrg4:=hrg2.of_walks hk4;go_roundw
   case rel=>exact ⟨_,cnt2,ps++ [x],hrg4,zq,hC2,hJ4⟩
   case measure=>rw [hrg4.left_eq,hrg.left_eq];exact hlt
  gi_wp2;refine bodyPost_ret (results_none rfl _ _ _) rfl ?_;exact ⟨⟨_,rfl⟩,.inr ⟨ps++ [x],trivial,hJx4⟩⟩
theorem Hn (F:Fence) (n:Nat) (hf:F.fn 53) (hro:F.round=none) (mb:Option Nat) (w:World):
  CallsIn F n prog 53 #[.map mb] w fun e w'=>e= .returned (.func (.func 102) #[] #[.pointer (some ⟨w.heap.size,0,none⟩)])/\w'=w.alloc (.cells #[.map mb] 114):=by
 refine callsIn_of_wp func53 rfl hf ?_ hro;simp only [ntmps53,uq,ud,uz,Nat.reduceAdd,Nat.reduceSub,uM,uN,uV,uO,uR,Zb];gi_wp2;go_ret;exact kl3
theorem CV (F:Fence) (n:Nat) (h8:F.fn 102) (hro:F.round=none) (hn:1<=n) (Bm b nn:Nat) (f:kr) (w:World) (hBm:Bm<w.heap.size) (hm:w.cell? ⟨Bm,0,none⟩=some (.map (some b))) (hM:TMapAt w b nn f):
  SeqStopsK F n prog 102 #[.pointer (some ⟨Bm,0,none⟩)] (fun x:Int=> #[.int .i64 x]) KeepsWalks (fun xs=>MY f xs) (fun _=>True) nn w:=fun l J Jx W hW hJ _ hY h0=>by
 have hbl:=hM.lt;obtain ⟨⟨D,hown,hr⟩,G⟩:=hM.same (hW.block b hbl);exact Hm F n h8 hro hn l Bm b nn D f hr G J Jx hY W hJ ((hW.cell (p:=⟨Bm,0,none⟩) hBm).trans hm) hown h0
theorem Nh:(prog.info? 3).map (fun i=>(i.zero,i.size,i.bytes))=some (some (.int .i64 0),1,8):=zo
theorem LI (w:World) (x:Int) (j:Nat) (u:Value) (hj:([Value.int .i64 x]:List Value)[j]? =some u):(w.alloc (.cells #[.int .i64 x] 3)).cell? ((⟨w.heap.size,0,none⟩:Addr).add j)=some u:=by
 rw [Addr.add_lit,vQ];have h:=heap_alloc_new w (.cells #[.int .i64 x] 3);simp only [World.cell?,h];rw [<-hj];simp
theorem Lb (x:Int):∀u∈([Value.int .i64 x]:List Value),u.oneCell'=true:=qW
def oq (ks:List Int):List Value:=ks.map fun k=>.int .i64 k
theorem mp (w:World) (Bm b nn:Nat) (f:kr) (hBm:Bm<w.heap.size) (hm:w.cell? ⟨Bm,0,none⟩=some (.map (some b))) (hM:TMapAt w b nn f) (hnn:nn<=2000000):
  Calls prog 172 #[.slice none 0 0,.func (.func 102) #[] #[.pointer (some ⟨Bm,0,none⟩)]] w fun e w'=>∃v ps,e= .returned v/\MY f ps/\ps.length<=nn/\w'.ownsRow w.heap.size 3 1 v ps.length (oq ps)/\Below w.heap.size w w':=by
 obtain ⟨i0,hi,hz0,hz1,hz2⟩:=info_parts Nh;refine (callsIn_wide (n:=4)).1 ?_;refine callsIn_of_wp_marks func172 rfl trivial ?_ rfl;simp only [ntmps172,uq,ud,uz,Nat.reduceAdd,Nat.reduceSub,uM,uN,uV,uO,uR,Zb];gi_wp2;obtain ⟨w1,hw1⟩:=zc (w.alloc (.cells #[.slice none 0 0] 42));rw [<-hw1];have hB0:Below w.heap.size w w1:=qd;have hs1:w1.heap.size=w.heap.size+1:=xP;obtain ⟨B,hB⟩:=zc w.heap.size;have e1:Boxed w1 B 42 (.slice none 0 0):=qS
 rw [<-hB] at hB0 hs1 hBm |-
 have HB:Aside (B=w.heap.size):=hB;have hBw:B<=w.heap.size:=zj;clear hB;have hm1:=(hB0.cell (p:=⟨Bm,0,none⟩) hBm).trans hm;have hM1:=hM.same (hB0.block b (by have:=HB.o;have:=hM.lt;omega));clear hw1 hm hM
 refine wpIn_rangeFunc_ownH rfl zj (gf:=102) (lb:= #[.pointer (some ⟨Bm,0,none⟩)]) rfl trivial (enters_of func102 zo rfl)
  (CV Fence.wide (4 - 1) trivial rfl zj Bm b nn f w1 zj hm1 hM1) walksK_t (walksK_b (w:=w1)) (vG _ _) (fun _=>rfl)
  (fun pre W=>((∃v,Boxed W B 42 v/\W.ownsRow B 3 1 v pre.length (oq pre)/\pre.length<=nn))/\(w1.heap.size<=W.heap.size/\Below B w W))
  (fun _ _ _=>False)
  (OwnFrom.and (Own.from (holdsRow_own B B 42 3 1 (fun pre=>pre.length) (fun pre=>oq pre) (fun pre _=>pre.length<=nn)) _) (OwnFrom.and (fun _ X Y row hs hg _=>vI hs hg.size) (ownFrom_below zj zj)))
  (fun _ _ _ _ _ hs _ _=>hs)
  ⟨⟨_,e1,uf w1 B _ _,vM _⟩,vB _,hB0⟩
  (fun x a' W=>a'= {tmps:= #[.slice none 0 0,.func (.func 102) #[] #[.pointer (some ⟨Bm,0,none⟩)],.pointer (some ⟨B,0,none⟩),undef,.slice none 0 0,.int .i64 x,.func (.func 102) #[] #[.pointer (some ⟨Bm,0,none⟩)],.int .i64 x,undef,undef,undef,undef,undef],defers:=[]})
  (fun x a'=>Own.from (fun _ X Y row hs hg hr=>hs) _)
  ?assign ?body ?done ?stop
 case assign=>
  rintro l pre x W K ⟨⟨v,hv,hrow,hpl⟩,hsz,hBW⟩ hK;have hK':Aside _:=hK;have hBs:B<=W.heap.size:=zj;clear hK;gi_wp2;refine hK'.o _ _ ((KeepsOthers.refl _).from _) (KeepsOthers.refl _).walks ⟨⟨v,hv,hrow,hpl⟩,hsz,hBW⟩ rfl
 case body=>
  rintro l pre x a' W hl _ ⟨⟨v,hv,hrow,hpl⟩,hsz,hBW⟩ rfl hlt;have g1:=hv.cell;have hBs:B<=W.heap.size:=zj;gi_wp2_with (gi_at_builtin;refine wpListIn_append_own _ rfl _ _ 42 rfl B 3 i0 _ 1 8 underlying42 hi hz0 hz1 hz2 rfl zj _ _ _ rfl (hrow.alloc _) ⟨W.heap.size,0,none⟩ 1 1 [.int .i64 x] rfl rfl (LI W x) (Lb x) zA zj zq ?_;intro v' w2 hown' hgrow _;obtain ⟨g',cap',rfl⟩:=ownsRow_succ hown';obtain ⟨hv1,hv2,hr2,hk2,hb2⟩:=hv.appended zr hrow hBs zg hown' hgrow;have hc1:=hv1.cell;have hf1:=hv1.frozen);exact ⟨hk2.from _,hk2.walks,⟨⟨_,hv2,by rw [vN,Zc];unfold oq at*;rw [un];simpa using hr2,zq⟩,jV,hBW.trans hb2⟩⟩
 case done=>
  rintro D ys W hD hall ⟨⟨v,hv,hrow,hpl⟩,hsz,hBW⟩ hK;have g1:=hv.cell;gi_wp2;refine ⟨zt,.inl ⟨_,_,rfl,run_takeDeferred hK,?_⟩⟩;refine ⟨v,by simp [results,f172,go_sem],v,ys,rfl,hall,hpl,?_,?_⟩
  ·exact kn1
  exact ke8
 case stop=>
  exact km9
theorem my (w:World) (Bm b nn:Nat) (f:kr) (hBm:Bm<w.heap.size) (hm:w.cell? ⟨Bm,0,none⟩=some (.map (some b))) (hM:TMapAt w b nn f) (hnn:nn<=2000000):
  Calls prog 100 #[.func (.func 102) #[] #[.pointer (some ⟨Bm,0,none⟩)]] w fun e w'=>∃v ps,e= .returned v/\MY f ps/\ps.length<=nn/\w'.ownsRow w.heap.size 3 1 v ps.length (oq ps)/\Below w.heap.size w w':=by
 have ha:=mp w Bm b nn f hBm hm hM hnn;go_enter func100,ntmps100;go_wp2_with fail;refine ha.mono ?_;clear ha;rintro e w1 ⟨v,ps,rfl,h⟩;have HH:Aside _:=h;clear h;go_wp2;go_ret;exact ⟨v,ps,rfl,HH.o⟩
theorem wJ (hn:ks.Nodup):(ks.mergeSort fun x y=>decide (x<=y)).Pairwise (· < ·):=by
 have h1:=List.pairwise_mergeSort (le:=fun x y:Int=>decide (x<=y)) (fun a b c h1 h2=>by simp only [decide_eq_true_eq] at*;omega) (fun a b=>by simp only [Zo,decide_eq_true_eq];omega) ks;have h2:(ks.mergeSort fun x y=>decide (x<=y)).Nodup:=(List.mergeSort_perm ks _).nodup_iff.2 hn;exact (h1.and h2).imp (fun {a b} h=>by have h1:=h.1;have h2:=h.2;simp only [decide_eq_true_eq] at h1;omega)
theorem mn (w:World) (Bm b nn:Nat) (f:kr) (hBm:Bm<w.heap.size) (hm:w.cell? ⟨Bm,0,none⟩=some (.map (some b))) (hM:TMapAt w b nn f) (hnn:nn<=100000):
  Calls prog 52 #[.func (.func 102) #[] #[.pointer (some ⟨Bm,0,none⟩)]] w fun e w'=>∃v ks,e= .returned v/\ks.Pairwise (· < ·)/\(∀k,k∈ks↔(f k).isSome=true)/\ks.length<=nn/\w'.ownsRow w.heap.size 3 1 v ks.length (oq ks)/\Below w.heap.size w w':=by
 have hc:=my w Bm b nn f hBm hm hM zj;go_enter func52,ntmps52;go_wp2_with fail;refine hc.mono ?_;clear hc;rintro e w1 ⟨v,ps,rfl,hall,hpl,hown,hb⟩
 rcases hown.2 with ⟨rfl,h0⟩ | ⟨g,cap,cur,rfl,hbg,hgb,r1,r2,r3,r4⟩
 ·have hps:ps= []:=vZ.1 h0;subst hps
  have HH:Aside ((∀k,k∈([]:List Int)↔(f k).isSome=true)/\Below w.heap.size w w1):=⟨hall.2,hb⟩
  have hs:=Tryz.slices_Sort_int_none none 0 w1;clear hall hown hb h0;go_wp2_with fail;refine hs.mono ?_;clear hs;rintro e w' ⟨rfl,rfl⟩;go_wp2;go_ret;exact ⟨_,[],rfl,List.Pairwise.nil,HH.o.1,vM _,uf _ _ _ _,HH.o.2⟩
 have hH:Sort.Holds (Value.int .i64) w1 g 0 ps.toArray:=holds_of_blockI hgb (by simpa [oq] using r4);have hgl:g<w1.heap.size:=(vD.1 hgb).1;have hs:=Tryz.slices_Sort_int g 0 cap ps w1 hH hgl zj;have hlen:(ps.mergeSort fun x y=>decide (x<=y)).length=ps.length:=List.length_mergeSort _
 have H1:Aside (∀n os,(Sort.grow (Sort.putRow (Value.int .i64) (Sort.ahead w1 n) g 0 (ps.mergeSort fun x y=>decide (x<=y)).toArray) os).ownsRow w.heap.size 3 1 (.slice (some ⟨g,0,none⟩) ps.length cap) ps.length (oq (ps.mergeSort fun x y=>decide (x<=y)))/\Below w.heap.size w (Sort.grow (Sort.putRow (Value.int .i64) (Sort.ahead w1 n) g 0 (ps.mergeSort fun x y=>decide (x<=y)).toArray) os)):=fun n os=>
  ⟨ownsRow_sortedI hlen hbg hgb r1 r2 r3,hb.grown (grownBy_sortedI _) hb.size (fun j hj=>by cases hj;exact hbg)⟩
 have HH:Aside (MY f ps/\ps.length<=nn):=⟨hall,hpl⟩
 have HL:Aside ((ps.mergeSort fun x y=>decide (x<=y)).length=ps.length):=hlen;clear hall hown hb hpl hbg hgl hgb r1 r2 r3 r4 hH hlen;go_wp2_with fail;refine hs.mono ?_;clear hs;rintro e w2 ⟨rfl,n,os,rfl⟩;have H2:=H1.o n os
 generalize Sort.grow (Sort.putRow (Value.int .i64) (Sort.ahead w1 n) g 0 (ps.mergeSort fun x y=>decide (x<=y)).toArray) os=w2 at H2 |-
 have H3:Aside _:=H2;clear H1 H2;go_wp2;go_ret;exact ⟨_,ps.mergeSort fun x y=>decide (x<=y),rfl,wJ HH.o.1.1,fun k=>((List.mergeSort_perm ps _).mem_iff).trans (HH.o.1.2 k),by rw [HL.o];exact HH.o.2,by rw [HL.o];exact H3.o.1,H3.o.2⟩
end Go.Proofs.YtebpcnkdhgnghaaGreatDoor
end
section
namespace Go.Proofs.YtebpcnkdhgnghaaGreatDoor
open Go.Proofs.Tryz
open Go.RowKit Go.Maps
variable {s:ByteArray}
theorem Nm:(prog.info? 128).map (fun i=>(i.zero,i.size,i.bytes))=some (some (.agg #[.int .i64 0,.string ⟨#[]⟩,.string ⟨#[]⟩]),3,40):=zo
theorem iL (h:s.size=0):s.toList.isEmpty=true:=by
 rw [uy];have:s.data.toList.length=0:=yR;rw [vZ.1 this];rfl
theorem mV (h:s.size≠0):s.toList.isEmpty=false:=by
 rw [uy];have:s.data.toList.length≠0:=yR
 cases hs:s.data.toList with
 | nil=>rw [hs] at this;simp at this
 | cons a r=>rfl
theorem CY (w:World) (a:Int) (s c:ByteArray) (j:Nat) (u:Value) (hj:(bL (a,s,c))[j]? =some u):(w.alloc (.cells #[.int .i64 a,.string s,.string c] 128)).cell? ((⟨w.heap.size,0,none⟩:Addr).add j)=some u:=by
 rw [Addr.add_lit,vQ];have h:=heap_alloc_new w (.cells #[.int .i64 a,.string s,.string c] 128);simp only [World.cell?,h];rw [<-hj];simp [bL]
theorem FV (w:World) (bc bm n:Nat) (f:cA) (hC:CellsAt w bc bm n f) (hn:n<=100000):
  Calls prog 55 #[.pointer (some ⟨bc,0,none⟩)] w fun e w'=>∃ao cap qs,e= .returned (.slice ao qs.length cap)/\IsMarks f qs/\qs.length<=n/\InRow bL w' ao qs/\Below w.heap.size w w'/\∀g o,ao=some ⟨g,o,none⟩->w.heap.size<=g:=by
 obtain ⟨i0,hi,hz0,hz1,hz2⟩:=info_parts Nm;have hall:=LE w bc bm hC.c0;obtain ⟨⟨D,hown,hr⟩,hg⟩:=hC.map;have hsn:=hown.size_le;have hlt:=hC.lt;clear hC;go_enter func55,ntmps55
 go_wp2_with (first
  | (go_at_call 104;refine hall.mono ?_;clear hall;rintro e w' ⟨rfl,hw'⟩;have hw2:=hw'.symm;subst hw2)
  | (at_range;refine wpList_range_own _ rfl _ 201 rfl 204 206 lawK underlying201 _ bm n D rfl hown ?_;intro w0 hrg0 hg0 hs0)
  | go_in)
 go_frame;have hb0:Below w.heap.size w w0:=(vG _ w).grown hg0 zg (by intro k hk;cases hk);obtain ⟨r,hr0⟩:=ze w.heap.size
 rw [<-hr0.o] at hrg0 |-
 have H0:Aside (w0.ranges prog 204 Bv bm r n D (has D) (size D)/\Below w.heap.size w w0/\ReadsC D f/\GoodC f/\bm<w.heap.size):=⟨hrg0,hb0,hr,hg,hlt.2⟩
 clear hrg0 hg0 hs0 hb0 hr hg hlt hown
 go_loopw [3] (fun s3 wr=>∃(left:Lit->Bool) (cnt:Nat) (ps:List Mrk) (v:Value),v=s3/\Aside (wr.ranges prog 204 Bv bm r n D left cnt/\ps.length+cnt<=n/\CollM f left ps/\wr.ownsRow (r+1) 128 3 v ps.length (aI bL ps)/\Below w.heap.size w wr/\r<wr.heap.size))
  (fun _ wr=>wr.rangeLeft bm r)
 case atStart=>exact ⟨_,_,[],_,rfl,⟨H0.o.1,by simpa using hsn,sH H0.o.2.2.1 H0.o.2.2.2.1,uf _ _ _ _,H0.o.2.1,H0.o.1.lt⟩⟩
 case round=>
  obtain ⟨left,cnt,ps,v,rfl,A⟩:=hrel;obtain ⟨u,hu⟩:=zc wr;subst hu;have hrg:=A.o.1
  go_wp2_with (first
   | (at_next;refine wpList_next_ranges _ rfl _ rfl 204 lawK Bv pM wF (fun key kl hk=>by obtain ⟨x,_,hx,_⟩:=Fl hk;exact ⟨x,hx⟩) (fun v y hv=>by obtain ⟨c,rfl,_⟩:=nh hv;exact ⟨c,rfl⟩) bm r n _ _ _ rfl hrg ?_ ?_)
   | go_in)
  ·intro hc0 hl0;have hall:=A.o.2.2.1.all hl0;have hpn:ps.length<=n:=jH;have hown:=A.o.2.2.2.1;have hbel:=A.o.2.2.2.2.1;have hr1:=hr0.o
   rcases hown.2 with ⟨rfl,h0⟩ | ⟨g,cap,cur,rfl,hbg,-⟩
   ·have hps:ps= []:=vZ.1 h0
    have HH:Aside (IsMarks f []/\Below w.heap.size w u):=⟨by subst hps;exact hall.marks (List.Perm.refl _) List.Pairwise.nil,hbel⟩
    clear hall hown hbel hps h0 hc0 hl0 hr1;go_wp2_with (go_at_call 105;refine (wK none 0 _ _).mono ?_;rintro e w' ⟨rfl,rfl⟩);go_ret;exact ⟨none,0,[],rfl,HH.o.1,vM _,.inl rfl,HH.o.2,fun g o e=>yE⟩
   have hs:=Mp u (r+1) g cap ps hown zj;have hgl:=(hown.lt g rfl).2
   have HH:Aside (AllM f ps/\ps.length<=n/\Below w.heap.size w u/\w.heap.size<=g/\g<u.heap.size):=⟨hall,hpn,hbel,zj,hgl⟩
   clear hall hown hbel hpn hbg hgl hc0 hl0 hr1;go_wp2_with fail;refine hs.mono ?_;clear hs;rintro e w2 ⟨rfl,qs,hp,hpw,hcells,hk⟩
   have H2:Aside (IsMarks f qs/\qs.length=ps.length/\qs.length<=n/\(∀j u,(aI bL qs)[j]? =some u->w2.cell? ⟨g,j,none⟩=some u)/\Below w.heap.size w w2/\w.heap.size<=g):=
    ⟨HH.o.1.marks hp hpw,hp.length_eq,jU,hcells,HH.o.2.2.1.trans (hk.below (HH.o.2.2.1.size) (fun k e=>by have:=HH.o.2.2.2.1;omega)),HH.o.2.2.2.1⟩
   clear hp hpw hcells hk HH;go_wp2;go_ret;exact ⟨_,cap,qs,by rw [H2.o.2.1];rfl,H2.o.1,H2.o.2.2.1,.inr ⟨g,0,rfl,fun j u hj=>by rw [vQ];exact H2.o.2.2.2.1 j u hj⟩,H2.o.2.2.2.2.1,fun g' o e=>by cases e;exact H2.o.2.2.2.2.2⟩
  intro a nm c t b kl yd yp w2 cnt2 hkey hlk hv hat hrg2 hlt hg2 hs2 hen;obtain ⟨x',hwx,ex,rfl⟩:=Fl hkey;obtain rfl:(a,nm)=x':=AK ex;obtain ⟨c',ec,ez⟩:=nh hv;obtain rfl:(c,t,b)=c':=Hb ec;obtain rfl:yd=AN (c,t,b):=(Prod.mk.inj ez).1;have hfx:=H0.o.2.2.1.got hwx hat;have hk2:Keeps (fun k=>k=r) u w2:=(aV hg2).mono (fun k _ e=>by cases e;rfl);have hb2:Below w.heap.size w w2:=A.o.2.2.2.2.1.trans (hk2.below A.o.2.2.2.2.1.size (fun k e=>by have:=hr0.o;omega));have ho2:w2.ownsRow (r+1) 128 3 v ps.length (aI bL ps):=av A.o.2.2.2.1 (fun g hg=>hk2.block g (A.o.2.2.2.1.lt g hg).2 (by have:=(A.o.2.2.2.1.lt g hg).1;omega))
  unfold pM wF at hen |-
  dsimp only at hen |-
  obtain ⟨S,hS⟩:∃S,Aside (w2.heap.size=S):=⟨_,rfl⟩
  by_cases hc:c.size=0
  ·have hC2:=A.o.2.2.1.skip H0.o.2.2.2.1 hwx hfx hc;have hce:=iL hc
   have H2:Aside (w2.ranges prog 204 Bv bm r n D (fun z=>left z && !z.sameKey (eH (a,nm))) cnt2/\ps.length+cnt2<=n/\CollM f (fun z=>left z && !z.sameKey (eH (a,nm))) ps/\w2.ownsRow (r+1) 128 3 v ps.length (aI bL ps)/\Below w.heap.size w w2/\cnt2<cnt):=⟨hrg2,jH,hC2,ho2,hb2,hlt⟩
   clear hC2 hrg2 hlt hg2 hs2 hk2 hb2 ho2 hfx hat hv hkey hlk ec ez ex;go_wp2;obtain ⟨h1,h2,h3,h4,h5,h6⟩:=H2.o;refine ⟨⟨_,cnt2,ps,v,rfl,(h1.alloc _).alloc _,h2,h3,(h4.alloc _).alloc _,(h5.alloc h5.size _).alloc (by have:=h5.size;simp;omega) _,((h1.alloc _).alloc _).lt⟩,?_⟩;rw [((h1.alloc _).alloc _).left_eq,hrg.left_eq];exact h6
  have hC2:=A.o.2.2.1.step H0.o.2.2.2.1 hwx hlk hfx hc;have hce:=mV hc;obtain ⟨W3,hW3⟩:=zc ((w2.alloc (.cells #[.int .i64 a,.string nm] 204)).alloc (.cells #[.string c,.int .i64 t,.int .i64 b] 206))
  have hb3:Below w2.heap.size w2 W3:=by rw [hW3];exact (zh w2 _).alloc zt _
  have hs3:W3.heap.size=w2.heap.size+2:=by rw [hW3];simp
  have q0:W3.heap[w2.heap.size]? =some (.cells #[.int .i64 a,.string nm] 204 (0,0)):=by
   rw [hW3,vP _ _ _ zt];exact heap_alloc_new w2 _
  have q1:W3.heap[w2.heap.size+1]? =some (.cells #[.string c,.int .i64 t,.int .i64 b] 206 (0,0)):=by
   have:=heap_alloc_new (w2.alloc (.cells #[.int .i64 a,.string nm] 204)) (.cells #[.string c,.int .i64 t,.int .i64 b] 206);rw [uD] at this;rw [hW3];exact this
  have hrg3:W3.ranges prog 204 Bv bm r n D (fun z=>left z && !z.sameKey (eH (a,nm))) cnt2:=by rw [hW3];exact (hrg2.alloc _).alloc _
  have ho3:W3.ownsRow (r+1) 128 3 v ps.length (aI bL ps):=by rw [hW3];exact (ho2.alloc _).alloc _
  have H2:Aside (W3.ranges prog 204 Bv bm r n D (fun z=>left z && !z.sameKey (eH (a,nm))) cnt2/\ps.length+1+cnt2<=n/\CollM f (fun z=>left z && !z.sameKey (eH (a,nm))) (ps++ [(a,nm,c)])/\W3.ownsRow (r+1) 128 3 v ps.length (aI bL ps)/\Below w.heap.size w W3/\cnt2<cnt):=⟨hrg3,jH,hC2,ho3,zi hb2 hb3,hlt⟩
  clear hC2 hrg2 hlt hg2 hs2 hk2 hb2 ho2 hfx hat hv hkey hlk ec ez ex hrg3 ho3 hb3;go_upto_region 6 with fail;rw [<-hW3]
  rw [hS.o] at q0 q1 hs3 |-
  have f0:W3.cell? ⟨S,0,none⟩=some (.int .i64 a):=by simp [World.cell?,q0]
  have f1:W3.cell? ⟨S,1,none⟩=some (.string nm):=by simp [World.cell?,q0]
  have f2:W3.cell? ⟨S+1,0,none⟩=some (.string c):=by simp [World.cell?,q1]
  obtain ⟨X,hX⟩:∃X,Aside (W3.heap.size=X):=⟨_,rfl⟩
  clear q0 q1 hW3 hen hs3
  have hpn:ps.length+1<=n:=by have:=H2.o.2.1;omega
  have hbs:r+1<=W3.heap.size:=H2.o.1.lt;obtain ⟨va,vc,rfl⟩:=fh H2.o.2.2.2.1;go_wp2_with (at_builtin;refine wpList_append_own _ rfl _ _ 125 rfl (r+1) 128 i0 _ 3 40 underlying125 hi hz0 hz1 hz2 rfl zj _ _ _ rfl (H2.o.2.2.2.1.alloc _) ⟨W3.heap.size,0,none⟩ 1 1 (bL (a,nm,c)) rfl rfl (CY W3 a nm c) (nS _) zA zj zq ?_);intro v2 u2 hown hgrow hnil;clear hnil f0 f1 f2
  have hrow:∀g,(Value.slice va ps.length vc).ownBlock=some g->r+1<=g:=fun g hg=>(H2.o.2.2.2.1.lt g hg).1
  have hbm:=H0.o.2.2.2.2;have hr1:=hr0.o;have h5:=H2.o.2.2.2.2.1;have hrg4:u2.ranges prog 204 Bv bm r n D (fun z=>left z && !z.sameKey (eH (a,nm))) cnt2:=(H2.o.1.alloc _).kept hgrow (fun e=>by have:=hrow bm e.symm;omega) (fun e=>by have:=hrow r e.symm;omega)
  have R4:Aside (u2.ranges prog 204 Bv bm r n D (fun z=>left z && !z.sameKey (eH (a,nm))) cnt2/\(ps++ [(a,nm,c)]).length+cnt2<=n/\CollM f (fun z=>left z && !z.sameKey (eH (a,nm))) (ps++ [(a,nm,c)])/\u2.ownsRow (r+1) 128 3 v2 (ps++ [(a,nm,c)]).length (aI bL (ps++ [(a,nm,c)]))/\Below w.heap.size w u2/\r<u2.heap.size):=by
   refine ⟨hrg4,by have:=H2.o.2.1;simp;omega,H2.o.2.2.1,?_,(h5.alloc h5.size _).grown hgrow (by have:=h5.size;simp;omega) (fun k hk=>by have:=hrow k hk;omega),hrg4.lt⟩;rw [vN,ah];simpa [aI] using hown
  have hm:u2.rangeLeft bm r<u.rangeLeft bm r:=by rw [hrg4.left_eq,hrg.left_eq];exact H2.o.2.2.2.2.2
  clear hown hgrow hrow hrg4 h5 hr1 hbm;go_wp2;exact ⟨⟨_,_,_,_,rfl,R4⟩,hm⟩
end Go.Proofs.YtebpcnkdhgnghaaGreatDoor
end
section
namespace Go.Proofs.YtebpcnkdhgnghaaGreatDoor
open Go.Proofs.Tryz
open Go Go.RowKit Go.Lib Go.Sort
variable {by_ nd:Int} {S:List OpX} {cap i m:Nat} {x:OpX} {ao:Option Addr} {w:World}
theorem Bj {b n:Int} (h:ax (S.take i) b n=none) (hx:S[i]? =some x):(byO x=b/\aw x=n->ax S b n=some x)/\(¬(byO x=b/\aw x=n)->ax (S.take (i+1)) b n=none):=by
 have hi:=(vA.1 hx).1
 have e:S.take (i+1)=S.take i++ [x]:=by
  rw [uF hi,(vA.1 hx).2]
 refine ⟨fun q=> ?_,fun q=> ?_⟩
 ·have e2:S=S.take i++(x::S.drop (i+1)):=by
   conv=>lhs;rw [<-ui i S]
   rw [uK hi,(vA.1 hx).2]
  rw [e2,iY,h]
  show ax (x::S.drop (i+1)) b n=some x
  unfold ax;rw [List.find?_cons];have:decide (byO x=b/\aw x=n)=true:=decide_eq_true q;rw [this]
 rw [e,iY,h]
 show ax [x] b n=none
 unfold ax;rw [List.find?_cons];have:decide (byO x=b/\aw x=n)=false:=decide_eq_false q;rw [this];rfl
theorem EN (w:World) (ao:Option Addr) (cap:Nat) (S:List OpX) (b n:Int) (hin:OpsIn w ao S) (hn:S.length<=1000000):
  Calls prog 26 #[.slice ao S.length cap,.int .i64 b,.int .i64 n] w fun e w'=>e= .returned (.tuple #[bT ((ax S b n).getD aR),.bool (ax S b n).isSome])/\Aside (Below w.heap.size w w'):=by
 obtain ⟨C,hC⟩:=ze w.heap.size;obtain ⟨U,hU⟩:=ze (w.alloc (.cells #[.int .i64 0,.int .i64 0,.int .i64 0,.int .u8 0,.int .i64 0,.int .i64 0,.string ⟨#[]⟩,.string ⟨#[]⟩] 61));have hbU:Below w.heap.size w U:=yq
 have H0:Aside (OpsIn U ao S/\OpBlk U C aR/\Below w.heap.size w U):=⟨hin.later hbU,by rw [hU.o,hC.o];exact OpBlk.new w aR,hbU⟩
 obtain ⟨K,hK⟩:=ze (ax S b n);rw [<-hK.o];clear hin hbU;go_enter func26,ntmps26;go_upto_region 1 with fail;rw [<-hU.o,<-hC.o];go_wp2;go_loopg [8] S.length (fun kx s8 wr=>∃(i:Nat),s8= .int .i64 (i:Int)/\i<=S.length/\S.length - i<=kx/\Aside (wr=U/\ax (S.take i) b n=none))
 case atStart=>exact ⟨0,rfl,vM _,vB _,rfl,rfl⟩
 case round=>
  obtain ⟨i,rfl,hi,hix,A⟩:=hrel;obtain ⟨u,hu⟩:=zc wr;subst hu;have HL:Aside (ax (S.take i) b n=none):=A.o.2
  have H1:Aside (OpsIn u ao S/\OpBlk u C aR/\Below w.heap.size w u):=by rw [A.o.1];exact H0.o
  have HU:Aside (u=U):=A.o.1;clear A;by_cases hlt:i<S.length
  ·have d1:decide ((i:Int)<(S.length:Int))=true:=by simp;omega
   have d1n:decide (i<S.length)=true:=zq
   obtain ⟨x,hx⟩:∃x,Aside (S[i]? =some x):=⟨S[i],vF hlt⟩
   have HT:=Bj HL.o hx.o;obtain ⟨b1,o1,e1,E1⟩:=H1.o.1.one hx.o;obtain ⟨xt,xb,xn,xk,xd,xo,xs,xv⟩:=x;dsimp only at E1 HT;subst e1;have wi:((i:Int)).toNat=i:=zj;have pi:(0:Int)<=(i:Int):=zj;have bi:(i:Int)<(S.length:Int):=zj;obtain ⟨q0,q1,q2,q3,q4,q5,q6,q7⟩:=E1;obtain ⟨y0,y1,y2,y3,y4,y5,y6,y7,yf⟩:=OpBlk.cells (x:=aR) H1.o.2.1;by_cases hb:xb=b
   ·by_cases hn2:xn=n
    ·have db:(xb==b)=true:=by simp [hb]
     have dn:(xn==n)=true:=by simp [hn2]
     have HK:Aside (K=some (xt,xb,xn,xk,xd,xo,xs,xv)):=by
      show K=_
      rw [hK.o];exact HT.1 ⟨hb,hn2⟩
     clear hb hn2 HT;unfold aR at y0 y1 y2 y3 y4 y5 y6 y7;dsimp only at y0 y1 y2 y3 y4 y5 y6 y7;go_wp2;(try simp only [Exit.inBlock,Exit.then]);refine bodyPost_ret (v:=.tuple #[bT (xt,xb,xn,xk,xd,xo,xs,xv),.bool true]) ?_ rfl ⟨by rw [HK.o];rfl,?_⟩
     ·rw [dX rfl];unfold bT;go_simp
     exact aH (b:=C) H1.o.2.2 zV 0 [.int .i64 xt,.int .i64 xb,.int .i64 xn,.int .u8 (xk:Int),.int .i64 xd,.int .i64 xo,.string xs,.string xv]
    have db:(xb==b)=true:=by simp [hb]
    have dn:(xn==n)=false:=by simp [hn2]
    have HN:Aside (u=U/\ax (S.take (i+1)) b n=none):=⟨HU.o,HT.2 (fun q=>hn2 q.2)⟩
    clear hb hn2 HT;go_wp2;go_roundg (S.length - (i+1))
    case measure=>omega
    case rel=>exact ⟨i+1,zw,zj,vB _,HN.o⟩
   have db:(xb==b)=false:=by simp [hb]
   have HN:Aside (u=U/\ax (S.take (i+1)) b n=none):=⟨HU.o,HT.2 (fun q=>hb q.1)⟩
   clear hb HT;go_wp2;go_roundg (S.length - (i+1))
   case measure=>omega
   case rel=>exact ⟨i+1,zw,zj,vB _,HN.o⟩
  have d1:decide ((i:Int)<(S.length:Int))=false:=zq;have d1n:decide (i<S.length)=false:=zq
  have HK:Aside (K=none):=by
   show K=none
   rw [hK.o];have:=HL.o;rwa [vT zj] at this
  obtain ⟨y0,y1,y2,y3,y4,y5,y6,y7,yf⟩:=OpBlk.cells (x:=aR) H1.o.2.1;unfold aR at y0 y1 y2 y3 y4 y5 y6 y7;dsimp only at y0 y1 y2 y3 y4 y5 y6 y7;go_wp2;(try simp only [Exit.inBlock,Exit.then]);refine bodyPost_ret (v:=.tuple #[bT aR,.bool false]) ?_ rfl ⟨by rw [HK.o];rfl,?_⟩
  ·exact kf6
  exact aH (b:=C) H1.o.2.2 zV 0 [.int .i64 0,.int .i64 0,.int .i64 0,.int .u8 0,.int .i64 0,.int .i64 0,.string ⟨#[]⟩,.string ⟨#[]⟩]
structure MRp (w:World) (m:Nat) (by_:Int) (ao:Option Addr) (cap:Nat) (S:List OpX):Prop where
 cell:w.heap[m]? =some (.cells #[.int .i64 by_,.slice ao S.length cap] 27 (0,0))
 ops:OpsIn w ao S
theorem MRp.lt (h:MRp w m by_ ao cap S):m<w.heap.size:=(vD.1 h.cell).1
theorem MRp.later {w w':World} {m:Nat} {by_:Int} {ao:Option Addr} {cap:Nat} {S:List OpX} (h:MRp w m by_ ao cap S) (hb:Below w.heap.size w w'):MRp w' m by_ ao cap S:=⟨(hb.block m h.lt).trans h.cell,h.ops.later hb⟩
theorem MRp.c (h:MRp w m by_ ao cap S):w.cell? ⟨m,0,none⟩=some (.int .i64 by_)/\w.cell? ⟨m,1,none⟩=some (.slice ao S.length cap)/\∀o,w.frozen? ⟨m,o,none⟩=false:=by
 have hc:=h.cell;refine ⟨?_,?_,fun o=> ?_⟩
 ·simp [World.cell?,hc]
 ·simp [World.cell?,hc]
 simp [World.frozen?,hc]
def eW (S:List OpX) (nd:Int):Bool:=S.any (fun x=>decide (kdO x=109/\aM x=nd/\idO x=nd))
theorem knownB_iff :eW S nd=true↔KnownN S nd:=by
 unfold eW KnownN;simp
theorem mt {p:OpX->Bool} (h:(S.take i).any p=false) (hx:S[i]? =some x):(p x=true->S.any p=true)/\(p x=false->(S.take (i+1)).any p=false):=by
 have hi:=(vA.1 hx).1;refine ⟨fun q=>ZD.2 ⟨x,vH hx,q⟩,fun q=> ?_⟩;rw [uF hi,(vA.1 hx).2,List.any_append,h];simp [q]
theorem mT (w:World) (nd:Int) (h:MRp w m by_ ao cap S) (hok:∀x∈S,ai x=0) (hn:S.length<=1000000):
  Calls prog 31 #[.pointer (some ⟨m,0,none⟩),.int .i64 nd] w fun e w'=>e= .returned (.bool (eW S nd))/\Aside (Below w.heap.size w w'):=by
 obtain ⟨z,hz⟩:=ze (eW S nd);rw [<-hz.o]
 have H0:Aside (MRp w m by_ ao cap S/\∀x∈S,ai x=0):=⟨h,hok⟩
 clear h hok;go_enter func31,ntmps31;go_wp2;go_loopg [5] S.length (fun kx s5 wr=>∃(i:Nat),s5= .int .i64 (i:Int)/\i<=S.length/\S.length - i<=kx/\Aside (Below w.heap.size w wr/\(S.take i).any (fun x=>decide (kdO x=109/\aM x=nd/\idO x=nd))=false))
 case atStart=>exact ⟨0,rfl,vM _,vB _,vG _ w,zt⟩
 case round=>
  obtain ⟨i,rfl,hi,hix,A⟩:=hrel;obtain ⟨c0,c1,cf⟩:=(H0.o.1.later A.o.1).c;by_cases hlt:i<S.length
  ·have d1:decide ((i:Int)<(S.length:Int))=true:=by simp;omega
   have d1n:decide (i<S.length)=true:=zq
   obtain ⟨x,hx⟩:∃x,Aside (S[i]? =some x):=⟨S[i],vF hlt⟩
   have HT:=mt A.o.2 hx.o;have hex:=H0.o.2 x (vH hx.o);obtain ⟨b1,o1,e1,E1⟩:=(H0.o.1.later A.o.1).ops.one hx.o;obtain ⟨xt,xb,xn,xk,xd,xo,xs,xv⟩:=x;have hst:=ar hex;have hid:=fC xt xb wr hst.1 hst.2.1 hst.2.2.1 hst.2.2.2.1;clear hst;dsimp only at E1 HT;subst e1;have wi:((i:Int)).toNat=i:=zj;have pi:(0:Int)<=(i:Int):=zj;have bi:(i:Int)<(S.length:Int):=zj;obtain ⟨q0,q1,q2,q3,q4,q5,q6,q7⟩:=E1;have HP:Aside (Below w.heap.size w wr):=A.o.1;clear A hex;by_cases hk:xk=109
   ·have dk:((xk:Int)==109)=true:=by simp [hk]
    have dkn:(xk==109)=true:=by simp [hk]
    by_cases hd:xd=nd
    ·have dd:(xd==nd)=true:=by simp [hd]
     go_wp2_with fail;refine hid.mono ?_;clear hid q0 q1 q2 q3 q4 q5 q6 q7;rintro e w1 ⟨rfl,hb1⟩;have HB:Aside (Below w.heap.size w w1):=zi HP.o hb1;clear hb1;by_cases hi2:4*xt+xb=nd
     ·have di:(4*xt+xb==nd)=true:=by simp [hi2]
      exact kf4
     have di:(4*xt+xb==nd)=false:=by simp [hi2]
     have HN:Aside (Below w.heap.size w w1/\(S.take (i+1)).any (fun x=>decide (kdO x=109/\aM x=nd/\idO x=nd))=false):=⟨HB.o,HT.2 (decide_eq_false (fun q=>hi2 xH))⟩
     clear hk hd hi2 HT;go_wp2;go_roundg (S.length - (i+1))
     case measure=>omega
     case rel=>exact ⟨i+1,zw,zj,vB _,HN.o⟩
    have dd:(xd==nd)=false:=ji
    have HN:Aside (Below w.heap.size w wr/\(S.take (i+1)).any (fun x=>decide (kdO x=109/\aM x=nd/\idO x=nd))=false):=⟨HP.o,HT.2 (decide_eq_false (fun q=>hd q.2.1))⟩
    clear hk hd HT hid;go_wp2;go_roundg (S.length - (i+1))
    case measure=>omega
    case rel=>exact ⟨i+1,zw,zj,vB _,HN.o⟩
   have dk:((xk:Int)==109)=false:=zq
   have dkn:(xk==109)=false:=by simp [hk]
   have HN:Aside (Below w.heap.size w wr/\(S.take (i+1)).any (fun x=>decide (kdO x=109/\aM x=nd/\idO x=nd))=false):=⟨HP.o,HT.2 (decide_eq_false (fun q=>hk q.1))⟩
   clear hk HT hid;go_wp2;go_roundg (S.length - (i+1))
   case measure=>omega
   case rel=>exact ⟨i+1,zw,zj,vB _,HN.o⟩
  exact ke5
def wy (S:List OpX) (nd:Int):Bool:=decide (nd=0) ||(decide (nd=1) ||eW S nd)
theorem EU (w:World) (nd:Int) (h:MRp w m by_ ao cap S) (hok:∀x∈S,ai x=0) (hn:S.length<=1000000):
  Calls prog 32 #[.pointer (some ⟨m,0,none⟩),.int .i64 nd] w fun e w'=>e= .returned (.bool (wy S nd))/\Aside (Below w.heap.size w w'):=by
 have hkn:=mT w nd h hok hn;unfold wy;clear h hok;by_cases h0:nd=0
 ·subst h0;exact kn9
 by_cases h1:nd=1
 ·subst h1;exact kn9
 have d0:(nd==0)=false:=xG
 have d1:(nd==1)=false:=by simp [h1]
 have e0:decide (nd=0)=false:=decide_eq_false h0;have e1:decide (nd=1)=false:=decide_eq_false h1;rw [e0,e1];obtain ⟨z,hz⟩:=ze (eW S nd)
 rw [<-hz.o] at hkn |-
 have HZ:Aside ((false ||(false ||z))=z):=by show _=z;simp
 rw [HZ.o];clear e0 e1 h0 h1 HZ;go_enter func32,ntmps32;go_wp2_with fail;refine hkn.mono ?_;clear hkn;rintro e w1 ⟨rfl,H1⟩;go_wp2;go_ret;exact ⟨rfl,H1.o⟩
def fK (S:List OpX) (nd id:Int):Bool:=S.any (fun x=>decide (kdO x=105/\aM x=nd/\idO x=id))
theorem si {id:Int} :fK S nd id=true↔LetterN S nd id:=by
 unfold fK LetterN;simp
theorem Bh (w:World) (nd id:Int) (h:MRp w m by_ ao cap S) (hok:∀x∈S,ai x=0) (hn:S.length<=1000000):
  Calls prog 33 #[.pointer (some ⟨m,0,none⟩),.int .i64 nd,.int .i64 id] w fun e w'=>e= .returned (.bool (fK S nd id))/\Aside (Below w.heap.size w w'):=by
 obtain ⟨z,hz⟩:=ze (fK S nd id);rw [<-hz.o]
 have H0:Aside (MRp w m by_ ao cap S/\∀x∈S,ai x=0):=⟨h,hok⟩
 clear h hok;go_enter func33,ntmps33;go_wp2;go_loopg [7] S.length (fun kx s7 wr=>∃(i:Nat),s7= .int .i64 (i:Int)/\i<=S.length/\S.length - i<=kx/\Aside (Below w.heap.size w wr/\(S.take i).any (fun x=>decide (kdO x=105/\aM x=nd/\idO x=id))=false))
 case atStart=>exact ⟨0,rfl,vM _,vB _,vG _ w,zt⟩
 case round=>
  obtain ⟨i,rfl,hi,hix,A⟩:=hrel;obtain ⟨c0,c1,cf⟩:=(H0.o.1.later A.o.1).c;by_cases hlt:i<S.length
  ·have d1:decide ((i:Int)<(S.length:Int))=true:=by simp;omega
   have d1n:decide (i<S.length)=true:=zq
   obtain ⟨x,hx⟩:∃x,Aside (S[i]? =some x):=⟨S[i],vF hlt⟩
   have HT:=mt A.o.2 hx.o;have hex:=H0.o.2 x (vH hx.o);obtain ⟨b1,o1,e1,E1⟩:=(H0.o.1.later A.o.1).ops.one hx.o;obtain ⟨xt,xb,xn,xk,xd,xo,xs,xv⟩:=x;have hst:=ar hex;obtain ⟨V,hV⟩:=ze (wr.alloc (.cells #[.int .i64 xt,.int .i64 xb,.int .i64 xn,.int .u8 (xk:Int),.int .i64 xd,.int .i64 xo,.string xs,.string xv] 61));obtain ⟨Q,hQ⟩:=ze wr.heap.size;have hid:=fC xt xb V hst.1 hst.2.1 hst.2.2.1 hst.2.2.2.1;clear hst;dsimp only at E1 HT;subst e1;have wi:((i:Int)).toNat=i:=zj;have pi:(0:Int)<=(i:Int):=zj;have bi:(i:Int)<(S.length:Int):=zj;obtain ⟨q0,q1,q2,q3,q4,q5,q6,q7⟩:=E1
   have HP:Aside (Below w.heap.size w V/\OpBlk V Q (xt,xb,xn,xk,xd,xo,xs,xv)):=⟨by rw [hV.o];exact A.o.1.alloc A.o.1.size _,by rw [hV.o,hQ.o];exact OpBlk.new wr (xt,xb,xn,xk,xd,xo,xs,xv)⟩
   clear A hex;go_upto_region 5 with fail;rw [<-hV.o,<-hQ.o];clear q0 q1 q2 q3 q4 q5 q6 q7;obtain ⟨q0,q1,q2,q3,q4,q5,q6,q7,qf⟩:=HP.o.2.cells;dsimp only at q0 q1 q2 q3 q4 q5 q6 q7;by_cases hk:xk=105
   ·have dk:((xk:Int)==105)=true:=by simp [hk]
    have dkn:(xk==105)=true:=by simp [hk]
    by_cases hd:xd=nd
    ·have dd:(xd==nd)=true:=by simp [hd]
     go_wp2_with fail;refine hid.mono ?_;clear hid q0 q1 q2 q3 q4 q5 q6 q7;rintro e w1 ⟨rfl,hb1⟩;have HB:Aside (Below w.heap.size w w1):=zi HP.o.1 hb1;clear hb1;by_cases hi2:4*xt+xb=id
     ·have di:(4*xt+xb==id)=true:=by simp [hi2]
      exact kf4
     have di:(4*xt+xb==id)=false:=by simp [hi2]
     have HN:Aside (Below w.heap.size w w1/\(S.take (i+1)).any (fun x=>decide (kdO x=105/\aM x=nd/\idO x=id))=false):=⟨HB.o,HT.2 (decide_eq_false (fun q=>hi2 xH))⟩
     clear hk hd hi2 HT;go_wp2;go_roundg (S.length - (i+1))
     case measure=>omega
     case rel=>exact ⟨i+1,zw,zj,vB _,HN.o⟩
    have dd:(xd==nd)=false:=ji
    have HN:Aside (Below w.heap.size w V/\(S.take (i+1)).any (fun x=>decide (kdO x=105/\aM x=nd/\idO x=id))=false):=⟨HP.o.1,HT.2 (decide_eq_false (fun q=>hd q.2.1))⟩
    clear hk hd HT hid;go_wp2;go_roundg (S.length - (i+1))
    case measure=>omega
    case rel=>exact ⟨i+1,zw,zj,vB _,HN.o⟩
   have dk:((xk:Int)==105)=false:=zq
   have dkn:(xk==105)=false:=by simp [hk]
   have HN:Aside (Below w.heap.size w V/\(S.take (i+1)).any (fun x=>decide (kdO x=105/\aM x=nd/\idO x=id))=false):=⟨HP.o.1,HT.2 (decide_eq_false (fun q=>hk q.1))⟩
   clear hk HT hid;go_wp2;go_roundg (S.length - (i+1))
   case measure=>omega
   case rel=>exact ⟨i+1,zw,zj,vB _,HN.o⟩
  exact ke5
end Go.Proofs.YtebpcnkdhgnghaaGreatDoor
end
section
namespace Go.Proofs.YtebpcnkdhgnghaaGreatDoor
open Go
variable {cap:Nat} {ao:Option Addr} {w:World}
def Shp (ao:Option Addr) (cap:Nat):Prop:=(ao=none/\cap=0)\/∃b o,ao=some ⟨b,o,none⟩
theorem Shp.nil (h:Shp ao cap):ao=none->cap=0:=fun e=>by
 rcases h with h | ⟨b,o,h⟩
 ·exact h.2
 rw [e] at h;cases h
theorem Shp.at (h:Shp ao cap) {S:List OpX} (ho:OpsIn w ao S):OpsAt w (.slice ao S.length cap) S:=by
 rcases ho with e | ⟨b,o,e,hc⟩
 ·subst e
  rcases h with ⟨h1,h2⟩ | ⟨b,o,h⟩
  ·exact .inl ⟨by rw [h1,h2];rfl,rfl⟩
  exact .inr ⟨b,o,cap,by rw [h],fun j u hj=>by simp [cellsOf] at hj⟩
 exact .inr ⟨b,o,cap,by rw [e],hc⟩
theorem Fj {v:Value} {xs:List OpX} (h:OpsAt w v xs):∃ao cap,v= .slice ao xs.length cap/\OpsIn w ao xs/\Shp ao cap:=by
 rcases h with ⟨rfl,rfl⟩ | ⟨blk,off,cap,rfl,hc⟩
 ·exact ⟨none,0,rfl,.inl rfl,.inl ⟨rfl,rfl⟩⟩
 exact ⟨some ⟨blk,off,none⟩,cap,rfl,.inr ⟨blk,off,rfl,hc⟩,.inr ⟨blk,off,rfl⟩⟩
end Go.Proofs.YtebpcnkdhgnghaaGreatDoor
end
section
namespace Go.Proofs
open Go.Proofs.Tryz
open Go.Shelf
def Tryz.lays105_ren:Go.Shelf.Ren:=⟨fun | 105=>323 | 212=>345 | 99=>346 | 165=>93 | 166=>94 | 170=>347 | 169=>95 | 263=>354 | 264=>355 | 206=>356 | 240=>166 | 241=>167 | 276=>222 | 277=>223 | n=>n,fun | 9=>9 | 3=>3 | 4=>4 | 20=>20 | 0=>0 | 46=>277 | 109=>417 | 5=>5 | 72=>186 | 76=>70 | 51=>342 | 146=>429 | 53=>325 | 148=>431 | 70=>183 | 37=>184 | 75=>36 | 127=>270 | 164=>237 | 80=>40 | n=>n,fun | n=>n⟩
theorem Tryz.lays105:Go.Proofs.Lays.n105 prog Tryz.lays105_ren:={
 mixed:=zo
 f99:=func346.trans (congrArg some zo)
 f105:=func323.trans (congrArg some zo)
 f165:=func93.trans (congrArg some zo)
 f166:=func94.trans (congrArg some zo)
 f169:=func95.trans (congrArg some zo)
 f170:=func347.trans (congrArg some zo)
 f206:=func356.trans (congrArg some zo)
 f212:=func345.trans (congrArg some zo)
 f240:=func166.trans (congrArg some zo)
 f241:=func167.trans (congrArg some zo)
 f263:=func354.trans (congrArg some zo)
 f264:=func355.trans (congrArg some zo)
 f276:=func222.trans (congrArg some zo)
 f277:=func223.trans (congrArg some zo)
 t0:=underlying0
 a0:=isAgg0
 z0:=sizeOf0
 v0:=zeroValue0
 t3:=underlying3
 a3:=isAgg3
 z3:=sizeOf3
 v3:=zeroValue3
 t4:=underlying4
 a4:=isAgg4
 z4:=sizeOf4
 v4:=zeroValue4
 t5:=underlying5
 a5:=isAgg5
 z5:=sizeOf5
 v5:=zeroValue5
 t9:=underlying9
 a9:=isAgg9
 z9:=sizeOf9
 v9:=zeroValue9
 t20:=underlying20
 a20:=isAgg20
 z20:=sizeOf20
 v20:=zeroValue20
 t37:=underlying184
 a37:=isAgg184
 z37:=sizeOf184
 v37:=zeroValue184
 t46:=underlying277
 a46:=isAgg277
 z46:=sizeOf277
 v46:=zeroValue277
 t51:=underlying342
 a51:=isAgg342
 z51:=sizeOf342
 v51:=zeroValue342
 t53:=underlying325
 a53:=isAgg325
 z53:=sizeOf325
 v53:=zeroValue325
 t70:=underlying183
 a70:=isAgg183
 z70:=sizeOf183
 v70:=zeroValue183
 t72:=underlying186
 a72:=isAgg186
 z72:=sizeOf186
 v72:=zeroValue186
 t75:=underlying36
 a75:=isAgg36
 z75:=sizeOf36
 v75:=zeroValue36
 t76:=underlying70
 a76:=isAgg70
 z76:=sizeOf70
 v76:=zeroValue70
 t109:=underlying417
 a109:=isAgg417
 z109:=sizeOf417
 v109:=zeroValue417
 t127:=underlying270
 a127:=isAgg270
 z127:=sizeOf270
 v127:=zeroValue270
 t146:=underlying429
 a146:=isAgg429
 z146:=sizeOf429
 v146:=zeroValue429
 t148:=underlying431
 a148:=isAgg431
 z148:=sizeOf431
 v148:=zeroValue431
 t164:=underlying237
 a164:=isAgg237
 z164:=sizeOf237
 v164:=zeroValue237}
theorem Tryz.Builder_Extra_105:Builder.Extra prog Tryz.lays105_ren:={
 sizeBuilder:=zo
 liesBuilder:=zo
 t5:=underlying5
 a5:=isAgg5
 z5:=sizeOf5
 v5:=zeroValue5
 infoByte:=zo
 cellsByte:=zo
 sizeByte:=zo
 neB5:=zr}
open Go.RowKit Go.Lib in
theorem Tryz.strings_Repeat (s:ByteArray) (c:Nat) (w:World) (hc:c<=9223372036854775807) (hlen:s.size*c<=140737488355328):
  Calls prog 323 #[.string s,.int .i64 c] w fun e w'=>e= .returned (.string ⟨(Lib.repeatL s.data.toList c).toArray⟩)/\Below w.heap.size w w':=Any.strings_Repeat Tryz.lays105 Tryz.Builder_Extra_105 s c w hc hlen
end Go.Proofs
end
section
namespace Go.Proofs.YtebpcnkdhgnghaaGreatDoor
theorem rO {P:Program} {W:World} {ti tp te ts:TypeId} {ms:Array (String×TypeId)} {nm:String} {f:Field}
  (hi:P.underlying ti=some (.interface ms)) (hrow:∀u,P.typeName? 3 u=some nm->u=tp) (hp:P.underlying tp=some (.pointer te)) (he:P.underlying te=some (.struct #[f])) (hft:f.type=ts) (hfo:f.offset=0) (hs:P.underlying ts=some .string) (hc:P.cellsOf te=1) (hcs:P.cellsOf ts=1):
  ∀(l:List (String×Nat×List UInt8)) (ps:List MemPlace),
   (∀x∈l,P.globalNamed x.1=some x.2.1/\(P.globals[x.2.1]?).map (·.type)=some ti)->
   DataW.LaidVars P W (l.map fun x=>(x.1,.iface nm (.ptr (.agg [.lit (.string x.2.2)])))) ps->ps.Nodup->
   (∀b off,MemPlace.cell b off∈ps->(∃c t,W.heap[b]? =some (.cells c t (0,0)))/\∀u v,W.cell? ⟨b,off,none⟩=some (.iface u v)->Value.okWide P W .any 0 u v)->
   ∃az:List Addr,az.length=l.length/\(∀(i:Nat) (x:String×Nat×List UInt8) (a:Addr),l[i]? =some x->az[i]? =some a->W.cell? ⟨x.2.1,0,none⟩=some (.iface tp (.pointer (some a))))/\
    (∀a∈az,(∃c t,W.heap[a.block]? =some (.cells c t (0,0)))/\MemPlace.cell a.block a.off∈ps)/\az.Nodup
 | [],ps,_,_,_,_=>⟨[],rfl,zt,zt,ZI⟩
 | x::l,ps,hx,hv,hnd,hr=>by
  obtain ⟨g,t,cs,fuel,p,q,hg,ht,hvar,hd,hq,e⟩:=hv;subst e;obtain ⟨hg',ht'⟩:=hx x (uu);obtain rfl:=Option.some.inj (hg'.symm.trans hg);obtain rfl:=Option.some.inj (ht'.symm.trans ht);obtain ⟨l0⟩:=cs
  have ok0:∀u v,l0= [.iface u v]->Value.okWide P W .any 0 u v:=fun u v e=>by
   subst e;exact (hr x.2.1 0 (by simp [MemPlace.row])).2 u v (by simpa using World.var?_cell hg hvar 0)
  obtain ⟨a0,s0,rfl,hc0,hs0,hz0,rfl⟩:=errorString_of_trod hi hrow hp he hft hfo hs hc hcs hd ok0;have hnd2:=uH.1 hnd;obtain ⟨az,hl,h1,h2,h3⟩:=rO hi hrow hp he hft hfo hs hc hcs l q (fun y hy=>hx y (ug _ hy)) hq hnd2.2.1 (fun b off hm=>hr b off (uI _ hm));have hm0:MemPlace.cell a0.block a0.off∈MemPlace.row ⟨x.2.1,0,none⟩ (#[Value.iface tp (.pointer (some a0))]:Array Value).size++MemPlace.row a0 1:=uI _ (by simp [MemPlace.row]);refine ⟨a0::az,by simp [hl],?_,?_,?_⟩
  ·intro i y a hy ha
   cases i with
   | zero=>
    simp only [List.getElem?_cons_zero,Option.some.injEq] at hy ha;subst hy ha;simpa using World.var?_cell hg hvar 0
   | succ i=>
    simp only [List.getElem?_cons_succ] at hy ha;exact h1 i y a hy ha
  ·intro a ha
   rcases vJ.1 ha with rfl | ha
   ·exact ⟨(hr _ _ (uk _ hm0)).1,uk _ hm0⟩
   exact ⟨(h2 a ha).1,uI _ (h2 a ha).2⟩
  refine List.nodup_cons.2 ⟨fun hin=> ?_,h3⟩;exact hnd2.2.2 _ hm0 _ (h2 a0 hin).2 rfl
theorem Tryz.yStar: "*" ++ "errors.errorString" = "*errors.errorString" :=zr
theorem Tryz.yRow (u:TypeId) (h:Tryz.prog.typeName? 3 u=some "*errors.errorString"):u=450:=
 typeName_ptr_named (nm:= "errors.errorString") (by rw [Tryz.yStar];kernel_rfl) zo zr u (by rw [Tryz.yStar];exact h)
theorem Tryz.yCellsS:Tryz.prog.cellsOf 468=1:=zo
theorem Tryz.yCellsString:Tryz.prog.cellsOf 9=1:=zo
end Go.Proofs.YtebpcnkdhgnghaaGreatDoor
end
section
namespace Go.Proofs.YtebpcnkdhgnghaaGreatDoor
